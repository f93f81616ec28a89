/-
  What the law's acts are made of: weights, sides, whether they are light.
-/
import Derived.Test.YtallbegibdlpaaaGreatLaw14m
import Derived.Test.YtallbegibdlpaaaGreatOpen17
import Derived.Test.YtallbegibdlpaaaGreatPackExactA
set_option linter.unusedVariables false
set_option linter.unusedSimpArgs false
namespace Go.Proofs.YtallbegibdlpaaaGreat
open Go Go.RowKit Go.Th Go.Th.Dig Go.Th.Ex Go.Th.Grid

/-- An act as a value. -/
def opv (o : OpV) : Value := .agg #[.int .u8 o.k, .int .u8 o.q, .slice o.a o.n o.c, .int .i8 o.X, .int .i8 o.Y, .int .u8 o.W, .int .u8 o.H]
/-- A side of a cut. -/
def side17 (z : Int) : Nat := 1 + (z % 8).toNat
theorem side17_rng {z : Int} (h : 0 ≤ z) : 1 ≤ side17 z ∧ side17 z ≤ 8 := by unfold side17; omega
/-- Acts that are light. -/
def light17 (l : List OpV) : Bool := decide (l.length ≤ 8) && l.all (fun o => decide (o.n ≤ 300))
theorem cell_ops {w : World} {a : Option Addr} {n cap : Nat} {l : List OpV} (hS : Sl w 7 (.slice a n cap) n (opcs l)) (i : Nat) (o : OpV) (h : l[i]? = some o) :
    ∃ b p, a = some ⟨b, p, none⟩ ∧ b < w.heap.size ∧ ∀ j u, (opc o)[j]? = some u → w.cell? ⟨b, p + i * 7 + j, none⟩ = some u := by
  obtain ⟨a', c', he, _, _, _, _, h5⟩ := hS
  cases he
  have key : ∀ j u, (opc o)[j]? = some u → (opcs l)[i * 7 + j]? = some u := by
    intro j u hu
    have hj : j < 7 := (List.getElem?_eq_some_iff.1 hu).1
    rw [opcs_get, show (i * 7 + j) / 7 = i by omega, show (i * 7 + j) % 7 = j by omega, h]
    exact hu
  obtain ⟨b, p, e, hc⟩ := h5 (i * 7 + 0) _ (key 0 _ rfl)
  cases e
  refine ⟨b, p, rfl, ?_, fun j u hu => ?_⟩
  · have := World.block_lt_of_cell? w _ hc
    simpa using this
  · obtain ⟨b', p', e', hc'⟩ := h5 (i * 7 + j) _ (key j u hu)
    cases e'
    rw [Nat.add_assoc]
    exact hc'

set_option maxRecDepth 20000 in
set_option maxHeartbeats 1600000 in
theorem light17_any (a : Option Addr) (n cap : Nat) (l : List OpV) (hl : l.length = n) (w : World) (hS : Sl w 7 (.slice a n cap) n (opcs l)) :
    Calls Tryz.prog 4 #[.slice a n cap] w fun e w' => e = .returned (.int .i64 (if light17 l then 0 else 1)) ∧ w = w' := by
  have hmx := hS.max
  by_cases h8 : n ≤ 8
  · have h81 : decide ((8 : Int) < (n : Int)) = false := decide_eq_false (by omega)
    have HL := Lib.hid hl
    have HS := Lib.hid hS
    obtain ⟨R, hR⟩ : ∃ R : Int, R = if light17 l then 0 else 1 := ⟨_, rfl⟩
    rw [← hR]
    have h1 : (∀ o ∈ l, o.n ≤ 300) → R = 0 := fun h => by
      rw [hR, if_pos]
      unfold light17
      rw [Bool.and_eq_true]
      exact ⟨decide_eq_true (by omega), List.all_eq_true.2 fun o ho => decide_eq_true (h o ho)⟩
    have h2 : ∀ o ∈ l, ¬ o.n ≤ 300 → R = 1 := fun o ho h => by
      rw [hR, if_neg]
      unfold light17
      rw [Bool.and_eq_true, not_and]
      intro _ h3
      exact h (of_decide_eq_true (List.all_eq_true.1 h3 o ho))
    have H1 := Lib.hid h1
    have H2 := Lib.hid h2
    clear hS hl h1 h2 hR
    go_enter Tryz.func4, Tryz.ntmps4
    go_wp2_with fail
    go_loopw [3] (fun c wr => ∃ i : Nat, i ≤ n ∧ c = .int .i64 i ∧ Hid (∀ j o, j < i → l[j]? = some o → o.n ≤ 300) ∧ wr = w) (fun c _ => n - (intOf c).toNat)
    case atStart => exact ⟨0, Nat.zero_le _, rfl, Lib.hid (fun j o h => absurd h (Nat.not_lt_zero _)), rfl⟩
    case round =>
      obtain ⟨i, hi, rfl, HI, rfl⟩ := hrel
      by_cases hlt : i < n
      · obtain ⟨o, ho⟩ : ∃ o, l[i]? = some o := ⟨_, List.getElem?_eq_getElem (by rw [HL.out]; exact hlt)⟩
        obtain ⟨b, p, rfl, hb, hc⟩ := cell_ops HS.out i o ho
        have c2 := hc 2 (.slice o.a o.n o.c) rfl
        obtain ⟨oa, hoa⟩ : ∃ x, x = o.a := ⟨_, rfl⟩
        obtain ⟨on, hon⟩ : ∃ x, x = o.n := ⟨_, rfl⟩
        obtain ⟨oc, hoc⟩ : ∃ x, x = o.c := ⟨_, rfl⟩
        rw [← hoa, ← hon, ← hoc] at c2
        have hi0 : (i : Int) < n := by omega
        have HO := Lib.hid ho
        have HON := Lib.hid hon
        clear hc hoa hoc hon ho
        by_cases h3 : on ≤ 300
        · have h31 : decide ((300 : Int) < (on : Int)) = false := decide_eq_false (by omega)
          have HN : Hid (∀ j o, j < i + 1 → l[j]? = some o → o.n ≤ 300) := Lib.hid (fun j o' hj hj' => by
            by_cases hji : j < i
            · exact HI.out j o' hji hj'
            · obtain rfl : j = i := by omega
              have := HO.out
              rw [hj'] at this
              obtain rfl := Option.some.inj this
              rw [← HON.out]; exact h3)
          clear HI HO HON
          go_wp2_with fail
          go_roundw
          case rel => exact ⟨i + 1, by omega, by go_num, HN, by first | rfl | trivial⟩
          case measure => simp [intOf]; omega
        · have h31 : decide ((300 : Int) < (on : Int)) = true := decide_eq_true (by omega)
          have hR := Lib.hid (H2.out o (List.mem_of_getElem? HO.out) (by rw [← HON.out]; exact h3))
          clear HI HO HON
          go_wp2_with fail
          go_ret
          exact ⟨by rw [hR.out]; rfl, rfl⟩
      · obtain rfl : i = n := by omega
        have hR := Lib.hid (H1.out (fun o ho => by
          obtain ⟨j, hj⟩ := List.mem_iff_getElem?.1 ho
          exact HI.out j o (by have := (List.getElem?_eq_some_iff.1 hj).1; have := HL.out; omega) hj))
        clear HI
        go_wp2_with fail
        go_ret
        exact ⟨by rw [hR.out]; rfl, rfl⟩
  · have h81 : decide ((8 : Int) < (n : Int)) = true := decide_eq_true (by omega)
    have hR : light17 l = false := by unfold light17; rw [decide_eq_false (by omega)]; rfl
    rw [hR]
    clear hS hl
    go_enter Tryz.func4, Tryz.ntmps4
    go_wp2_with fail
    go_ret
    exact ⟨rfl, rfl⟩
end Go.Proofs.YtallbegibdlpaaaGreat
