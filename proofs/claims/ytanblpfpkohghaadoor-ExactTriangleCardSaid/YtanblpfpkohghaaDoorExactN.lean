/-
  What the law's acts are made of: weights, sides, whether they are light.
-/
import Derived.Test.YtanblpfpkohghaaDoorLaw14m
import Derived.Test.YtanblpfpkohghaaDoorOpen17
import Derived.Test.YtanblpfpkohghaaDoorPackExactA
set_option linter.unusedVariables false
set_option linter.unusedSimpArgs false
namespace Go.Proofs.YtanblpfpkohghaaDoor
open Go Go.RowKit Go.Th Go.Th.Dig Go.Th.Ex Go.Th.Grid

set_option maxRecDepth 20000 in
set_option maxHeartbeats 1600000 in
theorem weights17_any (al : Option Addr) (n k capl : Nat) (z : List Int) (hz : z.length = k) (hn : n ≤ 65536) (hk : k ≤ 1000000) (hz0 : ∀ u ∈ z, 0 ≤ u ∧ u ≤ 65535) (w : World) (hT : Sl w 1 (.slice al k capl) k (u16s z)) :
    Calls Tryd.prog 33 #[.int .i64 n, .slice al k capl] w fun e w' => ∃ v, e = .returned v ∧ w'.ownsRow w.heap.size 2 1 v n (i64s (tab (inAt z 65536) n)) ∧ Below w.heap.size w w' := by
  obtain ⟨f, hf⟩ : ∃ f, f = inAt z 65536 := ⟨_, rfl⟩
  rw [← hf]
  have hin : ∀ i, i < k → f i = z.getD i 0 ∧ 0 ≤ z.getD i 0 ∧ z.getD i 0 ≤ 65535 := fun i hi => by
    have := getD_mem (P := fun u => 0 ≤ u ∧ u ≤ 65535) hz0 (by rw [hz]; exact hi : i < z.length)
    exact ⟨by rw [hf]; unfold inAt; rw [if_pos (by rw [hz]; exact hi)], this.1, this.2⟩
  have hout : ∀ i, ¬ i < k → f i = 65536 := fun i hi => by rw [hf]; unfold inAt; rw [if_neg (by rw [hz]; exact hi)]
  have HIN := Lib.hid hin
  have HOUT := Lib.hid hout
  have HZ := Lib.hid hz
  have HT := Lib.hid (fun i => i64s_tab f i)
  have HTT := Lib.hid hT
  have hmy := hT.max
  clear hf hin hout hz hz0 hT
  go_enter Tryd.func33, Tryd.ntmps33
  have hown : w.ownsRow w.heap.size 2 1 (.slice none 0 0) 0 (i64s (tab f 0)) := World.ownsRow_nil _ _ _ _
  go_wp2_with fail
  go_loopw [5, 6] (fun v c wx => ∃ i : Nat, i ≤ n ∧ c = .int .i64 i ∧ wx.ownsRow w.heap.size 2 1 v i (i64s (tab f i)) ∧ Below w.heap.size w wx) (fun _ c _ => n - (intOf c).toNat)
  case atStart => exact ⟨0, Nat.zero_le _, rfl, hown, Below.refl _ _⟩
  case round =>
    clear hown
    obtain ⟨i, hi, rfl, ho, hB⟩ := hrel
    have hsz := hB.size
    by_cases hlt : i < n
    · by_cases hik : i < k
      · obtain ⟨e1, e2, e3⟩ := HIN.out i hik
        obtain ⟨b, o, rfl, _, cu⟩ := cellu16 (HTT.out.below hB) i (by rw [HZ.out]; exact hik)
        obtain ⟨u, hu⟩ : ∃ u, u = z.getD i 0 := ⟨_, rfl⟩
        rw [← hu] at e1 e2 e3 cu
        have HFI := Lib.hid e1
        have wu : IntKind.i64.wrap u = u := IntWalk.i64_in _ (by omega)
        have wu2 : wrap64 u = u := IntWalk.wrap64_in _ (by omega)
        clear hu e1
        go_wp2_with (at_builtin; refine wpList_app E64 rfl (.tmp 22) (.tmp 24) rfl w.heap.size rfl (ho.alloc _) rfl (Sl.one _ _ _) (by intro u hu; simp at hu; subst hu; rfl) (by unfold maxLen; omega) (by omega) (by simp; omega) ?_)
        intro v2 w3 ho3 hg3 _
        have hB3 := hB.trans (app_below ho hsz hg3)
        rw [← HFI.out, HT.out i] at ho3
        clear ho hg3 hB
        go_wp2_with fail
        go_roundw
        case rel => exact ⟨i + 1, by omega, by go_num, ho3, hB3⟩
        case measure => simp [intOf]; omega
      · have HFI := Lib.hid (HOUT.out i hik)
        have hik2 : ¬ ((i : Int) < (k : Int)) := by omega
        go_wp2_with (at_builtin; refine wpList_app E64 rfl (.tmp 22) (.tmp 24) rfl w.heap.size rfl (ho.alloc _) rfl (Sl.one _ _ _) (by intro u hu; simp at hu; subst hu; rfl) (by unfold maxLen; omega) (by omega) (by simp; omega) ?_)
        intro v2 w3 ho3 hg3 _
        have hB3 := hB.trans (app_below ho hsz hg3)
        rw [show i64s (tab f i) ++ [.int .i64 65536] = i64s (tab f (i + 1)) by rw [← HFI.out]; exact HT.out i] at ho3
        clear ho hg3 hB
        go_wp2_with fail
        go_roundw
        case rel => exact ⟨i + 1, by omega, by go_num, ho3, hB3⟩
        case measure => simp [intOf]; omega
    · obtain rfl : i = n := by omega
      obtain ⟨a5, c5, rfl, _, _⟩ := ownsRow_slice ho
      go_wp2_with fail
      go_ret
      exact ⟨_, rfl, ho, hB⟩

/-- An act as a value. -/
def opv (o : OpV) : Value := .agg #[.int .u8 o.k, .int .u8 o.q, .slice o.a o.n o.c, .int .i8 o.X, .int .i8 o.Y, .int .u8 o.W, .int .u8 o.H]
/-- A side of a cut. -/
def side17 (z : Int) : Nat := 1 + (z % 8).toNat
theorem side17_rng {z : Int} (h : 0 ≤ z) : 1 ≤ side17 z ∧ side17 z ≤ 8 := by unfold side17; omega
/-- Acts that are light. -/
def light17 (l : List OpV) : Bool := decide (l.length ≤ 8) && l.all (fun o => decide (o.n ≤ 300))
theorem cell_ops {w : World} {a : Option Addr} {n cap : Nat} {l : List OpV} (hS : Sl w 7 (.slice a n cap) n (opcs l)) (i : Nat) (o : OpV) (h : l[i]? = some o) :
    ∃ b p, a = some ⟨b, p, none⟩ ∧ b < w.heap.size ∧ ∀ j u, (opc o)[j]? = some u → w.cell? ⟨b, p + i * 7 + j, none⟩ = some u := by
  obtain ⟨a', c', he, _, _, _, _, h5⟩ := hS
  cases he
  have key : ∀ j u, (opc o)[j]? = some u → (opcs l)[i * 7 + j]? = some u := by
    intro j u hu
    have hj : j < 7 := (List.getElem?_eq_some_iff.1 hu).1
    rw [opcs_get, show (i * 7 + j) / 7 = i by omega, show (i * 7 + j) % 7 = j by omega, h]
    exact hu
  obtain ⟨b, p, e, hc⟩ := h5 (i * 7 + 0) _ (key 0 _ rfl)
  cases e
  refine ⟨b, p, rfl, ?_, fun j u hu => ?_⟩
  · have := World.block_lt_of_cell? w _ hc
    simpa using this
  · obtain ⟨b', p', e', hc'⟩ := h5 (i * 7 + j) _ (key j u hu)
    cases e'
    rw [Nat.add_assoc]
    exact hc'

set_option maxRecDepth 20000 in
set_option maxHeartbeats 1600000 in
theorem light17_any (a : Option Addr) (n cap : Nat) (l : List OpV) (hl : l.length = n) (w : World) (hS : Sl w 7 (.slice a n cap) n (opcs l)) :
    Calls Tryd.prog 6 #[.slice a n cap] w fun e w' => e = .returned (.int .i64 (if light17 l then 0 else 1)) ∧ w = w' := by
  have hmx := hS.max
  by_cases h8 : n ≤ 8
  · have h81 : decide ((8 : Int) < (n : Int)) = false := decide_eq_false (by omega)
    have HL := Lib.hid hl
    have HS := Lib.hid hS
    obtain ⟨R, hR⟩ : ∃ R : Int, R = if light17 l then 0 else 1 := ⟨_, rfl⟩
    rw [← hR]
    have h1 : (∀ o ∈ l, o.n ≤ 300) → R = 0 := fun h => by
      rw [hR, if_pos]
      unfold light17
      rw [Bool.and_eq_true]
      exact ⟨decide_eq_true (by omega), List.all_eq_true.2 fun o ho => decide_eq_true (h o ho)⟩
    have h2 : ∀ o ∈ l, ¬ o.n ≤ 300 → R = 1 := fun o ho h => by
      rw [hR, if_neg]
      unfold light17
      rw [Bool.and_eq_true, not_and]
      intro _ h3
      exact h (of_decide_eq_true (List.all_eq_true.1 h3 o ho))
    have H1 := Lib.hid h1
    have H2 := Lib.hid h2
    clear hS hl h1 h2 hR
    go_enter Tryd.func6, Tryd.ntmps6
    go_wp2_with fail
    go_loopw [3] (fun c wr => ∃ i : Nat, i ≤ n ∧ c = .int .i64 i ∧ Hid (∀ j o, j < i → l[j]? = some o → o.n ≤ 300) ∧ wr = w) (fun c _ => n - (intOf c).toNat)
    case atStart => exact ⟨0, Nat.zero_le _, rfl, Lib.hid (fun j o h => absurd h (Nat.not_lt_zero _)), rfl⟩
    case round =>
      obtain ⟨i, hi, rfl, HI, rfl⟩ := hrel
      by_cases hlt : i < n
      · obtain ⟨o, ho⟩ : ∃ o, l[i]? = some o := ⟨_, List.getElem?_eq_getElem (by rw [HL.out]; exact hlt)⟩
        obtain ⟨b, p, rfl, hb, hc⟩ := cell_ops HS.out i o ho
        have c2 := hc 2 (.slice o.a o.n o.c) rfl
        obtain ⟨oa, hoa⟩ : ∃ x, x = o.a := ⟨_, rfl⟩
        obtain ⟨on, hon⟩ : ∃ x, x = o.n := ⟨_, rfl⟩
        obtain ⟨oc, hoc⟩ : ∃ x, x = o.c := ⟨_, rfl⟩
        rw [← hoa, ← hon, ← hoc] at c2
        have hi0 : (i : Int) < n := by omega
        have HO := Lib.hid ho
        have HON := Lib.hid hon
        clear hc hoa hoc hon ho
        by_cases h3 : on ≤ 300
        · have h31 : decide ((300 : Int) < (on : Int)) = false := decide_eq_false (by omega)
          have HN : Hid (∀ j o, j < i + 1 → l[j]? = some o → o.n ≤ 300) := Lib.hid (fun j o' hj hj' => by
            by_cases hji : j < i
            · exact HI.out j o' hji hj'
            · obtain rfl : j = i := by omega
              have := HO.out
              rw [hj'] at this
              obtain rfl := Option.some.inj this
              rw [← HON.out]; exact h3)
          clear HI HO HON
          go_wp2_with fail
          go_roundw
          case rel => exact ⟨i + 1, by omega, by go_num, HN, by first | rfl | trivial⟩
          case measure => simp [intOf]; omega
        · have h31 : decide ((300 : Int) < (on : Int)) = true := decide_eq_true (by omega)
          have hR := Lib.hid (H2.out o (List.mem_of_getElem? HO.out) (by rw [← HON.out]; exact h3))
          clear HI HO HON
          go_wp2_with fail
          go_ret
          exact ⟨by rw [hR.out]; rfl, rfl⟩
      · obtain rfl : i = n := by omega
        have hR := Lib.hid (H1.out (fun o ho => by
          obtain ⟨j, hj⟩ := List.mem_iff_getElem?.1 ho
          exact HI.out j o (by have := (List.getElem?_eq_some_iff.1 hj).1; have := HL.out; omega) hj))
        clear HI
        go_wp2_with fail
        go_ret
        exact ⟨by rw [hR.out]; rfl, rfl⟩
  · have h81 : decide ((8 : Int) < (n : Int)) = true := decide_eq_true (by omega)
    have hR : light17 l = false := by unfold light17; rw [decide_eq_false (by omega)]; rfl
    rw [hR]
    clear hS hl
    go_enter Tryd.func6, Tryd.ntmps6
    go_wp2_with fail
    go_ret
    exact ⟨rfl, rfl⟩
end Go.Proofs.YtanblpfpkohghaaDoor
