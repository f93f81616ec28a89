/-
  Digits of 256 as a row: one of them, the noughts at the end, the same, less: the reference's.
-/
import Derived.Test.YtghioakpigdagaaDoorPackBits
import Derived.Test.YtghioakpigdagaaDoorNatSpec
set_option linter.unusedVariables false
set_option linter.unusedSimpArgs false
namespace Go.Proofs.YtghioakpigdagaaDoor
open Go Go.RowKit Go.Th Go.Th.Dig

def digs (l : List Nat) : List Value := l.map (fun x : Nat => .int .i64 (x : Int))
theorem digs_length (l : List Nat) : (digs l).length = l.length := by simp [digs]
theorem digs_snoc (l : List Nat) (x : Nat) : digs (l ++ [x]) = digs l ++ [.int .i64 (x : Int)] := by simp [digs]
theorem digs_take (l : List Nat) (k : Nat) : (digs l).take k = digs (l.take k) := by simp [digs, List.map_take]
theorem oneCell_digs (l : List Nat) : ∀ u ∈ digs l, u.oneCell' = true := by
  intro u hu
  obtain ⟨x, _, rfl⟩ := List.mem_map.1 hu
  rfl
theorem Edig : ElemOf Tryd.prog 28 3 1 8 := ElemOf.mk' Tryd.underlying28 (z := .int .i64 0) (by kernel_rfl) rfl (by decide)
theorem cell_dig {w : World} {a : Option Addr} {n cap : Nat} {l : List Nat} (hS : Sl w 1 (.slice a n cap) n (digs l)) (i : Nat) (hi : i < l.length) :
    ∃ b o, a = some ⟨b, o, none⟩ ∧ b < w.heap.size ∧ w.cell? ⟨b, o + i, none⟩ = some (.int .i64 ((l.getD i 0 : Nat) : Int)) := by
  obtain ⟨_, _, e, _, _, _, _, h⟩ := id hS
  cases e
  obtain ⟨b, o, e, hc⟩ := h i (.int .i64 ((l.getD i 0 : Nat) : Int)) (by simp [digs, List.getElem?_eq_getElem hi])
  refine ⟨b, o, e, ?_, by simpa using hc⟩
  have := World.block_lt_of_cell? w _ hc
  simpa using this
theorem sl_len {w : World} {a : Option Addr} {n cap : Nat} {l : List Nat} (hS : Sl w 1 (.slice a n cap) n (digs l)) : l.length = n := by
  obtain ⟨_, _, e, h, _⟩ := id hS
  cases e
  simpa [digs] using h

theorem digit_any (a : Option Addr) (n cap i : Nat) (l : List Nat) (w : World) (hS : Sl w 1 (.slice a n cap) n (digs l)) (hi : i ≤ 1000000) :
    Calls Tryd.prog 37 #[.slice a n cap, .int .i64 i] w fun e w' => e = .returned (.int .i64 ((l.getD i 0 : Nat) : Int)) ∧ w = w' := by
  have hl := sl_len hS
  by_cases h : i < n
  · obtain ⟨b, o, rfl, hb, hc⟩ := cell_dig hS i (by omega)
    obtain ⟨x, hx⟩ : ∃ x, x = l.getD i 0 := ⟨_, rfl⟩
    rw [← hx] at hc ⊢
    clear hx hS
    go_enter Tryd.func37, Tryd.ntmps37
    go_wp2
    go_ret
    exact ⟨rfl, rfl⟩
  · have e : l.getD i 0 = 0 := by rw [List.getD_eq_getElem?_getD, List.getElem?_eq_none (by omega)]; rfl
    rw [e]
    clear hS e
    go_enter Tryd.func37, Tryd.ntmps37
    go_wp2
    go_ret
    exact ⟨rfl, rfl⟩

/-- Behind the last ones only noughts. -/
def Noughts (l : List Nat) (k : Nat) : Prop := ∀ i, k ≤ i → i < l.length → l.getD i 0 = 0
theorem Noughts.step {l : List Nat} {k : Nat} (h : Noughts l (k + 1)) (h0 : l.getD k 0 = 0) : Noughts l k := by
  intro i hi hl
  by_cases e : i = k
  · rw [e, h0]
  · exact h i (by omega) hl
/-- Digits without the noughts at the end, as a row. -/
theorem trim_any (a : Option Addr) (n cap : Nat) (l : List Nat) (w : World) (hS : Sl w 1 (.slice a n cap) n (digs l)) (hl : ∀ d ∈ l, d < 256) (hn : n ≤ 1000000) :
    Calls Tryd.prog 36 #[.slice a n cap] w fun e w' => e = .returned (.slice a (dg 256 (val 256 l)).length cap) ∧ w = w' ∧ Sl w 1 (.slice a (dg 256 (val 256 l)).length cap) (dg 256 (val 256 l)).length (digs (dg 256 (val 256 l))) := by
  have hll := sl_len hS
  have HS := Lib.hid hS
  obtain ⟨D, hD⟩ : ∃ D, D = dg 256 (val 256 l) := ⟨_, rfl⟩
  have HL := Lib.hid (fun k (h1 : Noughts l k) (h2 : k ≤ n) (h : 0 < k → l.getD (k - 1) 0 ≠ 0) => (show l.take k = D by rw [hD]; exact dg_cut (by decide) hl h1 (by omega) h))
  rw [← hD]
  clear hl hD
  go_enter Tryd.func36, Tryd.ntmps36
  go_wp2
  go_loop [3] (fun c => ∃ k : Nat, k ≤ n ∧ c = .int .i64 k ∧ Hid (Noughts l k)) (fun c => (intOf c).toNat)
  case atStart => exact ⟨n, Nat.le_refl _, rfl, Lib.hid (fun i hi h => by omega)⟩
  case round =>
    obtain ⟨k, hk, rfl, HZ⟩ := hrel
    have out : (0 < k → l.getD (k - 1) 0 ≠ 0) → l.take k = D := fun h => HL.out k HZ.out hk h
    by_cases h0 : k = 0
    · subst h0
      obtain ⟨C1, C2⟩ := Sl.cut_to (t := 28) Edig HS.out 0 (Nat.zero_le _)
      have hd := out (fun h => absurd h (by decide))
      rw [digs_take, hd] at C2
      have hlen : D.length = 0 := by rw [← hd]; simp
      have HD := Lib.hid hlen
      have HC2 := Lib.hid C2
      have HC1 := Lib.hid C1
      clear C1 C2 hd hlen out hS
      go_wp2
      go_ret
      exact ⟨by rw [HD.out]; rfl, rfl, by rw [HD.out]; exact HC2.out⟩
    · obtain ⟨m, rfl⟩ : ∃ m, k = m + 1 := ⟨k - 1, by omega⟩
      obtain ⟨b, o, ea, hb, hc⟩ := cell_dig HS.out m (by omega)
      subst ea
      by_cases hx : l.getD m 0 = 0
      · have HZ2 := Lib.hid (HZ.out.step hx)
        rw [hx] at hc
        clear out hS
        go_wp2
        go_round
        case rel => exact ⟨m, by omega, by first | rfl | skip, HZ2⟩
        case measure => simp [intOf] <;> omega
      · obtain ⟨C1, C2⟩ := Sl.cut_to (t := 28) Edig HS.out (m + 1) hk
        have hd := out (fun _ => by simpa using hx)
        rw [digs_take, hd] at C2
        have hlen : D.length = m + 1 := by rw [← hd, List.length_take]; omega
        have HD := Lib.hid hlen
        have HC2 := Lib.hid C2
        have C1' : ∀ wx, (Instr.slice 28 (.slice (some ⟨b, o, none⟩) n cap) none (some (.int .i64 ((m : Int) + 1))) none).run Tryd.prog wx = .ok (.slice (some ⟨b, o, none⟩) (m + 1) cap) wx := fun wx => C1 wx
        obtain ⟨x, hxx⟩ : ∃ x, x = l.getD m 0 := ⟨_, rfl⟩
        rw [← hxx] at hc hx
        clear C1 C2 hd hlen out hS hxx
        go_wp2
        go_ret
        exact ⟨by rw [HD.out]; rfl, rfl, by rw [HD.out]; exact HC2.out⟩
end Go.Proofs.YtghioakpigdagaaDoor
