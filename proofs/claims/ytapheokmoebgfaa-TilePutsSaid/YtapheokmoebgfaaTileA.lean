/-
  Rows of 16 bits; whether a tile, a field may be so; how many tiles; the height beside: the code's.
-/
import Derived.Test.YtapheokmoebgfaaRows
import Derived.Test.YtapheokmoebgfaaTileSpec
import Derived.Test.YtapheokmoebgfaaRiceF
import Derived.Test.YtapheokmoebgfaaRiceS
import Derived.Test.YtapheokmoebgfaaBlk
set_option linter.unusedVariables false
set_option linter.unusedSimpArgs false
namespace Go.Proofs.Ytapheokmoebgfaa
open Go Go.RowKit Go.Th

theorem E16 : ElemOf Try.prog 22 30 1 2 := ElemOf.mk' Try.underlying22 (z := .int .i16 0) (by kernel_rfl) rfl (by decide)
def i16s (xs : List Int) : List Value := xs.map (.int .i16)
theorem i16s_length (xs : List Int) : (i16s xs).length = xs.length := by simp [i16s]
theorem i16s_at (xs : List Int) (i : Nat) (h : i < xs.length) : (i16s xs)[i]? = some (.int .i16 xs[i]) := by simp [i16s, h]
theorem i16s_snoc (xs : List Int) (x : Int) : i16s (xs ++ [x]) = i16s xs ++ [.int .i16 x] := by simp [i16s]
theorem oneCell_i16s (l : List Int) : ∀ u ∈ i16s l, u.oneCell' = true := by
  intro u hu
  obtain ⟨x, _, rfl⟩ := List.mem_map.1 hu
  rfl
theorem cell_i16 {w : World} {a : Option Addr} {n cap : Nat} {m : List Int} (hS : Sl w 1 (.slice a n cap) n (i16s m)) (i : Nat) (hi : i < m.length) :
    ∃ b o, a = some ⟨b, o, none⟩ ∧ b < w.heap.size ∧ w.cell? ⟨b, o + i, none⟩ = some (.int .i16 m[i]) := by
  obtain ⟨a', c', he, _, _, _, _, h5⟩ := hS
  cases he
  obtain ⟨b, o, e, hc⟩ := h5 i _ (i16s_at m i hi)
  exact ⟨b, o, e, by have := World.block_lt_of_cell? w _ hc; simpa using this, hc⟩
theorem cell_i16D {w : World} {a : Option Addr} {n cap : Nat} {m : List Int} (hS : Sl w 1 (.slice a n cap) n (i16s m)) (i : Nat) (hi : i < m.length) :
    ∃ b o, a = some ⟨b, o, none⟩ ∧ b < w.heap.size ∧ w.cell? ⟨b, o + i, none⟩ = some (.int .i16 (m.getD i 0)) := by
  obtain ⟨b, o, e, hb, hc⟩ := cell_i16 hS i hi
  exact ⟨b, o, e, hb, by rw [hc, List.getD, List.getElem?_eq_getElem hi]; rfl⟩

/-! ### Which may be -/
def isT (w h : Int) : Bool := decide (1 ≤ w ∧ w ≤ 16 ∧ 1 ≤ h ∧ h ≤ 16)
def isF (w h : Int) : Bool := decide (2 ≤ w ∧ w ≤ 256 ∧ 2 ≤ h ∧ h ≤ 256)
theorem isT_yes {w h : Int} (e : isT w h = true) : 1 ≤ w ∧ w ≤ 16 ∧ 1 ≤ h ∧ h ≤ 16 := by unfold isT at e; exact of_decide_eq_true e
theorem isF_yes {w h : Int} (e : isF w h = true) : 2 ≤ w ∧ w ≤ 256 ∧ 2 ≤ h ∧ h ≤ 256 := by unfold isF at e; exact of_decide_eq_true e
theorem isT_of {w h : Int} (e : 1 ≤ w ∧ w ≤ 16 ∧ 1 ≤ h ∧ h ≤ 16) : isT w h = true := by unfold isT; exact decide_eq_true e
theorem isF_of {w h : Int} (e : 2 ≤ w ∧ w ≤ 256 ∧ 2 ≤ h ∧ h ≤ 256) : isF w h = true := by unfold isF; exact decide_eq_true e
theorem isT_not {w h : Int} (e : ¬ (1 ≤ w ∧ w ≤ 16 ∧ 1 ≤ h ∧ h ≤ 16)) : isT w h = false := by unfold isT; exact decide_eq_false e
theorem isF_not {w h : Int} (e : ¬ (2 ≤ w ∧ w ≤ 256 ∧ 2 ≤ h ∧ h ≤ 256)) : isF w h = false := by unfold isF; exact decide_eq_false e

theorem isTile_go (w h : Int) : Pure 20 #[.int .i64 w, .int .i64 h] (.bool (isT w h)) := by
  intro W
  by_cases a : 1 ≤ w
  · by_cases b : w ≤ 16
    · by_cases c : 1 ≤ h
      · by_cases d : h ≤ 16
        · rw [isT_of ⟨a, b, c, d⟩]
          go_enter Try.func20, Try.ntmps20
          go_wp2
          go_ret
          exact ⟨rfl, rfl⟩
        · rw [isT_not (fun e => d e.2.2.2)]
          go_enter Try.func20, Try.ntmps20
          go_wp2
          go_ret
          exact ⟨rfl, rfl⟩
      · rw [isT_not (fun e => c e.2.2.1)]
        go_enter Try.func20, Try.ntmps20
        go_wp2
        go_ret
        exact ⟨rfl, rfl⟩
    · rw [isT_not (fun e => b e.2.1)]
      go_enter Try.func20, Try.ntmps20
      go_wp2
      go_ret
      exact ⟨rfl, rfl⟩
  · rw [isT_not (fun e => a e.1)]
    go_enter Try.func20, Try.ntmps20
    go_wp2
    go_ret
    exact ⟨rfl, rfl⟩

theorem isField_go (w h : Int) : Pure 31 #[.int .i64 w, .int .i64 h] (.bool (isF w h)) := by
  intro W
  by_cases a : 2 ≤ w
  · by_cases b : w ≤ 256
    · by_cases c : 2 ≤ h
      · by_cases d : h ≤ 256
        · rw [isF_of ⟨a, b, c, d⟩]
          go_enter Try.func31, Try.ntmps31
          go_wp2
          go_ret
          exact ⟨rfl, rfl⟩
        · rw [isF_not (fun e => d e.2.2.2)]
          go_enter Try.func31, Try.ntmps31
          go_wp2
          go_ret
          exact ⟨rfl, rfl⟩
      · rw [isF_not (fun e => c e.2.2.1)]
        go_enter Try.func31, Try.ntmps31
        go_wp2
        go_ret
        exact ⟨rfl, rfl⟩
    · rw [isF_not (fun e => b e.2.1)]
      go_enter Try.func31, Try.ntmps31
      go_wp2
      go_ret
      exact ⟨rfl, rfl⟩
  · rw [isF_not (fun e => a e.1)]
    go_enter Try.func31, Try.ntmps31
    go_wp2
    go_ret
    exact ⟨rfl, rfl⟩

theorem count_go (n : Nat) (h0 : 0 < n) (h : n ≤ 1000000) : Pure 18 #[.int .i64 n] (.int .i64 (cnt n : Nat)) := by
  intro W
  have hc : cnt n = (n - 1) / 16 + 1 := by unfold cnt; omega
  have HC := Lib.hid hc; clear hc
  go_enter Try.func18, Try.ntmps18
  go_wp2
  go_ret
  exact ⟨ret_int (by rw [HC.out]; omega), rfl⟩

set_option maxRecDepth 20000 in
theorem beside_go (a : Option Addr) (n cap w i : Nat) (z : List Int) (hz : z.length = n) (hw : 0 < w) (hw2 : w ≤ 1000) (hi : i < n) (h16 : ∀ x ∈ z, In16 x) (w0 : World) (hS : Sl w0 1 (.slice a n cap) n (i16s z)) :
    Calls Try.prog 21 #[.slice a n cap, .int .i64 w, .int .i64 i] w0 fun e w' => e = .returned (.int .i32 (bes w z i)) ∧ w0 = w' := by
  have hmx := hS.max
  by_cases h0 : i = 0
  · subst h0
    have e : bes w z 0 = 0 := by unfold bes; rw [if_pos rfl]
    rw [e]
    go_enter Try.func21, Try.ntmps21
    go_wp2
    go_ret
    exact ⟨rfl, rfl⟩
  · by_cases h1 : i % w = 0
    · have hwi : w ≤ i := Nat.le_of_dvd (by omega) (Nat.dvd_of_mod_eq_zero h1)
      have e : bes w z i = z.getD (i - w) 0 := by unfold bes; rw [if_neg h0, if_pos h1]
      obtain ⟨b, o, rfl, hb, hc⟩ := cell_i16D hS (i - w) (by omega)
      have hy16 := in16_def (getD_in16 h16 (i - w))
      rw [e]
      obtain ⟨y, hy⟩ : ∃ y, y = z.getD (i - w) 0 := ⟨_, rfl⟩
      rw [← hy] at hc hy16 ⊢
      clear hy e
      obtain ⟨k, hk⟩ : ∃ k, k = i - w := ⟨_, rfl⟩
      rw [← hk] at hc
      have hki : (i : Int) - (w : Int) = (k : Int) := by omega
      have hkn : k < n := by omega
      have hmod : ((i : Int) % (w : Int)) = 0 := by omega
      have hz0 : ¬ ((i : Int) = 0) := by omega
      clear hk hz h16
      go_enter Try.func21, Try.ntmps21
      go_wp2
      go_ret
      exact ⟨rfl, rfl⟩
    · have e : bes w z i = z.getD (i - 1) 0 := by unfold bes; rw [if_neg h0, if_neg h1]
      obtain ⟨b, o, rfl, hb, hc⟩ := cell_i16D hS (i - 1) (by omega)
      have hy16 := in16_def (getD_in16 h16 (i - 1))
      rw [e]
      obtain ⟨y, hy⟩ : ∃ y, y = z.getD (i - 1) 0 := ⟨_, rfl⟩
      rw [← hy] at hc hy16 ⊢
      clear hy e
      obtain ⟨k, rfl⟩ : ∃ k, i = k + 1 := ⟨i - 1, by omega⟩
      rw [Nat.add_sub_cancel] at hc
      have hkn : k < n := by omega
      have hmod : ¬ (((k : Int) + 1) % (w : Int) = 0) := fun e => h1 (by exact_mod_cast e)
      clear h1 hz h16
      go_enter Try.func21, Try.ntmps21
      go_wp2
      go_ret
      exact ⟨rfl, rfl⟩
end Go.Proofs.Ytapheokmoebgfaa
