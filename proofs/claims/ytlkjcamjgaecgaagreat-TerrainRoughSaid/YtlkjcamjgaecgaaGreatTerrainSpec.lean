/-
  The ground between heights: plain.
-/
import Derived.Test.YtlkjcamjgaecgaaGreatPackTile
set_option linter.unusedVariables false
set_option linter.unusedSimpArgs false
namespace Go.Proofs.YtlkjcamjgaecgaaGreat
open Go Go.RowKit Go.Th

/-! ### Quotients -/
/-- The nearer quotient, of two the greater one (the divisor above 0). -/
def nearQ (a b : Int) : Int := (2 * a + b) / (2 * b)
theorem tdiv_floor (a b : Int) (hb : 0 < b) : (if a.tmod b < 0 then a.tdiv b - 1 else a.tdiv b) = a / b := by
  have h1 := Int.tmod_add_tdiv_mul a b
  by_cases h : a.tmod b < 0
  · rw [if_pos h]
    have h2 : -b < a.tmod b := by
      have := Int.lt_tmod_of_pos a hb
      omega
    symm
    have e : a = (a.tmod b + b) + (a.tdiv b - 1) * b := by rw [Int.sub_mul]; omega
    conv => lhs; rw [e]
    rw [Int.add_mul_ediv_right _ _ (by omega), Int.ediv_eq_zero_of_lt (by omega) (by omega)]
    omega
  · rw [if_neg h]
    have h2 : a.tmod b < b := Int.tmod_lt_of_pos a hb
    symm
    conv => lhs; rw [← h1]
    rw [Int.add_mul_ediv_right _ _ (by omega), Int.ediv_eq_zero_of_lt (by omega) h2]
    omega

/-! ### The four around -/
def colT (X i : Nat) : Nat := X / 256 + (if X % 256 = 0 then 0 else i)
theorem colT_lt {W X i : Nat} (hW : 1 ≤ W) (hX : (X : Int) ≤ 256 * ((W : Int) - 1)) (hi : i ≤ 1) : colT X i < W := by
  unfold colT
  split <;> omega
/-- A height as a number, and its code. -/
def czT (z : Int) : Int := if z = -32768 then 0 else z
def ccT (z : Int) : Int := if z = -32768 then 8 else 0
def zT (F : List Int) (W X Y i k : Nat) : Int := F.getD (colT Y k * W + colT X i) 0
/-- Whether a place lies on the map. -/
def inS (W H : Nat) (x y : Int) : Prop := 0 ≤ x ∧ 0 ≤ y ∧ x ≤ 256 * ((W : Int) - 1) ∧ y ≤ 256 * ((H : Int) - 1)
instance (W H : Nat) (x y : Int) : Decidable (inS W H x y) := by unfold inS; exact inferInstance
/-- What is wrong with a place. -/
def codeT (F : List Int) (W X Y : Nat) : Int := if zT F W X Y 0 0 = -32768 ∨ zT F W X Y 1 0 = -32768 ∨ zT F W X Y 0 1 = -32768 ∨ zT F W X Y 1 1 = -32768 then 8 else 0
/-- How much a column or a row counts. -/
def wT (X i : Nat) : Int := if i = 0 then 256 - ((X % 256 : Nat) : Int) else ((X % 256 : Nat) : Int)
def exTo (F : List Int) (W X Y : Nat) : Nat → Int
  | 0 => 0
  | i + 1 => exTo F W X Y i + czT (zT F W X Y (i % 2) (i / 2)) * wT X (i % 2) * wT Y (i / 2)
/-- The ground in metres, times 65536. -/
def exT (F : List Int) (W X Y : Nat) : Int := exTo F W X Y 4
theorem wT_range (X i : Nat) : 0 ≤ wT X i ∧ wT X i ≤ 256 := by unfold wT; split <;> omega
theorem prod_range {z u v : Int} (hz : -32768 ≤ z ∧ z ≤ 32767) (hu : 0 ≤ u ∧ u ≤ 256) (hv : 0 ≤ v ∧ v ≤ 256) : (-8388608 ≤ z * u ∧ z * u ≤ 8388608) ∧ -2147483648 ≤ z * u * v ∧ z * u * v ≤ 2147483648 := by
  have h1 : -32768 * 256 ≤ z * u := by
    have a := Int.mul_le_mul_of_nonneg_right hz.1 hu.1
    have b : -32768 * 256 ≤ -32768 * u := by omega
    omega
  have h2 : z * u ≤ 32767 * 256 := by
    have a := Int.mul_le_mul_of_nonneg_right hz.2 hu.1
    have b : 32767 * u ≤ 32767 * 256 := by omega
    omega
  refine ⟨by omega, ?_, ?_⟩
  · have a := Int.mul_le_mul_of_nonneg_right h1 hv.1
    have b : -32768 * 256 * 256 ≤ -32768 * 256 * v := by omega
    omega
  · have a := Int.mul_le_mul_of_nonneg_right h2 hv.1
    have b : 32767 * 256 * v ≤ 32767 * 256 * 256 := by omega
    omega
theorem czT_range {z : Int} (h : In16 z) : -32768 ≤ czT z ∧ czT z ≤ 32767 := by
  obtain ⟨h1, h2⟩ := h
  unfold czT
  split <;> omega
theorem exTo_range (F : List Int) (W X Y : Nat) (h16 : ∀ u ∈ F, In16 u) : ∀ i : Nat, -2147483648 * (i : Int) ≤ exTo F W X Y i ∧ exTo F W X Y i ≤ 2147483648 * (i : Int)
  | 0 => by simp [exTo]
  | i + 1 => by
    have ih := exTo_range F W X Y h16 i
    have hz : In16 (zT F W X Y (i % 2) (i / 2)) := getD_in16 h16 _
    have := (prod_range (czT_range hz) (wT_range X (i % 2)) (wT_range Y (i / 2))).2
    rw [exTo]
    push_cast
    omega
/-- Between the least and the greatest of the four. -/
theorem exT_between (F : List Int) (W X Y : Nat) (lo hi : Int) (h : ∀ i k, i ≤ 1 → k ≤ 1 → lo ≤ czT (zT F W X Y i k) ∧ czT (zT F W X Y i k) ≤ hi) : 65536 * lo ≤ exT F W X Y ∧ exT F W X Y ≤ 65536 * hi := by
  have h00 := h 0 0 (by omega) (by omega)
  have h10 := h 1 0 (by omega) (by omega)
  have h01 := h 0 1 (by omega) (by omega)
  have h11 := h 1 1 (by omega) (by omega)
  have e : exT F W X Y = czT (zT F W X Y 0 0) * (wT X 0 * wT Y 0) + czT (zT F W X Y 1 0) * (wT X 1 * wT Y 0) + czT (zT F W X Y 0 1) * (wT X 0 * wT Y 1) + czT (zT F W X Y 1 1) * (wT X 1 * wT Y 1) := by
    simp [exT, exTo, Int.mul_assoc]
  have hw : wT X 0 * wT Y 0 + wT X 1 * wT Y 0 + wT X 0 * wT Y 1 + wT X 1 * wT Y 1 = 65536 := by
    have a : wT X 0 + wT X 1 = 256 := by simp [wT]
    have b : wT Y 0 + wT Y 1 = 256 := by simp [wT]
    have c : (wT X 0 + wT X 1) * (wT Y 0 + wT Y 1) = 65536 := by rw [a, b]; rfl
    rw [Int.add_mul, Int.mul_add, Int.mul_add] at c
    omega
  have p00 := Int.mul_nonneg (wT_range X 0).1 (wT_range Y 0).1
  have p10 := Int.mul_nonneg (wT_range X 1).1 (wT_range Y 0).1
  have p01 := Int.mul_nonneg (wT_range X 0).1 (wT_range Y 1).1
  have p11 := Int.mul_nonneg (wT_range X 1).1 (wT_range Y 1).1
  rw [e]
  obtain ⟨a, ha⟩ : ∃ a, a = wT X 0 * wT Y 0 := ⟨_, rfl⟩
  obtain ⟨b, hb⟩ : ∃ a, a = wT X 1 * wT Y 0 := ⟨_, rfl⟩
  obtain ⟨c, hc⟩ : ∃ a, a = wT X 0 * wT Y 1 := ⟨_, rfl⟩
  obtain ⟨d, hd⟩ : ∃ a, a = wT X 1 * wT Y 1 := ⟨_, rfl⟩
  rw [← ha, ← hb, ← hc, ← hd] at hw ⊢
  rw [← ha] at p00
  rw [← hb] at p10
  rw [← hc] at p01
  rw [← hd] at p11
  have l1 := Int.mul_le_mul_of_nonneg_right h00.1 p00
  have l2 := Int.mul_le_mul_of_nonneg_right h10.1 p10
  have l3 := Int.mul_le_mul_of_nonneg_right h01.1 p01
  have l4 := Int.mul_le_mul_of_nonneg_right h11.1 p11
  have u1 := Int.mul_le_mul_of_nonneg_right h00.2 p00
  have u2 := Int.mul_le_mul_of_nonneg_right h10.2 p10
  have u3 := Int.mul_le_mul_of_nonneg_right h01.2 p01
  have u4 := Int.mul_le_mul_of_nonneg_right h11.2 p11
  have sl : lo * a + lo * b + lo * c + lo * d = 65536 * lo := by rw [← Int.mul_add, ← Int.mul_add, ← Int.mul_add, hw, Int.mul_comm]
  have su : hi * a + hi * b + hi * c + hi * d = 65536 * hi := by rw [← Int.mul_add, ← Int.mul_add, ← Int.mul_add, hw, Int.mul_comm]
  omega
/-- The ground that is told: no more than half of a sixteenth away, and between. -/
theorem near_half (E : Int) : -2048 ≤ nearQ (16 * E) 65536 * 4096 - E ∧ nearQ (16 * E) 65536 * 4096 - E ≤ 2048 := by
  unfold nearQ; omega
theorem near_between (E lo hi : Int) (h1 : 65536 * lo ≤ E) (h2 : E ≤ 65536 * hi) : 16 * lo ≤ nearQ (16 * E) 65536 ∧ nearQ (16 * E) 65536 ≤ 16 * hi := by
  unfold nearQ; omega
end Go.Proofs.YtlkjcamjgaecgaaGreat
