/-
  Numbers of 128 bits: a power of two, whole.
-/
import Derived.Test.YtallbegibdlpaaaGreatPackWide
set_option linter.unusedVariables false
set_option linter.unusedSimpArgs false
namespace Go.Proofs.YtallbegibdlpaaaGreat
open Go Go.RowKit Go.Th Go.Th.Wide

theorem or_i64 (a b : Int) (A B : Nat) (hA : (A : Int) = a % 18446744073709551616) (hB : (B : Int) = b % 18446744073709551616) :
    bits .or .i64 a b = IntKind.i64.wrap ((A ||| B : Nat) : Int) := by
  have h1 : (BitVec.ofInt 64 a).toNat = A := by rw [BitVec.toNat_ofInt]; omega
  have h2 : (BitVec.ofInt 64 b).toNat = B := by rw [BitVec.toNat_ofInt]; omega
  show IntKind.i64.wrap ((BitVec.ofInt 64 a ||| BitVec.ofInt 64 b).toNat : Int) = _
  rw [BitVec.toNat_or, h1, h2]
theorem or_high (q y i : Nat) (hy : y < 2 ^ i) : (2 ^ i * q) ||| y = 2 ^ i * q + y := (Nat.two_pow_add_eq_or_of_lt hy q).symm
theorem w64 (x : Int) : IntKind.i64.wrap x = wrap64 x := by
  rw [IntKind.wrap_i64]; simp only [wrap64]; try omega

/-- The numbers of a shift: of N bits, of the others; the power of two, and that of the others. -/
structure Pw (i j P K : Nat) : Prop where
  p : P = 2 ^ i
  k : K = 2 ^ j
  pk : P * K = 18446744073709551616
  pp : 0 < P
  kp : 0 < K
  ple : P ≤ 9223372036854775808

theorem shl_lo (i j P K l : Nat) (w : Pw i j P K) (hl : l < 18446744073709551616) : l / K < P := by
  rw [Nat.div_lt_iff_lt_mul w.kp, w.pk]; exact hl
theorem shl_1p (i j P K l : Nat) (w : Pw i j P K) (hl : l < 18446744073709551616) :
    bits .or .i64 (IntKind.i64.wrap (0 * (P : Int))) (IntKind.i64.wrap ((l : Int) / (K : Int))) = ((l / K : Nat) : Int) := by
  have hy := shl_lo i j P K l w hl
  have hp := w.ple
  rw [← Int.natCast_ediv]
  obtain ⟨y, hy2⟩ : ∃ y, y = l / K := ⟨_, rfl⟩
  rw [← hy2] at hy ⊢
  rw [Int.zero_mul, w64, w64, show wrap64 0 = 0 by simp [wrap64], show wrap64 (y : Int) = (y : Int) by simp only [wrap64]; omega, or_i64 0 y 0 y (by decide) (by omega), Nat.zero_or, w64]
  simp only [wrap64]; omega
theorem shl_1n (i j P K l : Nat) (w : Pw i j P K) (hl : l < 18446744073709551616) :
    bits .or .i64 (IntKind.i64.wrap (-1 * (P : Int))) (IntKind.i64.wrap ((l : Int) / (K : Int))) = -(P : Int) + ((l / K : Nat) : Int) := by
  have hy := shl_lo i j P K l w hl
  have hp := w.ple
  have hpp := w.pp
  have hpk := w.pk
  have hkp := w.kp
  have e : P * (K - 1) = 18446744073709551616 - P := by rw [Nat.mul_sub, hpk, Nat.mul_one]
  rw [← Int.natCast_ediv]
  obtain ⟨y, hy2⟩ : ∃ y, y = l / K := ⟨_, rfl⟩
  rw [← hy2] at hy ⊢
  have e3 : (P * (K - 1)) ||| y = P * (K - 1) + y := by rw [w.p] at hy ⊢; exact or_high _ _ _ hy
  rw [w64, w64, show wrap64 (-1 * (P : Int)) = -(P : Int) by simp only [wrap64]; omega, show wrap64 (y : Int) = (y : Int) by simp only [wrap64]; omega,
    or_i64 (-(P : Int)) y (P * (K - 1)) y (by rw [e]; omega) (by omega), e3, e, w64]
  simp only [wrap64]; omega
theorem shl_2 (P l : Nat) : IntKind.u64.wrap ((l : Int) * (P : Int)) = ((l * P % 18446744073709551616 : Nat) : Int) := by
  rw [IntKind.wrap_u64, ← Int.natCast_mul]; omega
theorem shl_3 (h : Int) (P y : Nat) (hy : y < P) : (h * (P : Int) + (y : Int)) / (P : Int) = h := by
  rw [Int.add_comm, Int.add_mul_ediv_right _ _ (by omega), ← Int.natCast_ediv, Nat.div_eq_of_lt hy]; simp
theorem shl_4a (i j P K l : Nat) (w : Pw i j P K) : l * P % 18446744073709551616 / P = l % K := by
  have e : l * P % 18446744073709551616 = l % K * P := by rw [← w.pk, Nat.mul_comm P K, Nat.mul_mod_mul_right]
  rw [e, Nat.mul_div_cancel _ w.pp]
theorem shl_4b (h : Int) (i j P K l : Nat) (w : Pw i j P K) (hl : l < 18446744073709551616) :
    IntKind.u64.wrap (IntKind.u64.wrap (h * (P : Int) + ((l / K : Nat) : Int)) * (K : Int)) = ((K * (l / K) : Nat) : Int) := by
  have hm : K * (l / K) ≤ l := Nat.mul_div_le l K
  have hpk : (P : Int) * (K : Int) = 18446744073709551616 := by rw [← Int.natCast_mul, w.pk]; rfl
  obtain ⟨y, hy2⟩ : ∃ y, y = l / K := ⟨_, rfl⟩
  rw [← hy2] at hm ⊢
  rw [IntKind.wrap_u64, IntKind.wrap_u64, Int.mul_emod, Int.emod_emod_of_dvd _ (Int.dvd_refl _), ← Int.mul_emod, Int.add_mul, Int.mul_assoc, hpk, ← Int.natCast_mul, Nat.mul_comm y K]
  omega
theorem shl_4 (h : Int) (i j P K l : Nat) (w : Pw i j P K) (hl : l < 18446744073709551616) :
    bits .or .u64 (((l * P % 18446744073709551616 : Nat) : Int) / (P : Int)) (IntKind.u64.wrap (IntKind.u64.wrap (h * (P : Int) + ((l / K : Nat) : Int)) * (K : Int))) = (l : Int) := by
  rw [shl_4b h i j P K l w hl, ← Int.natCast_ediv, shl_4a i j P K l w]
  have h1 : l % K < 18446744073709551616 := Nat.lt_of_le_of_lt (Nat.mod_le _ _) hl
  have h2 : K * (l / K) < 18446744073709551616 := Nat.lt_of_le_of_lt (Nat.mul_div_le _ _) hl
  rw [bits_or_u64_nat _ _ h1 h2, Nat.or_comm]
  have h3 := Nat.mod_lt l w.kp
  have e3 : (K * (l / K)) ||| (l % K) = l := by rw [w.k] at h3 ⊢; rw [or_high _ _ _ h3, Nat.div_add_mod]
  rw [e3]
theorem shl_out (h : Int) (i j P K l : Nat) (w : Pw i j P K) (x : Int) (hx : x = h * 18446744073709551616 + (l : Int)) :
    hiZ (x * (P : Int)) = h * (P : Int) + ((l / K : Nat) : Int) ∧ loZ (x * (P : Int)) = ((l * P % 18446744073709551616 : Nat) : Int) := by
  have e : x * (P : Int) = h * (P : Int) * 18446744073709551616 + ((l * P : Nat) : Int) := by rw [hx, Int.add_mul, Int.natCast_mul, Int.mul_right_comm]
  have e2 : l / K = l * P / 18446744073709551616 := by rw [← w.pk, Nat.mul_comm P K, Nat.mul_div_mul_right _ _ w.pp]
  unfold hiZ loZ
  rw [e, e2]
  obtain ⟨u, hu⟩ : ∃ u, u = h * (P : Int) := ⟨_, rfl⟩
  obtain ⟨v, hv⟩ : ∃ v, v = l * P := ⟨_, rfl⟩
  rw [← hu, ← hv]
  omega

theorem Shl_of (x : Int) (hx : -9223372036854775808 ≤ x ∧ x ≤ 9223372036854775807) (i : Nat) (hi : i ≤ 63) (w : World) :
    Calls Tryz.prog 91 #[.agg #[.int .i64 (hiZ x), .int .u64 (loZ x)], .int .i64 (i : Int)] w fun e w' =>
      e = .returned (.tuple #[.agg #[.int .i64 (hiZ (x * ((2 ^ i : Nat) : Int))), .int .u64 (loZ (x * ((2 ^ i : Nat) : Int)))], .bool true]) ∧ Below w.heap.size w w' := by
  have W : Pw i (64 - i) (2 ^ i) (2 ^ (64 - i)) := by
    refine ⟨rfl, rfl, ?_, Nat.two_pow_pos _, Nat.two_pow_pos _, ?_⟩
    · rw [← Nat.pow_add, show i + (64 - i) = 64 by omega]
    · exact Nat.le_trans (Nat.pow_le_pow_right (by decide) hi) (by decide)
  have hl : 0 ≤ loZ x ∧ loZ x < 18446744073709551616 := by unfold loZ; omega
  have hh : hiZ x = 0 ∨ hiZ x = -1 := by unfold hiZ; omega
  have hxe : x = hiZ x * 18446744073709551616 + loZ x := by unfold hiZ loZ; omega
  obtain ⟨h, hhe⟩ : ∃ h, h = hiZ x := ⟨_, rfl⟩
  obtain ⟨l, hle⟩ := Int.eq_ofNat_of_zero_le hl.1
  rw [hle] at hl hxe ⊢
  rw [← hhe] at hh hxe ⊢
  have hl2 : l < 18446744073709551616 := by omega
  obtain ⟨o1, o2⟩ := shl_out h _ _ _ _ l W x hxe
  rw [o1, o2]
  have k1 : IntKind.i64.wrap (64 - (i : Int)) = ((64 - i : Nat) : Int) := by rw [w64]; simp only [wrap64]; omega
  have t1 : (i : Int).toNat = i := by omega
  have t2 : ((64 - i : Nat) : Int).toNat = 64 - i := by omega
  have p1 : (2 : Int) ^ i = ((2 ^ i : Nat) : Int) := by simp
  have p2 : (2 : Int) ^ (64 - i) = ((2 ^ (64 - i) : Nat) : Int) := by simp
  have e1 : bits .or .i64 (IntKind.i64.wrap (h * 2 ^ (i : Int).toNat)) (IntKind.i64.wrap ((l : Int) / 2 ^ (((64 - i : Nat) : Int)).toNat)) = h * ((2 ^ i : Nat) : Int) + ((l / 2 ^ (64 - i) : Nat) : Int) := by
    rw [t1, t2, p1, p2]
    rcases hh with rfl | rfl
    · rw [shl_1p _ _ _ _ l W hl2]; omega
    · rw [shl_1n _ _ _ _ l W hl2]; omega
  have e2 : IntKind.u64.wrap ((l : Int) * 2 ^ (i : Int).toNat) = ((l * 2 ^ i % 18446744073709551616 : Nat) : Int) := by
    rw [t1, p1]; exact shl_2 _ _
  have e3 : (h * ((2 ^ i : Nat) : Int) + ((l / 2 ^ (64 - i) : Nat) : Int)) / 2 ^ (i : Int).toNat = h := by
    rw [t1, p1]; exact shl_3 _ _ _ (shl_lo _ _ _ _ l W hl2)
  have e4 : bits .or .u64 (((l * 2 ^ i % 18446744073709551616 : Nat) : Int) / 2 ^ (i : Int).toNat) (IntKind.u64.wrap (IntKind.u64.wrap (h * ((2 ^ i : Nat) : Int) + ((l / 2 ^ (64 - i) : Nat) : Int)) * 2 ^ (((64 - i : Nat) : Int)).toNat)) = (l : Int) := by
    rw [t1, t2, p1, p2]; exact shl_4 h _ _ _ _ l W hl2
  exact Shl_ok h (l : Int) (i : Int) (by omega) _ k1 (by omega) _ _ e1 e2 e3 e4 w
end Go.Proofs.YtallbegibdlpaaaGreat
