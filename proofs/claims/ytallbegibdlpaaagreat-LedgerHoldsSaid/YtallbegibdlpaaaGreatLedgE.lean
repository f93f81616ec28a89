/-
  A bound of 18: the code's, number by number.
-/
import Derived.Test.YtallbegibdlpaaaGreatUpSpec
import Derived.Test.YtallbegibdlpaaaGreatWideF
import Derived.Deep.CutRange
import Derived.Test.YtallbegibdlpaaaGreatPackBits
set_option linter.unusedVariables false
set_option linter.unusedSimpArgs false
namespace Go.Proofs.YtallbegibdlpaaaGreat
open Go Go.RowKit Go.Th Go.Th.Wide Go.Th.Up

/-- A number of 128 bits. -/
abbrev wn (z : Nat) : Value := .agg #[.int .i64 (hiZ (z : Int)), .int .u64 (loZ (z : Int))]
theorem wn_lo (z : Nat) : 0 ≤ loZ (z : Int) ∧ loZ (z : Int) < 18446744073709551616 := by unfold loZ; omega
theorem wn_eq (z : Int) : hiZ z * 18446744073709551616 + loZ z = z := by unfold hiZ loZ; omega

theorem bound18 (x b : Int) (hb : b = min (max x 0) 1099511627776) (w : World) : Calls Tryz.prog 56 #[.int .i64 x] w fun e w' => e = .returned (.int .i64 b) ∧ w = w' := by
  obtain ⟨y, hy⟩ : ∃ y, max x 0 = y := ⟨_, rfl⟩
  rw [hy] at hb
  have hb2 := hb.symm
  clear hb
  go_enter Tryz.func56, Tryz.ntmps56
  go_wp2_with fail
  go_ret
  exact ⟨rfl, rfl⟩
theorem together18 (a b c : Int) (ha : 0 ≤ a ∧ a ≤ 1099511627776) (hb : 0 ≤ b) (hc : c = min (a + b) 1099511627776) (w : World) : Calls Tryz.prog 88 #[.int .i64 a, .int .i64 b] w fun e w' => e = .returned (.int .i64 c) ∧ w = w' := by
  obtain ⟨b2, hb2⟩ : ∃ b2, b2 = min b 1099511627776 := ⟨_, rfl⟩
  have C1 := Lib.hid (bound18 a a (by omega))
  have C2 := Lib.hid (bound18 b b2 (by omega))
  have C3 := Lib.hid (bound18 (a + b2) c (by omega))
  have h1 : 0 ≤ b2 ∧ b2 ≤ 1099511627776 := by omega
  clear hb hb2 hc
  go_enter Tryz.func88, Tryz.ntmps88
  go_wp2_with fail
  refine (C1.out _).mono ?_
  rintro e w1 ⟨rfl, rfl⟩
  go_wp2_with fail
  refine (C2.out _).mono ?_
  rintro e w1 ⟨rfl, rfl⟩
  go_wp2_with fail
  refine (C3.out _).mono ?_
  rintro e w1 ⟨rfl, rfl⟩
  go_wp2_with fail
  go_ret
  exact ⟨rfl, rfl⟩

theorem div_cost {n : Nat} (hn : n ≤ 4096) : divV ((n : Int) * 1099511627776) (1073741824 - 4 * (n : Int)) 1 = (costN n : Int) := by
  obtain ⟨e1, e2⟩ := costN_eq hn
  have hN : ((n : Int) * 1099511627776).natAbs = n * 1099511627776 := by omega
  have hD : (1073741824 - 4 * (n : Int)).natAbs = 1073741824 - 4 * n := by omega
  have hm : (decide ((n : Int) * 1099511627776 < 0) != decide (1073741824 - 4 * (n : Int) < 0)) = false := by
    rw [decide_eq_false (by omega), decide_eq_false (by omega)]; rfl
  have hq : magS (n * 1099511627776) false (1073741824 - 4 * n) 1 = costN n := by
    rw [e1]
    unfold magS moreS
    congr 1
    by_cases h0 : n * 1099511627776 % (1073741824 - 4 * n) = 0
    · simp [h0]
    · simp [h0]
  unfold divV
  rw [if_neg (by omega)]
  simp only [hN, hD, hm, hq]
  by_cases h0 : costN n = 0
  · rw [if_pos h0, h0]; rfl
  · rw [if_neg h0, fits_f, if_pos (by rw [decide_eq_true_iff]; omega), signed_f]
set_option maxRecDepth 20000 in
/-- What rounding costs. -/
theorem Cost_any (n : Nat) (hn : n ≤ 4096) (w : World) : Calls Tryz.prog 15 #[.int .i64 n] w fun e w' => e = .returned (.int .i64 (costN n)) ∧ Below w.heap.size w w' := by
  have C := Lib.hid (MulDiv_any (n : Int) 1099511627776 (1073741824 - 4 * (n : Int)) 1 (by omega) (by omega) (by omega) (by omega))
  rw [div_cost hn] at C
  have h1 : ¬ (4096 : Int) < n := by omega
  have h2 : max (n : Int) 0 = n := by omega
  have M0 := Mem.start w
  go_enter Tryz.func15, Tryz.ntmps15
  go_wp2_with fail
  refine (C.out _).mono ?_
  rintro e w1 ⟨rfl, hA⟩
  have M1 := M0.call hA
  clear hA C
  go_wp2_with fail
  go_ret
  exact ⟨rfl, M1.below⟩

theorem Shl18 (z k pt : Nat) (hz : z < 9223372036854775808) (hk : k ≤ 63) (hp : pt = z * 2 ^ k) (w : World) :
    Calls Tryz.prog 91 #[wn z, .int .i64 k] w fun e w' => e = .returned (.tuple #[wn pt, .bool true]) ∧ Below w.heap.size w w' := by
  have C := Shl_of (z : Int) (by omega) k hk w
  rw [← Int.natCast_mul, ← hp] at C
  exact C
theorem Cmp18 (a b : Nat) (w : World) : Calls Tryz.prog 90 #[wn a, wn b] w fun e w' => e = .returned (.int .i64 (cmpZ a b)) ∧ Below w.heap.size w w' := by
  have C := Cmp_any (hiZ (a : Int)) (loZ (a : Int)) (hiZ (b : Int)) (loZ (b : Int)) (wn_lo a) (wn_lo b) w
  rw [wn_eq, wn_eq] at C
  exact C
theorem Sign18 (a : Nat) (w : World) : Calls Tryz.prog 53 #[wn a] w fun e w' => e = .returned (.int .i64 (cmpZ a 0)) ∧ Below w.heap.size w w' := by
  have C := Sign_any (hiZ (a : Int)) (loZ (a : Int)) (wn_lo a) w
  rw [wn_eq] at C
  exact C
theorem Minus18 (a b d : Nat) (ha : a < 170141183460469231731687303715884105728) (hb : b ≤ a) (hd : d = a - b) (w : World) :
    Calls Tryz.prog 92 #[wn a, .agg #[.int .i64 (hiZ (-(b : Int))), .int .u64 (loZ (-(b : Int)))]] w fun e w' => e = .returned (.tuple #[wn d, .bool true]) ∧ Below w.heap.size w w' := by
  have h1 : loZ (-(b : Int)) = (-(b : Int)) % 18446744073709551616 := rfl
  have h2 : hiZ (-(b : Int)) = (-(b : Int)) / 18446744073709551616 := rfl
  have h3 : loZ (a : Int) = (a : Int) % 18446744073709551616 := rfl
  have h4 : hiZ (a : Int) = (a : Int) / 18446744073709551616 := rfl
  have hf : addF (hiZ (a : Int)) (loZ (a : Int)) (hiZ (-(b : Int))) (loZ (-(b : Int))) := by unfold addF; omega
  have C := Add_ok (hiZ (a : Int)) (loZ (a : Int)) (hiZ (-(b : Int))) (loZ (-(b : Int))) (by omega) (by omega) (by omega) (by omega) hf w
  have e1 : hiZ (a : Int) + hiZ (-(b : Int)) + (loZ (a : Int) + loZ (-(b : Int))) / 18446744073709551616 = hiZ (d : Int) := by unfold hiZ loZ; omega
  have e2 : (loZ (a : Int) + loZ (-(b : Int))) % 18446744073709551616 = loZ (d : Int) := by unfold loZ; omega
  rw [e1, e2] at C
  exact C
end Go.Proofs.YtallbegibdlpaaaGreat
