/-
  Terrain's small functions: both sides of a place, whether it lies on the map, near numbers, products.
-/
import Derived.Test.YtlkjcamjgaecgaaGreatTerrainSpec
import Derived.Test.YtlkjcamjgaecgaaGreatPackBits
set_option linter.unusedVariables false
set_option linter.unusedSimpArgs false
namespace Go.Proofs.YtlkjcamjgaecgaaGreat
open Go Go.RowKit Go.Th

/-- A place of a map. -/
abbrev sv (x y : Int) : Value := .agg #[.int .i64 x, .int .i64 y]

theorem ret_three {k k' k'' : IntKind} {a b c a' b' c' : Int} (h1 : a = a') (h2 : b = b') (h3 : c = c') : Ending.returned (.tuple #[.int k a, .int k' b, .int k'' c]) = .returned (.tuple #[.int k a', .int k' b', .int k'' c']) := by rw [h1, h2, h3]
theorem sides_go (X q r s : Nat) (hq : (X : Int) / 256 = (q : Int)) (hr : (X : Int) % 256 = (r : Int)) (hs : s = if r = 0 then q else q + 1) (hX : X ≤ 9223372036854775807) : Ans 55 #[.int .i64 X] (.tuple #[.int .i64 q, .int .i64 s, .int .i64 r]) := by
  intro w
  by_cases h : r = 0
  · rw [if_pos h] at hs
    subst hs
    subst h
    go_enter Tryz.func55, Tryz.ntmps55
    go_wp2_with fail
    go_ret3
    exact ⟨ret_three rfl rfl (by omega), Below.refl _ _⟩
  · rw [if_neg h] at hs
    subst hs
    have h0 : ¬ (r : Int) = 0 := by omega
    go_enter Tryz.func55, Tryz.ntmps55
    go_wp2_with fail
    go_ret3
    exact ⟨ret_three rfl (by omega) (by omega), Below.refl _ _⟩
theorem sides_any (X : Nat) (hX : X ≤ 9223372036854775807) : Ans 55 #[.int .i64 X] (.tuple #[.int .i64 (colT X 0 : Nat), .int .i64 (colT X 1 : Nat), .int .i64 (X % 256 : Nat)]) := by
  have e : colT X 0 = X / 256 := by unfold colT; split <;> omega
  rw [e]
  exact sides_go X (X / 256) (X % 256) (colT X 1) (by omega) (by omega) (by unfold colT; split <;> omega) hX

theorem isAlong_any (x : Int) (hx : -9223372036854775808 ≤ x ∧ x ≤ 9223372036854775807) (n : Nat) (hn : 1 ≤ n) (hn2 : n ≤ 1000) : Ans 33 #[.int .i64 x, .int .i64 n] (.bool (decide (0 ≤ x ∧ x ≤ 256 * ((n : Int) - 1)))) := by
  intro w
  by_cases h : x < 0
  · rw [decide_eq_false (show ¬ (0 ≤ x ∧ x ≤ 256 * ((n : Int) - 1)) by omega)]
    go_enter Tryz.func33, Tryz.ntmps33
    go_wp2_with fail
    go_ret
    exact ⟨rfl, Below.refl _ _⟩
  · obtain ⟨X, rfl⟩ := Int.eq_ofNat_of_zero_le (show 0 ≤ x by omega)
    have C1 := sides_any X (by omega)
    obtain ⟨s, hs⟩ : ∃ s, s = colT X 1 := ⟨_, rfl⟩
    have e : (0 ≤ (X : Int) ∧ (X : Int) ≤ 256 * ((n : Int) - 1)) = ((s : Int) < (n : Int)) := by
      apply propext
      rw [hs]; unfold colT; split <;> omega
    have e2 : decide (0 ≤ (X : Int) ∧ (X : Int) ≤ 256 * ((n : Int) - 1)) = decide ((s : Int) < (n : Int)) := by simp only [e]
    rw [e2]
    rw [← hs] at C1
    have h2 : ¬ ((X : Int) < 0) := by omega
    clear e e2 hs h hx hn hn2
    go_enter Tryz.func33, Tryz.ntmps33
    go_wp2_with fail
    refine (C1 _).mono ?_
    rintro e w2 ⟨rfl, hB⟩
    clear C1
    go_wp2_with fail
    go_ret
    exact ⟨by simp, hB⟩

theorem isNear_any (x : Int) : Ans 39 #[.int .i64 x] (.bool (decide (-1099511627776 ≤ x ∧ x ≤ 1099511627776))) := by
  intro w
  by_cases h : -1099511627776 ≤ x
  · by_cases h2 : x ≤ 1099511627776
    · rw [decide_eq_true (show (-1099511627776 ≤ x ∧ x ≤ 1099511627776) from ⟨h, h2⟩)]
      go_enter Tryz.func39, Tryz.ntmps39
      go_wp2_with fail
      go_ret
      exact ⟨by simp, Below.refl _ _⟩
    · rw [decide_eq_false (show ¬ (-1099511627776 ≤ x ∧ x ≤ 1099511627776) from fun k => h2 k.2)]
      go_enter Tryz.func39, Tryz.ntmps39
      go_wp2_with fail
      go_ret
      exact ⟨by simp, Below.refl _ _⟩
  · rw [decide_eq_false (show ¬ (-1099511627776 ≤ x ∧ x ≤ 1099511627776) from fun k => h k.1)]
    go_enter Tryz.func39, Tryz.ntmps39
    go_wp2_with fail
    go_ret
    exact ⟨by simp, Below.refl _ _⟩

theorem isLine_any (x : Int) : Ans 58 #[.int .i64 x] (.bool (decide (-1000 ≤ x ∧ x ≤ 1000))) := by
  intro w
  by_cases h : -1000 ≤ x
  · by_cases h2 : x ≤ 1000
    · rw [decide_eq_true (show (-1000 ≤ x ∧ x ≤ 1000) from ⟨h, h2⟩)]
      go_enter Tryz.func58, Tryz.ntmps58
      go_wp2_with fail
      go_ret
      exact ⟨by simp, Below.refl _ _⟩
    · rw [decide_eq_false (show ¬ (-1000 ≤ x ∧ x ≤ 1000) from fun k => h2 k.2)]
      go_enter Tryz.func58, Tryz.ntmps58
      go_wp2_with fail
      go_ret
      exact ⟨by simp, Below.refl _ _⟩
  · rw [decide_eq_false (show ¬ (-1000 ≤ x ∧ x ≤ 1000) from fun k => h k.1)]
    go_enter Tryz.func58, Tryz.ntmps58
    go_wp2_with fail
    go_ret
    exact ⟨by simp, Below.refl _ _⟩

theorem between_go (a b p q u v s : Int) (hq : wrap64 (256 - p) = q) (hu : wrap64 (a * q) = u) (hv : wrap64 (b * p) = v) (hs : wrap64 (u + v) = s) : Ans 30 #[.int .i64 a, .int .i64 b, .int .i64 p] (.int .i64 s) := by
  intro w
  go_enter Tryz.func30, Tryz.ntmps30
  go_wp2_with fail
  go_ret
  exact ⟨ret_int hs, Below.refl _ _⟩
theorem mul_range {a p : Int} {A B : Int} (ha : -A ≤ a ∧ a ≤ A) (hp : 0 ≤ p ∧ p ≤ B) (hA : 0 ≤ A) : -(A * B) ≤ a * p ∧ a * p ≤ A * B := by
  have h1 := Int.mul_le_mul_of_nonneg_right ha.1 hp.1
  have h2 := Int.mul_le_mul_of_nonneg_right ha.2 hp.1
  have h3 := Int.mul_le_mul_of_nonneg_left hp.2 hA
  rw [Int.neg_mul] at h1
  omega
theorem between_any (a b p : Int) (ha : -1000000000 ≤ a ∧ a ≤ 1000000000) (hb : -1000000000 ≤ b ∧ b ≤ 1000000000) (hp : 0 ≤ p ∧ p ≤ 256) : Ans 30 #[.int .i64 a, .int .i64 b, .int .i64 p] (.int .i64 (a * (256 - p) + b * p)) := by
  have h1 := mul_range ha (show 0 ≤ 256 - p ∧ 256 - p ≤ 256 by omega) (by decide)
  have h2 := mul_range hb hp (by decide)
  exact between_go a b p (256 - p) (a * (256 - p)) (b * p) _ (IntWalk.wrap64_in _ (by omega)) (IntWalk.wrap64_in _ (by omega)) (IntWalk.wrap64_in _ (by omega)) (IntWalk.wrap64_in _ (by omega))
end Go.Proofs.YtlkjcamjgaecgaaGreat
