/-
  The reference: a number of two parts.
-/
import Derived.Test.YtaofkoejlpchaaaRefE
set_option linter.unusedVariables false
set_option linter.unusedSimpArgs false
namespace Go.Proofs.Ytaofkoejlpchaaa
open Go Go.RowKit Go.Th Go.Th.Wide

theorem bt_join (x y j : Nat) (hx : x < 2 ^ 64) : bt (x + 2 ^ 64 * y) j = if j < 64 then bt x j else bt y (j - 64) := by
  rw [Nat.add_comm]
  simp only [bt_test]
  rw [Nat.testBit_two_pow_mul_add _ hx]
  split <;> rfl
theorem from_sets (m : Bool) (L H k : Nat) (hk : k < 64) :
    ((numC m (L % 2 ^ k + 2 ^ 64 * (H % 2 ^ k))).set (1 + k) (.int .i64 ((bt L k : Nat) : Int))).set (1 + (64 + k)) (.int .i64 ((bt H k : Nat) : Int)) = numC m (L % 2 ^ (k + 1) + 2 ^ 64 * (H % 2 ^ (k + 1))) := by
  have hp : ∀ x j, j ≤ 64 → x % 2 ^ j < 2 ^ 64 := fun x j hj => Nat.lt_of_lt_of_le (Nat.mod_lt _ (Nat.two_pow_pos j)) (Nat.pow_le_pow_right (by decide) hj)
  rw [numC_set m _ (L % 2 ^ (k + 1) + 2 ^ 64 * (H % 2 ^ k)) (bt L k) k ?_ ?_, numC_set m _ (L % 2 ^ (k + 1) + 2 ^ 64 * (H % 2 ^ (k + 1))) (bt H k) (64 + k) ?_ ?_]
  · rw [bt_join _ _ _ (hp _ _ (by omega)), if_neg (by omega), bt_mod, show 64 + k - 64 = k by omega, if_pos (by omega)]
  · intro j _ hj
    rw [bt_join _ _ _ (hp _ _ (by omega)), bt_join _ _ _ (hp _ _ (by omega))]
    split
    · rfl
    · rw [bt_mod, bt_mod]
      by_cases h : j - 64 < k
      · rw [if_pos h, if_pos (by omega)]
      · rw [if_neg h, if_neg (by omega)]
  · rw [bt_join _ _ _ (hp _ _ (by omega)), if_pos hk, bt_mod, if_pos (by omega)]
  · intro j _ hj
    rw [bt_join _ _ _ (hp _ _ (by omega)), bt_join _ _ _ (hp _ _ (by omega))]
    split
    · rw [bt_mod, bt_mod]
      by_cases h : j < k
      · rw [if_pos h, if_pos (by omega)]
      · rw [if_neg h, if_neg (by omega)]
    · rfl

end Go.Proofs.Ytaofkoejlpchaaa
