/-
  The reference: the parts of a number; of two parts; the product.
-/
import Derived.Test.YtaofkoejlpchaaaRefD
set_option linter.unusedVariables false
set_option linter.unusedSimpArgs false
namespace Go.Proofs.Ytaofkoejlpchaaa
open Go Go.RowKit Go.Th Go.Th.Wide

theorem ret_ii {k k' : IntKind} {a b a' b' : Int} (h : a = a') (h' : b = b') : Ending.returned (.tuple #[.int k a, .int k' b]) = Ending.returned (.tuple #[.int k a', .int k' b']) := by rw [h, h']
theorem of_any (x : Int) (h : -9223372036854775808 ≤ x ∧ x ≤ 9223372036854775807) (w : World) :
    Calls Try.prog 34 #[.int .i64 x] w fun e w' => e = .returned (.agg (numC (decide (x < 0)) x.natAbs).toArray) ∧ Below w.heap.size w w' := by
  by_cases hx : x < 0
  · have e : x = -(x.natAbs : Int) := by omega
    have C := of_neg x.natAbs (by omega) (by omega) w
    rw [← e] at C
    rw [decide_eq_true hx]
    exact C
  · have e : x = (x.natAbs : Int) := by omega
    have C := of_pos x.natAbs (by omega) w
    rw [← e] at C
    rw [decide_eq_false hx]
    exact C

end Go.Proofs.Ytaofkoejlpchaaa
