/-
  Numbers of 128 bits: of one of 64, the sign turned, the sum, which is greater.
-/
import Derived.Test.YtaofkoejlpchaaaWideN
import Derived.Shelf.Spec.BitsCarry
set_option linter.unusedVariables false
set_option linter.unusedSimpArgs false
namespace Go.Proofs.Ytaofkoejlpchaaa
open Go Go.RowKit Go.Th Go.Th.Wide

/-- 0 less a number: what is left, and whether one was borrowed. -/
def bor (y : Int) : Int := if y = 0 then 0 else 1
def addF (h l h' l' : Int) : Prop := -9223372036854775808 ≤ h + h' + (l + l') / 18446744073709551616 ∧ h + h' + (l + l') / 18446744073709551616 ≤ 9223372036854775807
theorem ret_aggb {h l h' l' : Int} {b b' : Bool} (e1 : h = h') (e2 : l = l') (e3 : b = b') : Ending.returned (.tuple #[.agg #[.int .i64 h, .int .u64 l], .bool b]) = Ending.returned (.tuple #[.agg #[.int .i64 h', .int .u64 l'], .bool b']) := by rw [e1, e2, e3]

end Go.Proofs.Ytaofkoejlpchaaa
