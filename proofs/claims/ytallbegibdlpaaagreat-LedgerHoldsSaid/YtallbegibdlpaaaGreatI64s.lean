/-
  Rows of int64: as cells, one of them, the next one; a slice that is built.
-/
import Derived.Test.YtallbegibdlpaaaGreatRows
import Derived.Test.YtallbegibdlpaaaGreatPackBits
set_option linter.unusedVariables false
set_option linter.unusedSimpArgs false
namespace Go.Th
open Go Go.RowKit
end Go.Th
namespace Go.Proofs.YtallbegibdlpaaaGreat
open Go Go.RowKit Go.Th

def i64s (xs : List Int) : List Value := xs.map (.int .i64)
theorem i64s_at (xs : List Int) (i : Nat) (h : i < xs.length) : (i64s xs)[i]? = some (.int .i64 xs[i]) := by simp [i64s, h]
end Go.Proofs.YtallbegibdlpaaaGreat
