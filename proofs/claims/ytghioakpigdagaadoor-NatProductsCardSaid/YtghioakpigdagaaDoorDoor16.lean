/-
  What the rows list: two tables of Go's library, which the law's roads do not read.
-/
import Derived.Test.YtghioakpigdagaaDoorRows
set_option linter.unusedVariables false
set_option linter.unusedSimpArgs false
namespace Go.Proofs.YtghioakpigdagaaDoor
open Go
abbrev laid16 : List (String × DataW Unit) := [("unicode/utf8.acceptRanges", Rows.laid_unicode_utf8_acceptRanges), ("unicode/utf8.first", Rows.laid_unicode_utf8_first)]
end Go.Proofs.YtghioakpigdagaaDoor
