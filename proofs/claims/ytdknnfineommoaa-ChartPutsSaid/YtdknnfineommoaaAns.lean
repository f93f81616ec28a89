/-
  What a call answers, whatever the world is; a number of 128 bits as a value.
-/
import Derived.Test.YtdknnfineommoaaRows
import Derived.Test.YtdknnfineommoaaPackBits
set_option linter.unusedVariables false
set_option linter.unusedSimpArgs false
namespace Go.Proofs.Ytdknnfineommoaa
open Go Go.RowKit Go.Th

/-- What a call answers, whatever the world is. -/
abbrev Ans (f : Nat) (args : Array Value) (v : Value) : Prop := ∀ w : World, Calls Try.prog f args w fun e w' => e = .returned v ∧ Below w.heap.size w w'
abbrev wv (h l : Int) : Value := .agg #[.int .i64 h, .int .u64 l]
end Go.Proofs.Ytdknnfineommoaa
