/-
  No cell of these rows narrows 'for every input' (looked for: loops, veiled, ifaces, maps, wideKeys, modest, calm, conditions, laid).
  DERIVED. THE GIVEN ROWS OF THIS SEAT. 5 by the template 'for every input the law returns true; each argument reads behind the call as it read before'; 0 by the template 'total and deterministic' (their statements: YtggmjdaolekgmaaTotals.lean).
  GIVEN WITH THE SEED: the statements are not yours to turn. If you find one false, say at which input.
  Laid BY PROGRAM, IN A SANDBOX (cutbox-rows.mjs): the forced cells as the released guide's own fill.sh prints them over the translation 27fd7321f9ba738a… (all of the seat's roots in one cut). By AI agents, Wed Nov 11 2026. No macro, syntax, notation, axiom, sorry.
-/
import Derived.Test.YtggmjdaolekgmaaChecked
import GoSem.Claim
import GoSem.ClaimJoined
import GoSem.ClaimMapViews
import Derived.JoinedTies
import Derived.KernelRfl
namespace Go.Proofs.Ytggmjdaolekgmaa
/- THE CELL 'sum', in the pinned program and in every row, IS THE sha256 OF THE DUMP (.gsa) THAT YtggmjdaolekgmaaProg.lean LOADS. Nothing in Lean hashes anything: it is a label: what it is worth is what the hold of that sum in a sandbox is worth. -/
noncomputable def Try.pinned : Pinned := { name := "ytggmjdaolekgmaa", sum := "27fd7321f9ba738a96a3c5d95252772317afa766a3922215f8b93d6b38724522", checked := Try.checked }
namespace Rows
def none {H : Type} : Left H := { results := [], args := [] }

/-- 'theodolitelaw04.FxpSums': WHATEVER THE INPUT: true; the input reads as it did. -/
def fxpSumsSpec : ChangeSpec := { name := "fxpSums", fn := fun _ => fun
  | [d1, d2] => { results := [.lit (.bool true)], args := [d1, d2] }
  | _ => none }
def fxpSumsRow : OpenClaim := { program := "ytggmjdaolekgmaa", sum := "27fd7321f9ba738a96a3c5d95252772317afa766a3922215f8b93d6b38724522", func := "theodolite/theodolitelaw04.FxpSums", spec := "fxpSums", inPlace := ["math/bits.Add64", "math/bits.Sub64"], named := ["math/bits.divideError", "math/bits.overflowError"], apart := false }
def FxpSumsSaid : Prop := fxpSumsRow.holds Try.pinned (OpenSpec.ofChange fxpSumsSpec)

/-- ITS FALSE NEIGHBOUR: 'it returns false'. Refute it at one input. -/
def fxpSumsWrong : ChangeSpec := { name := "fxpSums", fn := fun _ => fun
  | [d1, d2] => { results := [.lit (.bool false)], args := [d1, d2] }
  | _ => none }
def FxpSumsWrongFalsely : Prop := fxpSumsRow.holds Try.pinned (OpenSpec.ofChange fxpSumsWrong)

/-- 'theodolitelaw04.FxpProducts': WHATEVER THE INPUT: true; the input reads as it did. -/
def fxpProductsSpec : ChangeSpec := { name := "fxpProducts", fn := fun _ => fun
  | [d1, d2, d3, d4, d5] => { results := [.lit (.bool true)], args := [d1, d2, d3, d4, d5] }
  | _ => none }
def fxpProductsRow : OpenClaim := { program := "ytggmjdaolekgmaa", sum := "27fd7321f9ba738a96a3c5d95252772317afa766a3922215f8b93d6b38724522", func := "theodolite/theodolitelaw04.FxpProducts", spec := "fxpProducts", inPlace := ["math/bits.Sub64", "math/bits.Add64"], named := ["math/bits.divideError", "math/bits.overflowError"], apart := false }
def FxpProductsSaid : Prop := fxpProductsRow.holds Try.pinned (OpenSpec.ofChange fxpProductsSpec)

/-- ITS FALSE NEIGHBOUR: 'it returns false'. Refute it at one input. -/
def fxpProductsWrong : ChangeSpec := { name := "fxpProducts", fn := fun _ => fun
  | [d1, d2, d3, d4, d5] => { results := [.lit (.bool false)], args := [d1, d2, d3, d4, d5] }
  | _ => none }
def FxpProductsWrongFalsely : Prop := fxpProductsRow.holds Try.pinned (OpenSpec.ofChange fxpProductsWrong)

/-- 'theodolitelaw04.FxpScales': WHATEVER THE INPUT: true; the input reads as it did. -/
def fxpScalesSpec : ChangeSpec := { name := "fxpScales", fn := fun _ => fun
  | [d1, d2, d3, d4] => { results := [.lit (.bool true)], args := [d1, d2, d3, d4] }
  | _ => none }
def fxpScalesRow : OpenClaim := { program := "ytggmjdaolekgmaa", sum := "27fd7321f9ba738a96a3c5d95252772317afa766a3922215f8b93d6b38724522", func := "theodolite/theodolitelaw04.FxpScales", spec := "fxpScales", inPlace := ["math/bits.Sub64", "math/bits.Add64"], named := ["math/bits.divideError", "math/bits.overflowError"], apart := false }
def FxpScalesSaid : Prop := fxpScalesRow.holds Try.pinned (OpenSpec.ofChange fxpScalesSpec)

/-- ITS FALSE NEIGHBOUR: 'it returns false'. Refute it at one input. -/
def fxpScalesWrong : ChangeSpec := { name := "fxpScales", fn := fun _ => fun
  | [d1, d2, d3, d4] => { results := [.lit (.bool false)], args := [d1, d2, d3, d4] }
  | _ => none }
def FxpScalesWrongFalsely : Prop := fxpScalesRow.holds Try.pinned (OpenSpec.ofChange fxpScalesWrong)

/-- 'theodolitelaw04.FxpNotes': WHATEVER THE INPUT: true; the input reads as it did. -/
def fxpNotesSpec : ChangeSpec := { name := "fxpNotes", fn := fun _ => fun
  | [d1, d2, d3] => { results := [.lit (.bool true)], args := [d1, d2, d3] }
  | _ => none }
def fxpNotesRow : OpenClaim := { program := "ytggmjdaolekgmaa", sum := "27fd7321f9ba738a96a3c5d95252772317afa766a3922215f8b93d6b38724522", func := "theodolite/theodolitelaw04.FxpNotes", spec := "fxpNotes", inPlace := ["math/bits.Add64", "math/bits.Sub64"], named := ["math/bits.divideError", "math/bits.overflowError"], apart := false }
def FxpNotesSaid : Prop := fxpNotesRow.holds Try.pinned (OpenSpec.ofChange fxpNotesSpec)

/-- ITS FALSE NEIGHBOUR: 'it returns false'. Refute it at one input. -/
def fxpNotesWrong : ChangeSpec := { name := "fxpNotes", fn := fun _ => fun
  | [d1, d2, d3] => { results := [.lit (.bool false)], args := [d1, d2, d3] }
  | _ => none }
def FxpNotesWrongFalsely : Prop := fxpNotesRow.holds Try.pinned (OpenSpec.ofChange fxpNotesWrong)

/-- 'theodolitelaw04.FxpRows': WHATEVER THE INPUT: true; the input reads as it did. -/
def fxpRowsSpec : ChangeSpec := { name := "fxpRows", fn := fun _ => fun
  | [d1, d2, d3, d4, d5, d6, d7] => { results := [.lit (.bool true)], args := [d1, d2, d3, d4, d5, d6, d7] }
  | _ => none }
def fxpRowsRow : OpenClaim := { program := "ytggmjdaolekgmaa", sum := "27fd7321f9ba738a96a3c5d95252772317afa766a3922215f8b93d6b38724522", func := "theodolite/theodolitelaw04.FxpRows", spec := "fxpRows", inPlace := ["math/bits.Add64", "math/bits.Sub64"], named := ["math/bits.divideError", "math/bits.overflowError"], apart := false }
def FxpRowsSaid : Prop := fxpRowsRow.holds Try.pinned (OpenSpec.ofChange fxpRowsSpec)

/-- ITS FALSE NEIGHBOUR: 'it returns false'. Refute it at one input. -/
def fxpRowsWrong : ChangeSpec := { name := "fxpRows", fn := fun _ => fun
  | [d1, d2, d3, d4, d5, d6, d7] => { results := [.lit (.bool false)], args := [d1, d2, d3, d4, d5, d6, d7] }
  | _ => none }
def FxpRowsWrongFalsely : Prop := fxpRowsRow.holds Try.pinned (OpenSpec.ofChange fxpRowsWrong)

/- THE SECOND FORM. 'bulk': how many values and letters a reading holds, each counted each time it is reached (what is shared counts as often as it is met; a slice's spare places count too). A statement '..UptoSaid' is the law's where the arguments, and the package variables that the reading takes, are together of bulk at most 1048576: NARROWER than '..Said'. Prove '..Said' where nothing that the law and all that it calls make is longer than what came in: it says more and counts as full. Else prove '..UptoSaid'. A law counts once. -/
mutual
def uptoBulk {H : Type} : DataW H → Nat
  | .lit (.string bytes) => bytes.length + 1
  | .lit _ => 1
  | .nil => 1
  | .ptr d => uptoBulk d + 1
  | .slice elems spare => uptoBulkAll elems + uptoBulkAll spare + 1
  | .agg parts => uptoBulkAll parts + 1
  | .iface _ d => uptoBulk d + 1
  | .map entries => uptoBulkEntries entries + 1
  | .held _ => 1
def uptoBulkAll {H : Type} : List (DataW H) → Nat
  | [] => 0
  | d :: r => uptoBulk d + uptoBulkAll r
def uptoBulkEntries {H : Type} : List (Lit × DataW H) → Nat
  | [] => 0
  | x :: r => uptoBulkEntry x + uptoBulkEntries r
def uptoBulkEntry {H : Type} : Lit × DataW H → Nat
  | (.string bytes, d) => bytes.length + uptoBulk d + 1
  | (_, d) => uptoBulk d + 1
 end
def uptoSmall : (H : Type) → List (DataW H) → Bool := fun _ ds => decide (uptoBulkAll ds ≤ 1048576)
def OpenSpec.upto (s : _root_.Go.ChangeSpec) : _root_.Go.OpenSpec := { _root_.Go.OpenSpec.ofChange s with cond := some uptoSmall }

/-- 'theodolitelaw04.FxpSums', WHERE WHAT IT READS IS OF BULK AT MOST 1048576: true; the input reads as it did. -/
def fxpSumsUptoRow : OpenClaim := { program := "ytggmjdaolekgmaa", sum := "27fd7321f9ba738a96a3c5d95252772317afa766a3922215f8b93d6b38724522", func := "theodolite/theodolitelaw04.FxpSums", spec := "fxpSums", inPlace := ["math/bits.Add64", "math/bits.Sub64"], named := ["math/bits.divideError", "math/bits.overflowError"], apart := false, narrowed := true }
def FxpSumsUptoSaid : Prop := fxpSumsUptoRow.holds Try.pinned (OpenSpec.upto fxpSumsSpec)

/-- 'theodolitelaw04.FxpProducts', WHERE WHAT IT READS IS OF BULK AT MOST 1048576: true; the input reads as it did. -/
def fxpProductsUptoRow : OpenClaim := { program := "ytggmjdaolekgmaa", sum := "27fd7321f9ba738a96a3c5d95252772317afa766a3922215f8b93d6b38724522", func := "theodolite/theodolitelaw04.FxpProducts", spec := "fxpProducts", inPlace := ["math/bits.Sub64", "math/bits.Add64"], named := ["math/bits.divideError", "math/bits.overflowError"], apart := false, narrowed := true }
def FxpProductsUptoSaid : Prop := fxpProductsUptoRow.holds Try.pinned (OpenSpec.upto fxpProductsSpec)

/-- 'theodolitelaw04.FxpScales', WHERE WHAT IT READS IS OF BULK AT MOST 1048576: true; the input reads as it did. -/
def fxpScalesUptoRow : OpenClaim := { program := "ytggmjdaolekgmaa", sum := "27fd7321f9ba738a96a3c5d95252772317afa766a3922215f8b93d6b38724522", func := "theodolite/theodolitelaw04.FxpScales", spec := "fxpScales", inPlace := ["math/bits.Sub64", "math/bits.Add64"], named := ["math/bits.divideError", "math/bits.overflowError"], apart := false, narrowed := true }
def FxpScalesUptoSaid : Prop := fxpScalesUptoRow.holds Try.pinned (OpenSpec.upto fxpScalesSpec)

/-- 'theodolitelaw04.FxpNotes', WHERE WHAT IT READS IS OF BULK AT MOST 1048576: true; the input reads as it did. -/
def fxpNotesUptoRow : OpenClaim := { program := "ytggmjdaolekgmaa", sum := "27fd7321f9ba738a96a3c5d95252772317afa766a3922215f8b93d6b38724522", func := "theodolite/theodolitelaw04.FxpNotes", spec := "fxpNotes", inPlace := ["math/bits.Add64", "math/bits.Sub64"], named := ["math/bits.divideError", "math/bits.overflowError"], apart := false, narrowed := true }
def FxpNotesUptoSaid : Prop := fxpNotesUptoRow.holds Try.pinned (OpenSpec.upto fxpNotesSpec)

/-- 'theodolitelaw04.FxpRows', WHERE WHAT IT READS IS OF BULK AT MOST 1048576: true; the input reads as it did. -/
def fxpRowsUptoRow : OpenClaim := { program := "ytggmjdaolekgmaa", sum := "27fd7321f9ba738a96a3c5d95252772317afa766a3922215f8b93d6b38724522", func := "theodolite/theodolitelaw04.FxpRows", spec := "fxpRows", inPlace := ["math/bits.Add64", "math/bits.Sub64"], named := ["math/bits.divideError", "math/bits.overflowError"], apart := false, narrowed := true }
def FxpRowsUptoSaid : Prop := fxpRowsUptoRow.holds Try.pinned (OpenSpec.upto fxpRowsSpec)

end Rows
end Go.Proofs.Ytggmjdaolekgmaa
