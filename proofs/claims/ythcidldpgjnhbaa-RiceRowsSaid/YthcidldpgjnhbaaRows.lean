/-
  No cell of these rows narrows 'for every input' (looked for: loops, veiled, ifaces, maps, wideKeys, modest, calm, conditions, laid).
  DERIVED. THE GIVEN ROWS OF THIS SEAT. 4 by the template 'for every input the law returns true; each argument reads behind the call as it read before'; 0 by the template 'total and deterministic' (their statements: YthcidldpgjnhbaaTotals.lean).
  GIVEN WITH THE SEED: the statements are not yours to turn. If you find one false, say at which input.
  Laid BY PROGRAM, IN A SANDBOX (cutbox-rows.mjs): the forced cells as the released guide's own fill.sh prints them over the translation 30edadf1befcd839… (all of the seat's roots in one cut). By AI agents, Wed Nov 11 2026. No macro, syntax, notation, axiom, sorry.
-/
import Derived.Test.YthcidldpgjnhbaaChecked
import GoSem.Claim
import GoSem.ClaimJoined
import GoSem.ClaimMapViews
import Derived.JoinedTies
import Derived.KernelRfl
namespace Go.Proofs.Ythcidldpgjnhbaa
/- THE CELL 'sum', in the pinned program and in every row, IS THE sha256 OF THE DUMP (.gsa) THAT YthcidldpgjnhbaaProg.lean LOADS. Nothing in Lean hashes anything: it is a label: what it is worth is what the hold of that sum in a sandbox is worth. -/
noncomputable def Try.pinned : Pinned := { name := "ythcidldpgjnhbaa", sum := "30edadf1befcd8390a7d843374dfa6f10672e10c4822ccf03de984ccfb084e3f", checked := Try.checked }
namespace Rows
def none {H : Type} : Left H := { results := [], args := [] }

/-- 'theodolitelaw07.RiceFolds': WHATEVER THE INPUT: true; the input reads as it did. -/
def riceFoldsSpec : ChangeSpec := { name := "riceFolds", fn := fun _ => fun
  | [d1, d2, d3] => { results := [.lit (.bool true)], args := [d1, d2, d3] }
  | _ => none }
def riceFoldsRow : OpenClaim := { program := "ythcidldpgjnhbaa", sum := "30edadf1befcd8390a7d843374dfa6f10672e10c4822ccf03de984ccfb084e3f", func := "theodolite/theodolitelaw07.RiceFolds", spec := "riceFolds", unfollowed := true, recurses := true, apart := false }
def RiceFoldsSaid : Prop := riceFoldsRow.holds Try.pinned (OpenSpec.ofChange riceFoldsSpec)

/-- ITS FALSE NEIGHBOUR: 'it returns false'. Refute it at one input. -/
def riceFoldsWrong : ChangeSpec := { name := "riceFolds", fn := fun _ => fun
  | [d1, d2, d3] => { results := [.lit (.bool false)], args := [d1, d2, d3] }
  | _ => none }
def RiceFoldsWrongFalsely : Prop := riceFoldsRow.holds Try.pinned (OpenSpec.ofChange riceFoldsWrong)

/-- 'theodolitelaw07.RiceCodes': WHATEVER THE INPUT: true; the input reads as it did. -/
def riceCodesSpec : ChangeSpec := { name := "riceCodes", fn := fun _ => fun
  | [d1, d2] => { results := [.lit (.bool true)], args := [d1, d2] }
  | _ => none }
def riceCodesRow : OpenClaim := { program := "ythcidldpgjnhbaa", sum := "30edadf1befcd8390a7d843374dfa6f10672e10c4822ccf03de984ccfb084e3f", func := "theodolite/theodolitelaw07.RiceCodes", spec := "riceCodes", unfollowed := true, recurses := true, apart := false }
def RiceCodesSaid : Prop := riceCodesRow.holds Try.pinned (OpenSpec.ofChange riceCodesSpec)

/-- ITS FALSE NEIGHBOUR: 'it returns false'. Refute it at one input. -/
def riceCodesWrong : ChangeSpec := { name := "riceCodes", fn := fun _ => fun
  | [d1, d2] => { results := [.lit (.bool false)], args := [d1, d2] }
  | _ => none }
def RiceCodesWrongFalsely : Prop := riceCodesRow.holds Try.pinned (OpenSpec.ofChange riceCodesWrong)

/-- 'theodolitelaw07.RiceRows': WHATEVER THE INPUT: true; the input reads as it did. -/
def riceRowsSpec : ChangeSpec := { name := "riceRows", fn := fun _ => fun
  | [d] => { results := [.lit (.bool true)], args := [d] }
  | _ => none }
def riceRowsRow : OpenClaim := { program := "ythcidldpgjnhbaa", sum := "30edadf1befcd8390a7d843374dfa6f10672e10c4822ccf03de984ccfb084e3f", func := "theodolite/theodolitelaw07.RiceRows", spec := "riceRows", unfollowed := true, recurses := true, apart := false }
def RiceRowsSaid : Prop := riceRowsRow.holds Try.pinned (OpenSpec.ofChange riceRowsSpec)

/-- ITS FALSE NEIGHBOUR: 'it returns false'. Refute it at one input. -/
def riceRowsWrong : ChangeSpec := { name := "riceRows", fn := fun _ => fun
  | [d] => { results := [.lit (.bool false)], args := [d] }
  | _ => none }
def RiceRowsWrongFalsely : Prop := riceRowsRow.holds Try.pinned (OpenSpec.ofChange riceRowsWrong)

/-- 'theodolitelaw07.RiceOne': WHATEVER THE INPUT: true; the input reads as it did. -/
def riceOneSpec : ChangeSpec := { name := "riceOne", fn := fun _ => fun
  | [d1, d2] => { results := [.lit (.bool true)], args := [d1, d2] }
  | _ => none }
def riceOneRow : OpenClaim := { program := "ythcidldpgjnhbaa", sum := "30edadf1befcd8390a7d843374dfa6f10672e10c4822ccf03de984ccfb084e3f", func := "theodolite/theodolitelaw07.RiceOne", spec := "riceOne", unfollowed := true, recurses := true, apart := false }
def RiceOneSaid : Prop := riceOneRow.holds Try.pinned (OpenSpec.ofChange riceOneSpec)

/-- ITS FALSE NEIGHBOUR: 'it returns false'. Refute it at one input. -/
def riceOneWrong : ChangeSpec := { name := "riceOne", fn := fun _ => fun
  | [d1, d2] => { results := [.lit (.bool false)], args := [d1, d2] }
  | _ => none }
def RiceOneWrongFalsely : Prop := riceOneRow.holds Try.pinned (OpenSpec.ofChange riceOneWrong)

/- THE SECOND FORM. 'bulk': how many values and letters a reading holds, each counted each time it is reached (what is shared counts as often as it is met; a slice's spare places count too). A statement '..UptoSaid' is the law's where the arguments, and the package variables that the reading takes, are together of bulk at most 1048576: NARROWER than '..Said'. Prove '..Said' where nothing that the law and all that it calls make is longer than what came in: it says more and counts as full. Else prove '..UptoSaid'. A law counts once. -/
mutual
def uptoBulk {H : Type} : DataW H → Nat
  | .lit (.string bytes) => bytes.length + 1
  | .lit _ => 1
  | .nil => 1
  | .ptr d => uptoBulk d + 1
  | .slice elems spare => uptoBulkAll elems + uptoBulkAll spare + 1
  | .agg parts => uptoBulkAll parts + 1
  | .iface _ d => uptoBulk d + 1
  | .map entries => uptoBulkEntries entries + 1
  | .held _ => 1
def uptoBulkAll {H : Type} : List (DataW H) → Nat
  | [] => 0
  | d :: r => uptoBulk d + uptoBulkAll r
def uptoBulkEntries {H : Type} : List (Lit × DataW H) → Nat
  | [] => 0
  | x :: r => uptoBulkEntry x + uptoBulkEntries r
def uptoBulkEntry {H : Type} : Lit × DataW H → Nat
  | (.string bytes, d) => bytes.length + uptoBulk d + 1
  | (_, d) => uptoBulk d + 1
 end
def uptoSmall : (H : Type) → List (DataW H) → Bool := fun _ ds => decide (uptoBulkAll ds ≤ 1048576)
def OpenSpec.upto (s : _root_.Go.ChangeSpec) : _root_.Go.OpenSpec := { _root_.Go.OpenSpec.ofChange s with cond := some uptoSmall }

/-- 'theodolitelaw07.RiceFolds', WHERE WHAT IT READS IS OF BULK AT MOST 1048576: true; the input reads as it did. -/
def riceFoldsUptoRow : OpenClaim := { program := "ythcidldpgjnhbaa", sum := "30edadf1befcd8390a7d843374dfa6f10672e10c4822ccf03de984ccfb084e3f", func := "theodolite/theodolitelaw07.RiceFolds", spec := "riceFolds", unfollowed := true, recurses := true, apart := false, narrowed := true }
def RiceFoldsUptoSaid : Prop := riceFoldsUptoRow.holds Try.pinned (OpenSpec.upto riceFoldsSpec)

/-- 'theodolitelaw07.RiceCodes', WHERE WHAT IT READS IS OF BULK AT MOST 1048576: true; the input reads as it did. -/
def riceCodesUptoRow : OpenClaim := { program := "ythcidldpgjnhbaa", sum := "30edadf1befcd8390a7d843374dfa6f10672e10c4822ccf03de984ccfb084e3f", func := "theodolite/theodolitelaw07.RiceCodes", spec := "riceCodes", unfollowed := true, recurses := true, apart := false, narrowed := true }
def RiceCodesUptoSaid : Prop := riceCodesUptoRow.holds Try.pinned (OpenSpec.upto riceCodesSpec)

/-- 'theodolitelaw07.RiceRows', WHERE WHAT IT READS IS OF BULK AT MOST 1048576: true; the input reads as it did. -/
def riceRowsUptoRow : OpenClaim := { program := "ythcidldpgjnhbaa", sum := "30edadf1befcd8390a7d843374dfa6f10672e10c4822ccf03de984ccfb084e3f", func := "theodolite/theodolitelaw07.RiceRows", spec := "riceRows", unfollowed := true, recurses := true, apart := false, narrowed := true }
def RiceRowsUptoSaid : Prop := riceRowsUptoRow.holds Try.pinned (OpenSpec.upto riceRowsSpec)

/-- 'theodolitelaw07.RiceOne', WHERE WHAT IT READS IS OF BULK AT MOST 1048576: true; the input reads as it did. -/
def riceOneUptoRow : OpenClaim := { program := "ythcidldpgjnhbaa", sum := "30edadf1befcd8390a7d843374dfa6f10672e10c4822ccf03de984ccfb084e3f", func := "theodolite/theodolitelaw07.RiceOne", spec := "riceOne", unfollowed := true, recurses := true, apart := false, narrowed := true }
def RiceOneUptoSaid : Prop := riceOneUptoRow.holds Try.pinned (OpenSpec.upto riceOneSpec)

end Rows
end Go.Proofs.Ythcidldpgjnhbaa
