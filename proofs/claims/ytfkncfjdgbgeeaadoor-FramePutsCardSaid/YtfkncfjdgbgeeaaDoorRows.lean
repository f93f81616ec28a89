/-
  NARROWER THAN 'FOR EVERY INPUT', by the rows' own cells (each row's printed sentence says how): FramePuts: laid · FrameFirsts: laid · FrameFinds: laid · FrameFeeds: laid.
  DERIVED. THE GIVEN ROWS OF THIS SEAT. 4 by the template 'for every input the law returns true; each argument reads behind the call as it read before'; 0 by the template 'total and deterministic' (their statements: YtfkncfjdgbgeeaaDoorTotals.lean).
  GIVEN WITH THE SEED: the statements are not yours to turn. If you find one false, say at which input.
  Laid BY PROGRAM, IN A SANDBOX (cutbox-rows.mjs): the forced cells as the released guide's own fill.sh prints them over the translation 69f7df510e475489… (all of the seat's roots in one cut). By AI agents, Wed Nov 11 2026. No macro, syntax, notation, axiom, sorry.
-/
import Derived.Test.YtfkncfjdgbgeeaaDoorChecked
import GoSem.Claim
import GoSem.ClaimJoined
import GoSem.ClaimMapViews
import Derived.JoinedTies
import Derived.KernelRfl
namespace Go.Proofs.YtfkncfjdgbgeeaaDoor
/- THE CELL 'sum', in the pinned program and in every row, IS THE sha256 OF THE DUMP (.gsa) THAT YtfkncfjdgbgeeaaDoorProg.lean LOADS. Nothing in Lean hashes anything: it is a label: what it is worth is what the hold of that sum in a sandbox is worth. -/
noncomputable def Tryd.pinned : Pinned := { name := "ytfkncfjdgbgeeaadoor", sum := "69f7df510e4754899078eadbd3e9701b9424f14ab5820d60ac0f8fa6b8f992b8", checked := Tryd.checked }
namespace Rows
def none {H : Type} : Left H := { results := [], args := [] }

/- WHAT THE LISTED PACKAGE-LEVEL VARIABLES READ AS WHEN THE CALL BEGINS. Each datum BY PROGRAM (the guide's laid-datum.mjs) off the statement by which the dump's own 'gosem.cut.vars' lays the variable. In a bare row this is a premise. The card (YtfkncfjdgbgeeaaDoorCards.lean) ties it to the program's text. -/
def laid_theodolite_frame_counts {H : Type} : DataW H := .agg [.lit (.int .i64 (-1)), .lit (.int .i64 3), .lit (.int .i64 2), .lit (.int .i64 2), .lit (.int .i64 0), .lit (.int .i64 1), .lit (.int .i64 3), .lit (.int .i64 2)]

/-- 'theodolitelaw12.FramePuts': WHATEVER THE INPUT: true; the input reads as it did. -/
def framePutsSpec : ChangeSpec := { name := "framePuts", fn := fun _ => fun
  | [d] => { results := [.lit (.bool true)], args := [d] }
  | _ => none }
def framePutsRow : OpenClaim := { program := "ytfkncfjdgbgeeaadoor", sum := "69f7df510e4754899078eadbd3e9701b9424f14ab5820d60ac0f8fa6b8f992b8", func := "theodolite/theodolitelaw12.FramePuts", spec := "framePuts", unfollowed := true, recurses := true, named := ["theodolite/frame.counts"], apart := false, laid := [("theodolite/frame.counts", laid_theodolite_frame_counts)] }
def FramePutsSaid : Prop := framePutsRow.holds Tryd.pinned (OpenSpec.ofChange framePutsSpec)

/-- ITS FALSE NEIGHBOUR: 'it returns false'. Refute it at one input. -/
def framePutsWrong : ChangeSpec := { name := "framePuts", fn := fun _ => fun
  | [d] => { results := [.lit (.bool false)], args := [d] }
  | _ => none }
def FramePutsWrongFalsely : Prop := framePutsRow.holds Tryd.pinned (OpenSpec.ofChange framePutsWrong)

/-- 'theodolitelaw12.FrameFirsts': WHATEVER THE INPUT: true; the input reads as it did. -/
def frameFirstsSpec : ChangeSpec := { name := "frameFirsts", fn := fun _ => fun
  | [d] => { results := [.lit (.bool true)], args := [d] }
  | _ => none }
def frameFirstsRow : OpenClaim := { program := "ytfkncfjdgbgeeaadoor", sum := "69f7df510e4754899078eadbd3e9701b9424f14ab5820d60ac0f8fa6b8f992b8", func := "theodolite/theodolitelaw12.FrameFirsts", spec := "frameFirsts", unfollowed := true, recurses := true, named := ["theodolite/frame.counts"], apart := false, laid := [("theodolite/frame.counts", laid_theodolite_frame_counts)] }
def FrameFirstsSaid : Prop := frameFirstsRow.holds Tryd.pinned (OpenSpec.ofChange frameFirstsSpec)

/-- ITS FALSE NEIGHBOUR: 'it returns false'. Refute it at one input. -/
def frameFirstsWrong : ChangeSpec := { name := "frameFirsts", fn := fun _ => fun
  | [d] => { results := [.lit (.bool false)], args := [d] }
  | _ => none }
def FrameFirstsWrongFalsely : Prop := frameFirstsRow.holds Tryd.pinned (OpenSpec.ofChange frameFirstsWrong)

/-- 'theodolitelaw12.FrameFinds': WHATEVER THE INPUT: true; the input reads as it did. -/
def frameFindsSpec : ChangeSpec := { name := "frameFinds", fn := fun _ => fun
  | [d] => { results := [.lit (.bool true)], args := [d] }
  | _ => none }
def frameFindsRow : OpenClaim := { program := "ytfkncfjdgbgeeaadoor", sum := "69f7df510e4754899078eadbd3e9701b9424f14ab5820d60ac0f8fa6b8f992b8", func := "theodolite/theodolitelaw12.FrameFinds", spec := "frameFinds", unfollowed := true, recurses := true, named := ["theodolite/frame.counts"], apart := false, laid := [("theodolite/frame.counts", laid_theodolite_frame_counts)] }
def FrameFindsSaid : Prop := frameFindsRow.holds Tryd.pinned (OpenSpec.ofChange frameFindsSpec)

/-- ITS FALSE NEIGHBOUR: 'it returns false'. Refute it at one input. -/
def frameFindsWrong : ChangeSpec := { name := "frameFinds", fn := fun _ => fun
  | [d] => { results := [.lit (.bool false)], args := [d] }
  | _ => none }
def FrameFindsWrongFalsely : Prop := frameFindsRow.holds Tryd.pinned (OpenSpec.ofChange frameFindsWrong)

/-- 'theodolitelaw12.FrameFeeds': WHATEVER THE INPUT: true; the input reads as it did. -/
def frameFeedsSpec : ChangeSpec := { name := "frameFeeds", fn := fun _ => fun
  | [d1, d2] => { results := [.lit (.bool true)], args := [d1, d2] }
  | _ => none }
def frameFeedsRow : OpenClaim := { program := "ytfkncfjdgbgeeaadoor", sum := "69f7df510e4754899078eadbd3e9701b9424f14ab5820d60ac0f8fa6b8f992b8", func := "theodolite/theodolitelaw12.FrameFeeds", spec := "frameFeeds", unfollowed := true, recurses := true, named := ["theodolite/frame.counts"], apart := false, laid := [("theodolite/frame.counts", laid_theodolite_frame_counts)] }
def FrameFeedsSaid : Prop := frameFeedsRow.holds Tryd.pinned (OpenSpec.ofChange frameFeedsSpec)

/-- ITS FALSE NEIGHBOUR: 'it returns false'. Refute it at one input. -/
def frameFeedsWrong : ChangeSpec := { name := "frameFeeds", fn := fun _ => fun
  | [d1, d2] => { results := [.lit (.bool false)], args := [d1, d2] }
  | _ => none }
def FrameFeedsWrongFalsely : Prop := frameFeedsRow.holds Tryd.pinned (OpenSpec.ofChange frameFeedsWrong)

/- THE SECOND FORM. 'bulk': how many values and letters a reading holds, each counted each time it is reached (what is shared counts as often as it is met; a slice's spare places count too). A statement '..UptoSaid' is the law's where the arguments, and the package variables that the reading takes, are together of bulk at most 1048576: NARROWER than '..Said'. Prove '..Said' where nothing that the law and all that it calls make is longer than what came in: it says more and counts as full. Else prove '..UptoSaid'. A law counts once. -/
mutual
def uptoBulk {H : Type} : DataW H → Nat
  | .lit (.string bytes) => bytes.length + 1
  | .lit _ => 1
  | .nil => 1
  | .ptr d => uptoBulk d + 1
  | .slice elems spare => uptoBulkAll elems + uptoBulkAll spare + 1
  | .agg parts => uptoBulkAll parts + 1
  | .iface _ d => uptoBulk d + 1
  | .map entries => uptoBulkEntries entries + 1
  | .held _ => 1
def uptoBulkAll {H : Type} : List (DataW H) → Nat
  | [] => 0
  | d :: r => uptoBulk d + uptoBulkAll r
def uptoBulkEntries {H : Type} : List (Lit × DataW H) → Nat
  | [] => 0
  | x :: r => uptoBulkEntry x + uptoBulkEntries r
def uptoBulkEntry {H : Type} : Lit × DataW H → Nat
  | (.string bytes, d) => bytes.length + uptoBulk d + 1
  | (_, d) => uptoBulk d + 1
 end
def uptoSmall : (H : Type) → List (DataW H) → Bool := fun _ ds => decide (uptoBulkAll ds ≤ 1048576)
def OpenSpec.upto (s : _root_.Go.ChangeSpec) : _root_.Go.OpenSpec := { _root_.Go.OpenSpec.ofChange s with cond := some uptoSmall }

/-- 'theodolitelaw12.FramePuts', WHERE WHAT IT READS IS OF BULK AT MOST 1048576: true; the input reads as it did. -/
def framePutsUptoRow : OpenClaim := { program := "ytfkncfjdgbgeeaadoor", sum := "69f7df510e4754899078eadbd3e9701b9424f14ab5820d60ac0f8fa6b8f992b8", func := "theodolite/theodolitelaw12.FramePuts", spec := "framePuts", unfollowed := true, recurses := true, named := ["theodolite/frame.counts"], apart := false, laid := [("theodolite/frame.counts", laid_theodolite_frame_counts)], narrowed := true }
def FramePutsUptoSaid : Prop := framePutsUptoRow.holds Tryd.pinned (OpenSpec.upto framePutsSpec)

/-- 'theodolitelaw12.FrameFirsts', WHERE WHAT IT READS IS OF BULK AT MOST 1048576: true; the input reads as it did. -/
def frameFirstsUptoRow : OpenClaim := { program := "ytfkncfjdgbgeeaadoor", sum := "69f7df510e4754899078eadbd3e9701b9424f14ab5820d60ac0f8fa6b8f992b8", func := "theodolite/theodolitelaw12.FrameFirsts", spec := "frameFirsts", unfollowed := true, recurses := true, named := ["theodolite/frame.counts"], apart := false, laid := [("theodolite/frame.counts", laid_theodolite_frame_counts)], narrowed := true }
def FrameFirstsUptoSaid : Prop := frameFirstsUptoRow.holds Tryd.pinned (OpenSpec.upto frameFirstsSpec)

/-- 'theodolitelaw12.FrameFinds', WHERE WHAT IT READS IS OF BULK AT MOST 1048576: true; the input reads as it did. -/
def frameFindsUptoRow : OpenClaim := { program := "ytfkncfjdgbgeeaadoor", sum := "69f7df510e4754899078eadbd3e9701b9424f14ab5820d60ac0f8fa6b8f992b8", func := "theodolite/theodolitelaw12.FrameFinds", spec := "frameFinds", unfollowed := true, recurses := true, named := ["theodolite/frame.counts"], apart := false, laid := [("theodolite/frame.counts", laid_theodolite_frame_counts)], narrowed := true }
def FrameFindsUptoSaid : Prop := frameFindsUptoRow.holds Tryd.pinned (OpenSpec.upto frameFindsSpec)

/-- 'theodolitelaw12.FrameFeeds', WHERE WHAT IT READS IS OF BULK AT MOST 1048576: true; the input reads as it did. -/
def frameFeedsUptoRow : OpenClaim := { program := "ytfkncfjdgbgeeaadoor", sum := "69f7df510e4754899078eadbd3e9701b9424f14ab5820d60ac0f8fa6b8f992b8", func := "theodolite/theodolitelaw12.FrameFeeds", spec := "frameFeeds", unfollowed := true, recurses := true, named := ["theodolite/frame.counts"], apart := false, laid := [("theodolite/frame.counts", laid_theodolite_frame_counts)], narrowed := true }
def FrameFeedsUptoSaid : Prop := frameFeedsUptoRow.holds Tryd.pinned (OpenSpec.upto frameFeedsSpec)

end Rows
end Go.Proofs.YtfkncfjdgbgeeaaDoor
