/-
  No cell of these rows narrows 'for every input' (looked for: loops, veiled, ifaces, maps, wideKeys, modest, calm, conditions, laid).
  DERIVED. THE GIVEN ROWS OF THIS SEAT. 5 by the template 'for every input the law returns true; each argument reads behind the call as it read before'; 0 by the template 'total and deterministic' (their statements: YtlkjcamjgaecgaaGreatTotals.lean).
  GIVEN WITH THE SEED: the statements are not yours to turn. If you find one false, say at which input.
  Laid BY PROGRAM, IN A SANDBOX (cutbox-rows.mjs): the forced cells as the released guide's own fill.sh prints them over the translation 23c3383e0f50c0da… (all of the seat's roots in one cut). By AI agents, Wed Nov 11 2026. No macro, syntax, notation, axiom, sorry.
-/
import Derived.Test.YtlkjcamjgaecgaaGreatChecked
import GoSem.Claim
import GoSem.ClaimJoined
import GoSem.ClaimMapViews
import Derived.JoinedTies
import Derived.KernelRfl
namespace Go.Proofs.YtlkjcamjgaecgaaGreat
/- THE CELL 'sum', in the pinned program and in every row, IS THE sha256 OF THE DUMP (.gsa) THAT YtlkjcamjgaecgaaGreatProg.lean LOADS. Nothing in Lean hashes anything: it is a label: what it is worth is what the hold of that sum in a sandbox is worth. -/
noncomputable def Tryz.pinned : Pinned := { name := "ytlkjcamjgaecgaagreat", sum := "23c3383e0f50c0dab33fe29ddc639df89fb8de6a0ab8db3fca907a4dedbd1e4d", checked := Tryz.checked }
namespace Rows
def none {H : Type} : Left H := { results := [], args := [] }

/-- 'theodolitelaw11.TerrainHeights': WHATEVER THE INPUT: true; the input reads as it did. -/
def terrainHeightsSpec : ChangeSpec := { name := "terrainHeights", fn := fun _ => fun
  | [d1, d2, d3, d4, d5] => { results := [.lit (.bool true)], args := [d1, d2, d3, d4, d5] }
  | _ => none }
def terrainHeightsRow : OpenClaim := { program := "ytlkjcamjgaecgaagreat", sum := "23c3383e0f50c0dab33fe29ddc639df89fb8de6a0ab8db3fca907a4dedbd1e4d", func := "theodolite/theodolitelaw11.TerrainHeights", spec := "terrainHeights", inPlace := ["math/bits.Sub64", "math/bits.Add64"], unfollowed := true, recurses := true, named := ["math/bits.divideError", "math/bits.overflowError"], apart := false }
def TerrainHeightsSaid : Prop := terrainHeightsRow.holds Tryz.pinned (OpenSpec.ofChange terrainHeightsSpec)

/-- ITS FALSE NEIGHBOUR: 'it returns false'. Refute it at one input. -/
def terrainHeightsWrong : ChangeSpec := { name := "terrainHeights", fn := fun _ => fun
  | [d1, d2, d3, d4, d5] => { results := [.lit (.bool false)], args := [d1, d2, d3, d4, d5] }
  | _ => none }
def TerrainHeightsWrongFalsely : Prop := terrainHeightsRow.holds Tryz.pinned (OpenSpec.ofChange terrainHeightsWrong)

/-- 'theodolitelaw11.TerrainNear': WHATEVER THE INPUT: true; the input reads as it did. -/
def terrainNearSpec : ChangeSpec := { name := "terrainNear", fn := fun _ => fun
  | [d1, d2, d3, d4] => { results := [.lit (.bool true)], args := [d1, d2, d3, d4] }
  | _ => none }
def terrainNearRow : OpenClaim := { program := "ytlkjcamjgaecgaagreat", sum := "23c3383e0f50c0dab33fe29ddc639df89fb8de6a0ab8db3fca907a4dedbd1e4d", func := "theodolite/theodolitelaw11.TerrainNear", spec := "terrainNear", inPlace := ["math/bits.Sub64", "math/bits.Add64"], unfollowed := true, recurses := true, named := ["math/bits.divideError", "math/bits.overflowError"], apart := false }
def TerrainNearSaid : Prop := terrainNearRow.holds Tryz.pinned (OpenSpec.ofChange terrainNearSpec)

/-- ITS FALSE NEIGHBOUR: 'it returns false'. Refute it at one input. -/
def terrainNearWrong : ChangeSpec := { name := "terrainNear", fn := fun _ => fun
  | [d1, d2, d3, d4] => { results := [.lit (.bool false)], args := [d1, d2, d3, d4] }
  | _ => none }
def TerrainNearWrongFalsely : Prop := terrainNearRow.holds Tryz.pinned (OpenSpec.ofChange terrainNearWrong)

/-- 'theodolitelaw11.TerrainSlopes': WHATEVER THE INPUT: true; the input reads as it did. -/
def terrainSlopesSpec : ChangeSpec := { name := "terrainSlopes", fn := fun _ => fun
  | [d1, d2, d3, d4] => { results := [.lit (.bool true)], args := [d1, d2, d3, d4] }
  | _ => none }
def terrainSlopesRow : OpenClaim := { program := "ytlkjcamjgaecgaagreat", sum := "23c3383e0f50c0dab33fe29ddc639df89fb8de6a0ab8db3fca907a4dedbd1e4d", func := "theodolite/theodolitelaw11.TerrainSlopes", spec := "terrainSlopes", inPlace := ["math/bits.Sub64", "math/bits.Add64"], unfollowed := true, recurses := true, named := ["math/bits.divideError", "math/bits.overflowError"], apart := false }
def TerrainSlopesSaid : Prop := terrainSlopesRow.holds Tryz.pinned (OpenSpec.ofChange terrainSlopesSpec)

/-- ITS FALSE NEIGHBOUR: 'it returns false'. Refute it at one input. -/
def terrainSlopesWrong : ChangeSpec := { name := "terrainSlopes", fn := fun _ => fun
  | [d1, d2, d3, d4] => { results := [.lit (.bool false)], args := [d1, d2, d3, d4] }
  | _ => none }
def TerrainSlopesWrongFalsely : Prop := terrainSlopesRow.holds Tryz.pinned (OpenSpec.ofChange terrainSlopesWrong)

/-- 'theodolitelaw11.TerrainRough': WHATEVER THE INPUT: true; the input reads as it did. -/
def terrainRoughSpec : ChangeSpec := { name := "terrainRough", fn := fun _ => fun
  | [d1, d2, d3, d4, d5, d6, d7] => { results := [.lit (.bool true)], args := [d1, d2, d3, d4, d5, d6, d7] }
  | _ => none }
def terrainRoughRow : OpenClaim := { program := "ytlkjcamjgaecgaagreat", sum := "23c3383e0f50c0dab33fe29ddc639df89fb8de6a0ab8db3fca907a4dedbd1e4d", func := "theodolite/theodolitelaw11.TerrainRough", spec := "terrainRough", inPlace := ["math/bits.Sub64", "math/bits.Add64"], unfollowed := true, recurses := true, named := ["math/bits.divideError", "math/bits.overflowError"], apart := false }
def TerrainRoughSaid : Prop := terrainRoughRow.holds Tryz.pinned (OpenSpec.ofChange terrainRoughSpec)

/-- ITS FALSE NEIGHBOUR: 'it returns false'. Refute it at one input. -/
def terrainRoughWrong : ChangeSpec := { name := "terrainRough", fn := fun _ => fun
  | [d1, d2, d3, d4, d5, d6, d7] => { results := [.lit (.bool false)], args := [d1, d2, d3, d4, d5, d6, d7] }
  | _ => none }
def TerrainRoughWrongFalsely : Prop := terrainRoughRow.holds Tryz.pinned (OpenSpec.ofChange terrainRoughWrong)

/-- 'theodolitelaw11.TerrainPlaces': WHATEVER THE INPUT: true; the input reads as it did. -/
def terrainPlacesSpec : ChangeSpec := { name := "terrainPlaces", fn := fun _ => fun
  | [d1, d2, d3, d4, d5, d6] => { results := [.lit (.bool true)], args := [d1, d2, d3, d4, d5, d6] }
  | _ => none }
def terrainPlacesRow : OpenClaim := { program := "ytlkjcamjgaecgaagreat", sum := "23c3383e0f50c0dab33fe29ddc639df89fb8de6a0ab8db3fca907a4dedbd1e4d", func := "theodolite/theodolitelaw11.TerrainPlaces", spec := "terrainPlaces", inPlace := ["math/bits.Sub64", "math/bits.Add64"], unfollowed := true, recurses := true, named := ["math/bits.divideError", "math/bits.overflowError"], apart := false }
def TerrainPlacesSaid : Prop := terrainPlacesRow.holds Tryz.pinned (OpenSpec.ofChange terrainPlacesSpec)

/-- ITS FALSE NEIGHBOUR: 'it returns false'. Refute it at one input. -/
def terrainPlacesWrong : ChangeSpec := { name := "terrainPlaces", fn := fun _ => fun
  | [d1, d2, d3, d4, d5, d6] => { results := [.lit (.bool false)], args := [d1, d2, d3, d4, d5, d6] }
  | _ => none }
def TerrainPlacesWrongFalsely : Prop := terrainPlacesRow.holds Tryz.pinned (OpenSpec.ofChange terrainPlacesWrong)

/- THE SECOND FORM. 'bulk': how many values and letters a reading holds, each counted each time it is reached (what is shared counts as often as it is met; a slice's spare places count too). A statement '..UptoSaid' is the law's where the arguments, and the package variables that the reading takes, are together of bulk at most 1048576: NARROWER than '..Said'. Prove '..Said' where nothing that the law and all that it calls make is longer than what came in: it says more and counts as full. Else prove '..UptoSaid'. A law counts once. -/
mutual
def uptoBulk {H : Type} : DataW H → Nat
  | .lit (.string bytes) => bytes.length + 1
  | .lit _ => 1
  | .nil => 1
  | .ptr d => uptoBulk d + 1
  | .slice elems spare => uptoBulkAll elems + uptoBulkAll spare + 1
  | .agg parts => uptoBulkAll parts + 1
  | .iface _ d => uptoBulk d + 1
  | .map entries => uptoBulkEntries entries + 1
  | .held _ => 1
def uptoBulkAll {H : Type} : List (DataW H) → Nat
  | [] => 0
  | d :: r => uptoBulk d + uptoBulkAll r
def uptoBulkEntries {H : Type} : List (Lit × DataW H) → Nat
  | [] => 0
  | x :: r => uptoBulkEntry x + uptoBulkEntries r
def uptoBulkEntry {H : Type} : Lit × DataW H → Nat
  | (.string bytes, d) => bytes.length + uptoBulk d + 1
  | (_, d) => uptoBulk d + 1
 end
def uptoSmall : (H : Type) → List (DataW H) → Bool := fun _ ds => decide (uptoBulkAll ds ≤ 1048576)
def OpenSpec.upto (s : _root_.Go.ChangeSpec) : _root_.Go.OpenSpec := { _root_.Go.OpenSpec.ofChange s with cond := some uptoSmall }

/-- 'theodolitelaw11.TerrainHeights', WHERE WHAT IT READS IS OF BULK AT MOST 1048576: true; the input reads as it did. -/
def terrainHeightsUptoRow : OpenClaim := { program := "ytlkjcamjgaecgaagreat", sum := "23c3383e0f50c0dab33fe29ddc639df89fb8de6a0ab8db3fca907a4dedbd1e4d", func := "theodolite/theodolitelaw11.TerrainHeights", spec := "terrainHeights", inPlace := ["math/bits.Sub64", "math/bits.Add64"], unfollowed := true, recurses := true, named := ["math/bits.divideError", "math/bits.overflowError"], apart := false, narrowed := true }
def TerrainHeightsUptoSaid : Prop := terrainHeightsUptoRow.holds Tryz.pinned (OpenSpec.upto terrainHeightsSpec)

/-- 'theodolitelaw11.TerrainNear', WHERE WHAT IT READS IS OF BULK AT MOST 1048576: true; the input reads as it did. -/
def terrainNearUptoRow : OpenClaim := { program := "ytlkjcamjgaecgaagreat", sum := "23c3383e0f50c0dab33fe29ddc639df89fb8de6a0ab8db3fca907a4dedbd1e4d", func := "theodolite/theodolitelaw11.TerrainNear", spec := "terrainNear", inPlace := ["math/bits.Sub64", "math/bits.Add64"], unfollowed := true, recurses := true, named := ["math/bits.divideError", "math/bits.overflowError"], apart := false, narrowed := true }
def TerrainNearUptoSaid : Prop := terrainNearUptoRow.holds Tryz.pinned (OpenSpec.upto terrainNearSpec)

/-- 'theodolitelaw11.TerrainSlopes', WHERE WHAT IT READS IS OF BULK AT MOST 1048576: true; the input reads as it did. -/
def terrainSlopesUptoRow : OpenClaim := { program := "ytlkjcamjgaecgaagreat", sum := "23c3383e0f50c0dab33fe29ddc639df89fb8de6a0ab8db3fca907a4dedbd1e4d", func := "theodolite/theodolitelaw11.TerrainSlopes", spec := "terrainSlopes", inPlace := ["math/bits.Sub64", "math/bits.Add64"], unfollowed := true, recurses := true, named := ["math/bits.divideError", "math/bits.overflowError"], apart := false, narrowed := true }
def TerrainSlopesUptoSaid : Prop := terrainSlopesUptoRow.holds Tryz.pinned (OpenSpec.upto terrainSlopesSpec)

/-- 'theodolitelaw11.TerrainRough', WHERE WHAT IT READS IS OF BULK AT MOST 1048576: true; the input reads as it did. -/
def terrainRoughUptoRow : OpenClaim := { program := "ytlkjcamjgaecgaagreat", sum := "23c3383e0f50c0dab33fe29ddc639df89fb8de6a0ab8db3fca907a4dedbd1e4d", func := "theodolite/theodolitelaw11.TerrainRough", spec := "terrainRough", inPlace := ["math/bits.Sub64", "math/bits.Add64"], unfollowed := true, recurses := true, named := ["math/bits.divideError", "math/bits.overflowError"], apart := false, narrowed := true }
def TerrainRoughUptoSaid : Prop := terrainRoughUptoRow.holds Tryz.pinned (OpenSpec.upto terrainRoughSpec)

/-- 'theodolitelaw11.TerrainPlaces', WHERE WHAT IT READS IS OF BULK AT MOST 1048576: true; the input reads as it did. -/
def terrainPlacesUptoRow : OpenClaim := { program := "ytlkjcamjgaecgaagreat", sum := "23c3383e0f50c0dab33fe29ddc639df89fb8de6a0ab8db3fca907a4dedbd1e4d", func := "theodolite/theodolitelaw11.TerrainPlaces", spec := "terrainPlaces", inPlace := ["math/bits.Sub64", "math/bits.Add64"], unfollowed := true, recurses := true, named := ["math/bits.divideError", "math/bits.overflowError"], apart := false, narrowed := true }
def TerrainPlacesUptoSaid : Prop := terrainPlacesUptoRow.holds Tryz.pinned (OpenSpec.upto terrainPlacesSpec)

end Rows
end Go.Proofs.YtlkjcamjgaecgaaGreat
