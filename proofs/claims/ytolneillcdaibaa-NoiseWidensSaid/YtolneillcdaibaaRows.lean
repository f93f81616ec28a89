/-
  No cell of these rows narrows 'for every input' (looked for: loops, veiled, ifaces, maps, wideKeys, modest, calm, conditions, laid).
  DERIVED. THE GIVEN ROWS OF THIS SEAT. 3 by the template 'for every input the law returns true; each argument reads behind the call as it read before'; 0 by the template 'total and deterministic' (their statements: YtolneillcdaibaaTotals.lean).
  GIVEN WITH THE SEED: the statements are not yours to turn. If you find one false, say at which input.
  Laid BY PROGRAM, IN A SANDBOX (cutbox-rows.mjs): the forced cells as the released guide's own fill.sh prints them over the translation 164c350190e4ed77… (all of the seat's roots in one cut). By AI agents, Wed Nov 11 2026. No macro, syntax, notation, axiom, sorry.
-/
import Derived.Test.YtolneillcdaibaaChecked
import GoSem.Claim
import GoSem.ClaimJoined
import GoSem.ClaimMapViews
import Derived.JoinedTies
import Derived.KernelRfl
namespace Go.Proofs.Ytolneillcdaibaa
/- THE CELL 'sum', in the pinned program and in every row, IS THE sha256 OF THE DUMP (.gsa) THAT YtolneillcdaibaaProg.lean LOADS. Nothing in Lean hashes anything: it is a label: what it is worth is what the hold of that sum in a sandbox is worth. -/
noncomputable def Try.pinned : Pinned := { name := "ytolneillcdaibaa", sum := "164c350190e4ed779d189db006fb1c8e7bc54ded01366bf48d13b0c379a0410e", checked := Try.checked }
namespace Rows
def none {H : Type} : Left H := { results := [], args := [] }

/-- 'theodolitelaw13.NoiseTells': WHATEVER THE INPUT: true; the input reads as it did. -/
def noiseTellsSpec : ChangeSpec := { name := "noiseTells", fn := fun _ => fun
  | [d1, d2] => { results := [.lit (.bool true)], args := [d1, d2] }
  | _ => none }
def noiseTellsRow : OpenClaim := { program := "ytolneillcdaibaa", sum := "164c350190e4ed779d189db006fb1c8e7bc54ded01366bf48d13b0c379a0410e", func := "theodolite/theodolitelaw13.NoiseTells", spec := "noiseTells", inPlace := ["math/bits.Sub64", "math/bits.Add64"], unfollowed := true, recurses := true, named := ["math/bits.divideError", "math/bits.overflowError"], apart := false }
def NoiseTellsSaid : Prop := noiseTellsRow.holds Try.pinned (OpenSpec.ofChange noiseTellsSpec)

/-- ITS FALSE NEIGHBOUR: 'it returns false'. Refute it at one input. -/
def noiseTellsWrong : ChangeSpec := { name := "noiseTells", fn := fun _ => fun
  | [d1, d2] => { results := [.lit (.bool false)], args := [d1, d2] }
  | _ => none }
def NoiseTellsWrongFalsely : Prop := noiseTellsRow.holds Try.pinned (OpenSpec.ofChange noiseTellsWrong)

/-- 'theodolitelaw13.NoiseBell': WHATEVER THE INPUT: true; the input reads as it did. -/
def noiseBellSpec : ChangeSpec := { name := "noiseBell", fn := fun _ => fun
  | [d1, d2, d3, d4] => { results := [.lit (.bool true)], args := [d1, d2, d3, d4] }
  | _ => none }
def noiseBellRow : OpenClaim := { program := "ytolneillcdaibaa", sum := "164c350190e4ed779d189db006fb1c8e7bc54ded01366bf48d13b0c379a0410e", func := "theodolite/theodolitelaw13.NoiseBell", spec := "noiseBell", inPlace := ["math/bits.Sub64", "math/bits.Add64"], unfollowed := true, recurses := true, named := ["math/bits.divideError", "math/bits.overflowError"], apart := false }
def NoiseBellSaid : Prop := noiseBellRow.holds Try.pinned (OpenSpec.ofChange noiseBellSpec)

/-- ITS FALSE NEIGHBOUR: 'it returns false'. Refute it at one input. -/
def noiseBellWrong : ChangeSpec := { name := "noiseBell", fn := fun _ => fun
  | [d1, d2, d3, d4] => { results := [.lit (.bool false)], args := [d1, d2, d3, d4] }
  | _ => none }
def NoiseBellWrongFalsely : Prop := noiseBellRow.holds Try.pinned (OpenSpec.ofChange noiseBellWrong)

/-- 'theodolitelaw13.NoiseWidens': WHATEVER THE INPUT: true; the input reads as it did. -/
def noiseWidensSpec : ChangeSpec := { name := "noiseWidens", fn := fun _ => fun
  | [d1, d2, d3, d4] => { results := [.lit (.bool true)], args := [d1, d2, d3, d4] }
  | _ => none }
def noiseWidensRow : OpenClaim := { program := "ytolneillcdaibaa", sum := "164c350190e4ed779d189db006fb1c8e7bc54ded01366bf48d13b0c379a0410e", func := "theodolite/theodolitelaw13.NoiseWidens", spec := "noiseWidens", inPlace := ["math/bits.Sub64", "math/bits.Add64"], unfollowed := true, recurses := true, named := ["math/bits.divideError", "math/bits.overflowError"], apart := false }
def NoiseWidensSaid : Prop := noiseWidensRow.holds Try.pinned (OpenSpec.ofChange noiseWidensSpec)

/-- ITS FALSE NEIGHBOUR: 'it returns false'. Refute it at one input. -/
def noiseWidensWrong : ChangeSpec := { name := "noiseWidens", fn := fun _ => fun
  | [d1, d2, d3, d4] => { results := [.lit (.bool false)], args := [d1, d2, d3, d4] }
  | _ => none }
def NoiseWidensWrongFalsely : Prop := noiseWidensRow.holds Try.pinned (OpenSpec.ofChange noiseWidensWrong)

/- THE SECOND FORM. 'bulk': how many values and letters a reading holds, each counted each time it is reached (what is shared counts as often as it is met; a slice's spare places count too). A statement '..UptoSaid' is the law's where the arguments, and the package variables that the reading takes, are together of bulk at most 1048576: NARROWER than '..Said'. Prove '..Said' where nothing that the law and all that it calls make is longer than what came in: it says more and counts as full. Else prove '..UptoSaid'. A law counts once. -/
mutual
def uptoBulk {H : Type} : DataW H → Nat
  | .lit (.string bytes) => bytes.length + 1
  | .lit _ => 1
  | .nil => 1
  | .ptr d => uptoBulk d + 1
  | .slice elems spare => uptoBulkAll elems + uptoBulkAll spare + 1
  | .agg parts => uptoBulkAll parts + 1
  | .iface _ d => uptoBulk d + 1
  | .map entries => uptoBulkEntries entries + 1
  | .held _ => 1
def uptoBulkAll {H : Type} : List (DataW H) → Nat
  | [] => 0
  | d :: r => uptoBulk d + uptoBulkAll r
def uptoBulkEntries {H : Type} : List (Lit × DataW H) → Nat
  | [] => 0
  | x :: r => uptoBulkEntry x + uptoBulkEntries r
def uptoBulkEntry {H : Type} : Lit × DataW H → Nat
  | (.string bytes, d) => bytes.length + uptoBulk d + 1
  | (_, d) => uptoBulk d + 1
 end
def uptoSmall : (H : Type) → List (DataW H) → Bool := fun _ ds => decide (uptoBulkAll ds ≤ 1048576)
def OpenSpec.upto (s : _root_.Go.ChangeSpec) : _root_.Go.OpenSpec := { _root_.Go.OpenSpec.ofChange s with cond := some uptoSmall }

/-- 'theodolitelaw13.NoiseTells', WHERE WHAT IT READS IS OF BULK AT MOST 1048576: true; the input reads as it did. -/
def noiseTellsUptoRow : OpenClaim := { program := "ytolneillcdaibaa", sum := "164c350190e4ed779d189db006fb1c8e7bc54ded01366bf48d13b0c379a0410e", func := "theodolite/theodolitelaw13.NoiseTells", spec := "noiseTells", inPlace := ["math/bits.Sub64", "math/bits.Add64"], unfollowed := true, recurses := true, named := ["math/bits.divideError", "math/bits.overflowError"], apart := false, narrowed := true }
def NoiseTellsUptoSaid : Prop := noiseTellsUptoRow.holds Try.pinned (OpenSpec.upto noiseTellsSpec)

/-- 'theodolitelaw13.NoiseBell', WHERE WHAT IT READS IS OF BULK AT MOST 1048576: true; the input reads as it did. -/
def noiseBellUptoRow : OpenClaim := { program := "ytolneillcdaibaa", sum := "164c350190e4ed779d189db006fb1c8e7bc54ded01366bf48d13b0c379a0410e", func := "theodolite/theodolitelaw13.NoiseBell", spec := "noiseBell", inPlace := ["math/bits.Sub64", "math/bits.Add64"], unfollowed := true, recurses := true, named := ["math/bits.divideError", "math/bits.overflowError"], apart := false, narrowed := true }
def NoiseBellUptoSaid : Prop := noiseBellUptoRow.holds Try.pinned (OpenSpec.upto noiseBellSpec)

/-- 'theodolitelaw13.NoiseWidens', WHERE WHAT IT READS IS OF BULK AT MOST 1048576: true; the input reads as it did. -/
def noiseWidensUptoRow : OpenClaim := { program := "ytolneillcdaibaa", sum := "164c350190e4ed779d189db006fb1c8e7bc54ded01366bf48d13b0c379a0410e", func := "theodolite/theodolitelaw13.NoiseWidens", spec := "noiseWidens", inPlace := ["math/bits.Sub64", "math/bits.Add64"], unfollowed := true, recurses := true, named := ["math/bits.divideError", "math/bits.overflowError"], apart := false, narrowed := true }
def NoiseWidensUptoSaid : Prop := noiseWidensUptoRow.holds Try.pinned (OpenSpec.upto noiseWidensSpec)

end Rows
end Go.Proofs.Ytolneillcdaibaa
