/-
  No cell of these rows narrows 'for every input' (looked for: loops, veiled, ifaces, maps, wideKeys, modest, calm, conditions, laid).
  DERIVED. THE GIVEN ROWS OF THIS SEAT. 5 by the template 'for every input the law returns true; each argument reads behind the call as it read before'; 0 by the template 'total and deterministic' (their statements: YtaofkoejlpchaaaTotals.lean).
  GIVEN WITH THE SEED: the statements are not yours to turn. If you find one false, say at which input.
  Laid BY PROGRAM, IN A SANDBOX (cutbox-rows.mjs): the forced cells as the released guide's own fill.sh prints them over the translation b624c84a998fdb6c… (all of the seat's roots in one cut). By AI agents, Wed Nov 11 2026. No macro, syntax, notation, axiom, sorry.
-/
import Derived.Test.YtaofkoejlpchaaaChecked
import GoSem.Claim
import GoSem.ClaimJoined
import GoSem.ClaimMapViews
import Derived.JoinedTies
import Derived.KernelRfl
namespace Go.Proofs.Ytaofkoejlpchaaa
/- THE CELL 'sum', in the pinned program and in every row, IS THE sha256 OF THE DUMP (.gsa) THAT YtaofkoejlpchaaaProg.lean LOADS. Nothing in Lean hashes anything: it is a label: what it is worth is what the hold of that sum in a sandbox is worth. -/
noncomputable def Try.pinned : Pinned := { name := "ytaofkoejlpchaaa", sum := "b624c84a998fdb6cbc24d280fb523b7ae94cf6a9f83dd4e24be6bf7a1f6409c5", checked := Try.checked }
namespace Rows
def none {H : Type} : Left H := { results := [], args := [] }

/-- 'theodolitelaw06.ExpoLogs': WHATEVER THE INPUT: true; the input reads as it did. -/
def expoLogsSpec : ChangeSpec := { name := "expoLogs", fn := fun _ => fun
  | [d] => { results := [.lit (.bool true)], args := [d] }
  | _ => none }
def expoLogsRow : OpenClaim := { program := "ytaofkoejlpchaaa", sum := "b624c84a998fdb6cbc24d280fb523b7ae94cf6a9f83dd4e24be6bf7a1f6409c5", func := "theodolite/theodolitelaw06.ExpoLogs", spec := "expoLogs", unfollowed := true, recurses := true, apart := false }
def ExpoLogsSaid : Prop := expoLogsRow.holds Try.pinned (OpenSpec.ofChange expoLogsSpec)

/-- ITS FALSE NEIGHBOUR: 'it returns false'. Refute it at one input. -/
def expoLogsWrong : ChangeSpec := { name := "expoLogs", fn := fun _ => fun
  | [d] => { results := [.lit (.bool false)], args := [d] }
  | _ => none }
def ExpoLogsWrongFalsely : Prop := expoLogsRow.holds Try.pinned (OpenSpec.ofChange expoLogsWrong)

/-- 'theodolitelaw06.ExpoRises': WHATEVER THE INPUT: true; the input reads as it did. -/
def expoRisesSpec : ChangeSpec := { name := "expoRises", fn := fun _ => fun
  | [d1, d2] => { results := [.lit (.bool true)], args := [d1, d2] }
  | _ => none }
def expoRisesRow : OpenClaim := { program := "ytaofkoejlpchaaa", sum := "b624c84a998fdb6cbc24d280fb523b7ae94cf6a9f83dd4e24be6bf7a1f6409c5", func := "theodolite/theodolitelaw06.ExpoRises", spec := "expoRises", unfollowed := true, recurses := true, apart := false }
def ExpoRisesSaid : Prop := expoRisesRow.holds Try.pinned (OpenSpec.ofChange expoRisesSpec)

/-- ITS FALSE NEIGHBOUR: 'it returns false'. Refute it at one input. -/
def expoRisesWrong : ChangeSpec := { name := "expoRises", fn := fun _ => fun
  | [d1, d2] => { results := [.lit (.bool false)], args := [d1, d2] }
  | _ => none }
def ExpoRisesWrongFalsely : Prop := expoRisesRow.holds Try.pinned (OpenSpec.ofChange expoRisesWrong)

/-- 'theodolitelaw06.ExpoPowers': WHATEVER THE INPUT: true; the input reads as it did. -/
def expoPowersSpec : ChangeSpec := { name := "expoPowers", fn := fun _ => fun
  | [d] => { results := [.lit (.bool true)], args := [d] }
  | _ => none }
def expoPowersRow : OpenClaim := { program := "ytaofkoejlpchaaa", sum := "b624c84a998fdb6cbc24d280fb523b7ae94cf6a9f83dd4e24be6bf7a1f6409c5", func := "theodolite/theodolitelaw06.ExpoPowers", spec := "expoPowers", unfollowed := true, recurses := true, apart := false }
def ExpoPowersSaid : Prop := expoPowersRow.holds Try.pinned (OpenSpec.ofChange expoPowersSpec)

/-- ITS FALSE NEIGHBOUR: 'it returns false'. Refute it at one input. -/
def expoPowersWrong : ChangeSpec := { name := "expoPowers", fn := fun _ => fun
  | [d] => { results := [.lit (.bool false)], args := [d] }
  | _ => none }
def ExpoPowersWrongFalsely : Prop := expoPowersRow.holds Try.pinned (OpenSpec.ofChange expoPowersWrong)

/-- 'theodolitelaw06.ExpoFalls': WHATEVER THE INPUT: true; the input reads as it did. -/
def expoFallsSpec : ChangeSpec := { name := "expoFalls", fn := fun _ => fun
  | [d1, d2] => { results := [.lit (.bool true)], args := [d1, d2] }
  | _ => none }
def expoFallsRow : OpenClaim := { program := "ytaofkoejlpchaaa", sum := "b624c84a998fdb6cbc24d280fb523b7ae94cf6a9f83dd4e24be6bf7a1f6409c5", func := "theodolite/theodolitelaw06.ExpoFalls", spec := "expoFalls", unfollowed := true, recurses := true, apart := false }
def ExpoFallsSaid : Prop := expoFallsRow.holds Try.pinned (OpenSpec.ofChange expoFallsSpec)

/-- ITS FALSE NEIGHBOUR: 'it returns false'. Refute it at one input. -/
def expoFallsWrong : ChangeSpec := { name := "expoFalls", fn := fun _ => fun
  | [d1, d2] => { results := [.lit (.bool false)], args := [d1, d2] }
  | _ => none }
def ExpoFallsWrongFalsely : Prop := expoFallsRow.holds Try.pinned (OpenSpec.ofChange expoFallsWrong)

/-- 'theodolitelaw06.ExpoSums': WHATEVER THE INPUT: true; the input reads as it did. -/
def expoSumsSpec : ChangeSpec := { name := "expoSums", fn := fun _ => fun
  | [d1, d2, d3] => { results := [.lit (.bool true)], args := [d1, d2, d3] }
  | _ => none }
def expoSumsRow : OpenClaim := { program := "ytaofkoejlpchaaa", sum := "b624c84a998fdb6cbc24d280fb523b7ae94cf6a9f83dd4e24be6bf7a1f6409c5", func := "theodolite/theodolitelaw06.ExpoSums", spec := "expoSums", unfollowed := true, recurses := true, apart := false }
def ExpoSumsSaid : Prop := expoSumsRow.holds Try.pinned (OpenSpec.ofChange expoSumsSpec)

/-- ITS FALSE NEIGHBOUR: 'it returns false'. Refute it at one input. -/
def expoSumsWrong : ChangeSpec := { name := "expoSums", fn := fun _ => fun
  | [d1, d2, d3] => { results := [.lit (.bool false)], args := [d1, d2, d3] }
  | _ => none }
def ExpoSumsWrongFalsely : Prop := expoSumsRow.holds Try.pinned (OpenSpec.ofChange expoSumsWrong)

/- THE SECOND FORM. 'bulk': how many values and letters a reading holds, each counted each time it is reached (what is shared counts as often as it is met; a slice's spare places count too). A statement '..UptoSaid' is the law's where the arguments, and the package variables that the reading takes, are together of bulk at most 1048576: NARROWER than '..Said'. Prove '..Said' where nothing that the law and all that it calls make is longer than what came in: it says more and counts as full. Else prove '..UptoSaid'. A law counts once. -/
mutual
def uptoBulk {H : Type} : DataW H → Nat
  | .lit (.string bytes) => bytes.length + 1
  | .lit _ => 1
  | .nil => 1
  | .ptr d => uptoBulk d + 1
  | .slice elems spare => uptoBulkAll elems + uptoBulkAll spare + 1
  | .agg parts => uptoBulkAll parts + 1
  | .iface _ d => uptoBulk d + 1
  | .map entries => uptoBulkEntries entries + 1
  | .held _ => 1
def uptoBulkAll {H : Type} : List (DataW H) → Nat
  | [] => 0
  | d :: r => uptoBulk d + uptoBulkAll r
def uptoBulkEntries {H : Type} : List (Lit × DataW H) → Nat
  | [] => 0
  | x :: r => uptoBulkEntry x + uptoBulkEntries r
def uptoBulkEntry {H : Type} : Lit × DataW H → Nat
  | (.string bytes, d) => bytes.length + uptoBulk d + 1
  | (_, d) => uptoBulk d + 1
 end
def uptoSmall : (H : Type) → List (DataW H) → Bool := fun _ ds => decide (uptoBulkAll ds ≤ 1048576)
def OpenSpec.upto (s : _root_.Go.ChangeSpec) : _root_.Go.OpenSpec := { _root_.Go.OpenSpec.ofChange s with cond := some uptoSmall }

/-- 'theodolitelaw06.ExpoLogs', WHERE WHAT IT READS IS OF BULK AT MOST 1048576: true; the input reads as it did. -/
def expoLogsUptoRow : OpenClaim := { program := "ytaofkoejlpchaaa", sum := "b624c84a998fdb6cbc24d280fb523b7ae94cf6a9f83dd4e24be6bf7a1f6409c5", func := "theodolite/theodolitelaw06.ExpoLogs", spec := "expoLogs", unfollowed := true, recurses := true, apart := false, narrowed := true }
def ExpoLogsUptoSaid : Prop := expoLogsUptoRow.holds Try.pinned (OpenSpec.upto expoLogsSpec)

/-- 'theodolitelaw06.ExpoRises', WHERE WHAT IT READS IS OF BULK AT MOST 1048576: true; the input reads as it did. -/
def expoRisesUptoRow : OpenClaim := { program := "ytaofkoejlpchaaa", sum := "b624c84a998fdb6cbc24d280fb523b7ae94cf6a9f83dd4e24be6bf7a1f6409c5", func := "theodolite/theodolitelaw06.ExpoRises", spec := "expoRises", unfollowed := true, recurses := true, apart := false, narrowed := true }
def ExpoRisesUptoSaid : Prop := expoRisesUptoRow.holds Try.pinned (OpenSpec.upto expoRisesSpec)

/-- 'theodolitelaw06.ExpoPowers', WHERE WHAT IT READS IS OF BULK AT MOST 1048576: true; the input reads as it did. -/
def expoPowersUptoRow : OpenClaim := { program := "ytaofkoejlpchaaa", sum := "b624c84a998fdb6cbc24d280fb523b7ae94cf6a9f83dd4e24be6bf7a1f6409c5", func := "theodolite/theodolitelaw06.ExpoPowers", spec := "expoPowers", unfollowed := true, recurses := true, apart := false, narrowed := true }
def ExpoPowersUptoSaid : Prop := expoPowersUptoRow.holds Try.pinned (OpenSpec.upto expoPowersSpec)

/-- 'theodolitelaw06.ExpoFalls', WHERE WHAT IT READS IS OF BULK AT MOST 1048576: true; the input reads as it did. -/
def expoFallsUptoRow : OpenClaim := { program := "ytaofkoejlpchaaa", sum := "b624c84a998fdb6cbc24d280fb523b7ae94cf6a9f83dd4e24be6bf7a1f6409c5", func := "theodolite/theodolitelaw06.ExpoFalls", spec := "expoFalls", unfollowed := true, recurses := true, apart := false, narrowed := true }
def ExpoFallsUptoSaid : Prop := expoFallsUptoRow.holds Try.pinned (OpenSpec.upto expoFallsSpec)

/-- 'theodolitelaw06.ExpoSums', WHERE WHAT IT READS IS OF BULK AT MOST 1048576: true; the input reads as it did. -/
def expoSumsUptoRow : OpenClaim := { program := "ytaofkoejlpchaaa", sum := "b624c84a998fdb6cbc24d280fb523b7ae94cf6a9f83dd4e24be6bf7a1f6409c5", func := "theodolite/theodolitelaw06.ExpoSums", spec := "expoSums", unfollowed := true, recurses := true, apart := false, narrowed := true }
def ExpoSumsUptoSaid : Prop := expoSumsUptoRow.holds Try.pinned (OpenSpec.upto expoSumsSpec)

end Rows
end Go.Proofs.Ytaofkoejlpchaaa
