/-
  DERIVED. GIVEN WITH THE SEED: THE CARDS: each row of YtanblpfpkohghaaDoorRows.lean that lists a variable, with what it lists TIED to the program's text (the seventh form; the later family's looks); each row that meets fmt, with fmt's text TOLD by the authors' own Lean function (tested against real Go, not proved from fmt's source: count such statements apart). THE CARD IS WHAT COUNTS. Prove the row's statement (the work); the ties are given (YtanblpfpkohghaaDoorTie.lean); close each card by the builder's one call (the guide's Derived/Test/ToyasCard.lean, 'card_holds'). Laid BY PROGRAM, IN A SANDBOX (cutbox-door.mjs). By AI agents, Wed Nov 11 2026. No macro, syntax, notation, axiom, sorry.
-/
import Derived.Test.YtanblpfpkohghaaDoorRows
import GoSem.ClaimSeven
namespace Go.Proofs.YtanblpfpkohghaaDoor
namespace Rows

/-- THE TIED CARD OF 'theodolitelaw17.ExactDoes'. -/
def exactDoesCard : Claim7 := { stood := { row := exactDoesRow, standIns := [], harness := (true, "e35ed7a45930c44f7349f4b68b4e2c5f131b8d689bdfdb010e9877cb4a62f98a"), looks := false }, kinds := [], alts := [], laidByText := true, laidKinds := [.data], laidTests := true, laidLooks := .later }
def ExactDoesCardSaid : Prop := Claim7.holds Tryd.pinned (.plain (OpenSpec.ofChange exactDoesSpec)) exactDoesCard

/-- THE TIED CARD OF 'theodolitelaw17.ExactOver'. -/
def exactOverCard : Claim7 := { stood := { row := exactOverRow, standIns := [], harness := (true, "e35ed7a45930c44f7349f4b68b4e2c5f131b8d689bdfdb010e9877cb4a62f98a"), looks := false }, kinds := [], alts := [], laidByText := true, laidKinds := [.data], laidTests := true, laidLooks := .later }
def ExactOverCardSaid : Prop := Claim7.holds Tryd.pinned (.plain (OpenSpec.ofChange exactOverSpec)) exactOverCard

/-- THE TIED CARD OF 'theodolitelaw17.ExactTriangle'. -/
def exactTriangleCard : Claim7 := { stood := { row := exactTriangleRow, standIns := [], harness := (true, "e35ed7a45930c44f7349f4b68b4e2c5f131b8d689bdfdb010e9877cb4a62f98a"), looks := false }, kinds := [], alts := [], laidByText := true, laidKinds := [.data], laidTests := true, laidLooks := .later }
def ExactTriangleCardSaid : Prop := Claim7.holds Tryd.pinned (.plain (OpenSpec.ofChange exactTriangleSpec)) exactTriangleCard

/-- THE SECOND FORM's CARD OF 'theodolitelaw17.ExactDoes'. -/
def exactDoesUptoCard : Claim7 := { stood := { row := exactDoesUptoRow, standIns := [], harness := (true, "e35ed7a45930c44f7349f4b68b4e2c5f131b8d689bdfdb010e9877cb4a62f98a"), looks := false }, kinds := [], alts := [], laidByText := true, laidKinds := [.data], laidTests := true, laidLooks := .later }
def ExactDoesUptoCardSaid : Prop := Claim7.holds Tryd.pinned (.plain (OpenSpec.upto exactDoesSpec)) exactDoesUptoCard

/-- THE SECOND FORM's CARD OF 'theodolitelaw17.ExactOver'. -/
def exactOverUptoCard : Claim7 := { stood := { row := exactOverUptoRow, standIns := [], harness := (true, "e35ed7a45930c44f7349f4b68b4e2c5f131b8d689bdfdb010e9877cb4a62f98a"), looks := false }, kinds := [], alts := [], laidByText := true, laidKinds := [.data], laidTests := true, laidLooks := .later }
def ExactOverUptoCardSaid : Prop := Claim7.holds Tryd.pinned (.plain (OpenSpec.upto exactOverSpec)) exactOverUptoCard

/-- THE SECOND FORM's CARD OF 'theodolitelaw17.ExactTriangle'. -/
def exactTriangleUptoCard : Claim7 := { stood := { row := exactTriangleUptoRow, standIns := [], harness := (true, "e35ed7a45930c44f7349f4b68b4e2c5f131b8d689bdfdb010e9877cb4a62f98a"), looks := false }, kinds := [], alts := [], laidByText := true, laidKinds := [.data], laidTests := true, laidLooks := .later }
def ExactTriangleUptoCardSaid : Prop := Claim7.holds Tryd.pinned (.plain (OpenSpec.upto exactTriangleSpec)) exactTriangleUptoCard
end Rows
end Go.Proofs.YtanblpfpkohghaaDoor
