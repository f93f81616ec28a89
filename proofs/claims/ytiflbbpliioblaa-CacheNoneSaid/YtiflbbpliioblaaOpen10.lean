/-
  The arguments of layer 10's laws: columns and rows.
-/
import Derived.Test.YtiflbbpliioblaaLaw10b
import Derived.Test.YtiflbbpliioblaaOpen
set_option linter.unusedVariables false
set_option linter.unusedSimpArgs false
namespace Go.Proofs.Ytiflbbpliioblaa
open Go Go.RowKit Go.ChangeShapes Go.WideShapes Go.ChangeAt Go.Deep Go.Th

set_option maxRecDepth 100000 in
theorem rd_ats {H : Type} {enc : TypeId × Value → H} {W : World} {base : Nat} {spare : Nat → Bool} {held : Bool} {r : Reach} {b0 : Nat} {v : Value} {d : DataW H} {p : List MemPlace}
    (hv : Value.okWide Try.prog W r b0 23 v) (h : DataW.Trod enc Try.prog W base spare held 23 v d p) :
    ∃ a cap, ∃ ps : List (Int × Int), v = .slice a ps.length cap ∧ Sl W 2 (.slice a ps.length cap) ps.length (ats ps) := by
  obtain ⟨a0, l0, c0, rfl⟩ := okWide_slice Try.underlying23 hv
  obtain ⟨a, cap, zs, h1, h2, h3⟩ := rd_pairs (k0 := .i64) (k1 := .i64) Try.underlying23 Try.underlying39 (by kernel_rfl) Try.underlying3 Try.underlying3 ⟨rfl, rfl, by kernel_rfl, by kernel_rfl⟩ ⟨_, _, _, rfl⟩ h
  exact ⟨a, cap, zs, h1, by rw [← h1]; exact h2⟩
end Go.Proofs.Ytiflbbpliioblaa
