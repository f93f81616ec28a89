/-
  The arguments of layer 11's laws: places.
-/
import Derived.Test.YtlkjcamjgaecgaaGreatSpots
import Derived.Test.YtlkjcamjgaecgaaGreatOpen
import Derived.Test.YtlkjcamjgaecgaaGreatOpenW
set_option linter.unusedVariables false
set_option linter.unusedSimpArgs false
namespace Go.Proofs.YtlkjcamjgaecgaaGreat
open Go Go.RowKit Go.ChangeShapes Go.WideShapes Go.ChangeAt Go.Deep Go.Th

set_option maxRecDepth 100000 in
theorem rd_spots {H : Type} {enc : TypeId × Value → H} {W : World} {base : Nat} {spare : Nat → Bool} {held : Bool} {r : Reach} {b0 : Nat} {v : Value} {d : DataW H} {p : List MemPlace}
    (hv : Value.okWide Tryz.prog W r b0 23 v) (h : DataW.Trod enc Tryz.prog W base spare held 23 v d p) :
    ∃ a cap, ∃ ps : List (Int × Int), v = .slice a ps.length cap ∧ Sl W 2 (.slice a ps.length cap) ps.length (spts ps) ∧ ∀ s ∈ ps, (-9223372036854775808 ≤ s.1 ∧ s.1 ≤ 9223372036854775807) ∧ -9223372036854775808 ≤ s.2 ∧ s.2 ≤ 9223372036854775807 := by
  obtain ⟨a0, l0, c0, rfl⟩ := okWide_slice Tryz.underlying23 hv
  obtain ⟨a, cap, zs, h1, h2, h3⟩ := rd_pairs (k0 := .i64) (k1 := .i64) Tryz.underlying23 Tryz.underlying37 (by kernel_rfl) Tryz.underlying2 Tryz.underlying2 ⟨rfl, rfl, by kernel_rfl, by kernel_rfl⟩ ⟨_, _, _, rfl⟩ h
  exact ⟨a, cap, zs, h1, by rw [← h1]; exact h2, fun s hs => ⟨wf_i64 (h3 s hs).1, wf_i64 (h3 s hs).2⟩⟩
end Go.Proofs.YtlkjcamjgaecgaaGreat
