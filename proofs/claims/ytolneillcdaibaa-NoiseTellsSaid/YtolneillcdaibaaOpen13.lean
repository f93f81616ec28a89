/-
  What a struct of three integers that came in reads as.
-/
import Derived.Test.YtolneillcdaibaaRows
import Derived.Test.YtolneillcdaibaaOpen
import Derived.ProofKit
import Derived.OpenShut
import Derived.ChangeSame
set_option linter.unusedVariables false
set_option linter.unusedSimpArgs false
namespace Go.Proofs.Ytolneillcdaibaa
open Go Go.RowKit Go.ChangeShapes Go.WideShapes Go.ChangeAt Go.Th

theorem rd_struct3 {H : Type} {enc : TypeId × Value → H} {P : Program} {w : World} {base base' : Nat} {spare : Nat → Bool} {held : Bool} {r : Reach} {t : TypeId} {f0 f1 f2 : Field} {k0 k1 k2 : IntKind} {v : Value} {d : DataW H} {p : List MemPlace}
    (ht : P.underlying t = some (.struct #[f0, f1, f2])) (hc : P.cellsOf t = 3) (h0 : P.underlying f0.type = some (.int k0)) (h1 : P.underlying f1.type = some (.int k1)) (h2 : P.underlying f2.type = some (.int k2))
    (ho : (f0.offset = 0 ∧ P.cellsOf f0.type = 1) ∧ (f1.offset = 1 ∧ P.cellsOf f1.type = 1) ∧ f2.offset = 2 ∧ P.cellsOf f2.type = 1)
    (okw : Value.okWide P w r base' t v) (h : DataW.Trod enc P w base spare held t v d p) :
    ∃ z0 z1 z2, v = .agg #[.int k0 z0, .int k1 z1, .int k2 z2] ∧ (Lit.int k0 z0).wf = true ∧ (Lit.int k1 z1).wf = true ∧ (Lit.int k2 z2).wf = true := by
  obtain ⟨cs, rfl, hsz⟩ := okWide_struct ht okw
  rw [hc] at hsz
  obtain ⟨fuel, hf⟩ := h
  obtain ⟨ys, n', _, _, _, hyl, hfl⟩ := DataW.trod_struct ht hf
  match cs, hsz with
  | ⟨[u0, u1, u2]⟩, _ =>
    have g0 := hfl 0 f0 rfl
    have g1 := hfl 1 f1 rfl
    have g2 := hfl 2 f2 rfl
    rw [ho.1.1, ho.1.2] at g0
    rw [ho.2.1.1, ho.2.1.2] at g1
    rw [ho.2.2.1, ho.2.2.2] at g2
    match ys, hyl with
    | [y0, y1, y2], _ =>
      obtain ⟨z0, e0, _, wf0⟩ := DataW.trod_int h0 (x := y0) (by simpa [Value.cells] using g0)
      obtain ⟨z1, e1, _, wf1⟩ := DataW.trod_int h1 (x := y1) (by simpa [Value.cells] using g1)
      obtain ⟨z2, e2, _, wf2⟩ := DataW.trod_int h2 (x := y2) (by simpa [Value.cells] using g2)
      simp at e0 e1 e2
      subst e0 e1 e2
      exact ⟨z0, z1, z2, rfl, wf0, wf1, wf2⟩
end Go.Proofs.Ytolneillcdaibaa
