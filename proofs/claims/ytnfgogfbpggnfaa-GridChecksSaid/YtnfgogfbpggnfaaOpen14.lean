/-
  What a struct of five integers and a row that came in reads as.
-/
import Derived.Test.YtnfgogfbpggnfaaRows
import Derived.Test.YtnfgogfbpggnfaaOpen
import Derived.ProofKit
import Derived.OpenShut
import Derived.ChangeSame
set_option linter.unusedVariables false
set_option linter.unusedSimpArgs false
namespace Go.Proofs.Ytnfgogfbpggnfaa
open Go Go.RowKit Go.ChangeShapes Go.WideShapes Go.ChangeAt Go.Th

theorem rd_grid {H : Type} {enc : TypeId × Value → H} {P : Program} {w : World} {base base' : Nat} {spare : Nat → Bool} {held : Bool} {r : Reach} {t te : TypeId} {f0 f1 f2 f3 f4 f5 : Field} {k0 k1 k2 k3 k4 k5 : IntKind} {v : Value} {d : DataW H} {p : List MemPlace}
    (ht : P.underlying t = some (.struct #[f0, f1, f2, f3, f4, f5])) (hc : P.cellsOf t = 6) (h0 : P.underlying f0.type = some (.int k0)) (h1 : P.underlying f1.type = some (.int k1)) (h2 : P.underlying f2.type = some (.int k2)) (h3 : P.underlying f3.type = some (.int k3)) (h4 : P.underlying f4.type = some (.int k4))
    (h5 : P.underlying f5.type = some (.slice te)) (he : P.underlying te = some (.int k5)) (hce : P.cellsOf te = 1)
    (ho : (f0.offset = 0 ∧ P.cellsOf f0.type = 1) ∧ (f1.offset = 1 ∧ P.cellsOf f1.type = 1) ∧ (f2.offset = 2 ∧ P.cellsOf f2.type = 1) ∧ (f3.offset = 3 ∧ P.cellsOf f3.type = 1) ∧ (f4.offset = 4 ∧ P.cellsOf f4.type = 1) ∧ f5.offset = 5 ∧ P.cellsOf f5.type = 1)
    (okw : Value.okWide P w r base' t v) (h : DataW.Trod enc P w base spare held t v d p) :
    ∃ z0 z1 z2 z3 z4 a cap, ∃ zs : List Int, v = .agg #[.int k0 z0, .int k1 z1, .int k2 z2, .int k3 z3, .int k4 z4, .slice a zs.length cap] ∧ Sl w 1 (.slice a zs.length cap) zs.length (zs.map (.int k5)) := by
  obtain ⟨cs, rfl, hsz⟩ := okWide_struct ht okw
  rw [hc] at hsz
  obtain ⟨fuel, hf⟩ := h
  obtain ⟨ys, n', _, _, _, hyl, hfl⟩ := DataW.trod_struct ht hf
  match cs, hsz with
  | ⟨[u0, u1, u2, u3, u4, u5]⟩, _ =>
    have g0 := hfl 0 f0 rfl
    have g1 := hfl 1 f1 rfl
    have g2 := hfl 2 f2 rfl
    have g3 := hfl 3 f3 rfl
    have g4 := hfl 4 f4 rfl
    have g5 := hfl 5 f5 rfl
    rw [ho.1.1, ho.1.2] at g0
    rw [ho.2.1.1, ho.2.1.2] at g1
    rw [ho.2.2.1.1, ho.2.2.1.2] at g2
    rw [ho.2.2.2.1.1, ho.2.2.2.1.2] at g3
    rw [ho.2.2.2.2.1.1, ho.2.2.2.2.1.2] at g4
    rw [ho.2.2.2.2.2.1, ho.2.2.2.2.2.2] at g5
    match ys, hyl with
    | [y0, y1, y2, y3, y4, y5], _ =>
      obtain ⟨z0, e0, _, _⟩ := DataW.trod_int h0 (x := y0) (by simpa [Value.cells] using g0)
      obtain ⟨z1, e1, _, _⟩ := DataW.trod_int h1 (x := y1) (by simpa [Value.cells] using g1)
      obtain ⟨z2, e2, _, _⟩ := DataW.trod_int h2 (x := y2) (by simpa [Value.cells] using g2)
      obtain ⟨z3, e3, _, _⟩ := DataW.trod_int h3 (x := y3) (by simpa [Value.cells] using g3)
      obtain ⟨z4, e4, _, _⟩ := DataW.trod_int h4 (x := y4) (by simpa [Value.cells] using g4)
      have g6 : DataW.trod enc P w base spare held n' f5.type [u5] = some y5 := by simpa [Value.cells] using g5
      have hv : ∃ a l c, u5 = .slice a l c := by
        rcases open_ints h5 he hce g6 with ⟨hcs, _⟩ | ⟨x, l, c, zs, hcs, _⟩
        · simp at hcs; exact ⟨_, _, _, hcs⟩
        · simp at hcs; exact ⟨_, _, _, hcs⟩
      obtain ⟨a, l, c, rfl⟩ := hv
      obtain ⟨a', c', zs, e5, s5, _⟩ := rd_ints (v := .slice a l c) (d := y5.1) (p := y5.2) h5 he hce ⟨_, _, _, rfl⟩ ⟨n', by simpa [Value.cells] using g6⟩
      simp at e0 e1 e2 e3 e4
      subst e0 e1 e2 e3 e4
      rw [e5] at s5 ⊢
      exact ⟨z0, z1, z2, z3, z4, a', c', zs, rfl, s5⟩
end Go.Proofs.Ytnfgogfbpggnfaa
