/-
  For ranges over a function that makes memory: blocks that lie as they lay; a frame by a name; no way out by a panic.
-/
import Derived.RangeFuncFrom
import Derived.RangeFuncNested
import Derived.RangeFuncBox
import Derived.RangeFuncBound
import Derived.RangeFuncCalls
import Derived.RangeFuncLeaves
import Derived.Test.YtbjhbbiahmhdeaaPackBits
set_option linter.unusedVariables false
set_option linter.unusedSimpArgs false
namespace Go.Proofs.Ytbjhbbiahmhdeaa
open Go Go.RowKit Go.Th

/-- These blocks lie as they lay. -/
def KeptF (K : Nat → Prop) (W W' : World) : Prop := ∀ k, K k → W'.heap[k]? = W.heap[k]?
theorem KeptF.refl (K : Nat → Prop) (W : World) : KeptF K W W := fun _ _ => rfl
theorem KeptF.trans {K : Nat → Prop} {A B C : World} (h : KeptF K A B) (k : KeptF K B C) : KeptF K A C := fun j hj => (k j hj).trans (h j hj)
theorem keptF_b {K : Nat → Prop} {w : World} (hK : ∀ k, K k → k < w.heap.size) (W : World) (l : Nat) (o o' : Obj) (hl : w.heap.size ≤ l) (_ : W.heap[l]? = some o) (_ : o.isCells = false) (_ : o.isWalk = false) : KeptF K W (W.putObj l o') :=
  fun k hk => World.putObj_heap_other (by have := hK k hk; omega)
theorem KeptF.cell {K : Nat → Prop} {W W' : World} (h : KeptF K W W') {p : Addr} (hp : K p.block) : W'.cell? p = W.cell? p := World.cell?_of_block (w := W) (h p.block hp)
theorem KeptF.below {K : Nat → Prop} {W A B : World} (h : KeptF K W A) (hb : Below A.heap.size A B) (hK : ∀ k, K k → k < A.heap.size) : KeptF K W B := fun k hk => (hb.block k (hK k hk)).trans (h k hk)
theorem sl_keptF {K : Nat → Prop} {W W' : World} {n cap : Nat} {a : Option Addr} {xs : List Value} (h : Sl W 1 (.slice a n cap) n xs) (hk : KeptF K W W') (hK : ∀ p, a = some p → K p.block) : Sl W' 1 (.slice a n cap) n xs := by
  obtain ⟨a0, c0, he, h2, h3, h4, h6, h5⟩ := h
  cases he
  refine ⟨a, cap, rfl, h2, h3, h4, h6, fun j u hu => ?_⟩
  obtain ⟨b, o, ha, hc⟩ := h5 j u hu
  exact ⟨b, o, ha, (hk.cell (p := ⟨b, o + j, none⟩) (hK ⟨b, o, none⟩ ha)).trans hc⟩
theorem grown_below {W W' : World} (h : Below W.heap.size W W') : W.grownBy W' none := ⟨h.os, h.tape, h.output, h.size, fun k hk _ => h.block k hk⟩
theorem keepsFrom_below {B : Nat} {W W' : World} (h : Below W.heap.size W W') : KeepsFrom B W W' :=
  ⟨h.size, fun k o _ hk _ => (h.block k (Array.getElem?_eq_some_iff.1 hk).1).trans hk⟩
theorem blk_grown {W W' : World} {row : Option Nat} {g : Nat} {t : TypeId} {cs : List Value} (h : Blk W g t cs) (hg : W.grownBy W' row) (hr : ∀ r, row = some r → ∃ o : Obj, W.heap[r]? = some o ∧ o.isCells = false) : Blk W' g t cs :=
  (grownBy_keeps_cells hg hr h rfl).trans h

theorem with_tmps {P : Program} {c : Code} {Q : Exit → Act → World → Prop} {t : Array Value} {d : _} {W : World} (h : ∀ A : Array Value, A = t → Code.wp P c Q { tmps := A, defers := d } W) : Code.wp P c Q { tmps := t, defers := d } W := h t rfl
/-- No way out by a panic. -/
def noPanic (Q : Exit → Act → World → Prop) : Exit → Act → World → Prop
  | .panic _, _, _ => False
  | e, a, w => Q e a w
theorem wp_noPanic {P : Program} {c : Code} {Q : Exit → Act → World → Prop} {a : Act} {w : World} (h : c.wp P (noPanic Q) a w) : c.wp P Q a w :=
  Code.wp_mono (hq := fun e a w hq => by cases e <;> first | exact hq | exact hq.elim) h
end Go.Proofs.Ytbjhbbiahmhdeaa
