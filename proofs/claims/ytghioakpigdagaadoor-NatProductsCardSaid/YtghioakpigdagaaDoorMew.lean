/-
  Blocks that are known while others may turn, too: what a call that writes into memory that came in, or a loop over an iterator, keeps.
-/
import Derived.Test.YtghioakpigdagaaDoorPackBits
import Derived.Test.YtghioakpigdagaaDoorRangeAt
set_option linter.unusedVariables false
set_option linter.unusedSimpArgs false
namespace Go.Th
open Go Go.RowKit

/-- These blocks are known; of those that lay in w none but S's have turned. -/
structure Mew (S : Nat → Prop) (w W : World) (bs : List (Nat × TypeId × List Value)) : Prop where
  turned : Turned S w W
  nodup : (bs.map (·.1)).Nodup
  may : ∀ e ∈ bs, S e.1 ∨ w.heap.size ≤ e.1
  blk : ∀ e ∈ bs, Blk W e.1 e.2.1 e.2.2
section
variable {S : Nat → Prop} {w W V : World} {bs bs' : List (Nat × TypeId × List Value)} {g : Nat} {t : TypeId} {cs cs' : List Value}
theorem Mew.of_mem (M : Mem w W bs) : Mew S w W bs := ⟨Turned.below M.below, M.nodup, fun e he => .inr (M.old e he), M.blk⟩
theorem Mew.has (M : Mew S w W bs) (h : Has bs g t cs) : Blk W g t cs := M.blk _ h.mem
theorem Mew.lt (M : Mew S w W bs) (h : Has bs g t cs) : g < W.heap.size := (M.has h).lt
theorem Mew.cell (M : Mew S w W bs) (h : Has bs g t cs) {i : Nat} {u : Value} (hi : cs[i]? = some u) : W.cell? ⟨g, i, none⟩ = some u := (M.has h).cell hi
theorem Mew.free (M : Mew S w W bs) (h : Has bs g t cs) (i : Nat) : W.frozen? ⟨g, i, none⟩ = false := (M.has h).free i
theorem Mew.drew (M : Mew S w W bs) : Mew S w W.drew bs := ⟨M.turned.drew, M.nodup, M.may, fun e he => (M.blk e he).drew⟩
theorem Mew.drop {e} (M : Mew S w W (e :: bs)) : Mew S w W bs := ⟨M.turned, (List.nodup_cons.1 M.nodup).2, fun e he => M.may e (.tail _ he), fun e he => M.blk e (.tail _ he)⟩
theorem Mew.pick (M : Mew S w W bs) (h : bs'.Sublist bs) : Mew S w W bs' := ⟨M.turned, (h.map _).nodup M.nodup, fun e he => M.may e (h.subset he), fun e he => M.blk e (h.subset he)⟩
theorem Mew.add (M : Mew S w W bs) (K : Blk W g t cs) (hS : S g ∨ w.heap.size ≤ g) (hn : ∀ e ∈ bs, e.1 ≠ g) : Mew S w W ((g, t, cs) :: bs) :=
  ⟨M.turned, by
    rw [List.map_cons, List.nodup_cons]
    refine ⟨fun h => ?_, M.nodup⟩
    obtain ⟨e, he, h'⟩ := List.mem_map.1 h
    exact hn e he h', fun e he => by rcases List.mem_cons.1 he with rfl | he; exact hS; exact M.may e he, fun e he => by rcases List.mem_cons.1 he with rfl | he; exact K; exact M.blk e he⟩
/-- One cell turned. -/
theorem Mew.set (M : Mew S w W bs) (i : Nat) (u : Value) (hu : Upd bs g t cs (cs.set i u) bs') (hi : i < cs.length) : Mew S w (W.setCell ⟨g, i, none⟩ u) bs' where
  turned := M.turned.setCell (M.may _ hu.has.mem) u
  nodup := by rw [hu.keys]; exact M.nodup
  may := by
    intro e he
    rcases hu.mem M.nodup e he with rfl | ⟨h1, _⟩
    · exact M.may (g, t, cs) hu.has.mem
    · exact M.may e h1
  blk := by
    intro e he
    rcases hu.mem M.nodup e he with rfl | ⟨h1, h2⟩
    · exact (M.has hu.has).set i u hi
    · exact (M.blk e h1).other _ _ (Ne.symm h2)
/-- A call that turned one of them. -/
theorem Mew.turn (M : Mew S w W bs) (hu : Upd bs g t cs cs' bs') (K : Blk V g t cs') (hT : Turned (fun k => k = g) W V) : Mew S w V bs' where
  turned := M.turned.trans hT (fun k hk e => by
    subst e
    rcases M.may _ hu.has.mem with h | h
    · exact h
    · exact absurd hk (by simpa using h))
  nodup := by rw [hu.keys]; exact M.nodup
  may := by
    intro e he
    rcases hu.mem M.nodup e he with rfl | ⟨h1, _⟩
    · exact M.may (g, t, cs) hu.has.mem
    · exact M.may e h1
  blk := by
    intro e he
    rcases hu.mem M.nodup e he with rfl | ⟨h1, h2⟩
    · exact K
    · exact (M.blk e h1).turned hT h2
theorem Mew.call (M : Mew S w W bs) (h : Below W.heap.size W V) : Mew S w V bs :=
  ⟨M.turned.trans (Turned.below (S := fun _ => False) h) (fun _ _ h => h.elim), M.nodup, M.may, fun e he => (M.blk e he).below h (M.blk e he).lt⟩
theorem Mew.alloc (M : Mew S w W bs) (t : TypeId) (cs : List Value) : Mew S w (W.alloc (.cells cs.toArray t)) ((W.heap.size, t, cs) :: bs) :=
  (M.call ((Below.refl _ W).alloc (Nat.le_refl _) _)).add (Blk.new _ _ _) (.inr M.turned.size) (fun e he h => by have := (M.blk e he).lt; omega)
theorem Mew.grown (M : Mew S w W bs) {row : Option Nat} (hg : W.grownBy V row) (hr : ∀ r, row = some r → w.heap.size ≤ r ∧ ∃ o : Obj, W.heap[r]? = some o ∧ o.isCells = false) : Mew S w V bs :=
  ⟨M.turned.grown hg (fun k hk hl => absurd hl (by have := (hr k hk).1; omega)), M.nodup, M.may, fun e he => (grownBy_keeps_cells hg (fun r hr' => (hr r hr').2) (M.blk e he) rfl).trans (M.blk e he)⟩
theorem Mew.own {β : Type} {bs : β → List (Nat × TypeId × List Value)} {B : Nat} (hB : w.heap.size ≤ B) : OwnFrom B (fun k W => Mew S w W (bs k)) :=
  fun s X Y row hs hg hr => hs.grown hg (fun r e => ⟨Nat.le_trans hB (hr r e).1, (hr r e).2⟩)
/-- Where none may turn: as it was. -/
theorem Mew.below (M : Mew (fun _ => False) w W bs) : Below w.heap.size w W := ⟨M.turned.os, M.turned.tape, M.turned.output, M.turned.size, fun k hk => M.turned.block k hk (fun h => h)⟩
theorem Mem.of_mew (M : Mew (fun _ => False) w W bs) : Mem w W bs := ⟨M.below, M.nodup, fun e he => (M.may e he).resolve_left (fun h => h), M.blk⟩
/-- A cell that is known ahead and behind. -/
theorem cell_same {w' : World} {bs' : List (Nat × TypeId × List Value)} {S' : Nat → Prop} {t' : TypeId} (M : Mew S w W bs) (M' : Mew S' w' V bs') (h : Has bs g t cs) (h' : Has bs' g t' cs') {i : Nat} {u : Value} (hi : cs[i]? = some u) (hi' : cs'[i]? = some u) : V.cell? ⟨g, i, none⟩ = W.cell? ⟨g, i, none⟩ := by
  rw [M'.cell h' hi', M.cell h hi]
end
end Go.Th
