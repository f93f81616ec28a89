/-
  A range over an iterator that tells just these things, one by one: each round is walked at what it is told; what a round must leave as it is may hang on which round it is (an iterator that reads a row while the rounds write behind it).
-/
import Derived.RangeFuncBox
import Derived.RangeFuncCalls
import Derived.RangeFuncNested
set_option linter.unusedVariables false
set_option linter.unusedSimpArgs false
namespace Go.Th
open Go Go.RowKit

/-- Addresses of which the cells are as they were. -/
def CellsKept (C : Addr → Prop) (W W' : World) : Prop := ∀ p, C p → W'.cell? p = W.cell? p
theorem CellsKept.refl (C : Addr → Prop) (W : World) : CellsKept C W W := fun _ _ => rfl
theorem CellsKept.trans {C : Addr → Prop} {X Y Z : World} (h : CellsKept C X Y) (k : CellsKept C Y Z) : CellsKept C X Z := fun p hp => (k p hp).trans (h p hp)
theorem CellsKept.sub {C D : Addr → Prop} {X Y : World} (h : CellsKept C X Y) (hs : ∀ p, D p → C p) : CellsKept D X Y := fun p hp => h p (hs p hp)
theorem CellsKept.of_kept {B : Nat} {C : Addr → Prop} {X Y : World} (h : Below B X Y) (hC : ∀ p, C p → p.block < B) : CellsKept C X Y := fun p hp => World.cell?_of_block (w := X) (h.block p.block (hC p hp))

/-- The iterator's contract: the things in order; the k-th round keeps the cells of C k. -/
def SeqAt (F : Fence) (n : Nat) (P : Program) (g : Nat) (lb : Array Value) (xs : List (Array Value)) (C : Nat → Addr → Prop) (w : World) : Prop :=
  ∀ (l : Nat) (J Jx : Nat → World → Prop) (W : World), Below w.heap.size w W → (∀ k A B, J k A → Below A.heap.size A B → J k B) →
    (∀ k x W1, xs[k]? = some x → J k W1 → YieldAt F (n - 1) P l x W1 fun e W2 => (e = .returned (.bool true) ∧ J (k + 1) W2 ∧ CellsKept (C k) W1 W2 ∧ W1.heap.size ≤ W2.heap.size) ∨ (e = .returned (.bool false) ∧ Jx k W2)) →
    J 0 W →
    CallsIn F n P g (#[.func (.yield l) #[] #[]] ++ lb) W fun e W' => (∃ v, e = .returned v) ∧ (J xs.length W' ∨ ∃ k, k < xs.length ∧ Jx k W')

theorem SeqAt.inRound {F : Fence} {n : Nat} {P : Program} {g : Nat} {lb : Array Value} {xs : List (Array Value)} {C : Nat → Addr → Prop} {w : World} (l : Nat) (h : SeqAt F n P g lb xs C w) : SeqAt (F.inRound l) n P g lb xs C w := h

/-- How a round is left. -/
def postAt (B : Nat) (C : Addr → Prop) (I Ir : World → Prop) (Ix : Code → World → Prop) (W : World) : Exit → Act → World → Prop
  | .normal, _, W' => KeepsFrom B W W' ∧ CellsKept C W W' ∧ I W'
  | .ret, _, W' => KeepsFrom B W W' ∧ Ir W'
  | .exit id, _, W' => KeepsFrom B W W' ∧ Ix (.exit id) W'
  | .goto t, _, W' => KeepsFrom B W W' ∧ Ix (.goto t) W'
  | .panic _, _, _ => False
  | .outgrown, _, _ => False

theorem OwnFrom.below {β : Type} {B : Nat} {I : β → World → Prop} (h : OwnFrom B I) {s : β} {X Y : World} (hs : I s X) (hb : Below X.heap.size X Y) : I s Y :=
  h s X Y none hs ⟨hb.os, hb.tape, hb.output, hb.size, fun k hk _ => hb.block k hk⟩ (fun r e => by cases e)

section
variable {F : Fence} {n : Nat} {P : Program} {w : World}
theorem putObj_cells {C : Addr → Prop} {B : Nat} (hC : ∀ p, C p → p.block < B) (W : World) (l : Nat) (hl : B ≤ l) (o : Obj) : CellsKept C W (W.putObj l o) :=
  fun p hp => World.cell?_of_block (w := W) (World.putObj_heap_other (by have := hC p hp; omega))

/-- The law: what a round finds is told by its number. -/
theorem wpIn_rangeFunc_at {g : Operand} {ps : Array Tmp} {assign body : Code} {Q : Exit → Act → World → Prop} {a : Act}
    (hro : F.round = none) (h1 : 1 ≤ n) {gf : Nat} {lb : Array Value} (hg : a.eval g = .func (.func gf) #[] lb) (hFg : F.fn gf) (eg : ∀ args w, (callFunc gf args).run P w = .ok (.enter gf args) w)
    {xs : List (Array Value)} {C : Nat → Addr → Prop} (hseq : SeqAt F (n - 1) P gf lb xs C w) (hC : ∀ k p, C k p → p.block < w.heap.size) (hps : ∀ x ∈ xs, x.size = ps.size)
    (I : Nat → World → Prop) (Ir : Nat → World → Prop) (Ix : Code → Nat → World → Prop) (hI : OwnFrom w.heap.size I) (hIr : OwnFrom w.heap.size Ir) (hIx : ∀ c, OwnFrom w.heap.size (Ix c)) (h0 : I 0 w)
    (Ax : Nat → Act → World → Prop) (hAx : ∀ a', OwnFrom w.heap.size (fun k W => Ax k a' W))
    (hassign : ∀ (l k : Nat) (x : Array Value) (W : World) (K : Act → World → Prop), xs[k]? = some x → I k W → (∀ a' W', KeepsFrom w.heap.size W W' → CellsKept (C k) W W' → I k W' → Ax k a' W' → K a' W') →
      assign.wpIn (F.inRound l) (n - 1 - 1) P (Exit.then K (fun _ _ _ => False)) { tmps := (ps.zip x).foldl (fun t (p, v) => t.setIfInBounds p v) a.tmps, defers := [] } W)
    (hbody : ∀ (l k : Nat) (a' : Act) (W : World), w.heap.size ≤ l → (∃ r, W.heap[l]? = some (.loop r)) → k < xs.length → I k W → Ax k a' W →
      body.wpIn (F.inRound l) (n - 1 - 1) P (postAt w.heap.size (C k) (I (k + 1)) (Ir k) (fun c => Ix c k) W) a' W)
    (hdone : ∀ (D : Nat) (W : World), w.heap.size ≤ D → I xs.length W → W.heap[D]? = some (.deferred (some [])) → Q .normal { a with defers := { target := .collected D, args := #[] } :: a.defers } W)
    (hret : ∀ (D k : Nat) (W : World), w.heap.size ≤ D → k < xs.length → Ir k W → W.heap[D]? = some (.deferred (some [])) → Code.ret.wpIn F n P Q { a with defers := { target := .collected D, args := #[] } :: a.defers } W)
    (hstop : ∀ (D : Nat) (c : Code) (k : Nat) (W : World), w.heap.size ≤ D → k < xs.length → Ix c k W → W.heap[D]? = some (.deferred (some [])) → c.wpIn F n P Q { a with defers := { target := .collected D, args := #[] } :: a.defers } W) :
    (Code.rangeFunc g ps assign body).wpIn F n P Q a w := by
  refine wpIn_rangeFunc fun fn hfn => ?_
  rw [hro]
  -- the two blocks of the loop's own: what the rounds put off, and the record
  obtain ⟨D, hD⟩ : ∃ D, D = w.heap.size := ⟨_, rfl⟩
  obtain ⟨R, hR⟩ : ∃ R : LoopState → Option Code → Obj, R = fun st pe => .loop { state := st, pending := pe, fn, tmps := a.tmps, params := ps, assign, body, defers := D } := ⟨_, rfl⟩
  obtain ⟨V, hV⟩ : ∃ V, V = (w.alloc (.deferred (some []))).alloc (R .ready none) := ⟨_, rfl⟩
  have hwV : Below w.heap.size w V := by rw [hV]; exact ((Below.refl _ w).alloc (Nat.le_refl _) _).alloc (by simp) _
  have hRV : V.heap[D + 1]? = some (R .ready none) := by
    have := World.alloc_heap_new (w.alloc (.deferred (some []))) (R .ready none)
    rw [World.size_alloc] at this
    rw [hV, hD]; exact this
  have hDV : V.heap[D]? = some (.deferred (some [])) := by
    rw [hV, hD]; exact (Below.heap_alloc _ _ _ (by simp)).trans (World.alloc_heap_new w _)
  have hIV : I 0 V := OwnFrom.below hI h0 (by rw [hV]; exact ((Below.refl _ w).alloc (Nat.le_refl _) _).alloc (by simp) _)
  have hDC : ∀ k p, C k p → p.block < D := by rw [hD]; exact hC
  have book : ∀ (st st' : LoopState) (pe pe' : Option Code) (X : World), X.heap[D + 1]? = some (R st pe) → X.heap[D]? = some (.deferred (some [])) →
      (X.putObj (D + 1) (R st' pe')).heap[D + 1]? = some (R st' pe') ∧ (X.putObj (D + 1) (R st' pe')).heap[D]? = some (.deferred (some [])) := fun st st' pe pe' X h1 h2 =>
    ⟨World.putObj_heap_same (Array.getElem?_eq_some_iff.1 h1).1, (World.putObj_heap_other (by omega)).trans h2⟩
  have noC : ∀ st pe, (R st pe).isCells = false := fun st pe => by rw [hR]; rfl
  have noW : ∀ st pe, (R st pe).isWalk = false := fun st pe => by rw [hR]; rfl
  refine ⟨D + 1, [{ target := .collected D, args := #[] }], V, { target := .fn (.func gf) lb, args := #[.func (.yield (D + 1)) #[] #[]] }, V, gf,
    #[.func (.yield (D + 1)) #[] #[]] ++ lb, V, ?_, ?_, ?_, ?_, fun _ => h1, ?_⟩
  · rw [hV, hR, hD]; exact run_enterLoop_outer _ _ _ _ _
  · simp only [resolve, hg]
    simp [go_sem]
  · intro f' hf'
    simp [Target.leads] at hf'
    subst hf'
    exact hFg
  · simp [invoke, go_sem, eg]
  · refine (hseq (D + 1) (fun k W => I k W ∧ W.heap[D + 1]? = some (R .ready none) ∧ W.heap[D]? = some (.deferred (some [])))
      (fun k W => ∃ c, ((c = .ret ∧ Ir k W) ∨ Ix c k W) ∧ W.heap[D + 1]? = some (R .done (some c)) ∧ W.heap[D]? = some (.deferred (some []))) V hwV ?_ ?_ ⟨hIV, hRV, hDV⟩).mono ?_
    · rintro k X Y ⟨hi, hr, hd⟩ hb
      exact ⟨OwnFrom.below hI hi hb, (hb.block _ (Array.getElem?_eq_some_iff.1 hr).1).trans hr, (hb.block _ (Array.getElem?_eq_some_iff.1 hd).1).trans hd⟩
    · -- one round
      rintro k x W hx ⟨hi, hr, hd⟩
      have hk : k < xs.length := (List.getElem?_eq_some_iff.1 hx).1
      have hy := run_yield (P := P) (args := x) (r := { state := .ready, pending := none, fn, tmps := a.tmps, params := ps, assign, body, defers := D }) (by rw [hr, hR]) (hps x (List.mem_of_getElem? hx))
      refine ⟨fn, _, assign, body, hy, roundIn_of_wpIn hfn (hassign _ k x W _ hx hi ?_)⟩
      clear hy
      intro a' Wa hkf hkc hia hax
      have hra := hkf.same _ _ (by omega) hr (noC _ _)
      have hda := hkf.same _ _ (by omega) hd rfl
      have hsz := hkf.size
      refine ⟨_, run_beginRound (r := { state := .ready, pending := none, fn, tmps := a.tmps, params := ps, assign, body, defers := D }) (by rw [hra, hR]) rfl, ?_⟩
      obtain ⟨hrb, hdb⟩ := book .ready .busy none none Wa hra hda
      rw [show (Obj.loop { state := .busy, pending := none, fn, tmps := a.tmps, params := ps, assign, body, defers := D }) = R .busy none by rw [hR]]
      refine wpIn_mono (hbody _ k a' _ (by omega) ⟨_, by rw [hrb, hR]⟩ hk (hI.putObj _ hia (by omega) hra (noC _ _)) ((hAx a').putObj (s := k) _ hax (by omega) hra (noC _ _))) ?_
      have fin : ∀ (jump : Option Code) (Y : World), KeepsFrom w.heap.size (Wa.putObj (D + 1) (R .busy none)) Y →
          (Instr.endRound (D + 1) jump).run P Y = .ok (.bool jump.isNone) (Y.putObj (D + 1) (R (if jump.isNone then .ready else .done) jump)) ∧ Y.heap[D + 1]? = some (R .busy none) ∧
          (Y.putObj (D + 1) (R (if jump.isNone then .ready else .done) jump)).heap[D + 1]? = some (R (if jump.isNone then .ready else .done) jump) ∧
          (Y.putObj (D + 1) (R (if jump.isNone then .ready else .done) jump)).heap[D]? = some (.deferred (some [])) ∧ W.heap.size ≤ (Y.putObj (D + 1) (R (if jump.isNone then .ready else .done) jump)).heap.size := fun jump Y hY => by
        have hry := hY.same _ _ (by omega) hrb (noC _ _)
        have hdy := hY.same _ _ (by omega) hdb rfl
        have hsy := hY.size
        obtain ⟨b1, b2⟩ := book .busy (if jump.isNone then .ready else .done) none jump Y hry hdy
        have he := run_endRound (P := P) (w := Y) (l := D + 1) (r := { state := .busy, pending := none, fn, tmps := a.tmps, params := ps, assign, body, defers := D }) jump (by rw [hry, hR])
        refine ⟨by rw [he, hR], hry, b1, b2, ?_⟩
        simp only [World.putObj, Array.size_setIfInBounds] at hsy ⊢
        omega
      rintro e a3 Y hp
      cases e with
      | normal =>
        obtain ⟨k1, k2, k3⟩ := hp
        obtain ⟨f1, f2, f3, f4, f5⟩ := fin none Y k1
        refine ⟨_, _, f1, .inl ⟨rfl, ⟨hI.putObj _ k3 (by omega) f2 (noC _ _), f3, f4⟩, ?_, f5⟩⟩
        exact ((hkc.trans (putObj_cells (hDC k) _ _ (by omega) _)).trans k2).trans (putObj_cells (hDC k) _ _ (by omega) _)
      | ret =>
        obtain ⟨k1, k3⟩ := hp
        obtain ⟨f1, f2, f3, f4, _⟩ := fin (some .ret) Y k1
        exact ⟨_, _, f1, .inr ⟨rfl, .ret, .inl ⟨rfl, hIr.putObj _ k3 (by omega) f2 (noC _ _)⟩, f3, f4⟩⟩
      | exit id =>
        obtain ⟨k1, k3⟩ := hp
        obtain ⟨f1, f2, f3, f4, _⟩ := fin (some (.exit id)) Y k1
        exact ⟨_, _, f1, .inr ⟨rfl, .exit id, .inr ((hIx _).putObj _ k3 (by omega) f2 (noC _ _)), f3, f4⟩⟩
      | goto t =>
        obtain ⟨k1, k3⟩ := hp
        obtain ⟨f1, f2, f3, f4, _⟩ := fin (some (.goto t)) Y k1
        exact ⟨_, _, f1, .inr ⟨rfl, .goto t, .inr ((hIx _).putObj _ k3 (by omega) f2 (noC _ _)), f3, f4⟩⟩
      | panic ch => exact hp.elim
      | outgrown => exact hp.elim
    · -- behind the iterator
      rintro e Y ⟨⟨v, rfl⟩, (⟨hi, hr, hd⟩ | ⟨k, hk, c, hc, hr, hd⟩)⟩
      · refine ⟨none, _, run_endLoop (P := P) (w := Y) (l := D + 1) (r := { state := .ready, pending := none, fn, tmps := a.tmps, params := ps, assign, body, defers := D }) (by rw [hr, hR]) (by simp), ?_⟩
        exact hdone D _ (by omega) (hI.putObj _ hi (by omega) hr (noC _ _)) ((World.putObj_heap_other (by omega)).trans hd)
      · refine ⟨some c, _, run_endLoop (P := P) (w := Y) (l := D + 1) (r := { state := .done, pending := some c, fn, tmps := a.tmps, params := ps, assign, body, defers := D }) (by rw [hr, hR]) (by simp), ?_⟩
        rcases hc with ⟨rfl, hc⟩ | hc
        · exact hret D k _ (by omega) hk (hIr.putObj _ hc (by omega) hr (noC _ _)) ((World.putObj_heap_other (by omega)).trans hd)
        · exact hstop D c k _ (by omega) hk ((hIx _).putObj _ hc (by omega) hr (noC _ _)) ((World.putObj_heap_other (by omega)).trans hd)
end
end Go.Th
