/-
  Texts in one: RangeAt, Mew, NatH, NatI, NatJ, NatK, NatL, NatM, NatN, NatO, NatP, NatQ, NatR.
-/
import Derived.RangeFuncBox
import Derived.RangeFuncCalls
import Derived.RangeFuncNested
import Derived.Test.YtallbegibdlpaaaGreatPackBits
import Derived.RangeFuncFrom
import Derived.RangeFuncBound
import Derived.RangeFuncLeaves
import Derived.Shelf.Abstract
import Derived.Shelf.RegionOpen
import Derived.WalkKit
import Derived.OwnWalkIn
import Derived.TacticsInMore
import Derived.LoopNIn
import Derived.LoopIn
import Derived.Test.YtallbegibdlpaaaGreatPackNatR
import Derived.Laws.BitsAllLaws
import Derived.Laws.Bits64b
import Derived.Sort.CutIn
import Derived.Test.YtallbegibdlpaaaGreatNatLen
set_option linter.unusedVariables false
set_option linter.unusedSimpArgs false

/-
  A range over an iterator that tells just these things, one by one: each round is walked at what it is told; what a round must leave as it is may hang on which round it is (an iterator that reads a row while the rounds write behind it).
-/
namespace Go.Th
open Go Go.RowKit

/-- Addresses of which the cells are as they were. -/
def CellsKept (C : Addr → Prop) (W W' : World) : Prop := ∀ p, C p → W'.cell? p = W.cell? p
theorem CellsKept.refl (C : Addr → Prop) (W : World) : CellsKept C W W := fun _ _ => rfl
theorem CellsKept.trans {C : Addr → Prop} {X Y Z : World} (h : CellsKept C X Y) (k : CellsKept C Y Z) : CellsKept C X Z := fun p hp => (k p hp).trans (h p hp)
/-- The iterator's contract: the things in order; the k-th round keeps the cells of C k. -/
def SeqAt (F : Fence) (n : Nat) (P : Program) (g : Nat) (lb : Array Value) (xs : List (Array Value)) (C : Nat → Addr → Prop) (w : World) : Prop :=
  ∀ (l : Nat) (J Jx : Nat → World → Prop) (W : World), Below w.heap.size w W → (∀ k A B, J k A → Below A.heap.size A B → J k B) →
    (∀ k x W1, xs[k]? = some x → J k W1 → YieldAt F (n - 1) P l x W1 fun e W2 => (e = .returned (.bool true) ∧ J (k + 1) W2 ∧ CellsKept (C k) W1 W2 ∧ W1.heap.size ≤ W2.heap.size) ∨ (e = .returned (.bool false) ∧ Jx k W2)) →
    J 0 W →
    CallsIn F n P g (#[.func (.yield l) #[] #[]] ++ lb) W fun e W' => (∃ v, e = .returned v) ∧ (J xs.length W' ∨ ∃ k, k < xs.length ∧ Jx k W')

theorem SeqAt.inRound {F : Fence} {n : Nat} {P : Program} {g : Nat} {lb : Array Value} {xs : List (Array Value)} {C : Nat → Addr → Prop} {w : World} (l : Nat) (h : SeqAt F n P g lb xs C w) : SeqAt (F.inRound l) n P g lb xs C w := h

/-- How a round is left. -/
def postAt (B : Nat) (C : Addr → Prop) (I Ir : World → Prop) (Ix : Code → World → Prop) (W : World) : Exit → Act → World → Prop
  | .normal, _, W' => KeepsFrom B W W' ∧ CellsKept C W W' ∧ I W'
  | .ret, _, W' => KeepsFrom B W W' ∧ Ir W'
  | .exit id, _, W' => KeepsFrom B W W' ∧ Ix (.exit id) W'
  | .goto t, _, W' => KeepsFrom B W W' ∧ Ix (.goto t) W'
  | .panic _, _, _ => False
  | .outgrown, _, _ => False

theorem OwnFrom.below {β : Type} {B : Nat} {I : β → World → Prop} (h : OwnFrom B I) {s : β} {X Y : World} (hs : I s X) (hb : Below X.heap.size X Y) : I s Y :=
  h s X Y none hs ⟨hb.os, hb.tape, hb.output, hb.size, fun k hk _ => hb.block k hk⟩ (fun r e => by cases e)

section
variable {F : Fence} {n : Nat} {P : Program} {w : World}
theorem putObj_cells {C : Addr → Prop} {B : Nat} (hC : ∀ p, C p → p.block < B) (W : World) (l : Nat) (hl : B ≤ l) (o : Obj) : CellsKept C W (W.putObj l o) :=
  fun p hp => World.cell?_of_block (w := W) (World.putObj_heap_other (by have := hC p hp; omega))

/-- The law: what a round finds is told by its number. -/
theorem wpIn_rangeFunc_at {g : Operand} {ps : Array Tmp} {assign body : Code} {Q : Exit → Act → World → Prop} {a : Act}
    (hro : F.round = none) (h1 : 1 ≤ n) {gf : Nat} {lb : Array Value} (hg : a.eval g = .func (.func gf) #[] lb) (hFg : F.fn gf) (eg : ∀ args w, (callFunc gf args).run P w = .ok (.enter gf args) w)
    {xs : List (Array Value)} {C : Nat → Addr → Prop} (hseq : SeqAt F (n - 1) P gf lb xs C w) (hC : ∀ k p, C k p → p.block < w.heap.size) (hps : ∀ x ∈ xs, x.size = ps.size)
    (I : Nat → World → Prop) (Ir : Nat → World → Prop) (Ix : Code → Nat → World → Prop) (hI : OwnFrom w.heap.size I) (hIr : OwnFrom w.heap.size Ir) (hIx : ∀ c, OwnFrom w.heap.size (Ix c)) (h0 : I 0 w)
    (Ax : Nat → Act → World → Prop) (hAx : ∀ a', OwnFrom w.heap.size (fun k W => Ax k a' W))
    (hassign : ∀ (l k : Nat) (x : Array Value) (W : World) (K : Act → World → Prop), xs[k]? = some x → I k W → (∀ a' W', KeepsFrom w.heap.size W W' → CellsKept (C k) W W' → I k W' → Ax k a' W' → K a' W') →
      assign.wpIn (F.inRound l) (n - 1 - 1) P (Exit.then K (fun _ _ _ => False)) { tmps := (ps.zip x).foldl (fun t (p, v) => t.setIfInBounds p v) a.tmps, defers := [] } W)
    (hbody : ∀ (l k : Nat) (a' : Act) (W : World), w.heap.size ≤ l → (∃ r, W.heap[l]? = some (.loop r)) → k < xs.length → I k W → Ax k a' W →
      body.wpIn (F.inRound l) (n - 1 - 1) P (postAt w.heap.size (C k) (I (k + 1)) (Ir k) (fun c => Ix c k) W) a' W)
    (hdone : ∀ (D : Nat) (W : World), w.heap.size ≤ D → I xs.length W → W.heap[D]? = some (.deferred (some [])) → Q .normal { a with defers := { target := .collected D, args := #[] } :: a.defers } W)
    (hret : ∀ (D k : Nat) (W : World), w.heap.size ≤ D → k < xs.length → Ir k W → W.heap[D]? = some (.deferred (some [])) → Code.ret.wpIn F n P Q { a with defers := { target := .collected D, args := #[] } :: a.defers } W)
    (hstop : ∀ (D : Nat) (c : Code) (k : Nat) (W : World), w.heap.size ≤ D → k < xs.length → Ix c k W → W.heap[D]? = some (.deferred (some [])) → c.wpIn F n P Q { a with defers := { target := .collected D, args := #[] } :: a.defers } W) :
    (Code.rangeFunc g ps assign body).wpIn F n P Q a w := by
  refine wpIn_rangeFunc fun fn hfn => ?_
  rw [hro]
  -- the two blocks of the loop's own: what the rounds put off, and the record
  obtain ⟨D, hD⟩ : ∃ D, D = w.heap.size := ⟨_, rfl⟩
  obtain ⟨R, hR⟩ : ∃ R : LoopState → Option Code → Obj, R = fun st pe => .loop { state := st, pending := pe, fn, tmps := a.tmps, params := ps, assign, body, defers := D } := ⟨_, rfl⟩
  obtain ⟨V, hV⟩ : ∃ V, V = (w.alloc (.deferred (some []))).alloc (R .ready none) := ⟨_, rfl⟩
  have hwV : Below w.heap.size w V := by rw [hV]; exact ((Below.refl _ w).alloc (Nat.le_refl _) _).alloc (by simp) _
  have hRV : V.heap[D + 1]? = some (R .ready none) := by
    have := World.alloc_heap_new (w.alloc (.deferred (some []))) (R .ready none)
    rw [World.size_alloc] at this
    rw [hV, hD]; exact this
  have hDV : V.heap[D]? = some (.deferred (some [])) := by
    rw [hV, hD]; exact (Below.heap_alloc _ _ _ (by simp)).trans (World.alloc_heap_new w _)
  have hIV : I 0 V := OwnFrom.below hI h0 (by rw [hV]; exact ((Below.refl _ w).alloc (Nat.le_refl _) _).alloc (by simp) _)
  have hDC : ∀ k p, C k p → p.block < D := by rw [hD]; exact hC
  have book : ∀ (st st' : LoopState) (pe pe' : Option Code) (X : World), X.heap[D + 1]? = some (R st pe) → X.heap[D]? = some (.deferred (some [])) →
      (X.putObj (D + 1) (R st' pe')).heap[D + 1]? = some (R st' pe') ∧ (X.putObj (D + 1) (R st' pe')).heap[D]? = some (.deferred (some [])) := fun st st' pe pe' X h1 h2 =>
    ⟨World.putObj_heap_same (Array.getElem?_eq_some_iff.1 h1).1, (World.putObj_heap_other (by omega)).trans h2⟩
  have noC : ∀ st pe, (R st pe).isCells = false := fun st pe => by rw [hR]; rfl
  have noW : ∀ st pe, (R st pe).isWalk = false := fun st pe => by rw [hR]; rfl
  refine ⟨D + 1, [{ target := .collected D, args := #[] }], V, { target := .fn (.func gf) lb, args := #[.func (.yield (D + 1)) #[] #[]] }, V, gf,
    #[.func (.yield (D + 1)) #[] #[]] ++ lb, V, ?_, ?_, ?_, ?_, fun _ => h1, ?_⟩
  · rw [hV, hR, hD]; exact run_enterLoop_outer _ _ _ _ _
  · simp only [resolve, hg]
    simp [go_sem]
  · intro f' hf'
    simp [Target.leads] at hf'
    subst hf'
    exact hFg
  · simp [invoke, go_sem, eg]
  · refine (hseq (D + 1) (fun k W => I k W ∧ W.heap[D + 1]? = some (R .ready none) ∧ W.heap[D]? = some (.deferred (some [])))
      (fun k W => ∃ c, ((c = .ret ∧ Ir k W) ∨ Ix c k W) ∧ W.heap[D + 1]? = some (R .done (some c)) ∧ W.heap[D]? = some (.deferred (some []))) V hwV ?_ ?_ ⟨hIV, hRV, hDV⟩).mono ?_
    · rintro k X Y ⟨hi, hr, hd⟩ hb
      exact ⟨OwnFrom.below hI hi hb, (hb.block _ (Array.getElem?_eq_some_iff.1 hr).1).trans hr, (hb.block _ (Array.getElem?_eq_some_iff.1 hd).1).trans hd⟩
    · -- one round
      rintro k x W hx ⟨hi, hr, hd⟩
      have hk : k < xs.length := (List.getElem?_eq_some_iff.1 hx).1
      have hy := run_yield (P := P) (args := x) (r := { state := .ready, pending := none, fn, tmps := a.tmps, params := ps, assign, body, defers := D }) (by rw [hr, hR]) (hps x (List.mem_of_getElem? hx))
      refine ⟨fn, _, assign, body, hy, roundIn_of_wpIn hfn (hassign _ k x W _ hx hi ?_)⟩
      clear hy
      intro a' Wa hkf hkc hia hax
      have hra := hkf.same _ _ (by omega) hr (noC _ _)
      have hda := hkf.same _ _ (by omega) hd rfl
      have hsz := hkf.size
      refine ⟨_, run_beginRound (r := { state := .ready, pending := none, fn, tmps := a.tmps, params := ps, assign, body, defers := D }) (by rw [hra, hR]) rfl, ?_⟩
      obtain ⟨hrb, hdb⟩ := book .ready .busy none none Wa hra hda
      rw [show (Obj.loop { state := .busy, pending := none, fn, tmps := a.tmps, params := ps, assign, body, defers := D }) = R .busy none by rw [hR]]
      refine wpIn_mono (hbody _ k a' _ (by omega) ⟨_, by rw [hrb, hR]⟩ hk (hI.putObj _ hia (by omega) hra (noC _ _)) ((hAx a').putObj (s := k) _ hax (by omega) hra (noC _ _))) ?_
      have fin : ∀ (jump : Option Code) (Y : World), KeepsFrom w.heap.size (Wa.putObj (D + 1) (R .busy none)) Y →
          (Instr.endRound (D + 1) jump).run P Y = .ok (.bool jump.isNone) (Y.putObj (D + 1) (R (if jump.isNone then .ready else .done) jump)) ∧ Y.heap[D + 1]? = some (R .busy none) ∧
          (Y.putObj (D + 1) (R (if jump.isNone then .ready else .done) jump)).heap[D + 1]? = some (R (if jump.isNone then .ready else .done) jump) ∧
          (Y.putObj (D + 1) (R (if jump.isNone then .ready else .done) jump)).heap[D]? = some (.deferred (some [])) ∧ W.heap.size ≤ (Y.putObj (D + 1) (R (if jump.isNone then .ready else .done) jump)).heap.size := fun jump Y hY => by
        have hry := hY.same _ _ (by omega) hrb (noC _ _)
        have hdy := hY.same _ _ (by omega) hdb rfl
        have hsy := hY.size
        obtain ⟨b1, b2⟩ := book .busy (if jump.isNone then .ready else .done) none jump Y hry hdy
        have he := run_endRound (P := P) (w := Y) (l := D + 1) (r := { state := .busy, pending := none, fn, tmps := a.tmps, params := ps, assign, body, defers := D }) jump (by rw [hry, hR])
        refine ⟨by rw [he, hR], hry, b1, b2, ?_⟩
        simp only [World.putObj, Array.size_setIfInBounds] at hsy ⊢
        omega
      rintro e a3 Y hp
      cases e with
      | normal =>
        obtain ⟨k1, k2, k3⟩ := hp
        obtain ⟨f1, f2, f3, f4, f5⟩ := fin none Y k1
        refine ⟨_, _, f1, .inl ⟨rfl, ⟨hI.putObj _ k3 (by omega) f2 (noC _ _), f3, f4⟩, ?_, f5⟩⟩
        exact ((hkc.trans (putObj_cells (hDC k) _ _ (by omega) _)).trans k2).trans (putObj_cells (hDC k) _ _ (by omega) _)
      | ret =>
        obtain ⟨k1, k3⟩ := hp
        obtain ⟨f1, f2, f3, f4, _⟩ := fin (some .ret) Y k1
        exact ⟨_, _, f1, .inr ⟨rfl, .ret, .inl ⟨rfl, hIr.putObj _ k3 (by omega) f2 (noC _ _)⟩, f3, f4⟩⟩
      | exit id =>
        obtain ⟨k1, k3⟩ := hp
        obtain ⟨f1, f2, f3, f4, _⟩ := fin (some (.exit id)) Y k1
        exact ⟨_, _, f1, .inr ⟨rfl, .exit id, .inr ((hIx _).putObj _ k3 (by omega) f2 (noC _ _)), f3, f4⟩⟩
      | goto t =>
        obtain ⟨k1, k3⟩ := hp
        obtain ⟨f1, f2, f3, f4, _⟩ := fin (some (.goto t)) Y k1
        exact ⟨_, _, f1, .inr ⟨rfl, .goto t, .inr ((hIx _).putObj _ k3 (by omega) f2 (noC _ _)), f3, f4⟩⟩
      | panic ch => exact hp.elim
      | outgrown => exact hp.elim
    · -- behind the iterator
      rintro e Y ⟨⟨v, rfl⟩, (⟨hi, hr, hd⟩ | ⟨k, hk, c, hc, hr, hd⟩)⟩
      · refine ⟨none, _, run_endLoop (P := P) (w := Y) (l := D + 1) (r := { state := .ready, pending := none, fn, tmps := a.tmps, params := ps, assign, body, defers := D }) (by rw [hr, hR]) (by simp), ?_⟩
        exact hdone D _ (by omega) (hI.putObj _ hi (by omega) hr (noC _ _)) ((World.putObj_heap_other (by omega)).trans hd)
      · refine ⟨some c, _, run_endLoop (P := P) (w := Y) (l := D + 1) (r := { state := .done, pending := some c, fn, tmps := a.tmps, params := ps, assign, body, defers := D }) (by rw [hr, hR]) (by simp), ?_⟩
        rcases hc with ⟨rfl, hc⟩ | hc
        · exact hret D k _ (by omega) hk (hIr.putObj _ hc (by omega) hr (noC _ _)) ((World.putObj_heap_other (by omega)).trans hd)
        · exact hstop D c k _ (by omega) hk ((hIx _).putObj _ hc (by omega) hr (noC _ _)) ((World.putObj_heap_other (by omega)).trans hd)
end
end Go.Th

/-
  Blocks that are known while others may turn, too: what a call that writes into memory that came in, or a loop over an iterator, keeps.
-/
namespace Go.Th
open Go Go.RowKit

/-- These blocks are known; of those that lay in w none but S's have turned. -/
structure Mew (S : Nat → Prop) (w W : World) (bs : List (Nat × TypeId × List Value)) : Prop where
  turned : Turned S w W
  nodup : (bs.map (·.1)).Nodup
  may : ∀ e ∈ bs, S e.1 ∨ w.heap.size ≤ e.1
  blk : ∀ e ∈ bs, Blk W e.1 e.2.1 e.2.2
section
variable {S : Nat → Prop} {w W V : World} {bs bs' : List (Nat × TypeId × List Value)} {g : Nat} {t : TypeId} {cs cs' : List Value}
theorem Mew.of_mem (M : Mem w W bs) : Mew S w W bs := ⟨Turned.below M.below, M.nodup, fun e he => .inr (M.old e he), M.blk⟩
theorem Mew.has (M : Mew S w W bs) (h : Has bs g t cs) : Blk W g t cs := M.blk _ h.mem
theorem Mew.lt (M : Mew S w W bs) (h : Has bs g t cs) : g < W.heap.size := (M.has h).lt
theorem Mew.cell (M : Mew S w W bs) (h : Has bs g t cs) {i : Nat} {u : Value} (hi : cs[i]? = some u) : W.cell? ⟨g, i, none⟩ = some u := (M.has h).cell hi
theorem Mew.free (M : Mew S w W bs) (h : Has bs g t cs) (i : Nat) : W.frozen? ⟨g, i, none⟩ = false := (M.has h).free i
theorem Mew.drew (M : Mew S w W bs) : Mew S w W.drew bs := ⟨M.turned.drew, M.nodup, M.may, fun e he => (M.blk e he).drew⟩
theorem Mew.drop {e} (M : Mew S w W (e :: bs)) : Mew S w W bs := ⟨M.turned, (List.nodup_cons.1 M.nodup).2, fun e he => M.may e (.tail _ he), fun e he => M.blk e (.tail _ he)⟩
theorem Mew.pick (M : Mew S w W bs) (h : bs'.Sublist bs) : Mew S w W bs' := ⟨M.turned, (h.map _).nodup M.nodup, fun e he => M.may e (h.subset he), fun e he => M.blk e (h.subset he)⟩
theorem Mew.add (M : Mew S w W bs) (K : Blk W g t cs) (hS : S g ∨ w.heap.size ≤ g) (hn : ∀ e ∈ bs, e.1 ≠ g) : Mew S w W ((g, t, cs) :: bs) :=
  ⟨M.turned, by
    rw [List.map_cons, List.nodup_cons]
    refine ⟨fun h => ?_, M.nodup⟩
    obtain ⟨e, he, h'⟩ := List.mem_map.1 h
    exact hn e he h', fun e he => by rcases List.mem_cons.1 he with rfl | he; exact hS; exact M.may e he, fun e he => by rcases List.mem_cons.1 he with rfl | he; exact K; exact M.blk e he⟩
/-- One cell turned. -/
theorem Mew.set (M : Mew S w W bs) (i : Nat) (u : Value) (hu : Upd bs g t cs (cs.set i u) bs') (hi : i < cs.length) : Mew S w (W.setCell ⟨g, i, none⟩ u) bs' where
  turned := M.turned.setCell (M.may _ hu.has.mem) u
  nodup := by rw [hu.keys]; exact M.nodup
  may := by
    intro e he
    rcases hu.mem M.nodup e he with rfl | ⟨h1, _⟩
    · exact M.may (g, t, cs) hu.has.mem
    · exact M.may e h1
  blk := by
    intro e he
    rcases hu.mem M.nodup e he with rfl | ⟨h1, h2⟩
    · exact (M.has hu.has).set i u hi
    · exact (M.blk e h1).other _ _ (Ne.symm h2)
/-- A call that turned one of them. -/
theorem Mew.turn (M : Mew S w W bs) (hu : Upd bs g t cs cs' bs') (K : Blk V g t cs') (hT : Turned (fun k => k = g) W V) : Mew S w V bs' where
  turned := M.turned.trans hT (fun k hk e => by
    subst e
    rcases M.may _ hu.has.mem with h | h
    · exact h
    · exact absurd hk (by simpa using h))
  nodup := by rw [hu.keys]; exact M.nodup
  may := by
    intro e he
    rcases hu.mem M.nodup e he with rfl | ⟨h1, _⟩
    · exact M.may (g, t, cs) hu.has.mem
    · exact M.may e h1
  blk := by
    intro e he
    rcases hu.mem M.nodup e he with rfl | ⟨h1, h2⟩
    · exact K
    · exact (M.blk e h1).turned hT h2
theorem Mew.call (M : Mew S w W bs) (h : Below W.heap.size W V) : Mew S w V bs :=
  ⟨M.turned.trans (Turned.below (S := fun _ => False) h) (fun _ _ h => h.elim), M.nodup, M.may, fun e he => (M.blk e he).below h (M.blk e he).lt⟩
theorem Mew.alloc (M : Mew S w W bs) (t : TypeId) (cs : List Value) : Mew S w (W.alloc (.cells cs.toArray t)) ((W.heap.size, t, cs) :: bs) :=
  (M.call ((Below.refl _ W).alloc (Nat.le_refl _) _)).add (Blk.new _ _ _) (.inr M.turned.size) (fun e he h => by have := (M.blk e he).lt; omega)
theorem Mew.grown (M : Mew S w W bs) {row : Option Nat} (hg : W.grownBy V row) (hr : ∀ r, row = some r → w.heap.size ≤ r ∧ ∃ o : Obj, W.heap[r]? = some o ∧ o.isCells = false) : Mew S w V bs :=
  ⟨M.turned.grown hg (fun k hk hl => absurd hl (by have := (hr k hk).1; omega)), M.nodup, M.may, fun e he => (grownBy_keeps_cells hg (fun r hr' => (hr r hr').2) (M.blk e he) rfl).trans (M.blk e he)⟩
theorem Mew.own {β : Type} {bs : β → List (Nat × TypeId × List Value)} {B : Nat} (hB : w.heap.size ≤ B) : OwnFrom B (fun k W => Mew S w W (bs k)) :=
  fun s X Y row hs hg hr => hs.grown hg (fun r e => ⟨Nat.le_trans hB (hr r e).1, (hr r e).2⟩)
/-- Where none may turn: as it was. -/
theorem Mew.below (M : Mew (fun _ => False) w W bs) : Below w.heap.size w W := ⟨M.turned.os, M.turned.tape, M.turned.output, M.turned.size, fun k hk => M.turned.block k hk (fun h => h)⟩
theorem Mem.of_mew (M : Mew (fun _ => False) w W bs) : Mem w W bs := ⟨M.below, M.nodup, fun e he => (M.may e he).resolve_left (fun h => h), M.blk⟩
end
end Go.Th

/-
  A row of parts gone through from its end: the library's iterator, whatever the rounds write behind it.
-/
namespace Go.Proofs.YtallbegibdlpaaaGreat
open Go Go.RowKit Go.Shelf Go.Th Go.Th.Dig
attribute [local go_sem] Oper.semAt_some

/-- A row's parts with their places, the last one first. -/
def backs (l : List Nat) : List (Array Value) := (List.range l.length).map fun k => #[.int .i64 ((l.length - 1 - k : Nat) : Int), .int .u32 ((l.getD (l.length - 1 - k) 0 : Nat) : Int)]
theorem backs_length (l : List Nat) : (backs l).length = l.length := by simp [backs]
theorem backs_at (l : List Nat) (k : Nat) (h : k < l.length) : (backs l)[k]? = some #[.int .i64 ((l.length - 1 - k : Nat) : Int), .int .u32 ((l.getD (l.length - 1 - k) 0 : Nat) : Int)] := by simp [backs, h]
theorem backs_two (l : List Nat) (x : Array Value) (h : x ∈ backs l) : x.size = 2 := by
  obtain ⟨k, _, rfl⟩ := List.mem_map.1 h
  rfl
/-- What a round leaves as it is: the row's address, and the places that come behind it. -/
def BackC (Bx : Nat) (a : Option Addr) (n k : Nat) (p : Addr) : Prop := p = ⟨Bx, 0, none⟩ ∨ ∃ b o j, a = some ⟨b, o, none⟩ ∧ j + k + 1 < n ∧ p = ⟨b, o + j, none⟩

set_option maxRecDepth 100000 in
set_option maxHeartbeats 4000000 in
theorem backward_in (l Bx : Nat) (a : Option Addr) (n cap : Nat) (L : List Nat) (hL : L.length = n) (hn : n ≤ 100000) (J Jx : Nat → World → Prop) (W : World)
    (hY : ∀ k x W1, (backs L)[k]? = some x → J k W1 → YieldAt Fence.wide 8 Tryz.prog l x W1 fun e W2 => (e = .returned (.bool true) ∧ J (k + 1) W2 ∧ CellsKept (BackC Bx a n k) W1 W2 ∧ W1.heap.size ≤ W2.heap.size) ∨ (e = .returned (.bool false) ∧ Jx k W2))
    (hb : W.cell? ⟨Bx, 0, none⟩ = some (.slice a n cap)) (hS : Sl W 1 (.slice a n cap) n (u32s L)) (h0 : J 0 W) :
    CallsIn Fence.wide 9 Tryz.prog 103 #[.func (.yield l) #[] #[], .pointer (some ⟨Bx, 0, none⟩)] W fun e W' => (∃ v, e = .returned v) ∧ (J n W' ∨ ∃ k, k < n ∧ Jx k W') := by
  refine callsIn_of_wp Tryz.func103 rfl trivial ?_ rfl
  simp only [Tryz.ntmps103, List.size_toArray, List.length_cons, List.length_nil, Nat.reduceAdd, Nat.reduceSub, Array.replicate_succ, Array.replicate_zero, List.push_toArray, List.append_toArray, List.nil_append, List.cons_append]
  have HY := Lib.hid hY
  have HS := Lib.hid hS
  have HL := Lib.hid hL
  have HBX := Lib.hid hb
  have H0 : Hid (J (n - n) W) := Lib.hid (by rw [Nat.sub_self]; exact h0)
  clear hY hS hL h0
  gi_wp2
  gi_loopw [3] (fun i wr => ∃ j : Nat, j ≤ n ∧ i = .int .i64 ((j : Int) - 1) ∧ Hid (J (n - j) wr) ∧ Hid (CellsKept (fun p => p = ⟨Bx, 0, none⟩ ∨ ∃ b o i, a = some ⟨b, o, none⟩ ∧ i < j ∧ p = ⟨b, o + i, none⟩) W wr))
    (fun i _ => (intOf i + 1).toNat)
  case atStart => exact ⟨n, Nat.le_refl _, rfl, H0, Lib.hid (CellsKept.refl _ _)⟩
  case round =>
    clear hb H0
    obtain ⟨j, hj, rfl, HJ, HK⟩ := hrel
    by_cases hlt : 0 < j
    · obtain ⟨m, rfl⟩ : ∃ m, j = m + 1 := ⟨j - 1, by omega⟩
      obtain ⟨b, o, rfl, _, hc⟩ := cell_u32 HS.out m (by rw [HL.out]; omega)
      have hcx := (HK.out ⟨b, o + m, none⟩ (.inr ⟨b, o, m, rfl, by omega, rfl⟩)).trans hc
      have hbx := (HK.out ⟨Bx, 0, none⟩ (.inl rfl)).trans HBX.out
      obtain ⟨fn, tmps, assign, body, hy, hR⟩ := HY.out (n - (m + 1)) _ wr (backs_at L _ (by rw [HL.out]; omega)) HJ.out
      rw [show L.length - 1 - (n - (m + 1)) = m by rw [HL.out]; omega] at hy
      obtain ⟨u, hu⟩ : ∃ u, u = L.getD m 0 := ⟨_, rfl⟩
      rw [← hu] at hcx hy
      clear hu hc
      rw [show (((m + 1 : Nat) : Int) - 1) = (m : Int) by omega]
      gi_wp2
      refine hR.mono ?_
      rintro e W3 (⟨rfl, hJ3, hk3, hs3⟩ | ⟨rfl, hJx3⟩)
      · rw [show n - (m + 1) + 1 = n - m by omega] at hJ3
        have HJ3 := Lib.hid hJ3
        have HK3 : Hid (CellsKept (fun p => p = ⟨Bx, 0, none⟩ ∨ ∃ b' o' i, (some ⟨b, o, none⟩ : Option Addr) = some ⟨b', o', none⟩ ∧ i < m ∧ p = ⟨b', o' + i, none⟩) W W3) := Lib.hid (by
          intro p hp
          refine (hk3 p ?_).trans (HK.out p ?_)
          · rcases hp with h | ⟨b', o', i, h1, h2, h3⟩
            · exact .inl h
            · exact .inr ⟨b', o', i, h1, by omega, h3⟩
          · rcases hp with h | ⟨b', o', i, h1, h2, h3⟩
            · exact .inl h
            · exact .inr ⟨b', o', i, h1, by omega, h3⟩)
        clear hJ3 hk3 hs3 hcx hbx hy
        gi_wp2
        go_roundw
        case rel => exact ⟨m, by omega, by first | rfl | go_num, HJ3, HK3⟩
        case measure => simp [intOf] <;> omega
      · gi_wp2
        refine bodyPost_ret (results_none rfl _ _ _) rfl ?_
        exact ⟨⟨_, rfl⟩, .inr ⟨n - (m + 1), by omega, hJx3⟩⟩
    · obtain rfl : j = 0 := by omega
      have HJ2 : Hid (J n wr) := HJ
      clear HJ
      gi_wp2
      go_end0
      exact ⟨⟨_, rfl⟩, .inl HJ2.out⟩

theorem backward_at (Bx : Nat) (a : Option Addr) (n cap : Nat) (L : List Nat) (hn : n ≤ 100000) (w : World) (hb : w.cell? ⟨Bx, 0, none⟩ = some (.slice a n cap)) (hS : Sl w 1 (.slice a n cap) n (u32s L)) :
    SeqAt Fence.wide 9 Tryz.prog 103 #[.pointer (some ⟨Bx, 0, none⟩)] (backs L) (BackC Bx a n) w := by
  intro l J Jx W hW hJ hY h0
  have hL := u32_len hS
  have hlt := World.block_lt_of_cell? w _ hb
  rw [backs_length, hL]
  exact backward_in l Bx a n cap L hL hn J Jx W hY ((hW.cell (p := ⟨Bx, 0, none⟩) hlt).trans hb) (hS.below hW) h0

theorem backward_any (a : Option Addr) (n cap : Nat) (w : World) :
    Calls Tryz.prog 84 #[.slice a n cap] w fun e w' => e = .returned (.func (.func 103) #[] #[.pointer (some ⟨w.heap.size, 0, none⟩)]) ∧ w' = w.alloc (.cells #[.slice a n cap] 61) := by
  have hmf : ∀ (B : Nat) (wx : World), (Instr.makeFunc (.func 103) #[] #[.pointer (some ⟨B, 0, none⟩)]).run Tryz.prog wx = .ok (.func (.func 103) #[] #[.pointer (some ⟨B, 0, none⟩)]) wx := fun _ _ => rfl
  go_enter Tryz.func84, Tryz.ntmps84
  go_wp2_with fail
  go_ret
  exact ⟨rfl, rfl⟩
theorem backC_lt {Bx : Nat} {a : Option Addr} {n : Nat} {B : Nat} (h1 : Bx < B) (h2 : ∀ q, a = some q → 0 < n → q.block < B) : ∀ k p, BackC Bx a n k p → p.block < B := by
  rintro k p (rfl | ⟨b, o, j, rfl, hj, rfl⟩)
  · exact h1
  · exact h2 ⟨b, o, none⟩ rfl (by omega)
end Go.Proofs.YtallbegibdlpaaaGreat

/-
  Numbers by parts of 32 bits: carried, borrowed, moved, divided, from the lowest part up or from the highest one down; plain.
-/
namespace Go.Th.Dig

theorem val_set_of {B : Nat} {l : List Nat} {i : Nat} (h : i < l.length) (d : Nat) : val B ((l.set i d).take (i + 1)) = val B (l.take i) + B ^ i * d := by
  rw [take_val (by simpa using h), List.take_set_of_le (Nat.le_refl _), getD_set _ _ _ _ h, if_pos rfl]
theorem drop_set {l : List Nat} {i d : Nat} : (l.set i d).drop (i + 1) = l.drop (i + 1) := by rw [List.drop_set, if_pos (by omega)]
theorem drop_next {l m : List Nat} {i : Nat} (h : l.drop i = m.drop i) : l.drop (i + 1) = m.drop (i + 1) := by
  have := congrArg (List.drop 1) h
  simpa using this
theorem getD_drop {l m : List Nat} {i : Nat} (h : l.drop i = m.drop i) : l.getD i 0 = m.getD i 0 := by
  have := congrArg (fun l : List Nat => l.getD 0 0) h
  simp only [List.getD_eq_getElem?_getD, List.getElem?_drop, Nat.add_zero] at this ⊢
  exact this
theorem getD_take {l m : List Nat} {i j : Nat} (h : l.take i = m.take i) (hj : j < i) : l.getD j 0 = m.getD j 0 := by
  have := congrArg (fun l : List Nat => l.getD j 0) h
  simp only [List.getD_eq_getElem?_getD, List.getElem?_take, if_pos hj] at this ⊢
  exact this
theorem mem_set {B : Nat} {l : List Nat} (h : ∀ d ∈ l, d < B) {i v : Nat} (hv : v < B) : ∀ d ∈ l.set i v, d < B := by
  intro d hd
  rcases List.mem_or_eq_of_mem_set hd with h' | h'
  · exact h d h'
  · omega
theorem getD_mem {B : Nat} (hB : 0 < B) {l : List Nat} (h : ∀ d ∈ l, d < B) (i : Nat) : l.getD i 0 < B := by
  rw [List.getD_eq_getElem?_getD]
  by_cases hi : i < l.length
  · rw [List.getElem?_eq_getElem hi]; exact h _ (List.getElem_mem _)
  · rw [List.getElem?_eq_none (by omega)]; exact hB
theorem val_join {B : Nat} (l : List Nat) {i : Nat} (hi : i ≤ l.length) : val B l = val B (l.take i) + B ^ i * val B (l.drop i) := by
  have := val_take B l i
  rwa [Nat.min_eq_left hi] at this

/-- From the lowest part up: S is added to W; so many parts of O are done, and c is carried. -/
structure Car (B S : Nat) (W : List Nat) (i c : Nat) (O : List Nat) : Prop where
  len : O.length = W.length
  dig : ∀ d ∈ O, d < B
  sum : val B (O.take i) + B ^ i * c = val B (W.take i) + S
  rest : O.drop i = W.drop i
theorem Car.start {B : Nat} {W : List Nat} (h : ∀ d ∈ W, d < B) : Car B 0 W 0 0 W := ⟨rfl, h, by simp [val], rfl⟩
theorem Car.step {B S : Nat} {W : List Nat} {i c p : Nat} {O : List Nat} (hB : 0 < B) (h : Car B S W i c O) (hi : i < W.length) :
    Car B (S + B ^ i * p) W (i + 1) ((c + p + O.getD i 0) / B) (O.set i ((c + p + O.getD i 0) % B)) := by
  obtain ⟨h1, h2, h3, h4⟩ := h
  refine ⟨by simpa using h1, mem_set h2 (Nat.mod_lt _ hB), ?_, by rw [drop_set]; exact drop_next h4⟩
  rw [val_set_of (by omega), take_val hi, ← getD_drop h4, Nat.pow_succ, Nat.add_assoc, Nat.mul_assoc, ← Nat.mul_add, Nat.mod_add_div, Nat.mul_add, Nat.mul_add]
  omega
theorem Car.total {B S : Nat} {W : List Nat} {i c : Nat} {O : List Nat} (h : Car B S W i c O) (hi : i ≤ W.length) (hz : c = 0 ∨ i = W.length) : val B O + B ^ W.length * c = val B W + S := by
  obtain ⟨h1, h2, h3, h4⟩ := h
  rw [val_join O (i := i) (by omega), val_join W hi, h4]
  rcases hz with rfl | rfl
  · simp at h3 ⊢; omega
  · have e : val B (W.drop W.length) = 0 := by simp [val]
    rw [e]; omega
/-- .., taken off. -/
structure Bor (B S : Nat) (W : List Nat) (i c : Nat) (O : List Nat) : Prop where
  len : O.length = W.length
  dig : ∀ d ∈ O, d < B
  sum : val B (O.take i) + S = val B (W.take i) + B ^ i * c
  rest : O.drop i = W.drop i
theorem Bor.start {B : Nat} {W : List Nat} (h : ∀ d ∈ W, d < B) : Bor B 0 W 0 0 W := ⟨rfl, h, by simp [val], rfl⟩
/-- What is borrowed of one part. -/
def brw (o x : Nat) : Nat := if o < x then 1 else 0
def tkn (B o x : Nat) : Nat := (o + B - x) % B
theorem tkn_eq {B o x : Nat} (ho : o < B) (hx : x < B) : tkn B o x + x = o + B * brw o x := by
  unfold tkn brw
  by_cases h : o < x
  · rw [if_pos h, Nat.mod_eq_of_lt (by omega)]; omega
  · rw [if_neg h, show o + B - x = (o - x) + B by omega, Nat.add_mod_right, Nat.mod_eq_of_lt (by omega)]; omega
theorem tkn_lt {B o x : Nat} (hB : 0 < B) : tkn B o x < B := Nat.mod_lt _ hB
theorem Bor.step {B S : Nat} {W : List Nat} {i c p : Nat} {O : List Nat} (hB : 0 < B) (h : Bor B S W i c O) (hi : i < W.length) :
    Bor B (S + B ^ i * p) W (i + 1) ((c + p) / B + brw (O.getD i 0) ((c + p) % B)) (O.set i (tkn B (O.getD i 0) ((c + p) % B))) := by
  obtain ⟨h1, h2, h3, h4⟩ := h
  have hd := getD_mem hB h2 i
  have e := tkn_eq hd (Nat.mod_lt (c + p) hB)
  have e2 := Nat.mod_add_div (c + p) B
  refine ⟨by simpa using h1, mem_set h2 (tkn_lt hB), ?_, by rw [drop_set]; exact drop_next h4⟩
  rw [val_set_of (by omega), take_val hi, ← getD_drop h4, Nat.pow_succ, Nat.mul_assoc]
  generalize hu : (c + p) % B = u at *
  generalize hq : (c + p) / B = q at *
  generalize ht : tkn B (O.getD i 0) u = t at *
  generalize hb : brw (O.getD i 0) u = b at *
  generalize ho : O.getD i 0 = o at *
  have k1 : B ^ i * (t + u) = B ^ i * (o + B * b) := by rw [e]
  have k2 : B ^ i * (u + B * q) = B ^ i * (c + p) := by rw [e2]
  simp only [Nat.mul_add] at k1 k2 ⊢
  omega
theorem Bor.total {B S : Nat} {W : List Nat} {i c : Nat} {O : List Nat} (h : Bor B S W i c O) (hi : i ≤ W.length) (hz : c = 0 ∨ i = W.length) : val B O + S = val B W + B ^ W.length * c := by
  obtain ⟨h1, h2, h3, h4⟩ := h
  rw [val_join O (i := i) (by omega), val_join W hi, h4]
  rcases hz with rfl | rfl
  · simp at h3 ⊢; omega
  · have e : val B (W.drop W.length) = 0 := by simp [val]
    rw [e]; omega
/-- From the lowest part up: times M. -/
structure Cli (B M : Nat) (W : List Nat) (i c : Nat) (O : List Nat) : Prop where
  len : O.length = W.length
  dig : ∀ d ∈ O, d < B
  sum : val B (O.take i) + B ^ i * c = M * val B (W.take i)
  rest : O.drop i = W.drop i
  car : c < M
theorem Cli.start {B M : Nat} (hM : 0 < M) {W : List Nat} (h : ∀ d ∈ W, d < B) : Cli B M W 0 0 W := ⟨rfl, h, by simp [val], rfl, hM⟩
theorem Cli.step {B M : Nat} {W : List Nat} {i c : Nat} {O : List Nat} (hB : 0 < B) (h : Cli B M W i c O) (hi : i < W.length) :
    Cli B M W (i + 1) ((c + W.getD i 0 * M) / B) (O.set i ((c + W.getD i 0 * M) % B)) := by
  obtain ⟨h1, h2, h3, h4, h5⟩ := h
  have hd := getD_mem hB h2 i
  rw [getD_drop h4] at hd
  refine ⟨by simpa using h1, mem_set h2 (Nat.mod_lt _ hB), ?_, by rw [drop_set]; exact drop_next h4, ?_⟩
  · rw [val_set_of (by omega), take_val hi, Nat.pow_succ, Nat.add_assoc, Nat.mul_assoc, ← Nat.mul_add, Nat.mod_add_div, Nat.mul_add, Nat.mul_add, ← h3, Nat.mul_left_comm M, Nat.mul_comm M (W.getD i 0)]
    omega
  · refine Nat.div_lt_of_lt_mul ?_
    have : (W.getD i 0 + 1) * M ≤ B * M := Nat.mul_le_mul_right _ hd
    rw [Nat.add_mul] at this
    omega
theorem Cli.total {B M : Nat} {W : List Nat} {c : Nat} {O : List Nat} (h : Cli B M W W.length c O) : val B O + B ^ W.length * c = M * val B W := by
  have := h.sum
  rwa [List.take_of_length_le (by rw [h.len]; exact Nat.le_refl _), List.take_of_length_le (Nat.le_refl _)] at this
theorem Cli.room {B M : Nat} {W : List Nat} {c : Nat} {O : List Nat} (h : Cli B M W W.length c O) (hr : M * val B W < B ^ W.length) : val B O = M * val B W := by
  have := h.total
  by_cases h0 : c = 0
  · rw [h0] at this; simpa using this
  · have : B ^ W.length * 1 ≤ B ^ W.length * c := Nat.mul_le_mul_left _ (by omega)
    omega

theorem val_set_high {B : Nat} {l : List Nat} {i d : Nat} (h : i < l.length) : val B ((l.set i d).drop i) = d + B * val B (l.drop (i + 1)) := by
  rw [List.drop_set, if_neg (by omega), Nat.sub_self, drop_step h, List.set_cons_zero, val]
theorem take_set {l m : List Nat} {i d : Nat} (h : l.take (i + 1) = m.take (i + 1)) : (l.set i d).take i = m.take i := by
  rw [List.take_set_of_le (Nat.le_refl _)]
  have := congrArg (List.take i) h
  simpa [List.take_take, Nat.min_eq_left (Nat.le_succ i)] using this
/-- From the highest part down: divided by M, which divides B. -/
structure Snk (B M : Nat) (W : List Nat) (i : Nat) (O : List Nat) : Prop where
  len : O.length = W.length
  dig : ∀ d ∈ O, d < B
  quo : val B (O.drop i) = val B (W.drop i) / M
  rest : O.take i = W.take i
theorem Snk.start {B M : Nat} {W : List Nat} (h : ∀ d ∈ W, d < B) : Snk B M W W.length W := ⟨rfl, h, by simp [val], rfl⟩
theorem Snk.step {B M K : Nat} {W : List Nat} {i : Nat} {O : List Nat} (hM : 0 < M) (hB : B = M * K) (hB0 : 0 < B) (h : Snk B M W (i + 1) O) (hi : i < W.length) :
    Snk B M W i (O.set i ((W.getD (i + 1) 0 * B + W.getD i 0) / M % B)) := by
  obtain ⟨h1, h2, h3, h4⟩ := h
  have hd : W.getD i 0 < B := by rw [← getD_take h4 (Nat.lt_succ_self i)]; exact getD_mem hB0 h2 i
  refine ⟨by simpa using h1, mem_set h2 (Nat.mod_lt _ hB0), ?_, take_set h4⟩
  rw [val_set_high (by omega), h3, drop_any W i B]
  obtain ⟨V, hV⟩ : ∃ V, V = val B (W.drop (i + 1)) := ⟨_, rfl⟩
  have e1 : W.getD (i + 1) 0 % M = V % M := by
    rw [hV, drop_any W (i + 1) B, hB, Nat.mul_assoc, Nat.add_mul_mod_self_left]
  rw [← hV]
  have hK : 0 < K := by
    rcases Nat.eq_zero_or_pos K with h | h
    · rw [h, Nat.mul_zero] at hB; omega
    · exact h
  have q : ∀ x, (x * B + W.getD i 0) / M = x * K + W.getD i 0 / M := fun x => by
    rw [hB, show x * (M * K) + W.getD i 0 = W.getD i 0 + M * (x * K) by rw [Nat.mul_left_comm, Nat.add_comm], Nat.add_mul_div_left _ _ hM, Nat.add_comm]
  have hdK : W.getD i 0 / M < K := Nat.div_lt_of_lt_mul (by rw [← hB]; exact hd)
  rw [show W.getD i 0 + B * V = V * B + W.getD i 0 by rw [Nat.mul_comm, Nat.add_comm], q, q]
  obtain ⟨y, hy⟩ : ∃ y, y = W.getD i 0 / M := ⟨_, rfl⟩
  obtain ⟨x, hx⟩ : ∃ x, x = W.getD (i + 1) 0 := ⟨_, rfl⟩
  rw [← hx] at e1
  rw [← hx, ← hy]
  rw [← hy] at hdK
  have r : ∀ z, z * K = (z % M) * K + B * (z / M) := fun z => by
    have := Nat.mod_add_div z M
    calc z * K = (z % M + M * (z / M)) * K := by rw [this]
      _ = (z % M) * K + B * (z / M) := by rw [Nat.add_mul, hB, Nat.mul_right_comm]
  have hlt : (x % M) * K + y < B := by
    have : (x % M + 1) * K ≤ M * K := Nat.mul_le_mul_right _ (Nat.mod_lt _ hM)
    rw [Nat.add_mul] at this
    omega
  rw [r x, r V, show x % M * K + B * (x / M) + y = x % M * K + y + B * (x / M) by omega, Nat.add_mul_mod_self_left, Nat.mod_eq_of_lt hlt, e1]
  omega
theorem Snk.total {B M : Nat} {W O : List Nat} (h : Snk B M W 0 O) : val B O = val B W / M := by simpa using h.quo
/-- From the highest part down: divided by M; r is left. -/
structure Nin (B M : Nat) (W : List Nat) (i r : Nat) (O : List Nat) : Prop where
  len : O.length = W.length
  dig : ∀ d ∈ O, d < B
  quo : M * val B (O.drop i) + r = val B (W.drop i)
  rest : O.take i = W.take i
  lt : r < M
theorem Nin.start {B M : Nat} (hM : 0 < M) {W : List Nat} (h : ∀ d ∈ W, d < B) : Nin B M W W.length 0 W := ⟨rfl, h, by simp [val], rfl, hM⟩
theorem Nin.step {B M : Nat} {W : List Nat} {i r : Nat} {O : List Nat} (hB : 0 < B) (h : Nin B M W (i + 1) r O) (hi : i < W.length) :
    Nin B M W i ((r * B + W.getD i 0) % M) (O.set i ((r * B + W.getD i 0) / M)) ∧ (r * B + W.getD i 0) / M < B := by
  obtain ⟨h1, h2, h3, h4, h5⟩ := h
  have hd : W.getD i 0 < B := by rw [← getD_take h4 (Nat.lt_succ_self i)]; exact getD_mem hB h2 i
  have hlt : (r * B + W.getD i 0) / M < B := by
    refine Nat.div_lt_of_lt_mul ?_
    have : (r + 1) * B ≤ M * B := Nat.mul_le_mul_right _ h5
    rw [Nat.add_mul] at this
    omega
  refine ⟨⟨by simpa using h1, mem_set h2 hlt, ?_, take_set h4, Nat.mod_lt _ (by omega)⟩, hlt⟩
  rw [val_set_high (by omega), drop_any W i B, ← h3]
  have e := Nat.mod_add_div (r * B + W.getD i 0) M
  simp only [Nat.mul_add]
  rw [Nat.mul_left_comm B M]
  rw [Nat.mul_comm B r]
  omega
theorem Nin.total {B M : Nat} {W : List Nat} {r : Nat} {O : List Nat} (h : Nin B M W 0 r O) : val B O = val B W / M ∧ r = val B W % M := by
  have e := h.quo
  rw [List.drop_zero, List.drop_zero] at e
  rw [← e]
  exact ⟨by rw [Nat.mul_add_div (by have := h.lt; omega), Nat.div_eq_of_lt h.lt, Nat.add_zero], by rw [Nat.mul_add_mod, Nat.mod_eq_of_lt h.lt]⟩
end Go.Th.Dig

/-
  A number as a value: made of its parts, its parts, is it nought: the code's.
-/
namespace Go.Th
open Go Go.RowKit
section
variable {P : Program} {w : World} {t e : TypeId} {bytes : Nat} {a : Option Addr} {n cap : Nat} {xs : List Value}
/-- s[:B:B]. -/
theorem Sl.cut_max (E : ElemOf P t e 1 bytes) (h : Sl w 1 (.slice a n cap) n xs) (k : Nat) (hk : k ≤ n) :
    (∀ wx, (Instr.slice t (.slice a n cap) none (some (.int .i64 k)) (some (.int .i64 k))).run P wx = .ok (.slice a k k) wx) ∧ Sl w 1 (.slice a k k) k (xs.take k) := by
  obtain ⟨i, z, hi, hz, hsize, hby, hzs⟩ := E.info
  obtain ⟨hnc, hcm⟩ := h.max
  obtain ⟨a0, c0, he, h1, h2, h3, h4, h5⟩ := h
  cases he
  refine ⟨fun wx => ?_, ?_⟩
  · have hb2 : (k : Int) ≤ cap := by omega
    have hb3 : k ≤ cap := by omega
    have ha : (if k = 0 then a else a.map (·.add 0)) = a := by
      split
      · rfl
      · cases a <;> simp [Addr.add]
    simp [Instr.slice, run_underlying E.und, Instr.sliceBounds, run_sliceBound, hb3, sizeOf, typeInfo, hi]
    simpa using ha
  · refine ⟨_, _, rfl, by simp; omega, Nat.le_refl _, by omega, fun hn => ?_, fun j u hu => ?_⟩
    · have := h4 hn; omega
    · have hj : j < k := by
        have := (List.getElem?_eq_some_iff.1 hu).1
        simp at this; omega
      rw [List.getElem?_take, if_pos hj] at hu
      exact h5 j u hu
end
section
variable {P : Program} {w w0 : World} {bs bs' : List (Nat × TypeId × List Value)} {g off : Nat} {t ty : TypeId} {cs cs' : List Value} {v : Value} {ops : Array Oper} {rest : List Oper} {o : Oper} {a : Act} {Q : Exit → Act → World → Prop} {x y : Operand}
theorem turned_row16 (w : World) (g : Nat) (ds : Array Value) : Turned (fun k => k = g) w (w.setRow g ds) := ⟨rfl, rfl, rfl, by simp [World.setRow], fun j hj hs => setRow_other w g j _ hs⟩
/-- A store, its world told. -/
theorem wpL_stT (M : Mem w0 w bs) (hgd : o.guard = none) (ho : o.op = .store ty x y) (hx : a.eval x = .pointer (some ⟨g, off, none⟩)) (hy : a.eval y = v) (hr : Wr P ty off cs v cs') (hu : Upd bs g t cs cs' bs')
    (h : ∀ w', Mem w0 w' bs' → Turned (fun k => k = g) w w' → wpList P ops Q rest (a.put o.dst undef) w') : wpList P ops Q (o :: rest) a w := wpList_plain hgd fun _ hK => by
  unfold Oper.wp execOp
  simp only [ho, hx, hy, Instr.storeAt, Instr.sureAddr, Sem.run_bind, Sem.run_pure, Result.andThen_ok, hr.run w g t (M.has hu.has)]
  exact hK _ _ (h _ (M.row hu) (turned_row16 _ _ _))
theorem wpL_stcT {ds : List Value} {k k' : Nat} (M : Mem w0 w bs) (hgd : o.guard = none) (ho : o.op = .store ty x y) (hx : a.eval x = .pointer (some ⟨g, 0, none⟩)) (hy : a.eval y = .agg ds.toArray) (h : ∀ w', Mem w0 w' bs' → Turned (fun k => k = g) w w' → wpList P ops Q rest (a.put o.dst undef) w')
    [hm : HsI bs g t cs] [hs : SzI P ty k] [hl : LnI cs k] [hd : LnI ds k'] [hc : OcI ds] [hu : UpI bs g t cs ds bs'] (hk : k' = k := by rfl) : wpList P ops Q (o :: rest) a w :=
  wpL_stT M hgd ho hx hy (Wr.whole (by rw [hs.sz, hd.ln, hk]) (by rw [hd.ln, hl.ln, hk]) hc.oc) hu.upd h
theorem wpL_stiT {kd : IntKind} {n : Int} (M : Mem w0 w bs) (hgd : o.guard = none) (ho : o.op = .store ty x y) (hx : a.eval x = .pointer (some ⟨g, off, none⟩)) (hy : a.eval y = .int kd n) (h : ∀ w', Mem w0 w' bs' → Turned (fun k => k = g) w w' → wpList P ops Q rest (a.put o.dst undef) w')
    [hm : HsI bs g t cs] [hs : SzI P ty 1] [he : StI cs off (.int kd n) cs'] [hu : UpI bs g t cs cs' bs'] : wpList P ops Q (o :: rest) a w :=
  wpL_stT M hgd ho hx hy (wr_cell1 hs.sz (List.getElem?_eq_getElem he.lt) rfl (fun w g hc hf => store_int kd n _ w g off hc hf) he.st) hu.upd h
end
end Go.Th
namespace Go.Proofs.YtallbegibdlpaaaGreat
open Go Go.RowKit Go.Th Go.Th.Dig

theorem size26 : (Tryz.prog.info? 63).map (·.size) = some 1 := by kernel_rfl
theorem rd_nat (s : Value) : Rd Tryz.prog 63 0 [s] (.agg #[s]) := Rd.agg (ds := [s]) Tryz.underlying63 rfl size26 (fun j u hj => by rw [Nat.zero_add]; exact hj)
instance rNat (s : Value) : RdI Tryz.prog 63 0 [s] (.agg #[s]) := ⟨rd_nat s⟩
instance kNat : SzI Tryz.prog 63 1 := ⟨size26⟩
instance zNat : ZrI Tryz.prog 63 (.agg #[.slice none 0 0]) [.slice none 0 0] := ⟨by kernel_rfl, rfl⟩
instance bU32r : BsI Tryz.prog 61 := ⟨fun h => Rd.one Tryz.underlying61 rfl h⟩
instance bIntN : BsI Tryz.prog 3 := ⟨fun h => Rd.one Tryz.underlying3 rfl h⟩
instance bU64N : BsI Tryz.prog 49 := ⟨fun h => Rd.one Tryz.underlying49 rfl h⟩
instance kIntN : SzI Tryz.prog 3 1 := ⟨by kernel_rfl⟩
instance kU64N : SzI Tryz.prog 49 1 := ⟨by kernel_rfl⟩
instance zIntN : ZrI Tryz.prog 3 (.int .i64 0) [.int .i64 0] := ⟨by kernel_rfl, rfl⟩
instance zU64N : ZrI Tryz.prog 49 (.int .u64 0) [.int .u64 0] := ⟨by kernel_rfl, rfl⟩
theorem Eu32 : ElemOf Tryz.prog 61 109 1 4 := ElemOf.mk' Tryz.underlying61 (z := .int .u32 0) (by kernel_rfl) rfl (by decide)
theorem oneCell_u32s (l : List Nat) : ∀ u ∈ u32s l, u.oneCell' = true := by
  intro u hu
  obtain ⟨x, _, rfl⟩ := List.mem_map.1 hu
  rfl
theorem u32s_length (l : List Nat) : (u32s l).length = l.length := by simp [u32s]
theorem u32s_take (l : List Nat) (k : Nat) : (u32s l).take k = u32s (l.take k) := by simp [u32s, List.map_take]
theorem u32s_drop (l : List Nat) (k : Nat) : (u32s l).drop k = u32s (l.drop k) := by simp [u32s, List.map_drop]

/-- Where no cell of a block is a part, a row of parts does not lie there. -/
def NoPart (cs : List Value) : Prop := ∀ u ∈ cs, ∀ x, u ≠ .int .u32 x
theorem noPart_sl (a : Option Addr) (n cap : Nat) : NoPart [.slice a n cap] := by intro u hu x e; rw [List.mem_singleton] at hu; rw [hu] at e; cases e
theorem sl_other {w : World} {g : Nat} {t : TypeId} {cs : List Value} {a : Option Addr} {n cap : Nat} {l : List Nat} (hS : Sl w 1 (.slice a n cap) n (u32s l)) (K : Blk w g t cs) (hno : NoPart cs) : ∀ (j : Nat) (u : Value), (u32s l)[j]? = some u → ∀ q : Addr, a = some q → q.block ≠ g := by
  rintro j u hu q rfl rfl
  obtain ⟨_, _, e, _, _, _, _, h⟩ := id hS
  cases e
  obtain ⟨b, o, e, hc⟩ := h j u hu
  cases e
  obtain ⟨x, _, rfl⟩ := List.mem_map.1 (List.mem_of_getElem? hu)
  unfold Blk at K
  have h2 : (cs.toArray)[o + j]? = some (.int .u32 (x : Int)) := by simpa [World.cell?, K] using hc
  exact hno _ (List.mem_of_getElem? (by simpa using h2)) _ rfl
theorem sl_kept {w w' : World} {g : Nat} {t : TypeId} {cs : List Value} {v : Value} {n : Nat} {l : List Nat} (hS : Sl w 1 v n (u32s l)) (K : Blk w g t cs) (hno : NoPart cs) (hT : Turned (fun k => k = g) w w') : Sl w' 1 v n (u32s l) := by
  obtain ⟨a, cap, rfl, h1, h2, h3, h4, h5⟩ := id hS
  refine ⟨a, cap, rfl, h1, h2, h3, h4, fun j u hu => ?_⟩
  obtain ⟨b, o, ha, hc⟩ := h5 j u hu
  exact ⟨b, o, ha, (hT.cell (p := ⟨b, o + j, none⟩) (World.block_lt_of_cell? w _ hc) (sl_other hS K hno j u hu ⟨b, o, none⟩ ha)).trans hc⟩

/-- A value reads as a number. -/
def IsN (w : World) (v : Value) (p : Nat) : Prop := ∃ a cap, v = .agg #[.slice a (dg 4294967296 p).length cap] ∧ Sl w 1 (.slice a (dg 4294967296 p).length cap) (dg 4294967296 p).length (u32s (dg 4294967296 p))
theorem IsN.below {w w' : World} {v : Value} {p : Nat} (h : IsN w v p) (hb : Below w.heap.size w w') : IsN w' v p := by
  obtain ⟨a, cap, h1, h2⟩ := h
  exact ⟨a, cap, h1, h2.below hb⟩
theorem IsN.kept {w w' : World} {v : Value} {p g : Nat} {t : TypeId} {cs : List Value} (h : IsN w v p) (K : Blk w g t cs) (hno : NoPart cs) (hT : Turned (fun k => k = g) w w') : IsN w' v p := by
  obtain ⟨a, cap, h1, h2⟩ := h
  exact ⟨a, cap, h1, sl_kept h2 K hno hT⟩
/-- How many parts a number has. -/
abbrev len32 (p : Nat) : Nat := (dg 4294967296 p).length
theorem len32_0 (p : Nat) : len32 p = 0 ↔ p = 0 := by
  constructor
  · intro h
    have := dg_val (B := 4294967296) (by decide) p
    rw [List.eq_nil_of_length_eq_zero h] at this
    exact this.symm
  · rintro rfl; rfl
theorem len32_lt (p : Nat) : p < 4294967296 ^ len32 p := by
  have := val_lt (B := 4294967296) (by decide) (dg_lt (by decide : 0 < 4294967296) p)
  rwa [dg_val (by decide)] at this

/-- Parts without the noughts at the end. -/
theorem cut_any (a : Option Addr) (n cap : Nat) (l : List Nat) (w : World) (hS : Sl w 1 (.slice a n cap) n (u32s l)) (hl : ∀ d ∈ l, d < 4294967296) (hn : n ≤ 1000000) :
    Calls Tryz.prog 81 #[.slice a n cap] w fun e w' => e = .returned (.slice a (len32 (val 4294967296 l)) (len32 (val 4294967296 l))) ∧ w = w' ∧ Sl w 1 (.slice a (len32 (val 4294967296 l)) (len32 (val 4294967296 l))) (len32 (val 4294967296 l)) (u32s (dg 4294967296 (val 4294967296 l))) := by
  have hll := u32_len hS
  have HS := Lib.hid hS
  obtain ⟨D, hD⟩ : ∃ D, D = dg 4294967296 (val 4294967296 l) := ⟨_, rfl⟩
  have HL := Lib.hid (fun k (h1 : Noughts l k) (h2 : k ≤ n) (h : 0 < k → l.getD (k - 1) 0 ≠ 0) => (show l.take k = D by rw [hD]; exact dg_cut (by decide) hl h1 (by omega) h))
  show Calls _ _ _ _ fun e w' => e = .returned (.slice a (dg 4294967296 (val 4294967296 l)).length (dg 4294967296 (val 4294967296 l)).length) ∧ w = w' ∧ Sl w 1 (.slice a (dg 4294967296 (val 4294967296 l)).length (dg 4294967296 (val 4294967296 l)).length) (dg 4294967296 (val 4294967296 l)).length (u32s (dg 4294967296 (val 4294967296 l)))
  rw [← hD]
  clear hl hD
  go_enter Tryz.func81, Tryz.ntmps81
  go_wp2
  go_loop [3] (fun c => ∃ k : Nat, k ≤ n ∧ c = .int .i64 k ∧ Hid (Noughts l k)) (fun c => (intOf c).toNat)
  case atStart => exact ⟨n, Nat.le_refl _, rfl, Lib.hid (fun i hi h => by omega)⟩
  case round =>
    obtain ⟨k, hk, rfl, HZ⟩ := hrel
    have out : (0 < k → l.getD (k - 1) 0 ≠ 0) → l.take k = D := fun h => HL.out k HZ.out hk h
    by_cases h0 : k = 0
    · subst h0
      obtain ⟨C1, C2⟩ := Sl.cut_max (t := 61) Eu32 HS.out 0 (Nat.zero_le _)
      have hd := out (fun h => absurd h (by decide))
      rw [u32s_take, hd] at C2
      have hlen : D.length = 0 := by rw [← hd]; simp
      have HD := Lib.hid hlen
      have HC2 := Lib.hid C2
      have C1' : ∀ wx, (Instr.slice 61 (.slice a n cap) none (some (.int .i64 0)) (some (.int .i64 0))).run Tryz.prog wx = .ok (.slice a 0 0) wx := fun wx => C1 wx
      clear C1 C2 hd hlen out hS
      go_wp2
      go_ret
      exact ⟨by rw [HD.out]; rfl, rfl, by rw [HD.out]; exact HC2.out⟩
    · obtain ⟨m, rfl⟩ : ∃ m, k = m + 1 := ⟨k - 1, by omega⟩
      obtain ⟨b, o, ea, hb, hc⟩ := cell_u32 HS.out m (by omega)
      subst ea
      by_cases hx : l.getD m 0 = 0
      · have HZ2 := Lib.hid (HZ.out.step hx)
        rw [hx] at hc
        clear out hS
        go_wp2
        go_round
        case rel => exact ⟨m, by omega, by first | rfl | skip, HZ2⟩
        case measure => simp [intOf] <;> omega
      · obtain ⟨C1, C2⟩ := Sl.cut_max (t := 61) Eu32 HS.out (m + 1) hk
        have hd := out (fun _ => by simpa using hx)
        rw [u32s_take, hd] at C2
        have hlen : D.length = m + 1 := by rw [← hd, List.length_take]; omega
        have HD := Lib.hid hlen
        have HC2 := Lib.hid C2
        have C1' : ∀ wx, (Instr.slice 61 (.slice (some ⟨b, o, none⟩) n cap) none (some (.int .i64 ((m : Int) + 1))) (some (.int .i64 ((m : Int) + 1)))).run Tryz.prog wx = .ok (.slice (some ⟨b, o, none⟩) (m + 1) (m + 1)) wx := fun wx => C1 wx
        obtain ⟨x, hxx⟩ : ∃ x, x = l.getD m 0 := ⟨_, rfl⟩
        rw [← hxx] at hc hx
        clear C1 C2 hd hlen out hS hxx
        go_wp2
        go_ret
        exact ⟨by rw [HD.out]; rfl, rfl, by rw [HD.out]; exact HC2.out⟩

theorem clone32_any (vx : Value) (n : Nat) (z : List Nat) (hz : z.length = n) (w : World) (h : Sl w 1 vx n (u32s z)) (hl : n ≤ 1000000) :
    Calls Tryz.prog 79 #[vx] w fun e w' => ∃ v, e = .returned v ∧ w'.ownsRow w.heap.size 109 1 v n (u32s z) ∧ Below w.heap.size w w' := by
  subst hz
  have hs := h
  obtain ⟨a, cap, rfl, h1, h2, h3, h4, h5⟩ := h
  cases a with
  | none =>
    obtain ⟨h0, rfl⟩ := h4 rfl
    have hnil : z = [] := List.eq_nil_of_length_eq_zero h0
    subst hnil
    have hq : ∀ wx : World, (binOp .eql 61 (.slice none 0 0) (.slice none 0 0)).run Tryz.prog wx = .ok (.bool true) wx := fun wx => Lib.run_eql_slice_nil wx 61 109 none _ _ 0 0 Tryz.underlying61
    go_enter Tryz.func79, Tryz.ntmps79
    go_wp2
    go_ret
    exact ⟨_, rfl, World.ownsRow_nil _ _ _ _, Below.refl _ _⟩
  | some ad =>
    have hx : Sl (w.alloc (.cells #[] 109)) 1 (.slice (some ad) z.length cap) z.length (u32s z) := hs.below ((Below.refl _ _).alloc (Nat.le_refl _) _)
    have hown := World.ownsRow_made (base := w.heap.size) (e := 109) (size := 1) w #[] 0 (Nat.le_refl _) (Nat.zero_le _) rfl
    have hq : ∀ wx : World, (binOp .eql 61 (.slice (some ad) z.length cap) (.slice none 0 0)).run Tryz.prog wx = .ok (.bool false) wx := fun wx => Lib.run_eql_slice_nil wx 61 109 (some ad) _ _ 0 0 Tryz.underlying61
    go_enter Tryz.func79, Tryz.ntmps79
    go_wp2_with (at_builtin; refine wpList_app Eu32 rfl (.tmp 5) (.tmp 6) rfl w.heap.size rfl hown rfl hx (oneCell_u32s _) (by unfold maxLen; omega) (by omega) (by simp) ?_)
    intro v' w' hown' hgrow _
    go_wp2
    go_ret
    exact ⟨_, rfl, by simpa using hown', ((Below.refl _ _).alloc (Nat.le_refl _) _).grown hgrow (by simp) (fun k hk => by simp [Value.ownBlock] at hk; omega)⟩

theorem zero_any (v : Value) (p : Nat) (w : World) (h : IsN w v p) (hp : len32 p ≤ 1000000) :
    Calls Tryz.prog 43 #[v] w fun e w' => e = .returned (.bool (decide (p = 0))) ∧ Below w.heap.size w w' := by
  obtain ⟨a, cap, rfl, hS⟩ := h
  have e : decide ((dg 4294967296 p).length = 0) = decide (p = 0) := by rw [decide_eq_decide]; exact len32_0 p
  have HE := Lib.hid e
  obtain ⟨n, hn⟩ : ∃ n, n = (dg 4294967296 p).length := ⟨_, rfl⟩
  have HN := Lib.hid hn
  rw [← hn] at e ⊢
  have hB := (Below.refl w.heap.size w).alloc (Nat.le_refl _) (.cells #[.slice a n cap] 63)
  clear hS hp hn e
  go_enter Tryz.func43, Tryz.ntmps43
  go_wp2
  go_ret
  exact ⟨ret_bool (by rw [← HE.out, ← HN.out]; by_cases h : n = 0 <;> simp [h]), hB⟩

theorem sl_lit2 (w : World) (u v : Value) (t : TypeId) : Sl (w.alloc (.cells #[u, v] t)) 1 (.slice (some ⟨w.heap.size, 0, none⟩) 2 2) 2 [u, v] := by
  refine ⟨_, _, rfl, rfl, Nat.le_refl _, by unfold maxLen; omega, fun h => (by cases h), ?_⟩
  intro j x h
  match j, h with
  | 0, h =>
    simp at h; subst h
    exact ⟨_, _, rfl, by rw [World.cell?_alloc_at _ _ _ _ (by simp)]; rfl⟩
  | 1, h =>
    simp at h; subst h
    exact ⟨_, _, rfl, by rw [World.cell?_alloc_at _ _ _ _ (by simp)]; rfl⟩

set_option maxRecDepth 20000 in
theorem of_any (x : Nat) (hx : x < 18446744073709551616) (w : World) :
    Calls Tryz.prog 58 #[.int .u64 x] w fun e w' => ∃ v, e = .returned v ∧ IsN w' v x ∧ Below w.heap.size w w' := by
  have hv : val 4294967296 [x % 4294967296, x / 4294967296] = x := by simp [val]; omega
  have hd : ∀ d ∈ [x % 4294967296, x / 4294967296], d < 4294967296 := by intro d hd; simp at hd; omega
  have C := fun (wx : World) => cut_any _ 2 2 [x % 4294967296, x / 4294967296] _ (sl_lit2 wx (.int .u32 ((x % 4294967296 : Nat) : Int)) (.int .u32 ((x / 4294967296 : Nat) : Int)) 109) hd (by omega)
  rw [hv] at C
  have HC := Lib.hid C
  have M0 := Mem.start w
  clear C hv hd
  go_enter Tryz.func58, Tryz.ntmps58
  go_wp2_with ((with_reducible refine (?_ : Go.wpList _ _ _ (_ :: _) _ _)); (first | go_skip | (refine wpL_bx M0 rfl rfl rfl rfl ?_; clear M0; intro g1 w1 M1) | (refine wpL_alc M0 rfl rfl ?_; clear M0; intro g1 w1 M1) | (refine wpL_ldc M0 rfl rfl rfl ?_) | (refine wpL_lgc M0 rfl rfl rfl ?_) | (refine wpL_stc M0 rfl rfl rfl rfl ?_; clear M0; intro w' M0) | (refine wpL_sti M0 rfl rfl rfl rfl ?_; clear M0; intro w' M0) | (refine wpL_sth M0 rfl rfl rfl rfl (wr_minus _ _ _) ?_; clear M0; intro w' M0) | (refine wpL_ldc M1 rfl rfl rfl ?_) | (refine wpL_lgc M1 rfl rfl rfl ?_) | (refine wpL_stc M1 rfl rfl rfl rfl ?_; clear M1; intro w' M1) | (refine wpL_sti M1 rfl rfl rfl rfl ?_; clear M1; intro w' M1) | (refine wpL_sth M1 rfl rfl rfl rfl (wr_minus _ _ _) ?_; clear M1; intro w' M1)))
  refine (HC.out _).mono ?_
  rintro e w2 ⟨rfl, rfl, S2⟩
  have M2 := M1.alloc 109 [.int .u32 ((x % 4294967296 : Nat) : Int), .int .u32 ((x / 4294967296 : Nat) : Int)]
  have K2 := M2.has (.tail _ _ _ _ _ (Has.head _ _ _ _))
  go_wp2_with ((with_reducible refine (?_ : Go.wpList _ _ _ (_ :: _) _ _)); (first | go_skip | (refine wpL_ldc M2 rfl rfl rfl ?_) | (refine wpL_lgc M2 rfl rfl rfl ?_) | (refine wpL_stcT M2 rfl rfl rfl rfl ?_; clear M2; intro w' M2 hT) | (refine wpL_stiT M2 rfl rfl rfl rfl ?_; clear M2; intro w' M2 hT)))
  refine bodyPost_ret (res_cell rfl M2 rfl (.tail _ _ _ _ _ (Has.head _ _ _ _)) (rd_nat _)) rfl ?_
  exact ⟨_, rfl, ⟨_, _, rfl, sl_kept S2 K2 (noPart_sl _ _ _) hT⟩, M2.below⟩

end Go.Proofs.YtallbegibdlpaaaGreat

/-
  Parts in a row of the call's own: raised by a number times another row: the code's.
-/
namespace Go.Proofs.YtallbegibdlpaaaGreat
open Go Go.RowKit Go.Th Go.Th.Dig

/-! ### A part of a block -/
theorem u32s_at (l : List Nat) (i : Nat) (h : i < l.length) : (u32s l)[i]? = some (.int .u32 ((l.getD i 0 : Nat) : Int)) := by simp [u32s, List.getElem?_eq_getElem h]
theorem u32s_set (l : List Nat) (i v : Nat) : (u32s l).set i (.int .u32 (v : Int)) = u32s (l.set i v) := by simp [u32s, List.map_set]
theorem win_len {cs : List Value} {o : Nat} {R : List Nat} (h : o + R.length ≤ cs.length) : (over cs o (u32s R)).length = cs.length := over_length _ _ _ (by rw [u32s_length]; exact h)
theorem win_at {cs : List Value} {o : Nat} {R : List Nat} (h : o + R.length ≤ cs.length) {j : Nat} (hj : j < R.length) : (over cs o (u32s R))[o + j]? = some (.int .u32 ((R.getD j 0 : Nat) : Int)) := by
  unfold over splice
  have e : (cs.take o).length = o := by rw [List.length_take]; omega
  rw [List.getElem?_append_right (by omega), e, Nat.add_sub_cancel_left, List.getElem?_append_left (by rw [u32s_length]; exact hj), u32s_at _ _ hj]
theorem win_set {cs : List Value} {o : Nat} {R : List Nat} (h : o + R.length ≤ cs.length) {j : Nat} (hj : j < R.length) (v : Nat) : (over cs o (u32s R)).set (o + j) (.int .u32 (v : Int)) = over cs o (u32s (R.set j v)) := by
  unfold over splice
  have e : (cs.take o).length = o := by rw [List.length_take]; omega
  rw [List.set_append_right _ _ (by omega), e, Nat.add_sub_cancel_left, List.set_append_left _ _ (by rw [u32s_length]; exact hj), u32s_set, u32s_length, u32s_length, List.length_set]
theorem win_mod {cs : List Value} {o : Nat} {R : List Nat} (h : o + R.length ≤ cs.length) {j : Nat} (hj : j < R.length) (T : Nat) : (over cs o (u32s R)).set (o + j) (.int .u32 ((T : Int) % 4294967296)) = over cs o (u32s (R.set j (T % 4294967296))) := by
  rw [← win_set h hj]
  congr 2
theorem win_self {l : List Nat} {o k : Nat} (h : o + k ≤ l.length) : over (u32s l) o (u32s ((l.drop o).take k)) = u32s l := by
  have e : (u32s ((l.drop o).take k)).length = k := by rw [u32s_length, List.length_take, List.length_drop]; omega
  unfold over splice
  rw [e, u32s_take, u32s_drop]
  show u32s _ ++ (u32s _ ++ u32s _) = _
  have : l = l.take o ++ ((l.drop o).take k ++ l.drop (o + k)) := by
    have e2 : l.drop (o + k) = (l.drop o).drop k := by rw [List.drop_drop]
    rw [e2, List.take_append_drop, List.take_append_drop]
  conv => rhs; rw [this]
  simp [u32s]
/-- .., as a row. -/
theorem win_sl {w : World} {g o : Nat} {cs : List Value} {R : List Nat} (K : Blk w g 109 (over cs o (u32s R))) (h : o + R.length ≤ cs.length) {n cap : Nat} (hn : R.length = n) (h1 : n ≤ cap) (h2 : cap ≤ maxLen) : Sl w 1 (.slice (some ⟨g, o, none⟩) n cap) n (u32s R) := by
  refine ⟨_, _, rfl, by rw [u32s_length, Nat.mul_one]; exact hn, h1, h2, fun h => (by cases h), fun j u hu => ?_⟩
  have hj : j < R.length := by have := (List.getElem?_eq_some_iff.1 hu).1; rwa [u32s_length] at this
  rw [u32s_at _ _ hj] at hu
  cases hu
  exact ⟨_, _, rfl, K.cell (win_at h hj)⟩

/-- A row that lies elsewhere, if it has any part. -/
theorem sl_turned {w w' : World} {S : Nat → Prop} {a : Option Addr} {n cap : Nat} {l : List Nat} (h : Sl w 1 (.slice a n cap) n (u32s l)) (hT : Turned S w w') (hs : 0 < n → ∀ q, a = some q → ¬ S q.block) : Sl w' 1 (.slice a n cap) n (u32s l) := by
  by_cases h0 : 0 < n
  · exact h.turned hT (hs h0)
  · have hl := u32_len h
    obtain ⟨a0, c0, he, h1, h2, h3, h4, h5⟩ := h
    cases he
    exact ⟨a, cap, rfl, h1, h2, h3, h4, fun j u hu => by
      have := (List.getElem?_eq_some_iff.1 hu).1
      rw [u32s_length] at this
      omega⟩
theorem mul_small {x p : Nat} (hx : x < 4294967296) (hp : p < 4294967296) : x * p ≤ 18446744065119617025 :=
  Nat.le_trans (Nat.mul_le_mul (by omega : x ≤ 4294967295) (by omega : p ≤ 4294967295)) (by decide)
theorem u64_in (n : Nat) (h : n ≤ 18446744073709551615) : IntKind.u64.wrap (n : Int) = (n : Int) := by
  have e : IntKind.u64.wrap (n : Int) = (n : Int) % 18446744073709551616 := rfl
  rw [e]; omega

set_option maxRecDepth 20000 in
set_option maxHeartbeats 3200000 in
theorem raise_go (g o n cap : Nat) (b : Option Addr) (m capb x : Nat) (W L : List Nat) (cs : List Value) (w : World) (hK : Blk w g 109 (over cs o (u32s W))) (ho : o + n ≤ cs.length) (hW : W.length = n) (hd : ∀ d ∈ W, d < 4294967296)
    (hL : Sl w 1 (.slice b m capb) m (u32s L)) (hap : 0 < m → ∀ q, b = some q → q.block ≠ g) (hm : m ≤ n) (hn : n ≤ 1000000) (hx : x < 4294967296) (hl : ∀ d ∈ L, d < 4294967296) :
    Calls Tryz.prog 82 #[.slice (some ⟨g, o, none⟩) n cap, .slice b m capb, .int .u32 x] w fun e w' => ∃ c O, e = .returned (.bool (decide (c ≠ 0))) ∧ Blk w' g 109 (over cs o (u32s O)) ∧ O.length = n ∧ (∀ d ∈ O, d < 4294967296) ∧
      val 4294967296 O + 4294967296 ^ n * c = val 4294967296 W + x * val 4294967296 L ∧ Turned (fun k => k = g) w w' := by
  have lx := u32_len hL
  have HL := Lib.hid hL
  have HD := Lib.hid (getD_u32 hl)
  have HAP := Lib.hid (fun wr (hT : Turned (fun k => k = g) w wr) => sl_turned hL hT hap)
  have HW := Lib.hid hW
  have LX := Lib.hid lx
  have HC0 : Hid (Car 4294967296 (x * val 4294967296 (L.take 0)) W 0 0 W) := Lib.hid (Car.start hd)
  have HTK : Hid (∀ k, k < m → x * val 4294967296 (L.take (k + 1)) = x * val 4294967296 (L.take k) + 4294967296 ^ k * (x * L.getD k 0)) := Lib.hid (fun k hk => by
    rw [take_val (by omega), Nat.mul_add, Nat.mul_left_comm])
  have hT0 := Turned.refl (fun k => k = g) w
  clear hL hap hd hl lx
  go_enter Tryz.func82, Tryz.ntmps82
  go_wp2_with fail
  go_loopw [7, 13] (fun c i wr => ∃ (k r : Nat) (O : List Nat), k ≤ m ∧ r < 4294967296 ∧ c = .int .u64 r ∧ i = .int .i64 k ∧ Hid (Car 4294967296 (x * val 4294967296 (L.take k)) W k r O) ∧ Blk wr g 109 (over cs o (u32s O)) ∧ Turned (fun k => k = g) w wr) (fun _ i _ => m - (intOf i).toNat)
  case atStart => exact ⟨0, 0, W, Nat.zero_le _, by omega, rfl, rfl, HC0, hK, hT0⟩
  case round =>
    clear hK HC0 hT0
    obtain ⟨k, r, O, hk, hr, rfl, rfl, HI, hK, hT⟩ := hrel
    by_cases hlt : k < m
    · have hol : O.length = n := by rw [HI.out.len, HW.out]
      obtain ⟨b1, o1, rfl, hb1, hc1⟩ := cell_u32 (HAP.out wr hT) k (by rw [LX.out]; exact hlt)
      have hc0 := hK.cell (win_at (by omega) (by omega : k < O.length))
      have hf0 := hK.free (o + k)
      have hu := HD.out k
      have hv := getD_mem (by decide : 0 < 4294967296) HI.out.dig k
      have hst := HI.out.step (p := x * L.getD k 0) (by decide) (by rw [HW.out]; omega)
      rw [← HTK.out k hlt] at hst
      obtain ⟨u, eu⟩ : ∃ u, u = L.getD k 0 := ⟨_, rfl⟩
      obtain ⟨d, ed⟩ : ∃ d, d = O.getD k 0 := ⟨_, rfl⟩
      rw [← eu] at hc1 hu hst
      rw [← ed] at hc0 hv hst
      have hq := mul_small hx hu
      obtain ⟨q, eq⟩ : ∃ q, q = x * u := ⟨_, rfl⟩
      rw [← eq] at hq hst
      have e1 : IntKind.u64.wrap ((x : Int) * (u : Int)) = (q : Int) := by
        rw [← Int.natCast_mul, ← eq]; exact u64_in _ (by omega)
      obtain ⟨s, es⟩ : ∃ s, s = q + d := ⟨_, rfl⟩
      have e2 : IntKind.u64.wrap ((q : Int) + (d : Int)) = (s : Int) := by
        rw [← Int.natCast_add, ← es]; exact u64_in _ (by omega)
      obtain ⟨T, eT⟩ : ∃ T, T = r + q + d := ⟨_, rfl⟩
      have e3 : IntKind.u64.wrap ((r : Int) + (s : Int)) = (T : Int) := by
        rw [← Int.natCast_add, show r + s = T by omega]; exact u64_in _ (by omega)
      rw [← eT] at hst
      have HTB := Lib.hid (show T / 4294967296 < 4294967296 by omega)
      have HST := Lib.hid hst
      have HS := Lib.hid (win_mod (o := o) (R := O) (cs := cs) (by omega) (by omega : k < O.length) T)
      have K7 := hK.set (o + k) (.int .u32 ((T : Int) % 4294967296)) (by rw [win_len (by omega)]; omega)
      rw [HS.out] at K7
      have T7 := hT.setCell (a := ⟨g, o + k, none⟩) (.inl rfl) (.int .u32 ((T : Int) % 4294967296))
      have HK7 := Lib.hid K7
      have HT7 := Lib.hid T7
      clear eu ed eq es eT hst HI K7 T7 HS hK hT hq
      go_wp2_with fail
      go_roundw
      case rel => exact ⟨k + 1, T / 4294967296, _, by omega, HTB.out, by go_num, by go_num, HST, HK7.out, HT7.out⟩
      case measure => simp [intOf]; omega
    · obtain rfl : k = m := by omega
      have HI2 : Hid (Car 4294967296 (x * val 4294967296 L) W k r O) := Lib.hid (by
        have := HI.out
        rwa [List.take_of_length_le (by rw [LX.out]; exact Nat.le_refl _)] at this)
      clear HI HTK HD HAP HL
      go_wp2_with fail
      go_loopw [7, 10] (fun c i wr => ∃ (j r : Nat) (O : List Nat), k ≤ j ∧ j ≤ n ∧ r < 4294967296 ∧ c = .int .u64 r ∧ i = .int .i64 j ∧ Hid (Car 4294967296 (x * val 4294967296 L) W j r O) ∧ Blk wr g 109 (over cs o (u32s O)) ∧ Turned (fun k => k = g) w wr) (fun _ i _ => n - (intOf i).toNat)
      case atStart => exact ⟨k, r, O, Nat.le_refl _, hm, hr, rfl, rfl, HI2, hK, hT⟩
      case round =>
        clear hK hT HI2 hr
        obtain ⟨j, r, O, hkj, hj, hr, rfl, rfl, HI, hK, hT⟩ := hrel
        have hol : O.length = n := by rw [HI.out.len, HW.out]
        by_cases hr0 : r = 0
        · have hd0 : ((r : Int) != 0) = false := by simp [hr0]
          have ht := HI.out.total (by rw [HW.out]; exact hj) (.inl hr0)
          rw [HW.out] at ht
          have HTT := Lib.hid ht
          have HDG := Lib.hid HI.out.dig
          have HR0 := Lib.hid hr0
          clear HI ht hr0
          go_wp2_with fail
          go_ret
          exact ⟨r, O, ret_bool (by simp [HR0.out]), hK, hol, HDG.out, HTT.out, hT⟩
        · have hd0 : ((r : Int) != 0) = true := by simp; omega
          by_cases hjn : j < n
          · have hc0 := hK.cell (win_at (by omega) (by omega : j < O.length))
            have hf0 := hK.free (o + j)
            have hv := getD_mem (by decide : 0 < 4294967296) HI.out.dig j
            have hst := HI.out.step (p := 0) (by decide) (by rw [HW.out]; omega)
            rw [Nat.mul_zero, Nat.add_zero, Nat.add_zero r] at hst
            obtain ⟨d, ed⟩ : ∃ d, d = O.getD j 0 := ⟨_, rfl⟩
            rw [← ed] at hc0 hv hst
            obtain ⟨T, eT⟩ : ∃ T, T = r + d := ⟨_, rfl⟩
            have e3 : IntKind.u64.wrap ((r : Int) + (d : Int)) = (T : Int) := by
              rw [← Int.natCast_add, ← eT]; exact u64_in _ (by omega)
            rw [← eT] at hst
            have HTB := Lib.hid (show T / 4294967296 < 4294967296 by omega)
            have HST := Lib.hid hst
            have HS := Lib.hid (win_mod (o := o) (R := O) (cs := cs) (by omega) (by omega : j < O.length) T)
            have K7 := hK.set (o + j) (.int .u32 ((T : Int) % 4294967296)) (by rw [win_len (by omega)]; omega)
            rw [HS.out] at K7
            have T7 := hT.setCell (a := ⟨g, o + j, none⟩) (.inl rfl) (.int .u32 ((T : Int) % 4294967296))
            have HK7 := Lib.hid K7
            have HT7 := Lib.hid T7
            clear ed eT hst HI K7 T7 HS hK hT
            go_wp2_with fail
            go_roundw
            case rel => exact ⟨j + 1, T / 4294967296, _, by omega, by omega, HTB.out, by go_num, by go_num, HST, HK7.out, HT7.out⟩
            case measure => simp [intOf]; omega
          · obtain rfl : j = n := by omega
            have ht := HI.out.total (by rw [HW.out]; exact hj) (.inr HW.out.symm)
            rw [HW.out] at ht
            have HTT := Lib.hid ht
            have HDG := Lib.hid HI.out.dig
            clear HI ht
            go_wp2_with fail
            go_ret
            exact ⟨r, O, ret_bool (by simp [hr0]), hK, hol, HDG.out, HTT.out, hT⟩
end Go.Proofs.YtallbegibdlpaaaGreat

/-
  Parts in a row of the call's own: lowered by a number times another row: the code's.
-/
namespace Go.Proofs.YtallbegibdlpaaaGreat
open Go Go.RowKit Go.Th Go.Th.Dig

theorem brw_nat (o x : Nat) (ho : o < 4294967296) (hx : x < 4294967296) : (((4294967295 ^^^ o) &&& x) ||| ((4294967295 ^^^ (o ^^^ x)) &&& tkn 4294967296 o x)) / 2147483648 = brw o x := by
  have ht : tkn 4294967296 o x < 4294967296 := tkn_lt (by decide)
  have he := tkn_eq ho hx
  have e : ∀ n : Nat, n / 2147483648 = n >>> 31 := fun n => (Nat.shiftRight_eq_div_pow n 31).symm
  have b : ∀ n : Nat, n < 4294967296 → (n >>> 31 = 0 ∧ n < 2147483648) ∨ (n >>> 31 = 1 ∧ 2147483648 ≤ n) := fun n hn => by
    rw [← e]; omega
  rw [e, Nat.shiftRight_or_distrib, Nat.shiftRight_and_distrib, Nat.shiftRight_and_distrib, Nat.shiftRight_xor_distrib, Nat.shiftRight_xor_distrib, Nat.shiftRight_xor_distrib]
  rw [show 4294967295 >>> 31 = 1 by decide]
  generalize tkn 4294967296 o x = t at *
  unfold brw at he ⊢
  rcases b o ho with ⟨e1, h1⟩ | ⟨e1, h1⟩ <;> rcases b x hx with ⟨e2, h2⟩ | ⟨e2, h2⟩ <;> rcases b t ht with ⟨e3, h3⟩ | ⟨e3, h3⟩ <;> rw [e1, e2, e3] <;> split at he <;> first | rfl | (exfalso; omega) | (split <;> first | rfl | (exfalso; omega))
theorem tkn_int (o x : Nat) (ho : o < 4294967296) (hx : x < 4294967296) : ((o : Int) - (x : Int)) % 4294967296 = (tkn 4294967296 o x : Nat) := by
  unfold tkn; omega
theorem brw_int (o x : Nat) (ho : o < 4294967296) (hx : x < 4294967296) :
    bits .or .u32 (bits .and .u32 (bits .xor .u32 IntKind.u32.max o) x) (bits .and .u32 (bits .xor .u32 IntKind.u32.max (bits .xor .u32 o x)) (((o : Int) - (x : Int)) % 4294967296)) / 2147483648 = (brw o x : Nat) := by
  have hm : IntKind.u32.max = ((4294967295 : Nat) : Int) := by decide
  have ht : tkn 4294967296 o x < 4294967296 := tkn_lt (by decide)
  have k1 : 4294967295 ^^^ o < 2 ^ 32 := Nat.xor_lt_two_pow (by decide) ho
  have k2 : o ^^^ x < 2 ^ 32 := Nat.xor_lt_two_pow ho hx
  have k3 : 4294967295 ^^^ (o ^^^ x) < 2 ^ 32 := Nat.xor_lt_two_pow (by decide) k2
  have k4 : (4294967295 ^^^ o) &&& x < 2 ^ 32 := Nat.and_lt_two_pow _ hx
  have k5 : (4294967295 ^^^ (o ^^^ x)) &&& tkn 4294967296 o x < 2 ^ 32 := Nat.and_lt_two_pow _ ht
  rw [tkn_int o x ho hx, hm, u32_xor_nat _ _ (by decide) ho, u32_xor_nat _ _ ho hx, u32_xor_nat _ _ (by decide) k2, u32_and_nat _ _ k1 hx, u32_and_nat _ _ k3 ht, u32_or_nat _ _ k4 k5]
  have := brw_nat o x ho hx
  omega
theorem brw_le (o x : Nat) : brw o x ≤ 1 := by unfold brw; split <;> omega

set_option maxRecDepth 20000 in
theorem sub32_any (o x : Nat) (ho : o < 4294967296) (hx : x < 4294967296) (w : World) :
    Calls Tryz.prog 114 #[.int .u32 o, .int .u32 x, .int .u32 0] w fun e w' => e = .returned (.tuple #[.int .u32 (tkn 4294967296 o x : Nat), .int .u32 (brw o x : Nat)]) ∧ w = w' := by
  have e1 := Lib.hid (tkn_int o x ho hx)
  have e2 := Lib.hid (brw_int o x ho hx)
  go_enter Tryz.func114, Tryz.ntmps114
  go_wp2_with fail
  go_ret2
  refine ⟨?_, rfl⟩
  rw [← e1.out, ← e2.out]
  rfl

set_option maxRecDepth 20000 in
theorem take_any (g o n cap i x : Nat) (W : List Nat) (cs : List Value) (w : World) (hK : Blk w g 109 (over cs o (u32s W))) (ho : o + n ≤ cs.length) (hW : W.length = n) (hd : ∀ d ∈ W, d < 4294967296) (hi : i < n) (hn : n ≤ 1000000) (hx : x < 4294967296) :
    Calls Tryz.prog 101 #[.slice (some ⟨g, o, none⟩) n cap, .int .i64 i, .int .u32 x] w fun e w' => e = .returned (.int .u64 (brw (W.getD i 0) x : Nat)) ∧ Blk w' g 109 (over cs o (u32s (W.set i (tkn 4294967296 (W.getD i 0) x)))) ∧ Turned (fun k => k = g) w w' := by
  have hc := hK.cell (win_at (by omega) (by omega : i < W.length))
  have hf := hK.free (o + i)
  have hb := getD_mem (by decide : 0 < 4294967296) hd i
  have C := Lib.hid (sub32_any (W.getD i 0) x hb hx)
  have K7 := hK.set (o + i) (.int .u32 ((tkn 4294967296 (W.getD i 0) x : Nat) : Int)) (by rw [win_len (by omega)]; omega)
  rw [win_set (by omega) (by omega)] at K7
  have T7 := (Turned.refl (fun k => k = g) w).setCell (a := ⟨g, o + i, none⟩) (.inl rfl) (.int .u32 ((tkn 4294967296 (W.getD i 0) x : Nat) : Int))
  have hbl := brw_le (W.getD i 0) x
  have htl : tkn 4294967296 (W.getD i 0) x < 4294967296 := tkn_lt (by decide)
  obtain ⟨t, et⟩ : ∃ t, t = tkn 4294967296 (W.getD i 0) x := ⟨_, rfl⟩
  obtain ⟨b, eb⟩ : ∃ b, b = brw (W.getD i 0) x := ⟨_, rfl⟩
  obtain ⟨d, ed⟩ : ∃ d, d = W.getD i 0 := ⟨_, rfl⟩
  rw [← et] at K7 T7 htl
  rw [← eb] at hbl
  have C : Hid (∀ wx, Calls Tryz.prog 114 #[.int .u32 (d : Int), .int .u32 x, .int .u32 0] wx fun e w' => e = .returned (.tuple #[.int .u32 (t : Int), .int .u32 (b : Int)]) ∧ wx = w') := Lib.hid (by rw [ed, et, eb]; exact C.out)
  rw [← ed] at hc hb
  rw [← et, ← eb]
  have HK7 := Lib.hid K7
  have HT7 := Lib.hid T7
  clear et eb ed K7 T7 hK
  go_enter Tryz.func101, Tryz.ntmps101
  go_wp2_with fail
  refine (C.out _).mono ?_
  rintro e w1 ⟨rfl, rfl⟩
  go_wp2_with fail
  go_ret
  exact ⟨rfl, HK7.out, HT7.out⟩

set_option maxRecDepth 20000 in
set_option maxHeartbeats 3200000 in
theorem lower_go (g o n cap : Nat) (b : Option Addr) (m capb x : Nat) (W L : List Nat) (cs : List Value) (w : World) (hK : Blk w g 109 (over cs o (u32s W))) (ho : o + n ≤ cs.length) (hW : W.length = n) (hd : ∀ d ∈ W, d < 4294967296)
    (hL : Sl w 1 (.slice b m capb) m (u32s L)) (hap : 0 < m → ∀ q, b = some q → q.block ≠ g) (hm : m ≤ n) (hn : n ≤ 1000000) (hx : x < 4294967296) (hl : ∀ d ∈ L, d < 4294967296) :
    Calls Tryz.prog 80 #[.slice (some ⟨g, o, none⟩) n cap, .slice b m capb, .int .u32 x] w fun e w' => ∃ c O, e = .returned (.bool (decide (c ≠ 0))) ∧ Blk w' g 109 (over cs o (u32s O)) ∧ O.length = n ∧ (∀ d ∈ O, d < 4294967296) ∧
      val 4294967296 O + x * val 4294967296 L = val 4294967296 W + 4294967296 ^ n * c ∧ Turned (fun k => k = g) w w' := by
  have lx := u32_len hL
  have HL := Lib.hid hL
  have HD := Lib.hid (getD_u32 hl)
  have HAP := Lib.hid (fun wr (hT : Turned (fun k => k = g) w wr) => sl_turned hL hT hap)
  have HW := Lib.hid hW
  have LX := Lib.hid lx
  have HC0 : Hid (Bor 4294967296 (x * val 4294967296 (L.take 0)) W 0 0 W) := Lib.hid (Bor.start hd)
  have HTK : Hid (∀ k, k < m → x * val 4294967296 (L.take (k + 1)) = x * val 4294967296 (L.take k) + 4294967296 ^ k * (x * L.getD k 0)) := Lib.hid (fun k hk => by
    rw [take_val (by omega), Nat.mul_add, Nat.mul_left_comm])
  have HTA := Lib.hid (fun O i y wr hK (hO : O.length = n) hdg hi hy => take_any g o n cap i y O cs wr hK ho hO hdg hi hn hy)
  have hT0 := Turned.refl (fun k => k = g) w
  clear hL hap hd hl lx
  go_enter Tryz.func80, Tryz.ntmps80
  go_wp2_with fail
  go_loopw [7, 13] (fun c i wr => ∃ (k r : Nat) (O : List Nat), k ≤ m ∧ r < 4294967296 ∧ c = .int .u64 r ∧ i = .int .i64 k ∧ Hid (Bor 4294967296 (x * val 4294967296 (L.take k)) W k r O) ∧ Blk wr g 109 (over cs o (u32s O)) ∧ Turned (fun k => k = g) w wr) (fun _ i _ => m - (intOf i).toNat)
  case atStart => exact ⟨0, 0, W, Nat.zero_le _, by omega, rfl, rfl, HC0, hK, hT0⟩
  case round =>
    clear hK HC0 hT0
    obtain ⟨k, r, O, hk, hr, rfl, rfl, HI, hK, hT⟩ := hrel
    by_cases hlt : k < m
    · have hol : O.length = n := by rw [HI.out.len, HW.out]
      obtain ⟨b1, o1, rfl, hb1, hc1⟩ := cell_u32 (HAP.out wr hT) k (by rw [LX.out]; exact hlt)
      have hu := HD.out k
      have hst := HI.out.step (p := x * L.getD k 0) (by decide) (by rw [HW.out]; omega)
      rw [← HTK.out k hlt] at hst
      obtain ⟨u, eu⟩ : ∃ u, u = L.getD k 0 := ⟨_, rfl⟩
      rw [← eu] at hc1 hu hst
      have hq := mul_small hx hu
      obtain ⟨q, eq⟩ : ∃ q, q = x * u := ⟨_, rfl⟩
      rw [← eq] at hq hst
      have e1 : IntKind.u64.wrap ((x : Int) * (u : Int)) = (q : Int) := by
        rw [← Int.natCast_mul, ← eq]; exact u64_in _ (by omega)
      obtain ⟨T, eT⟩ : ∃ T, T = r + q := ⟨_, rfl⟩
      have e2 : IntKind.u64.wrap ((r : Int) + (q : Int)) = (T : Int) := by
        rw [← Int.natCast_add, ← eT]; exact u64_in _ (by omega)
      rw [← eT] at hst
      have hTA := HTA.out O k (T % 4294967296) wr hK hol HI.out.dig (by omega) (by omega)
      have hbl := brw_le (O.getD k 0) (T % 4294967296)
      have hbw : brw (O.getD k 0) (T % 4294967296) = 1 → 0 < T % 4294967296 := by unfold brw; split <;> omega
      obtain ⟨bw, eb⟩ : ∃ bw, bw = brw (O.getD k 0) (T % 4294967296) := ⟨_, rfl⟩
      rw [← eb] at hst hTA hbl hbw
      have HTB := Lib.hid (show T / 4294967296 + bw < 4294967296 by omega)
      have e3 : IntKind.u64.wrap ((T : Int) / 4294967296 + (bw : Int)) = ((T / 4294967296 + bw : Nat) : Int) := by
        rw [← u64_in (T / 4294967296 + bw) (by omega)]; rfl
      have HST := Lib.hid hst
      have HTA1 : Hid (Calls Tryz.prog 101 #[.slice (some ⟨g, o, none⟩) n cap, .int .i64 k, .int .u32 ((T : Int) % 4294967296)] wr fun e w' => e = .returned (.int .u64 (bw : Int)) ∧ Blk w' g 109 (over cs o (u32s (O.set k (tkn 4294967296 (O.getD k 0) (T % 4294967296))))) ∧ Turned (fun k => k = g) wr w') := Lib.hid hTA
      clear eu eq eT hst HI hK hTA hq hbw eb
      go_wp2_with fail
      refine HTA1.out.mono ?_
      rintro e w1 ⟨rfl, hK1, hT1⟩
      have hT2 := hT.trans hT1 (fun _ _ h => h)
      clear HTA1 hT hT1
      go_wp2_with fail
      go_roundw
      case rel => exact ⟨k + 1, T / 4294967296 + bw, _, by omega, HTB.out, by first | rfl | go_num, by go_num, HST, hK1, hT2⟩
      case measure => simp [intOf]; omega
    · obtain rfl : k = m := by omega
      have HI2 : Hid (Bor 4294967296 (x * val 4294967296 L) W k r O) := Lib.hid (by
        have := HI.out
        rwa [List.take_of_length_le (by rw [LX.out]; exact Nat.le_refl _)] at this)
      clear HI HTK HD HAP HL
      go_wp2_with fail
      go_loopw [7, 10] (fun c i wr => ∃ (j r : Nat) (O : List Nat), k ≤ j ∧ j ≤ n ∧ r < 4294967296 ∧ c = .int .u64 r ∧ i = .int .i64 j ∧ Hid (Bor 4294967296 (x * val 4294967296 L) W j r O) ∧ Blk wr g 109 (over cs o (u32s O)) ∧ Turned (fun k => k = g) w wr) (fun _ i _ => n - (intOf i).toNat)
      case atStart => exact ⟨k, r, O, Nat.le_refl _, hm, hr, rfl, rfl, HI2, hK, hT⟩
      case round =>
        clear hK hT HI2 hr
        obtain ⟨j, r, O, hkj, hj, hr, rfl, rfl, HI, hK, hT⟩ := hrel
        have hol : O.length = n := by rw [HI.out.len, HW.out]
        by_cases hr0 : r = 0
        · have hd0 : ((r : Int) != 0) = false := by simp [hr0]
          have ht := HI.out.total (by rw [HW.out]; exact hj) (.inl hr0)
          rw [HW.out] at ht
          have HTT := Lib.hid ht
          have HDG := Lib.hid HI.out.dig
          have HR0 := Lib.hid hr0
          clear HI ht hr0
          go_wp2_with fail
          go_ret
          exact ⟨r, O, ret_bool (by simp [HR0.out]), hK, hol, HDG.out, HTT.out, hT⟩
        · have hd0 : ((r : Int) != 0) = true := by simp; omega
          by_cases hjn : j < n
          · have hst := HI.out.step (p := 0) (by decide) (by rw [HW.out]; omega)
            rw [Nat.mul_zero, Nat.add_zero, Nat.add_zero r, Nat.div_eq_of_lt hr, Nat.mod_eq_of_lt hr, Nat.zero_add] at hst
            have hTA := HTA.out O j r wr hK hol HI.out.dig (by omega) hr
            have hbl := brw_le (O.getD j 0) r
            obtain ⟨bw, eb⟩ : ∃ bw, bw = brw (O.getD j 0) r := ⟨_, rfl⟩
            rw [← eb] at hst hTA hbl
            have hrm : (r : Int) % 4294967296 = (r : Int) := by omega
            have HST := Lib.hid hst
            have HTA1 := Lib.hid hTA
            clear hst HI hK hTA eb
            go_wp2_with fail
            refine HTA1.out.mono ?_
            rintro e w1 ⟨rfl, hK1, hT1⟩
            have hT2 := hT.trans hT1 (fun _ _ h => h)
            clear HTA1 hT hT1
            go_wp2_with fail
            go_roundw
            case rel => exact ⟨j + 1, bw, _, by omega, by omega, by omega, by first | rfl | go_num, by go_num, HST, hK1, hT2⟩
            case measure => simp [intOf]; omega
          · obtain rfl : j = n := by omega
            have ht := HI.out.total (by rw [HW.out]; exact hj) (.inr HW.out.symm)
            rw [HW.out] at ht
            have HTT := Lib.hid ht
            have HDG := Lib.hid HI.out.dig
            clear HI ht
            go_wp2_with fail
            go_ret
            exact ⟨r, O, ret_bool (by simp [hr0]), hK, hol, HDG.out, HTT.out, hT⟩
end Go.Proofs.YtallbegibdlpaaaGreat

/-
  Parts in a row of the call's own: moved up: the code's.
-/
namespace Go.Proofs.YtallbegibdlpaaaGreat
open Go Go.RowKit Go.Th Go.Th.Dig

theorem shl_small {u s : Nat} (hu : u < 4294967296) (hs : s < 32) : u * 2 ^ s < 9223372036854775808 := by
  have h : 2 ^ s ≤ 2 ^ 31 := Nat.pow_le_pow_right (by decide) (by omega)
  have := Nat.mul_le_mul (by omega : u ≤ 4294967295) h
  omega
theorem or_low {r s : Nat} (h : r < 2 ^ s) (u : Nat) : r ||| u * 2 ^ s = r + u * 2 ^ s := by
  rw [Nat.or_comm, ← Nat.shiftLeft_eq, ← Nat.shiftLeft_add_eq_or_of_lt h, Nat.add_comm]

set_option maxRecDepth 20000 in
set_option maxHeartbeats 3200000 in
theorem climb_go (g o n cap s : Nat) (W : List Nat) (cs : List Value) (w : World) (hK : Blk w g 109 (over cs o (u32s W))) (ho : o + n ≤ cs.length) (hW : W.length = n) (hd : ∀ d ∈ W, d < 4294967296) (hn : n ≤ 1000000) (hs : s < 32) :
    Calls Tryz.prog 87 #[.slice (some ⟨g, o, none⟩) n cap, .int .i64 s] w fun e w' => ∃ c O, e = .returned (.tuple #[]) ∧ Blk w' g 109 (over cs o (u32s O)) ∧ O.length = n ∧ (∀ d ∈ O, d < 4294967296) ∧
      Cli 4294967296 (2 ^ s) W n c O ∧ Turned (fun k => k = g) w w' := by
  have HW := Lib.hid hW
  have HD := Lib.hid (getD_mem (by decide : 0 < 4294967296) hd)
  have HC0 : Hid (Cli 4294967296 (2 ^ s) W 0 0 W) := Lib.hid (Cli.start (Nat.two_pow_pos s) hd)
  have hT0 := Turned.refl (fun k => k = g) w
  clear hd
  go_enter Tryz.func87, Tryz.ntmps87
  go_wp2_with fail
  go_loopw [4, 9] (fun c i wr => ∃ (k r : Nat) (O : List Nat), k ≤ n ∧ c = .int .u64 r ∧ i = .int .i64 k ∧ Hid (Cli 4294967296 (2 ^ s) W k r O) ∧ Blk wr g 109 (over cs o (u32s O)) ∧ Turned (fun k => k = g) w wr) (fun _ i _ => n - (intOf i).toNat)
  case atStart => exact ⟨0, 0, W, Nat.zero_le _, rfl, rfl, HC0, hK, hT0⟩
  case round =>
    clear hK HC0 hT0
    obtain ⟨k, r, O, hk, rfl, rfl, HI, hK, hT⟩ := hrel
    by_cases hlt : k < n
    · have hol : O.length = n := by rw [HI.out.len, HW.out]
      have hc0 := hK.cell (win_at (by omega) (by omega : k < O.length))
      have hf0 := hK.free (o + k)
      rw [getD_drop HI.out.rest] at hc0
      have hu := HD.out k
      have hst := HI.out.step (by decide) (by rw [HW.out]; omega)
      have hcar := HI.out.car
      obtain ⟨u, eu⟩ : ∃ u, u = W.getD k 0 := ⟨_, rfl⟩
      rw [← eu] at hc0 hu hst
      have hv := shl_small hu hs
      have hor := or_low hcar u
      obtain ⟨v, ev⟩ : ∃ v, v = u * 2 ^ s := ⟨_, rfl⟩
      rw [← ev] at hst hv hor
      have e0 : IntKind.u64.wrap (u : Int) = (u : Int) := u64_in _ (by omega)
      have e1 : IntKind.u64.wrap ((u : Int) * 2 ^ s) = (v : Int) := by
        rw [show ((u : Int) * 2 ^ s) = ((u * 2 ^ s : Nat) : Int) by simp, ← ev]; exact u64_in _ (by omega)
      have hr2 : r < 2147483648 := Nat.lt_of_lt_of_le hcar (Nat.pow_le_pow_right (by decide) (by omega : s ≤ 31))
      obtain ⟨T, eT⟩ : ∃ T, T = r + v := ⟨_, rfl⟩
      have e2 : bits .or .u64 (r : Int) (v : Int) = (T : Int) := by rw [bits_or_u64_nat r v (by omega) (by omega), hor, ← eT]
      rw [← eT] at hst
      have HST := Lib.hid hst
      have HS := Lib.hid (win_mod (o := o) (R := O) (cs := cs) (by omega) (by omega : k < O.length) T)
      have K7 := hK.set (o + k) (.int .u32 ((T : Int) % 4294967296)) (by rw [win_len (by omega)]; omega)
      rw [HS.out] at K7
      have T7 := hT.setCell (a := ⟨g, o + k, none⟩) (.inl rfl) (.int .u32 ((T : Int) % 4294967296))
      have HK7 := Lib.hid K7
      have HT7 := Lib.hid T7
      clear eu ev eT hst HI K7 T7 HS hK hT hcar hor hv hr2
      go_wp2_with fail
      go_roundw
      case rel => exact ⟨k + 1, T / 4294967296, _, by omega, by go_num, by go_num, HST, HK7.out, HT7.out⟩
      case measure => simp [intOf]; omega
    · obtain rfl : k = n := by omega
      go_wp2_with fail
      go_end0
      exact ⟨r, O, rfl, hK, by rw [HI.out.len, HW.out], HI.out.dig, HI.out, hT⟩
end Go.Proofs.YtallbegibdlpaaaGreat

/-
  Parts in a row of the call's own: moved down: the code's.
-/
namespace Go.Proofs.YtallbegibdlpaaaGreat
open Go Go.RowKit Go.Shelf Go.Th Go.Th.Dig
attribute [local go_sem] Oper.semAt_some

end Go.Proofs.YtallbegibdlpaaaGreat

/-
  Parts in a row of the call's own: the lowest nine digits taken away: the code's.
-/
namespace Go.Proofs.YtallbegibdlpaaaGreat
open Go Go.RowKit Go.Shelf Go.Th Go.Th.Dig
attribute [local go_sem] Oper.semAt_some

end Go.Proofs.YtallbegibdlpaaaGreat

/-
  Which of two numbers is less: the code's.
-/
namespace Go.Proofs.YtallbegibdlpaaaGreat
open Go Go.RowKit Go.Shelf Go.Th Go.Th.Dig
attribute [local go_sem] Oper.semAt_some

/-- Less, the same, greater. -/
def cmpN (p q : Nat) : Int := if p < q then -1 else if q < p then 1 else 0
set_option maxRecDepth 20000 in
theorem cmpInt_any (x y : Nat) (hx : x ≤ 1000000) (hy : y ≤ 1000000) (w : World) :
    Calls Tryz.prog 83 #[.int .i64 x, .int .i64 y] w fun e w' => e = .returned (.int .i64 (cmpN x y)) ∧ w = w' := by
  have hd : ((x : Int) != (x : Int)) = false := by simp
  have he : ((y : Int) != (y : Int)) = false := by simp
  rcases Nat.lt_trichotomy x y with h | h | h
  · have e : cmpN x y = -1 := by unfold cmpN; rw [if_pos h]
    rw [e]
    clear e
    go_enter Tryz.func83, Tryz.ntmps83
    go_wp2
    go_ret
    exact ⟨rfl, rfl⟩
  · subst h
    have e : cmpN x x = 0 := by unfold cmpN; rw [if_neg (by omega), if_neg (by omega)]
    rw [e]
    clear e
    go_enter Tryz.func83, Tryz.ntmps83
    go_wp2
    go_ret
    exact ⟨rfl, rfl⟩
  · have e : cmpN x y = 1 := by unfold cmpN; rw [if_neg (by omega), if_pos h]
    have h2 : ¬ x < y := by omega
    rw [e]
    clear e
    go_enter Tryz.func83, Tryz.ntmps83
    go_wp2
    go_ret
    exact ⟨rfl, rfl⟩
set_option maxRecDepth 20000 in
theorem cmpU32_any (x y : Nat) (hx : x < 4294967296) (hy : y < 4294967296) (w : World) :
    Calls Tryz.prog 85 #[.int .u32 x, .int .u32 y] w fun e w' => e = .returned (.int .i64 (cmpN x y)) ∧ w = w' := by
  have hd : ((x : Int) != (x : Int)) = false := by simp
  have he : ((y : Int) != (y : Int)) = false := by simp
  clear hx hy
  rcases Nat.lt_trichotomy x y with h | h | h
  · have e : cmpN x y = -1 := by unfold cmpN; rw [if_pos h]
    rw [e]
    clear e
    go_enter Tryz.func85, Tryz.ntmps85
    go_wp2
    go_ret
    exact ⟨rfl, rfl⟩
  · subst h
    have e : cmpN x x = 0 := by unfold cmpN; rw [if_neg (by omega), if_neg (by omega)]
    rw [e]
    clear e
    go_enter Tryz.func85, Tryz.ntmps85
    go_wp2
    go_ret
    exact ⟨rfl, rfl⟩
  · have e : cmpN x y = 1 := by unfold cmpN; rw [if_neg (by omega), if_pos h]
    have h2 : ¬ x < y := by omega
    rw [e]
    clear e
    go_enter Tryz.func85, Tryz.ntmps85
    go_wp2
    go_ret
    exact ⟨rfl, rfl⟩

theorem cmpN_len {p q : Nat} (h : len32 p ≠ len32 q) : cmpN (len32 p) (len32 q) = cmpN p q := by
  unfold cmpN
  by_cases h1 : len32 p < len32 q
  · rw [if_pos h1, if_pos (dg_len_lt (by decide) h1)]
  · have h2 := dg_len_lt (B := 4294967296) (by decide) (show len32 q < len32 p by omega)
    rw [if_neg h1, if_pos (by omega), if_neg (by omega), if_pos h2]
theorem cmpN_dig {p q i : Nat} (hl : len32 p = len32 q) (hi : i < len32 p) (hd : (dg 4294967296 p).drop (i + 1) = (dg 4294967296 q).drop (i + 1)) (h : (dg 4294967296 p).getD i 0 ≠ (dg 4294967296 q).getD i 0) : cmpN ((dg 4294967296 p).getD i 0) ((dg 4294967296 q).getD i 0) = cmpN p q := by
  unfold cmpN
  have a := val_differ (B := 4294967296) (by decide) hl (dg_lt (by decide) p) i hi hd
  have b := val_differ (B := 4294967296) (by decide) hl.symm (dg_lt (by decide) q) i (show i < len32 q by rw [← hl]; exact hi) hd.symm
  rw [dg_val (by decide), dg_val (by decide)] at a b
  by_cases h1 : (dg 4294967296 p).getD i 0 < (dg 4294967296 q).getD i 0
  · rw [if_pos h1, if_pos (a h1)]
  · have h2 := b (by omega)
    rw [if_neg h1, if_pos (by omega), if_neg (by omega), if_pos h2]
theorem cmpN_same {p q : Nat} (h : dg 4294967296 p = dg 4294967296 q) : cmpN p q = 0 := by
  rw [dg_inj (by decide) h]
  unfold cmpN
  rw [if_neg (by omega), if_neg (by omega)]
theorem sl_lt32 {w : World} {a : Option Addr} {n cap : Nat} {l : List Nat} (h : Sl w 1 (.slice a n cap) n (u32s l)) : ∀ q, a = some q → 0 < n → q.block < w.heap.size := by
  rintro q rfl hn
  have hl := u32_len h
  obtain ⟨b, o, e, hb, _⟩ := cell_u32 h 0 (by omega)
  cases e
  exact hb

set_option maxRecDepth 100000 in
set_option maxHeartbeats 8000000 in
theorem cmp_any (v u : Value) (p q : Nat) (w : World) (hp : IsN w v p) (hq : IsN w u q) (h1 : len32 p ≤ 100000) (h2 : len32 q ≤ 100000) :
    Calls Tryz.prog 49 #[v, u] w fun e w' => e = .returned (.int .i64 (cmpN p q)) ∧ Below w.heap.size w w' := by
  obtain ⟨a, ca, rfl, hS⟩ := hp
  obtain ⟨b, cb, rfl, hT⟩ := hq
  have hlt := sl_lt32 hS
  by_cases hne : len32 p = len32 q
  · have HEQ := Lib.hid hne
    have HDG := Lib.hid (fun i hi hd h => cmpN_dig (p := p) (q := q) (i := i) hne hi hd h)
    have HSM := Lib.hid (cmpN_same (p := p) (q := q))
    have hlq : (dg 4294967296 q).length = (dg 4294967296 p).length := hne.symm
    rw [hlq] at hT ⊢
    have hl1 : (dg 4294967296 p).length ≤ 100000 := h1
    have HLP := Lib.hid (getD_mem (by decide : 0 < 4294967296) (dg_lt (by decide : 0 < 4294967296) p))
    have HLQ := Lib.hid (getD_mem (by decide : 0 < 4294967296) (dg_lt (by decide : 0 < 4294967296) q))
    obtain ⟨L, hL⟩ : ∃ L, L = dg 4294967296 p := ⟨_, rfl⟩
    obtain ⟨R, hR⟩ : ∃ R, R = dg 4294967296 q := ⟨_, rfl⟩
    obtain ⟨n, hn⟩ : ∃ n, n = L.length := ⟨_, rfl⟩
    have hnr : R.length = n := by rw [hR, hlq, hn, hL]
    obtain ⟨c, hc⟩ : ∃ c, c = cmpN p q := ⟨_, rfl⟩
    have HDG : Hid (∀ i, i < n → L.drop (i + 1) = R.drop (i + 1) → L.getD i 0 ≠ R.getD i 0 → cmpN (L.getD i 0) (R.getD i 0) = c) := Lib.hid (by
      rw [hn, hL, hR, hc]; exact HDG.out)
    have HSM : Hid (L = R → c = 0) := Lib.hid (by rw [hL, hR, hc]; exact HSM.out)
    rw [← hL] at hS hT hlt HLP hl1 ⊢
    rw [← hR] at hT HLQ
    rw [← hn] at hS hT hlt hl1 ⊢
    rw [← hc]
    have HS := Lib.hid hS
    have HT := Lib.hid hT
    have HN := Lib.hid hn
    have HNR := Lib.hid hnr
    have HLT := Lib.hid hlt
    have hEN := enters_of Tryz.func103 (by kernel_rfl) rfl
    clear HEQ hne hlq hL hR hc hS hT hlt h1 h2 hn hnr
    have hd0 : ((n : Int) != (n : Int)) = false := by simp
    refine (callsIn_wide (n := 10)).1 ?_
    refine callsIn_of_wp_marks Tryz.func49 rfl trivial ?_ rfl
    simp only [Tryz.ntmps49, List.size_toArray, List.length_cons, List.length_nil, Nat.reduceAdd, Nat.reduceSub, Array.replicate_succ, Array.replicate_zero, List.push_toArray, List.append_toArray, List.nil_append, List.cons_append]
    refine wpIn_wide.2 ?_
    have M0 := Mem.start w
    go_wp2_with ((with_reducible refine (?_ : Go.wpList _ _ _ (_ :: _) _ _)); (first | go_skip | (refine wpL_bx M0 rfl rfl rfl rfl ?_; clear M0; intro g1 w1 M1) | (refine wpL_alc M0 rfl rfl ?_; clear M0; intro g1 w1 M1) | (refine wpL_ldc M0 rfl rfl rfl ?_) | (refine wpL_lgc M0 rfl rfl rfl ?_) | (refine wpL_stc M0 rfl rfl rfl rfl ?_; clear M0; intro w' M0) | (refine wpL_sti M0 rfl rfl rfl rfl ?_; clear M0; intro w' M0) | (refine wpL_sth M0 rfl rfl rfl rfl (wr_minus _ _ _) ?_; clear M0; intro w' M0) | (refine wpL_bx M1 rfl rfl rfl rfl ?_; clear M1; intro g2 w2 M2) | (refine wpL_alc M1 rfl rfl ?_; clear M1; intro g2 w2 M2) | (refine wpL_ldc M1 rfl rfl rfl ?_) | (refine wpL_lgc M1 rfl rfl rfl ?_) | (refine wpL_stc M1 rfl rfl rfl rfl ?_; clear M1; intro w' M1) | (refine wpL_sti M1 rfl rfl rfl rfl ?_; clear M1; intro w' M1) | (refine wpL_sth M1 rfl rfl rfl rfl (wr_minus _ _ _) ?_; clear M1; intro w' M1) | (refine wpL_bx M2 rfl rfl rfl rfl ?_; clear M2; intro g3 w3 M3) | (refine wpL_alc M2 rfl rfl ?_; clear M2; intro g3 w3 M3) | (refine wpL_ldc M2 rfl rfl rfl ?_) | (refine wpL_lgc M2 rfl rfl rfl ?_) | (refine wpL_stc M2 rfl rfl rfl rfl ?_; clear M2; intro w' M2) | (refine wpL_sti M2 rfl rfl rfl rfl ?_; clear M2; intro w' M2) | (refine wpL_sth M2 rfl rfl rfl rfl (wr_minus _ _ _) ?_; clear M2; intro w' M2) | (refine wpL_ldc M3 rfl rfl rfl ?_) | (refine wpL_lgc M3 rfl rfl rfl ?_) | (refine wpL_stc M3 rfl rfl rfl rfl ?_; clear M3; intro w' M3) | (refine wpL_sti M3 rfl rfl rfl rfl ?_; clear M3; intro w' M3) | (refine wpL_sth M3 rfl rfl rfl rfl (wr_minus _ _ _) ?_; clear M3; intro w' M3)))
    refine (backward_any a n ca _).mono ?_
    rintro e W0 ⟨rfl, hW0⟩
    have M4 := M3.alloc 61 [.slice a n ca]
    rw [show w3.alloc (.cells [Value.slice a n ca].toArray 61) = W0 from hW0.symm] at M4
    obtain ⟨gP, hgP⟩ : ∃ gP, gP = w3.heap.size := ⟨_, rfl⟩
    rw [← hgP] at M4 ⊢
    have lP := M4.lt (Has.head _ _ _ _)
    have hzW := M4.below.size
    have hS0 := HS.out.below M4.below
    have HT0 := Lib.hid (fun W (hB : Below w.heap.size w W) => HT.out.below hB)
    have HSQ := Lib.hid (backward_at gP a n ca L hl1 W0 (M4.cell (Has.head _ _ _ _) (i := 0) rfl) hS0)
    have HN0 := Lib.hid (Mew.of_mem (S := fun _ => False) M4)
    have HD0 : Hid (L.drop (n - 0) = R.drop (n - 0)) := Lib.hid (by rw [Nat.sub_zero, List.drop_of_length_le (by rw [HN.out]; exact Nat.le_refl _), List.drop_of_length_le (by rw [HNR.out]; exact Nat.le_refl _)])
    clear hW0 hgP M3 M4 hS0
    go_wp2_with fail
    refine with_tmps (fun A hA => ?_)
    refine (wpIn_wide (n := 10)).1 ?_
    refine wpIn_rangeFunc_at rfl (by omega) (gf := 103) (lb := #[.pointer (some ⟨gP, 0, none⟩)]) (by rw [hA]; rfl) trivial hEN HSQ.out (backC_lt lP (fun q hq h0 => Nat.lt_of_lt_of_le (HLT.out q hq h0) hzW)) (backs_two L)
      (fun k W => L.drop (n - k) = R.drop (n - k) ∧ Mew (fun _ => False) w W [(gP, 61, [.slice a n ca]), (g3, 3, [.int .i64 0]), (g2, 63, [.slice b n cb]), (g1, 63, [.slice a n ca])])
      (fun _ W => Mew (fun _ => False) w W [(gP, 61, [.slice a n ca]), (g3, 3, [.int .i64 c]), (g2, 63, [.slice b n cb]), (g1, 63, [.slice a n ca])])
      (fun _ _ _ => False) ?own ?ownr (fun _ _ _ _ _ h _ _ => h) ⟨HD0.out, HN0.out⟩
      (fun k a' _ => a' = { tmps := (((A.setIfInBounds 24 (.int .i64 ((L.length - 1 - k : Nat) : Int))).setIfInBounds 25 (.int .u32 ((L.getD (L.length - 1 - k) 0 : Nat) : Int))).setIfInBounds 5 (.int .i64 ((L.length - 1 - k : Nat) : Int))).setIfInBounds 6 (.int .u32 ((L.getD (L.length - 1 - k) 0 : Nat) : Int)), defers := [] })
      (fun _ _ _ _ _ h _ _ => h) ?assign ?body ?done ?ret ?stop
    case own =>
      rintro k X Y row ⟨h1, h2⟩ hg hr
      exact ⟨h1, h2.grown hg (fun r e => ⟨Nat.le_trans hzW (hr r e).1, (hr r e).2⟩)⟩
    case ownr =>
      rintro k X Y row h2 hg hr
      exact h2.grown hg (fun r e => ⟨Nat.le_trans hzW (hr r e).1, (hr r e).2⟩)
    case assign =>
      rintro l k x W K hx HI hK
      have HI0 := HI
      rw [backs_at L k (by have := (List.getElem?_eq_some_iff.1 hx).1; rwa [backs_length] at this)] at hx
      cases hx
      subst hA
      obtain ⟨i, hi⟩ : ∃ i, i = L.length - 1 - k := ⟨_, rfl⟩
      obtain ⟨u, eu⟩ : ∃ u, u = L.getD i 0 := ⟨_, rfl⟩
      rw [← hi, ← eu] at hK ⊢
      clear hi eu HI
      gi_wp2
      exact hK _ _ (KeepsFrom.refl _ _) (CellsKept.refl _ _) HI0 rfl
    case body =>
      rintro l k a' W hl hr hk ⟨HS7, M⟩ rfl
      subst hA
      rw [backs_length, ← HN.out] at hk
      rw [← HN.out]
      obtain ⟨i, hi⟩ : ∃ i, n - 1 - k = i := ⟨_, rfl⟩
      rw [hi]
      rw [show n - k = i + 1 by omega] at HS7
      have hin : i < n := by omega
      have hu := HLP.out i
      have hx := HLQ.out i
      obtain ⟨b1, o1, rfl, hb1, hc1⟩ := cell_u32 (HT0.out W M.below) i (by rw [HNR.out]; exact hin)
      have hst : L.getD i 0 = R.getD i 0 → L.drop i = R.drop i := fun h => by
        rw [drop_step (by rw [← HN.out]; exact hin), drop_step (l := R) (by rw [HNR.out]; exact hin), h, HS7]
      have hne := HDG.out i hin HS7
      obtain ⟨u, eu⟩ : ∃ u, u = L.getD i 0 := ⟨_, rfl⟩
      obtain ⟨x, ex⟩ : ∃ x, x = R.getD i 0 := ⟨_, rfl⟩
      rw [← eu] at hu hst hne ⊢
      rw [← ex] at hx hst hne hc1
      have HST := Lib.hid hst
      have c2 := M.cell (.tail _ _ _ _ _ (.tail _ _ _ _ _ (Has.head _ _ _ _))) (i := 0) rfl
      have c3 := M.cell (.tail _ _ _ _ _ (Has.head _ _ _ _)) (i := 0) rfl
      have f3 := M.free (.tail _ _ _ _ _ (Has.head _ _ _ _)) 0
      have HM := Lib.hid M
      by_cases he : u = x
      · subst he
        have hd : ((u : Int) != (u : Int)) = false := by simp
        clear M hst hne eu ex
        gi_wp2
        refine ⟨KeepsFrom.refl _ _, CellsKept.refl _ _, ?_, HM.out⟩
        rw [show n - (k + 1) = i by omega]
        exact HST.out trivial
      · have hd : ((u : Int) != (x : Int)) = true := by simp; omega
        have C := Lib.hid (cmpU32_any u x hu hx)
        rw [hne he] at C
        have HM2 := Lib.hid (M.set 0 (.int .i64 c) (.tail _ _ _ _ _ _ _ (Upd.head _ _ _ _ _)) (by simp))
        clear M hst hne eu ex
        gi_wp2
        refine ⟨trivial, (CallsIn.inRound l (callsIn_wide.2 (C.out _))).mono ?_⟩
        rintro e w1 ⟨rfl, rfl⟩
        gi_wp2
        exact ⟨(KeepsOthers.setCell _ _ _).from _, HM2.out⟩
    case done =>
      rintro D W hD ⟨HS7, M⟩ hK
      rw [backs_length, ← HN.out, Nat.sub_self] at HS7
      have hc := HSM.out HS7
      have c3 := M.cell (.tail _ _ _ _ _ (Has.head _ _ _ _)) (i := 0) rfl
      have f3 := M.free (.tail _ _ _ _ _ (Has.head _ _ _ _)) 0
      have HM := Lib.hid (M.set 0 (.int .i64 0) (.tail _ _ _ _ _ _ _ (Upd.head _ _ _ _ _)) (by simp))
      have hK2 := (KeepsOthers.setCell W ⟨g3, 0, none⟩ (.int .i64 0)).same D _ hK rfl
      have HK2 := Lib.hid hK2
      clear M HS7 hK hK2
      subst hA
      subst hc
      go_wp2_with fail
      refine ⟨by simp, .inl ⟨_, _, rfl, run_takeDeferred HK2.out, ?_⟩⟩
      have hg := grownBy_putObj' (W.setCell ⟨g3, 0, none⟩ (.int .i64 0)) D (.deferred none)
      have hM2 := HM.out.grown hg (fun r e => by cases e; exact ⟨by omega, _, HK2.out, rfl⟩)
      exact ⟨_, res_cell rfl (Mem.of_mew hM2) rfl (.tail _ _ _ _ _ (Has.head _ _ _ _)) (Rd.one Tryz.underlying3 rfl rfl), rfl, hM2.below⟩
    case ret =>
      rintro D k W hD hk M hK
      subst hA
      have HM := Lib.hid M
      have HK := Lib.hid hK
      clear M hK
      refine wpIn_ret ?_
      simp only [Exit.inBlock, Exit.then]
      go_wp2_with fail
      refine ⟨by simp, .inl ⟨_, _, rfl, run_takeDeferred HK.out, ?_⟩⟩
      have hg := grownBy_putObj' W D (.deferred none)
      have hM2 := HM.out.grown hg (fun r e => by cases e; exact ⟨by omega, _, HK.out, rfl⟩)
      exact ⟨_, res_cell rfl (Mem.of_mew hM2) rfl (.tail _ _ _ _ _ (Has.head _ _ _ _)) (Rd.one Tryz.underlying3 rfl rfl), rfl, hM2.below⟩
    case stop => exact fun _ _ _ _ _ _ h _ => h.elim
  · have C := Lib.hid (cmpInt_any (len32 p) (len32 q) (by omega) (by omega))
    rw [cmpN_len hne] at C
    have hd0 : (((dg 4294967296 p).length : Int) != ((dg 4294967296 q).length : Int)) = true := by
      have : (dg 4294967296 p).length ≠ (dg 4294967296 q).length := hne
      simp; omega
    obtain ⟨n, hn⟩ : ∃ n, n = (dg 4294967296 p).length := ⟨_, rfl⟩
    obtain ⟨m, hm⟩ : ∃ m, m = (dg 4294967296 q).length := ⟨_, rfl⟩
    have C : Hid (∀ w : World, Calls Tryz.prog 83 #[.int .i64 n, .int .i64 m] w fun e w' => e = .returned (.int .i64 (cmpN p q)) ∧ w = w') := Lib.hid (by rw [hn, hm]; exact C.out)
    rw [← hn, ← hm] at hd0 ⊢
    obtain ⟨c, hc⟩ : ∃ c, c = cmpN p q := ⟨_, rfl⟩
    rw [← hc] at C ⊢
    have M0 := Mem.start w
    clear hS hT hlt hne hn hm hc h1 h2
    go_enter Tryz.func49, Tryz.ntmps49
    go_wp2_with ((with_reducible refine (?_ : Go.wpList _ _ _ (_ :: _) _ _)); (first | go_skip | (refine wpL_bx M0 rfl rfl rfl rfl ?_; clear M0; intro g1 w1 M1) | (refine wpL_alc M0 rfl rfl ?_; clear M0; intro g1 w1 M1) | (refine wpL_ldc M0 rfl rfl rfl ?_) | (refine wpL_lgc M0 rfl rfl rfl ?_) | (refine wpL_stc M0 rfl rfl rfl rfl ?_; clear M0; intro w' M0) | (refine wpL_sti M0 rfl rfl rfl rfl ?_; clear M0; intro w' M0) | (refine wpL_sth M0 rfl rfl rfl rfl (wr_minus _ _ _) ?_; clear M0; intro w' M0) | (refine wpL_bx M1 rfl rfl rfl rfl ?_; clear M1; intro g2 w2 M2) | (refine wpL_alc M1 rfl rfl ?_; clear M1; intro g2 w2 M2) | (refine wpL_ldc M1 rfl rfl rfl ?_) | (refine wpL_lgc M1 rfl rfl rfl ?_) | (refine wpL_stc M1 rfl rfl rfl rfl ?_; clear M1; intro w' M1) | (refine wpL_sti M1 rfl rfl rfl rfl ?_; clear M1; intro w' M1) | (refine wpL_sth M1 rfl rfl rfl rfl (wr_minus _ _ _) ?_; clear M1; intro w' M1) | (refine wpL_bx M2 rfl rfl rfl rfl ?_; clear M2; intro g3 w3 M3) | (refine wpL_alc M2 rfl rfl ?_; clear M2; intro g3 w3 M3) | (refine wpL_ldc M2 rfl rfl rfl ?_) | (refine wpL_lgc M2 rfl rfl rfl ?_) | (refine wpL_stc M2 rfl rfl rfl rfl ?_; clear M2; intro w' M2) | (refine wpL_sti M2 rfl rfl rfl rfl ?_; clear M2; intro w' M2) | (refine wpL_sth M2 rfl rfl rfl rfl (wr_minus _ _ _) ?_; clear M2; intro w' M2) | (refine wpL_ldc M3 rfl rfl rfl ?_) | (refine wpL_lgc M3 rfl rfl rfl ?_) | (refine wpL_stc M3 rfl rfl rfl rfl ?_; clear M3; intro w' M3) | (refine wpL_sti M3 rfl rfl rfl rfl ?_; clear M3; intro w' M3) | (refine wpL_sth M3 rfl rfl rfl rfl (wr_minus _ _ _) ?_; clear M3; intro w' M3)))
    refine (C.out _).mono ?_
    rintro e w1 ⟨rfl, rfl⟩
    go_wp2_with ((with_reducible refine (?_ : Go.wpList _ _ _ (_ :: _) _ _)); (first | go_skip | (refine wpL_ldc M3 rfl rfl rfl ?_) | (refine wpL_lgc M3 rfl rfl rfl ?_) | (refine wpL_stc M3 rfl rfl rfl rfl ?_; clear M3; intro w' M3) | (refine wpL_sti M3 rfl rfl rfl rfl ?_; clear M3; intro w' M3) | (refine wpL_sth M3 rfl rfl rfl rfl (wr_minus _ _ _) ?_; clear M3; intro w' M3)))
    refine bodyPost_ret (res_cell rfl M3 rfl (Has.head _ _ _ _) (Rd.one Tryz.underlying3 rfl rfl)) rfl ?_
    exact ⟨rfl, M3.below⟩
end Go.Proofs.YtallbegibdlpaaaGreat

/-
  How many bits a number has; it as one of 64 bits: the code's.
-/
namespace Go.Th.Dig
open Go
/-- How many bits a number has. -/
def nb (p : Nat) : Nat := if p = 0 then 0 else Nat.log2 p + 1
theorem nb_lt (p : Nat) : p < 2 ^ nb p := by
  unfold nb
  split
  · rename_i h; subst h; decide
  · exact Nat.lt_log2_self
theorem nb_ge {p : Nat} (h : p ≠ 0) : 0 < nb p ∧ 2 ^ (nb p - 1) ≤ p := by
  unfold nb
  rw [if_neg h]
  exact ⟨by omega, by rw [Nat.add_sub_cancel]; exact Nat.log2_self_le h⟩
theorem nb_of {p b : Nat} (h1 : 0 < b) (h2 : 2 ^ (b - 1) ≤ p) (h3 : p < 2 ^ b) : nb p = b := by
  have h0 : p ≠ 0 := by have := Nat.two_pow_pos (b - 1); omega
  obtain ⟨a1, a2⟩ := nb_ge h0
  have a3 := nb_lt p
  have k1 : nb p - 1 < b := (Nat.pow_lt_pow_iff_right (by decide : 1 < 2)).1 (Nat.lt_of_le_of_lt a2 h3)
  have k2 : b - 1 < nb p := (Nat.pow_lt_pow_iff_right (by decide : 1 < 2)).1 (Nat.lt_of_le_of_lt h2 a3)
  omega
theorem nb_le {p b : Nat} (h : p < 2 ^ b) : nb p ≤ b := by
  by_cases h0 : p = 0
  · subst h0; exact Nat.zero_le _
  · obtain ⟨a1, a2⟩ := nb_ge h0
    have := (Nat.pow_lt_pow_iff_right (by decide : 1 < 2)).1 (Nat.lt_of_le_of_lt a2 h)
    omega
theorem bitLenAux_lt16 : ∀ (f x : Nat), x < 2 ^ f → x < 2 ^ Lib.bitLenAux f x
  | 0, x, h => by simpa [Lib.bitLenAux] using h
  | f + 1, x, h => by
    unfold Lib.bitLenAux
    split
    · rename_i h0; subst h0; decide
    · have := bitLenAux_lt16 f (x / 2) (by rw [Nat.pow_succ] at h; omega)
      rw [Nat.add_comm, Nat.pow_succ]
      omega
theorem bitLen_nb {x : Nat} (h : x < 4294967296) : Lib.bitLen x = nb x := by
  by_cases h0 : x = 0
  · subst h0; rfl
  · have h1 : x < 2 ^ Lib.bitLen x := bitLenAux_lt16 64 x (by omega)
    have hp : 0 < Lib.bitLen x := by
      refine Nat.pos_of_ne_zero fun e => ?_
      rw [e] at h1; omega
    refine (nb_of hp ?_ h1).symm
    refine Nat.le_of_not_lt fun hlt => ?_
    have hle := Lib.bitLen_le x (Lib.bitLen x - 1) (by have := Lib.bitLen_le x 32 (by decide) h; omega) hlt
    omega
/-- By the highest part. -/
theorem nb_top {p : Nat} (h : p ≠ 0) : nb p = ((dg 4294967296 p).length - 1) * 32 + nb ((dg 4294967296 p).getD ((dg 4294967296 p).length - 1) 0) := by
  have hl : 0 < (dg 4294967296 p).length := by
    refine Nat.pos_of_ne_zero fun e => h ?_
    have := dg_val (B := 4294967296) (by decide) p
    rw [List.eq_nil_of_length_eq_zero e] at this
    exact this.symm
  obtain ⟨L, hL⟩ : ∃ L, L = dg 4294967296 p := ⟨_, rfl⟩
  have hv : val 4294967296 L = p := by rw [hL]; exact dg_val (by decide) p
  have hd : ∀ d ∈ L, d < 4294967296 := by rw [hL]; exact dg_lt (by decide) p
  have hlast : L.getD (L.length - 1) 0 ≠ 0 := by
    rw [hL]
    refine dg_last (B := 4294967296) (by decide) p _ ?_
    rw [List.getLast?_eq_getElem?, List.getD_eq_getElem?_getD, List.getElem?_eq_getElem (by omega)]; rfl
  rw [← hL] at hl ⊢
  obtain ⟨m, hm⟩ : ∃ m, L.length = m + 1 := ⟨L.length - 1, by omega⟩
  rw [hm, Nat.add_sub_cancel] at hlast ⊢
  have hj := val_join (B := 4294967296) L (i := m) (by omega)
  rw [hv, drop_step (by omega), List.drop_of_length_le (by omega), val, val, Nat.mul_zero, Nat.add_zero] at hj
  have hlow := val_lt (B := 4294967296) (by decide) (l := L.take m) (fun d hd' => hd d (List.mem_of_mem_take hd'))
  rw [List.length_take, Nat.min_eq_left (by omega)] at hlow
  obtain ⟨t, ht⟩ : ∃ t, t = L.getD m 0 := ⟨_, rfl⟩
  rw [← ht] at hj hlast ⊢
  obtain ⟨a1, a2⟩ := nb_ge hlast
  have a3 := nb_lt t
  have e : 4294967296 ^ m = 2 ^ (m * 32) := by rw [show 4294967296 = 2 ^ 32 by decide, ← Nat.pow_mul, Nat.mul_comm]
  rw [e] at hj hlow
  refine nb_of (by omega) ?_ ?_
  · rw [show m * 32 + nb t - 1 = m * 32 + (nb t - 1) by omega, Nat.pow_add]
    have := Nat.mul_le_mul_left (2 ^ (m * 32)) a2
    omega
  · rw [Nat.pow_add]
    have := Nat.mul_le_mul_left (2 ^ (m * 32)) (show t + 1 ≤ 2 ^ nb t from a3)
    rw [Nat.mul_add, Nat.mul_one] at this
    omega
end Go.Th.Dig
namespace Go.Proofs.YtallbegibdlpaaaGreat
open Go Go.RowKit Go.Shelf Go.Th Go.Th.Dig
attribute [local go_sem] Oper.semAt_some

set_option maxRecDepth 20000 in
theorem bits_any16 (v : Value) (p : Nat) (w : World) (hp : IsN w v p) (h1 : len32 p ≤ 100000) :
    Calls Tryz.prog 86 #[v] w fun e w' => e = .returned (.int .i64 (nb p : Nat)) ∧ Below w.heap.size w w' := by
  have CZ := Lib.hid (fun wx (hx : IsN wx v p) => zero_any v p wx hx (by omega))
  have HP := Lib.hid hp
  have M0 := Mem.start w
  by_cases h0 : p = 0
  · subst h0
    obtain ⟨a, ca, rfl, hS⟩ := hp
    rw [show decide ((0 : Nat) = 0) = true by decide] at CZ
    clear hS h1
    go_enter Tryz.func86, Tryz.ntmps86
    go_wp2_with ((with_reducible refine (?_ : Go.wpList _ _ _ (_ :: _) _ _)); (first | go_skip | (refine wpL_bx M0 rfl rfl rfl rfl ?_; clear M0; intro g1 w1 M1) | (refine wpL_alc M0 rfl rfl ?_; clear M0; intro g1 w1 M1) | (refine wpL_ldc M0 rfl rfl rfl ?_) | (refine wpL_lgc M0 rfl rfl rfl ?_) | (refine wpL_stc M0 rfl rfl rfl rfl ?_; clear M0; intro w' M0) | (refine wpL_sti M0 rfl rfl rfl rfl ?_; clear M0; intro w' M0) | (refine wpL_sth M0 rfl rfl rfl rfl (wr_minus _ _ _) ?_; clear M0; intro w' M0) | (refine wpL_ldc M1 rfl rfl rfl ?_) | (refine wpL_lgc M1 rfl rfl rfl ?_) | (refine wpL_stc M1 rfl rfl rfl rfl ?_; clear M1; intro w' M1) | (refine wpL_sti M1 rfl rfl rfl rfl ?_; clear M1; intro w' M1) | (refine wpL_sth M1 rfl rfl rfl rfl (wr_minus _ _ _) ?_; clear M1; intro w' M1)))
    refine (CZ.out _ (HP.out.below M1.below)).mono ?_
    rintro e w2 ⟨rfl, hB⟩
    replace M1 := M1.call hB
    go_wp2_with fail
    go_ret
    exact ⟨rfl, M1.below⟩
  · have hnt := nb_top h0
    have hb := getD_mem (by decide : 0 < 4294967296) (dg_lt (by decide : 0 < 4294967296) p) ((dg 4294967296 p).length - 1)
    have hl : 0 < (dg 4294967296 p).length := Nat.pos_of_ne_zero fun e => h0 ((len32_0 p).1 e)
    have hl1 : (dg 4294967296 p).length ≤ 100000 := h1
    obtain ⟨a, ca, rfl, hS⟩ := hp
    rw [show decide (p = 0) = false by simp [h0]] at CZ
    obtain ⟨L, hL⟩ : ∃ L, L = dg 4294967296 p := ⟨_, rfl⟩
    rw [← hL] at hS hnt hb hl hl1 CZ HP ⊢
    have hLL : L.length = L.length := rfl
    obtain ⟨n, hn⟩ : ∃ n, L.length = n + 1 := ⟨L.length - 1, by omega⟩
    rw [hn] at hS hnt hb hl1 CZ HP ⊢
    rw [Nat.add_sub_cancel] at hnt hb
    obtain ⟨b, o, rfl, _, hc⟩ := cell_u32 hS n (by omega)
    have CL := fun w => Len32_any ((L.getD n 0 : Nat) : Int) w (by omega) (by omega)
    rw [Int.toNat_natCast, bitLen_nb hb] at CL
    have hnl := nb_le (b := 32) hb
    obtain ⟨t, ht⟩ : ∃ t, t = L.getD n 0 := ⟨_, rfl⟩
    rw [← ht] at hc CL hnt hnl
    obtain ⟨c, hc2⟩ : ∃ c, c = nb t := ⟨_, rfl⟩
    rw [← hc2] at CL hnt hnl
    have HNT := Lib.hid hnt
    have CL := Lib.hid CL
    have HC := Lib.hid hc
    have hlc := World.block_lt_of_cell? w _ hc
    clear hS hb ht hc2 hnt h0 hL hLL hn h1 hc
    go_enter Tryz.func86, Tryz.ntmps86
    go_wp2_with ((with_reducible refine (?_ : Go.wpList _ _ _ (_ :: _) _ _)); (first | go_skip | (refine wpL_bx M0 rfl rfl rfl rfl ?_; clear M0; intro g1 w1 M1) | (refine wpL_alc M0 rfl rfl ?_; clear M0; intro g1 w1 M1) | (refine wpL_ldc M0 rfl rfl rfl ?_) | (refine wpL_lgc M0 rfl rfl rfl ?_) | (refine wpL_stc M0 rfl rfl rfl rfl ?_; clear M0; intro w' M0) | (refine wpL_sti M0 rfl rfl rfl rfl ?_; clear M0; intro w' M0) | (refine wpL_sth M0 rfl rfl rfl rfl (wr_minus _ _ _) ?_; clear M0; intro w' M0) | (refine wpL_ldc M1 rfl rfl rfl ?_) | (refine wpL_lgc M1 rfl rfl rfl ?_) | (refine wpL_stc M1 rfl rfl rfl rfl ?_; clear M1; intro w' M1) | (refine wpL_sti M1 rfl rfl rfl rfl ?_; clear M1; intro w' M1) | (refine wpL_sth M1 rfl rfl rfl rfl (wr_minus _ _ _) ?_; clear M1; intro w' M1)))
    refine (CZ.out _ (HP.out.below M1.below)).mono ?_
    rintro e w2 ⟨rfl, hB⟩
    replace M1 := M1.call hB
    have hc := (M1.below.cell (p := ⟨b, o + n, none⟩) hlc).trans HC.out
    clear HC
    go_wp2_with ((with_reducible refine (?_ : Go.wpList _ _ _ (_ :: _) _ _)); (first | go_skip | (refine wpL_ldc M1 rfl rfl rfl ?_) | (refine wpL_lgc M1 rfl rfl rfl ?_) | (refine wpL_stc M1 rfl rfl rfl rfl ?_; clear M1; intro w' M1) | (refine wpL_sti M1 rfl rfl rfl rfl ?_; clear M1; intro w' M1) | (refine wpL_sth M1 rfl rfl rfl rfl (wr_minus _ _ _) ?_; clear M1; intro w' M1)))
    refine (CL.out _).mono ?_
    rintro e w3 ⟨rfl, rfl⟩
    go_wp2_with fail
    go_ret
    exact ⟨by rw [HNT.out]; first | rfl | (congr 2; omega), M1.below⟩

end Go.Proofs.YtallbegibdlpaaaGreat

/-
  A number as one of 64 bits: the code's.
-/
namespace Go.Proofs.YtallbegibdlpaaaGreat
open Go Go.RowKit Go.Shelf Go.Th Go.Th.Dig
attribute [local go_sem] Oper.semAt_some

end Go.Proofs.YtallbegibdlpaaaGreat
