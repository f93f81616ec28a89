/-
  Writers and readers in later worlds.
-/
import Derived.Test.YtapheokmoebgfaaBitR
import Derived.RangeFuncOwn
set_option linter.unusedVariables false
set_option linter.unusedSimpArgs false
namespace Go.Th
open Go Go.RowKit
/-- What reads so in a world reads so in a later one, where its block has not been turned, if there are any elements. -/
theorem Sl.apart {w w' : World} {S : Nat → Prop} {size n cap : Nat} {a : Option Addr} {xs : List Value} (h : Sl w size (.slice a n cap) n xs) (ht : Turned S w w') (hs : ∀ x, a = some x → 0 < n → ¬ S x.block) : Sl w' size (.slice a n cap) n xs := by
  obtain ⟨a0, c0, he, h2, h3, h4, h6, h5⟩ := h
  cases he
  refine ⟨a, cap, rfl, h2, h3, h4, h6, fun j u hu => ?_⟩
  obtain ⟨b, o, ha, hc⟩ := h5 j u hu
  have hl := (List.getElem?_eq_some_iff.1 hu).1
  have hn : 0 < n := by
    rcases Nat.eq_zero_or_pos n with e | e
    · rw [h2, e] at hl; simp at hl
    · exact e
  exact ⟨b, o, ha, (ht.cell (p := ⟨b, o + j, none⟩) (World.block_lt_of_cell? w _ hc) (hs ⟨b, o, none⟩ ha hn)).trans hc⟩
/-- A slice that has elements lies in a block. -/
theorem Sl.block_lt {w : World} {n cap : Nat} {a : Option Addr} {xs : List Value} (h : Sl w 1 (.slice a n cap) n xs) : ∀ p, a = some p → 0 < n → p.block < w.heap.size := by
  rintro p rfl hn
  obtain ⟨a0, c0, he, h2, _, _, _, h5⟩ := h
  cases he
  obtain ⟨b, o, e, hc⟩ := h5 0 _ (List.getElem?_eq_getElem (by omega))
  cases e
  have := World.block_lt_of_cell? w _ hc
  simpa using this
theorem block_cells {w : World} {p : Addr} {v : Value} (h : w.cell? p = some v) : ∀ o, w.heap[p.block]? = some o → o.isCells = true := by
  intro o ho
  unfold World.cell? at h
  rw [ho] at h
  cases o <;> simp_all [Obj.isCells]
theorem own_cells {w : World} {base : Nat} {e : TypeId} {size n : Nat} {v : Value} {xs : List Value} (h : w.ownsRow base e size v n xs) {g : Nat} (hg : v.ownBlock = some g) : ∀ o, w.heap[g]? = some o → o.isCells = true := by
  rcases h.2 with ⟨rfl, _⟩ | ⟨g', cap, cur, rfl, _, hb, _⟩
  · simp [Value.ownBlock] at hg
  · obtain rfl : g' = g := by simpa [Value.ownBlock] using hg
    intro o ho
    rw [hb] at ho; cases ho; rfl
/-- What is no cells stays, where only cells have turned. -/
theorem Turned.others {S : Nat → Prop} {w w' : World} (h : Turned S w w') (hS : ∀ k, S k → ∀ o, w.heap[k]? = some o → o.isCells = true) : KeepsOthers w w' :=
  ⟨h.size, fun k o hk ho => (h.block k (Array.getElem?_eq_some_iff.1 hk).1 (fun hs => by rw [hS k hs o hk] at ho; cases ho)).trans hk⟩
/-- What lay below B, but for one block. -/
theorem Turned.belowB {S : Nat → Prop} {w w' w'' : World} (h : Turned S w w') {B : Nat} (hB : w.heap.size ≤ B) (hb : Below B w' w'') : Turned S w w'' :=
  ⟨hb.os.trans h.os, hb.tape.trans h.tape, hb.output.trans h.output, Nat.le_trans h.size hb.size, fun k hk n => (hb.block k (by omega)).trans (h.block k hk n)⟩

/-- What an append to the call's own row leaves. -/
theorem app_below {w w2 : World} {B : Nat} {e : TypeId} {size n : Nat} {v : Value} {xs : List Value} {o : Obj} (ho : w.ownsRow B e size v n xs) (hB : B ≤ w.heap.size) (hg : (w.alloc o).grownBy w2 v.ownBlock) : Below B w w2 :=
  ((Below.refl B w).alloc hB o).grown hg (by simp; omega) (fun j hj => (ho.lt j hj).1)

end Go.Th
namespace Go.Proofs.Ytapheokmoebgfaa
open Go.RowKit Go.Th

theorem winv_new (w : World) : WInv (w.alloc (.cells #[.slice none 0 0, .int .i64 0] 53)) w.heap.size 0 w.heap.size (.slice none 0 0) [] := by
  refine ⟨?_, ?_, World.frozen?_alloc_at _ _ _ _ rfl, World.frozen?_alloc_at _ _ _ _ rfl, World.ownsRow_nil _ _ _ _, by simp [Value.ownBlock]⟩
  · rw [World.cell?_alloc_at _ _ _ _ rfl]; rfl
  · rw [World.cell?_alloc_at _ _ _ _ rfl]; rfl
/-- A writer that has written nothing owns nothing: its row may begin anywhere. -/
theorem WInv.rebase {w : World} {pb po base : Nat} {l : List Bool} (h : WInv w pb po base (.slice none 0 0) l) (b : Nat) : WInv w pb po b (.slice none 0 0) l := by
  refine ⟨h.c0, h.c1, h.f0, h.f1, ?_, h.ne⟩
  rcases h.own.2 with ⟨_, h0⟩ | ⟨g, cap, cur, e, _⟩
  · exact ⟨h.own.1, .inl ⟨rfl, h0⟩⟩
  · cases e
theorem WInv.below {w w' : World} {pb po base : Nat} {v : Value} {l : List Bool} (h : WInv w pb po base v l) (hb : Below w.heap.size w w') : WInv w' pb po base v l :=
  ⟨(hb.cell (p := ⟨pb, po, none⟩) h.lt).trans h.c0, (hb.cell (p := ⟨pb, po + 1, none⟩) h.lt).trans h.c1, (hb.frozen (p := ⟨pb, po, none⟩) h.lt).trans h.f0, (hb.frozen (p := ⟨pb, po + 1, none⟩) h.lt).trans h.f1, ownsRow_below h.own hb, h.ne⟩
theorem RInv.lt {w : World} {pb po base : Nat} {v : Value} {bs : List Nat} {at_ : Nat} {bad : Bool} (h : RInv w pb po base v bs at_ bad) : pb < w.heap.size := by
  have := World.block_lt_of_cell? w _ h.c0
  simpa using this
theorem RInv.below {w w' : World} {pb po base : Nat} {v : Value} {bs : List Nat} {at_ : Nat} {bad : Bool} (h : RInv w pb po base v bs at_ bad) (hb : Below w.heap.size w w') : RInv w' pb po base v bs at_ bad :=
  ⟨(hb.cell (p := ⟨pb, po, none⟩) h.lt).trans h.c0, (hb.cell (p := ⟨pb, po + 1, none⟩) h.lt).trans h.c1, (hb.cell (p := ⟨pb, po + 2, none⟩) h.lt).trans h.c2,
    (hb.frozen (p := ⟨pb, po, none⟩) h.lt).trans h.f0, (hb.frozen (p := ⟨pb, po + 1, none⟩) h.lt).trans h.f1, (hb.frozen (p := ⟨pb, po + 2, none⟩) h.lt).trans h.f2, ownsRow_below h.own hb, h.ne, h.le, h.small, h.byte⟩
theorem WInv.drewN {w : World} {pb po base : Nat} {v : Value} {l : List Bool} (h : WInv w pb po base v l) (n : Nat) : WInv (w.drewN n) pb po base v l :=
  ⟨by simpa using h.c0, by simpa using h.c1, by simpa using h.f0, by simpa using h.f1, h.own, h.ne⟩
/-- A writer over what another may have turned. -/
theorem WInv.turned {w w' : World} {S : Nat → Prop} {pb po base : Nat} {v : Value} {l : List Bool} (h : WInv w pb po base v l) (ht : Turned S w w') (hp : ¬ S pb) (hv : ∀ k, v.ownBlock = some k → ¬ S k) : WInv w' pb po base v l :=
  ⟨(ht.cell (p := ⟨pb, po, none⟩) h.lt hp).trans h.c0, (ht.cell (p := ⟨pb, po + 1, none⟩) h.lt hp).trans h.c1, (ht.frozen (p := ⟨pb, po, none⟩) h.lt hp).trans h.f0, (ht.frozen (p := ⟨pb, po + 1, none⟩) h.lt hp).trans h.f1, ht.own h.own hv, h.ne⟩
/-- A reader over what another may have turned. -/
theorem RInv.turned {w w' : World} {S : Nat → Prop} {pb po base : Nat} {v : Value} {bs : List Nat} {at_ : Nat} {bad : Bool} (h : RInv w pb po base v bs at_ bad) (ht : Turned S w w') (hp : ¬ S pb) (hv : ∀ k, v.ownBlock = some k → ¬ S k) : RInv w' pb po base v bs at_ bad :=
  ⟨(ht.cell (p := ⟨pb, po, none⟩) h.lt hp).trans h.c0, (ht.cell (p := ⟨pb, po + 1, none⟩) h.lt hp).trans h.c1, (ht.cell (p := ⟨pb, po + 2, none⟩) h.lt hp).trans h.c2,
    (ht.frozen (p := ⟨pb, po, none⟩) h.lt hp).trans h.f0, (ht.frozen (p := ⟨pb, po + 1, none⟩) h.lt hp).trans h.f1, (ht.frozen (p := ⟨pb, po + 2, none⟩) h.lt hp).trans h.f2, ht.own h.own hv, h.ne, h.le, h.small, h.byte⟩
/-- A block that is no cells may turn under a writer. -/
theorem WInv.other {w w' : World} {pb po base : Nat} {v : Value} {l : List Bool} {row : Option Nat} (h : WInv w pb po base v l) (hg : w.grownBy w' row) (hr : ∀ r, row = some r → ∃ o : Obj, w.heap[r]? = some o ∧ o.isCells = false) : WInv w' pb po base v l := by
  refine ⟨cell_kept h.c0 hg hr, cell_kept h.c1 hg hr, (frozen_kept h.c0 hg hr).trans h.f0, (frozen_kept h.c1 hg hr).trans h.f1, ?_, h.ne⟩
  refine h.own.kept hg ?_
  cases hv : v.ownBlock with
  | none => exact .inl rfl
  | some g =>
    refine .inr fun e => ?_
    obtain ⟨o, ho, hc⟩ := hr g e.symm
    rw [own_cells h.own hv o ho] at hc; cases hc
end Go.Proofs.Ytapheokmoebgfaa
