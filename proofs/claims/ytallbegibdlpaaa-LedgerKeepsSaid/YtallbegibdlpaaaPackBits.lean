/-
  Texts in one: Base, Blk, Mem, MemC, Copy, Bytes, Clone, Same, BytesEqual, BitsSpec, BitW, BitR, RefBits, BitsPack, BitK, Ans, HeldN, KeptF, RoundReg.
-/
import Derived.WalkKit
import Derived.KernelRfl
import Derived.Deep.QuietTactic
import Derived.BigQuiet
import Derived.Lib.Hide
import Derived.WalkSpells
import Derived.OneCell
import Derived.Laws.Rows
import Derived.Laws.Tables
import Derived.Laws.CopyRow
import Derived.Laws.StructEq
import Derived.Deep.RegionHeld3
import Derived.OwnWalk
import Derived.Laws.CopyOwn
import Derived.Laws.OwnMore
import Derived.Test.YtallbegibdlpaaaRows
import Derived.WideShapes
import Derived.RangeFuncOwn
import Derived.RangeFuncFrom
import Derived.RangeFuncNested
import Derived.RangeFuncBox
import Derived.RangeFuncBound
import Derived.RangeFuncCalls
import Derived.RangeFuncLeaves
import Derived.OrdersIn
set_option linter.unusedVariables false
set_option linter.unusedSimpArgs false

/-
  General words on memory, over any program: a slice that reads as a list of cells; append to a row of the call's own, whatever is appended; what a call may have turned.
-/
namespace Go.Th
open Go Go.RowKit

/-- What a slice type and its elements' type are, as far as the laws ask. -/
structure ElemOf (P : Program) (t e : TypeId) (size bytes : Nat) : Prop where
  und : P.underlying t = some (.slice e)
  info : ∃ i z, P.info? e = some i ∧ i.zero = some z ∧ i.size = size ∧ i.bytes = bytes ∧ z.cells.size = size
  pos : 0 < size

theorem ElemOf.mk' {P : Program} {t e : TypeId} {size bytes : Nat} {z : Value} (h1 : P.underlying t = some (.slice e))
    (h2 : (P.info? e).map (fun i => (i.zero, i.size, i.bytes)) = some (some z, size, bytes)) (h3 : z.cells.size = size) (h4 : 0 < size) : ElemOf P t e size bytes := by
  obtain ⟨i, hi, hz0, hz1, hz2⟩ := info_parts h2
  exact ⟨h1, ⟨i, z, hi, hz0, hz1, hz2, h3⟩, h4⟩

/-- A slice value that reads as the cells xs (n elements, each of so many cells). -/
def Sl (w : World) (size : Nat) (v : Value) (n : Nat) (xs : List Value) : Prop :=
  ∃ a cap, v = .slice a n cap ∧ xs.length = n * size ∧ n ≤ cap ∧ cap ≤ maxLen ∧ (a = none → n = 0 ∧ cap = 0) ∧
    ∀ j u, xs[j]? = some u → ∃ b o, a = some ⟨b, o, none⟩ ∧ w.cell? ⟨b, o + j, none⟩ = some u

theorem ret_int {k : IntKind} {a b : Int} (h : a = b) : Ending.returned (.int k a) = .returned (.int k b) := by rw [h]
theorem ret_bool {a b : Bool} (h : a = b) : Ending.returned (.bool a) = .returned (.bool b) := by rw [h]

theorem add_none (b o j : Nat) : (⟨b, o, none⟩ : Addr).add j = ⟨b, o + j, none⟩ := by
  unfold Addr.add; split <;> simp_all

theorem Sl.nil (w : World) (size : Nat) : Sl w size (.slice none 0 0) 0 [] :=
  ⟨none, 0, rfl, by simp, Nat.le_refl _, Nat.zero_le _, fun _ => ⟨rfl, rfl⟩, by intro j u h; simp at h⟩

theorem Sl.one (w : World) (u : Value) (t : TypeId) : Sl (w.alloc (.cells #[u] t)) 1 (.slice (some ⟨w.heap.size, 0, none⟩) 1 1) 1 [u] := by
  refine ⟨_, _, rfl, rfl, Nat.le_refl _, by unfold maxLen; omega, fun h => (by cases h), ?_⟩
  intro j x h
  match j, h with
  | 0, h =>
    simp at h; subst h
    exact ⟨_, _, rfl, by rw [World.cell?_alloc_at _ _ _ _ (by simp)]; rfl⟩

theorem Sl.of_own {w : World} {base : Nat} {e : TypeId} {size : Nat} {v : Value} {n : Nat} {xs : List Value} (h : w.ownsRow base e size v n xs) : Sl w size v n xs := by
  obtain ⟨h1, h2⟩ := h
  rcases h2 with ⟨rfl, rfl⟩ | ⟨g, cap, cur, rfl, hb, hg, hnc, hcm, hcs, ht⟩
  · have : xs = [] := List.eq_nil_of_length_eq_zero (by simpa using h1)
    subst this
    exact Sl.nil _ _
  · refine ⟨_, _, rfl, h1, hnc, hcm, fun h => (by cases h), ?_⟩
    intro j u hu
    refine ⟨g, 0, rfl, ?_⟩
    have := World.ownsRow.cells (w := w) (base := base) (e := e) (size := size) (v := .slice (some ⟨g, 0, none⟩) n cap) (n := n) (xs := xs) ⟨h1, .inr ⟨g, cap, cur, rfl, hb, hg, hnc, hcm, hcs, ht⟩⟩ (g := g) rfl j u hu
    rwa [add_none] at this

/-- What reads so in a world reads so in each later one in which no block of the first has turned. -/
theorem Sl.below {w w' : World} {size n : Nat} {v : Value} {xs : List Value} (h : Sl w size v n xs) (hb : Below w.heap.size w w') : Sl w' size v n xs := by
  obtain ⟨a, cap, h1, h2, h3, h4, h6, h5⟩ := h
  refine ⟨a, cap, h1, h2, h3, h4, h6, fun j u hu => ?_⟩
  obtain ⟨b, o, ha, hc⟩ := h5 j u hu
  exact ⟨b, o, ha, (hb.cell (p := ⟨b, o + j, none⟩) (World.block_lt_of_cell? w _ hc)).trans hc⟩

theorem ownsRow_below {w w' : World} {base : Nat} {e : TypeId} {size : Nat} {v : Value} {n : Nat} {xs : List Value} (h : w.ownsRow base e size v n xs) (hb : Below w.heap.size w w') : w'.ownsRow base e size v n xs := by
  obtain ⟨h1, h2⟩ := h
  refine ⟨h1, h2.imp id ?_⟩
  rintro ⟨g, cap, cur, rfl, hg, hh, r⟩
  exact ⟨g, cap, cur, rfl, hg, (hb.block g (lt_of_block hh)).trans hh, r⟩

theorem ownsRow_base {w : World} {base base' : Nat} {e : TypeId} {size : Nat} {v : Value} {n : Nat} {xs : List Value} (h : w.ownsRow base e size v n xs) (hb : base' ≤ base) : w.ownsRow base' e size v n xs :=
  ⟨h.1, h.2.imp id fun ⟨g, cap, cur, h1, h2, h3⟩ => ⟨g, cap, cur, h1, Nat.le_trans hb h2, h3⟩⟩

/-- The value of a row of which something is owned is no nil. -/
theorem ownsRow_val {w : World} {base : Nat} {e : TypeId} {size : Nat} {v : Value} {n : Nat} {xs : List Value} (h : w.ownsRow base e size v n xs) (hn : 0 < n) :
    ∃ g cap, v = .slice (some ⟨g, 0, none⟩) n cap ∧ base ≤ g ∧ g < w.heap.size ∧ n ≤ cap ∧ cap ≤ maxLen := by
  rcases h.2 with ⟨_, h0⟩ | ⟨g, cap, cur, h1, h2, h3, h4, h5, _⟩
  · omega
  · exact ⟨g, cap, h1, h2, lt_of_block h3, h4, h5⟩

theorem ownsRow_slice {w : World} {base : Nat} {e : TypeId} {size : Nat} {v : Value} {n : Nat} {xs : List Value} (h : w.ownsRow base e size v n xs) :
    ∃ a cap, v = .slice a n cap ∧ n ≤ cap ∧ cap ≤ maxLen := by
  rcases h.2 with ⟨h1, h0⟩ | ⟨g, cap, cur, h1, h2, h3, h4, h5, _⟩
  · exact ⟨none, 0, by rw [h1, h0], by omega, Nat.zero_le _⟩
  · exact ⟨_, cap, h1, h4, h5⟩

theorem below_dN {B : Nat} {w w' : World} (h : Below B w w') (n : Nat) : Below B w (w'.drewN n) := ⟨h.os, h.tape, h.output, h.size, h.block⟩

/-- What a call may have turned: the blocks of S, and new ones. -/
structure Turned (S : Nat → Prop) (w w' : World) : Prop where
  os : w'.os = w.os
  tape : w'.tape = w.tape
  output : w'.output = w.output
  size : w.heap.size ≤ w'.heap.size
  block : ∀ k, k < w.heap.size → ¬ S k → w'.heap[k]? = w.heap[k]?

section
variable {S : Nat → Prop} {w w' w'' : World}
theorem Turned.refl (S : Nat → Prop) (w : World) : Turned S w w := ⟨rfl, rfl, rfl, Nat.le_refl _, fun _ _ _ => rfl⟩
theorem Turned.below (h : Below w.heap.size w w') : Turned S w w' := ⟨h.os, h.tape, h.output, h.size, fun k hk _ => h.block k hk⟩
theorem Turned.drew (h : Turned S w w') : Turned S w w'.drew := ⟨h.os, h.tape, h.output, h.size, h.block⟩
theorem Turned.drewN (h : Turned S w w') (n : Nat) : Turned S w (w'.drewN n) := ⟨h.os, h.tape, h.output, h.size, h.block⟩
theorem Turned.alloc (h : Turned S w w') (o : Obj) : Turned S w (w'.alloc o) :=
  ⟨h.os, h.tape, h.output, Nat.le_trans h.size (by simp), fun k hk hs => (Below.heap_alloc _ _ _ (Nat.lt_of_lt_of_le hk h.size)).trans (h.block k hk hs)⟩
theorem Turned.setCell (h : Turned S w w') {a : Addr} (ha : S a.block ∨ w.heap.size ≤ a.block) (u : Value) : Turned S w (w'.setCell a u) :=
  ⟨h.os, h.tape, h.output, Nat.le_trans h.size (by simp [World.setCell]), fun k hk hs => (Below.heap_setCell _ _ _ _ (by
    intro e; subst e; rcases ha with ha | ha
    · exact hs ha
    · omega)).trans (h.block k hk hs)⟩
theorem Turned.grown (h : Turned S w w') {row : Option Nat} (hg : w'.grownBy w'' row) (hr : ∀ k, row = some k → k < w.heap.size → S k) : Turned S w w'' :=
  ⟨hg.os.trans h.os, hg.tape.trans h.tape, hg.output.trans h.output, Nat.le_trans h.size hg.size, fun k hk hs =>
    (hg.block k (Nat.lt_of_lt_of_le hk h.size) (fun e => hs (hr k e.symm hk))).trans (h.block k hk hs)⟩
theorem Turned.trans {S' : Nat → Prop} (h : Turned S w w') (h' : Turned S' w' w'') (hs : ∀ k, k < w.heap.size → S' k → S k) : Turned S w w'' :=
  ⟨h'.os.trans h.os, h'.tape.trans h.tape, h'.output.trans h.output, Nat.le_trans h.size h'.size, fun k hk n =>
    (h'.block k (Nat.lt_of_lt_of_le hk h.size) (fun e => n (hs k hk e))).trans (h.block k hk n)⟩
theorem Turned.mono {S' : Nat → Prop} (h : Turned S w w') (hs : ∀ k, k < w.heap.size → S k → S' k) : Turned S' w w' :=
  ⟨h.os, h.tape, h.output, h.size, fun k hk n => h.block k hk (fun e => n (hs k hk e))⟩
theorem Turned.cell (h : Turned S w w') {p : Addr} (hp : p.block < w.heap.size) (hs : ¬ S p.block) : w'.cell? p = w.cell? p := World.cell?_of_block (w := w) (h.block p.block hp hs)
theorem Turned.frozen (h : Turned S w w') {p : Addr} (hp : p.block < w.heap.size) (hs : ¬ S p.block) : w'.frozen? p = w.frozen? p := World.frozen?_of_block (w := w) (h.block p.block hp hs)
/-- Where all that may be turned is new to an elder world. -/
theorem Turned.old (h : Turned S w w') {B : Nat} {w0 : World} (h0 : Below B w0 w) (hB : B ≤ w.heap.size) (hs : ∀ k, k < B → ¬ S k) : Below B w0 w' :=
  h0.trans ⟨h.os, h.tape, h.output, h.size, fun k hk => h.block k (by omega) (hs k hk)⟩
theorem Turned.own (h : Turned S w w') {base : Nat} {e : TypeId} {size : Nat} {v : Value} {n : Nat} {xs : List Value} (ho : w.ownsRow base e size v n xs) (hs : ∀ k, v.ownBlock = some k → ¬ S k) : w'.ownsRow base e size v n xs := by
  refine ⟨ho.1, ho.2.imp id ?_⟩
  rintro ⟨g, cap, cur, rfl, hg, hh, r⟩
  exact ⟨g, cap, cur, rfl, hg, (h.block g (lt_of_block hh) (hs g rfl)).trans hh, r⟩
end

theorem setCell_comm (w : World) (a b : Addr) (u v : Value) (h : a.block ≠ b.block) : (w.setCell a u).setCell b v = (w.setCell b v).setCell a u := by
  unfold World.setCell
  congr 1
  apply Array.ext
  · simp
  · intro i h1 h2
    simp only [Array.getElem_modify]
    by_cases ha : a.block = i
    · have hb : ¬ b.block = i := by omega
      simp [ha, hb]
    · simp [ha]

section
variable {P : Program}

/-- append to a row of the call's own, whatever is appended; where it lies now is where it lay, or new. -/
theorem run_app {w : World} {t e : TypeId} {size bytes : Nat} (E : ElemOf P t e size bytes) (ty : TypeId) (base : Nat)
    (v : Value) (n : Nat) (xs : List Value) (hown : w.ownsRow base e size v n xs) (vx : Value) (m : Nat) (news : List Value) (hx : Sl w size vx m news)
    (h1 : ∀ u ∈ news, u.oneCell' = true) (h63 : n + m ≤ maxLen) (hbytes : (n + m) * bytes ≤ 140737488355328) (hbase : base ≤ w.heap.size) :
    ∃ v' w', (Builtin.append_ #[t, t] ty #[v, vx]).run P w = .ok v' w' ∧ w'.ownsRow base e size v' (n + m) (xs ++ news) ∧ w.grownBy w' v.ownBlock ∧
      (v'.ownBlock = v.ownBlock ∨ ∃ g, v'.ownBlock = some g ∧ w.heap.size ≤ g) := by
  obtain ⟨i, z, hi, hz, hsize, hby, hzs⟩ := E.info
  obtain ⟨a, c, rfl, hl, hmc, hcm, _, hcell⟩ := hx
  cases a with
  | none =>
    have hnil : news = [] := by
      cases news with
      | nil => rfl
      | cons y ys => obtain ⟨b, o, h, _⟩ := hcell 0 y rfl; cases h
    subst hnil
    have hm : m = 0 := by
      rcases Nat.eq_zero_or_pos m with h | h
      · exact h
      · have := Nat.mul_pos h E.pos; simp at hl; omega
    subst hm
    have hr : (Builtin.append_ #[t, t] ty #[v, .slice none 0 c]).run P w = .ok v w := by
      obtain ⟨ho1, ho2⟩ := hown
      rcases ho2 with ⟨rfl, rfl⟩ | ⟨g, cap, cur, rfl, hb, hg, hnc, hcap, hcs, ht⟩
      · simp [Builtin.append_, run_underlying E.und, sizeOf, typeInfo, hi, Builtin.lenOf, Builtin.firstCells]
      · have h0 : n + 0 ≤ cap := by omega
        simp [Builtin.append_, run_underlying E.und, sizeOf, typeInfo, hi, Builtin.lenOf, Builtin.firstCells, hnc, storeCells]
    refine ⟨v, w, hr, by simpa using hown, ⟨rfl, rfl, rfl, Nat.le_refl _, fun _ _ _ => rfl⟩, .inl rfl⟩
  | some ad =>
    by_cases hm0 : m = 0 ∧ news = []
    · obtain ⟨rfl, rfl⟩ := hm0
      have hr : (Builtin.append_ #[t, t] ty #[v, .slice (some ad) 0 c]).run P w = .ok v w := by
        obtain ⟨ho1, ho2⟩ := hown
        rcases ho2 with ⟨rfl, rfl⟩ | ⟨g, cap, cur, rfl, hb, hg, hnc, hcap, hcs, ht⟩
        · simp [Builtin.append_, run_underlying E.und, sizeOf, typeInfo, hi, Builtin.lenOf, Builtin.firstCells, loadCells, loadCellsFrom]
        · simp [Builtin.append_, run_underlying E.und, sizeOf, typeInfo, hi, Builtin.lenOf, Builtin.firstCells, hnc, storeCells, loadCells, loadCellsFrom]
      exact ⟨v, w, hr, by simpa using hown, ⟨rfl, rfl, rfl, Nat.le_refl _, fun _ _ _ => rfl⟩, .inl rfl⟩
    · have hne : news ≠ [] := by
        intro h; subst h
        apply hm0
        refine ⟨?_, rfl⟩
        rcases Nat.eq_zero_or_pos m with h | h
        · exact h
        · have := Nat.mul_pos h E.pos; simp at hl; omega
      obtain ⟨y, ys, rfl⟩ := List.exists_cons_of_ne_nil hne
      obtain ⟨b, o, hA, _⟩ := hcell 0 y rfl
      cases hA
      have hnews : ∀ j u, (y :: ys)[j]? = some u → w.cell? ((⟨b, o, none⟩ : Addr).add j) = some u := by
        intro j u hu
        obtain ⟨b', o', hA, hc⟩ := hcell j u hu
        cases hA
        rw [add_none]; exact hc
      by_cases hroom : v.ownBlock = none ∨ True
      · obtain ⟨v', w', r1, r2, r3, _⟩ := run_append_own (P := P) w base t ty e i z size bytes E.und hi hz hsize hby hzs E.pos v n xs hown ⟨b, o, none⟩ m c (y :: ys) hl hnews h1 h63 hbytes hbase
        refine ⟨v', w', r1, r2, r3, ?_⟩
        -- where it lies: by the room
        obtain ⟨ho1, ho2⟩ := hown
        subst hsize
        rcases ho2 with ⟨rfl, rfl⟩ | ⟨g, cap, cur, rfl, hb, hg, hnc, hcap, hcs, ht⟩
        · have hr := run_append_nil (P := P) w t ty e i z E.und hi hz ⟨b, o, none⟩ m c (y :: ys) hl hnews (by
              rcases Nat.eq_zero_or_pos m with h | h
              · subst h; simp at hl
              · exact h) (by simp only [maxLen] at h63; omega) (by rw [hby]; simp only [Nat.zero_add] at hbytes; omega)
          rw [hr] at r1
          cases r1
          exact .inr ⟨_, rfl, Nat.le_refl _⟩
        · by_cases hr : n + m ≤ cap
          · have hfit : n * i.size + (y :: ys).length ≤ cur.size := by rw [hl, hcs, ← Nat.add_mul]; exact Nat.mul_le_mul_right _ hr
            have hr' := run_append_room (P := P) w t ty e i E.und hi g n cap cur hg ⟨b, o, none⟩ m c (y :: ys) hl hnews h1 hr hfit
            rw [hr'] at r1
            cases r1
            exact .inl rfl
          · have holds : ∀ j u, xs[j]? = some u → w.cell? ((⟨g, 0, none⟩ : Addr).add j) = some u :=
              World.ownsRow.cells (w := w) (base := base) (e := e) (size := i.size) (v := .slice (some ⟨g, 0, none⟩) n cap) (n := n) (xs := xs) ⟨ho1, .inr ⟨g, cap, cur, rfl, hb, hg, hnc, hcap, hcs, ht⟩⟩ (g := g) rfl
            have hr' := run_append_grow (P := P) w t ty e i z E.und hi hz ⟨g, 0, none⟩ n cap xs ho1 holds ⟨b, o, none⟩ m c (y :: ys) hl hnews (by omega) (by simp only [maxLen] at h63; omega) (growslice_fits (by omega) (by rw [hby]; exact hbytes))
            rw [hr'] at r1
            cases r1
            exact .inr ⟨_, rfl, Nat.le_refl _⟩
      · exact absurd (.inr trivial) hroom

theorem wp_app {w : World} {t e : TypeId} {size bytes : Nat} (E : ElemOf P t e size bytes) {o : Oper} {a : Act} {K : Act → World → Prop} {Q : Exit → Act → World → Prop} (s x : Operand)
    (ho : o.op = .call { callee := .builtin .append, args := #[s, x], argTypes := #[t, t] })
    (base : Nat) {v : Value} {n : Nat} {xs : List Value} (hs : a.eval s = v) (hown : w.ownsRow base e size v n xs) {vx : Value} {m : Nat} {news : List Value} (hvx : a.eval x = vx) (hx : Sl w size vx m news)
    (h1 : ∀ u ∈ news, u.oneCell' = true) (h63 : n + m ≤ maxLen) (hbytes : (n + m) * bytes ≤ 140737488355328) (hbase : base ≤ w.heap.size)
    (h : ∀ v' w', w'.ownsRow base e size v' (n + m) (xs ++ news) → w.grownBy w' v.ownBlock → (v'.ownBlock = v.ownBlock ∨ ∃ g, v'.ownBlock = some g ∧ w.heap.size ≤ g) → K (a.put o.dst v') w') : o.wp P a w K Q := by
  obtain ⟨v', w', hr, h2, h3, h4⟩ := run_app (P := P) E o.type base v n xs hown vx m news hx h1 h63 hbytes hbase
  unfold Oper.wp execOp
  simp only [ho, resolve, invoke, builtin, Sem.run_bind, Sem.run_pure, Result.andThen_ok, List.map_toArray, List.map_cons, List.map_nil, hs, hvx, hr]
  exact h v' w' h2 h3 h4

theorem wpList_app {w : World} {t e : TypeId} {size bytes : Nat} (E : ElemOf P t e size bytes) {ops : Array Oper} {rest : List Oper} {o : Oper} {a : Act} {Q : Exit → Act → World → Prop} (hgd : o.guard = none) (s x : Operand)
    (ho : o.op = .call { callee := .builtin .append, args := #[s, x], argTypes := #[t, t] })
    (base : Nat) {v : Value} {n : Nat} {xs : List Value} (hs : a.eval s = v) (hown : w.ownsRow base e size v n xs) {vx : Value} {m : Nat} {news : List Value} (hvx : a.eval x = vx) (hx : Sl w size vx m news)
    (h1 : ∀ u ∈ news, u.oneCell' = true) (h63 : n + m ≤ maxLen) (hbytes : (n + m) * bytes ≤ 140737488355328) (hbase : base ≤ w.heap.size)
    (h : ∀ v' w', w'.ownsRow base e size v' (n + m) (xs ++ news) → w.grownBy w' v.ownBlock → (v'.ownBlock = v.ownBlock ∨ ∃ g, v'.ownBlock = some g ∧ w.heap.size ≤ g) → wpList P ops Q rest (a.put o.dst v') w') : wpList P ops Q (o :: rest) a w :=
  wpList_plain hgd fun _ hK => wp_app E s x ho base hs hown hvx hx h1 h63 hbytes hbase fun v' w' h2 h3 h4 => hK _ _ (h v' w' h2 h3 h4)
end

/-- What reads so in a world reads so in a later one, where its block has not been turned. -/
theorem Sl.turned {w w' : World} {S : Nat → Prop} {size n cap : Nat} {a : Option Addr} {xs : List Value} (h : Sl w size (.slice a n cap) n xs) (ht : Turned S w w') (hs : ∀ x, a = some x → ¬ S x.block) : Sl w' size (.slice a n cap) n xs := by
  obtain ⟨a0, c0, he, h2, h3, h4, h6, h5⟩ := h
  cases he
  refine ⟨a, cap, rfl, h2, h3, h4, h6, fun j u hu => ?_⟩
  obtain ⟨b, o, ha, hc⟩ := h5 j u hu
  exact ⟨b, o, ha, (ht.cell (p := ⟨b, o + j, none⟩) (World.block_lt_of_cell? w _ hc) (hs ⟨b, o, none⟩ ha)).trans hc⟩

/-! ### Cuts of a slice of one-cell elements -/
section
variable {P : Program} {w : World} {t e : TypeId} {bytes : Nat} {a : Option Addr} {n cap : Nat} {xs : List Value}

theorem Sl.max {size : Nat} (h : Sl w size (.slice a n cap) n xs) : n ≤ cap ∧ cap ≤ 9223372036854775807 := by
  obtain ⟨a', c', he, _, h2, h3, _⟩ := h
  cases he
  unfold maxLen at h3
  exact ⟨h2, h3⟩

theorem Sl.cut_from (E : ElemOf P t e 1 bytes) (h : Sl w 1 (.slice a n cap) n xs) (k : Nat) (hk : k ≤ n) :
    ∃ a' cap', (∀ wx, (Instr.slice t (.slice a n cap) (some (.int .i64 k)) none none).run P wx = .ok (.slice a' (n - k) cap') wx) ∧ Sl w 1 (.slice a' (n - k) cap') (n - k) (xs.drop k) ∧ (∀ x, a' = some x → ∃ y, a = some y ∧ y.block = x.block) := by
  obtain ⟨i, z, hi, hz, hsize, hby, hzs⟩ := E.info
  obtain ⟨hnc, hcm⟩ := h.max
  obtain ⟨a0, c0, he, h1, h2, h3, h4, h5⟩ := h
  cases he
  refine ⟨if cap = k then a else a.map (·.add k), cap - k, fun wx => ?_, ?_, ?_⟩
  · have hb1 : (0 : Int) ≤ k := by omega
    have hb2 : (k : Int) ≤ n := by omega
    simp [Instr.slice, run_underlying E.und, Instr.sliceBounds, run_sliceBound, hb2, sizeOf, typeInfo, hi, hsize]
  · refine ⟨_, _, rfl, by simp; omega, by omega, by unfold maxLen; omega, ?_, ?_⟩
    · intro hn
      by_cases hc : cap = k
      · omega
      · rw [if_neg hc] at hn
        cases a with
        | none => have := h4 rfl; omega
        | some x => simp at hn
    · intro j u hu
      have hj : j < n - k := by
        have := (List.getElem?_eq_some_iff.1 hu).1
        simp at this; omega
      rw [List.getElem?_drop] at hu
      obtain ⟨b, o, rfl, hc⟩ := h5 (k + j) u hu
      rw [if_neg (by omega)]
      refine ⟨b, o + k, by simp [add_none], ?_⟩
      rw [Nat.add_assoc]; exact hc
  · intro x hA
    split at hA
    · exact ⟨x, hA, rfl⟩
    · cases a with
      | none => simp at hA
      | some y =>
        simp only [Option.map_some, Option.some.injEq] at hA
        refine ⟨y, rfl, ?_⟩
        rw [← hA]
        unfold Addr.add
        split <;> rfl

theorem Sl.cut_to (E : ElemOf P t e 1 bytes) (h : Sl w 1 (.slice a n cap) n xs) (k : Nat) (hk : k ≤ n) :
    (∀ wx, (Instr.slice t (.slice a n cap) none (some (.int .i64 k)) none).run P wx = .ok (.slice a k cap) wx) ∧ Sl w 1 (.slice a k cap) k (xs.take k) := by
  obtain ⟨i, z, hi, hz, hsize, hby, hzs⟩ := E.info
  obtain ⟨hnc, hcm⟩ := h.max
  obtain ⟨a0, c0, he, h1, h2, h3, h4, h5⟩ := h
  cases he
  refine ⟨fun wx => ?_, ?_⟩
  · have hb2 : (k : Int) ≤ cap := by omega
    have hb3 : k ≤ cap := by omega
    have ha : (if cap = 0 then a else a.map (·.add 0)) = a := by
      split
      · rfl
      · cases a <;> simp [Addr.add]
    simp [Instr.slice, run_underlying E.und, Instr.sliceBounds, run_sliceBound, hb3, sizeOf, typeInfo, hi]
    simpa using ha
  · refine ⟨_, _, rfl, by simp; omega, by omega, h3, fun hn => ?_, fun j u hu => ?_⟩
    · have := h4 hn; omega
    · have hj : j < k := by
        have := (List.getElem?_eq_some_iff.1 hu).1
        simp at this; omega
      rw [List.getElem?_take, if_pos hj] at hu
      exact h5 j u hu
end
end Go.Th

/-
  A block known whole: an array of the call's own.
-/
namespace Go.Th
open Go Go.RowKit

/-- The block b is an array of these cells, free to be written. -/
def Blk (w : World) (b : Nat) (t : TypeId) (cs : List Value) : Prop := w.heap[b]? = some (.cells cs.toArray t (0, 0))

section
variable {w w' : World} {b : Nat} {t : TypeId} {cs : List Value}
theorem Blk.lt (h : Blk w b t cs) : b < w.heap.size := lt_of_block h
theorem Blk.new (w : World) (t : TypeId) (cs : List Value) : Blk (w.alloc (.cells cs.toArray t)) w.heap.size t cs := heap_alloc_new w _
theorem Blk.cell (h : Blk w b t cs) {i : Nat} {u : Value} (hi : cs[i]? = some u) : w.cell? ⟨b, i, none⟩ = some u := by
  unfold Blk at h
  simp [World.cell?, h, hi]
theorem Blk.free (h : Blk w b t cs) (i : Nat) : w.frozen? ⟨b, i, none⟩ = false := by
  unfold Blk at h
  simp [World.frozen?, h]
theorem Blk.set (h : Blk w b t cs) (i : Nat) (u : Value) (_ : i < cs.length) : Blk (w.setCell ⟨b, i, none⟩ u) b t (cs.set i u) := by
  have hlt := lt_of_block h
  have h' : w.heap[b] = .cells cs.toArray t (0, 0) := by simpa [Blk, Array.getElem?_eq_getElem hlt] using h
  show (w.heap.modify b _)[b]? = _
  rw [Array.getElem?_eq_getElem (by simpa using hlt), Array.getElem_modify_self, h']
  simp
theorem Blk.of_block (h : Blk w b t cs) (hb : w'.heap[b]? = w.heap[b]?) : Blk w' b t cs := hb.trans h
theorem Blk.below {B : Nat} (h : Blk w b t cs) (hb : Below B w w') (hB : b < B) : Blk w' b t cs := h.of_block (hb.block b hB)
theorem Blk.alloc (h : Blk w b t cs) (o : Obj) : Blk (w.alloc o) b t cs := h.of_block (Below.heap_alloc _ _ _ h.lt)
theorem Blk.drew (h : Blk w b t cs) : Blk w.drew b t cs := h
theorem Blk.drewN (h : Blk w b t cs) (n : Nat) : Blk (w.drewN n) b t cs := h
theorem Blk.other (h : Blk w b t cs) (a : Addr) (u : Value) (ha : a.block ≠ b) : Blk (w.setCell a u) b t cs := h.of_block (Below.heap_setCell _ _ _ _ (Ne.symm ha))
theorem Blk.turned {S : Nat → Prop} (h : Blk w b t cs) (ht : Turned S w w') (hs : ¬ S b) : Blk w' b t cs := h.of_block (ht.block b h.lt hs)
theorem Blk.row (h : Blk w b t cs) (ds : List Value) : Blk (w.setRow b ds.toArray) b t ds := by
  have hlt := lt_of_block h
  have h' : w.heap[b] = .cells cs.toArray t (0, 0) := by simpa [Blk, Array.getElem?_eq_getElem hlt] using h
  show (w.heap.modify b _)[b]? = _
  rw [Array.getElem?_eq_getElem (by simpa using hlt), Array.getElem_modify_self, h']
theorem Blk.row_other (h : Blk w b t cs) (g : Nat) (ds : Array Value) (hg : g ≠ b) : Blk (w.setRow g ds) b t cs := by
  refine h.of_block ?_
  show (w.heap.modify g _)[b]? = _
  rw [Array.getElem?_modify, if_neg hg]
/-- The whole of such an array as a slice. -/
theorem Blk.sl (h : Blk w b t cs) (n : Nat) (hn : n = cs.length) (hm : n ≤ maxLen) : Sl w 1 (.slice (some ⟨b, 0, none⟩) n n) n cs := by
  subst hn
  refine ⟨_, _, rfl, by simp, Nat.le_refl _, hm, fun h => (by cases h), ?_⟩
  intro j u hu
  refine ⟨b, 0, rfl, ?_⟩
  rw [Nat.zero_add]; exact h.cell hu
end
theorem below_setRow {B : Nat} {w w' : World} (h : Below B w w') (g : Nat) (hg : B ≤ g) (ds : Array Value) : Below B w (w'.setRow g ds) :=
  ⟨h.os, h.tape, h.output, Nat.le_trans h.size (by simp [World.setRow]), fun k hk => by
    refine Eq.trans ?_ (h.block k hk)
    show (w'.heap.modify g _)[k]? = _
    rw [Array.getElem?_modify, if_neg (by omega)]⟩

/-- One element of an owned row of one-cell elements is stored. -/
theorem ownsRow_set {w : World} {base : Nat} {e : TypeId} {g n cap : Nat} {xs : List Value} (h : w.ownsRow base e 1 (.slice (some ⟨g, 0, none⟩) n cap) n xs) (i : Nat) (_ : i < n) (u : Value) :
    (w.setCell ⟨g, i, none⟩ u).ownsRow base e 1 (.slice (some ⟨g, 0, none⟩) n cap) n (xs.set i u) := by
  obtain ⟨h1, h2⟩ := h
  rcases h2 with ⟨he, _⟩ | ⟨g', cap', cur, he, hb, hg, hnc, hcm, hcs, ht⟩
  · cases he
  · cases he
    refine ⟨by simpa using h1, .inr ⟨g, cap, cur.setIfInBounds i u, rfl, hb, ?_, hnc, hcm, by simpa using hcs, ?_⟩⟩
    · have hlt := lt_of_block hg
      have h' : w.heap[g] = .cells cur e (0, 0) := by simpa [Array.getElem?_eq_getElem hlt] using hg
      show (w.heap.modify g _)[g]? = _
      rw [Array.getElem?_eq_getElem (by simpa using hlt), Array.getElem_modify_self, h']
      simp
    · rw [← ht, Array.toList_setIfInBounds, List.take_set]
theorem ownsRow_cell {w : World} {base : Nat} {e : TypeId} {g n cap : Nat} {xs : List Value} (h : w.ownsRow base e 1 (.slice (some ⟨g, 0, none⟩) n cap) n xs) {i : Nat} {u : Value} (hi : xs[i]? = some u) : w.cell? ⟨g, i, none⟩ = some u := by
  have := h.cells (g := g) rfl i u hi
  rwa [add_none, Nat.zero_add] at this
theorem ownsRow_free {w : World} {base : Nat} {e : TypeId} {g n cap : Nat} {xs : List Value} (h : w.ownsRow base e 1 (.slice (some ⟨g, 0, none⟩) n cap) n xs) (i : Nat) : w.frozen? ⟨g, i, none⟩ = false := by
  obtain ⟨h1, h2⟩ := h
  rcases h2 with ⟨he, _⟩ | ⟨g', cap', cur, he, hb, hg, _⟩
  · cases he
  · cases he
    simp [World.frozen?, hg]
end Go.Th

/-
  What of the memory that a call has made is known: its blocks, one by one; whole rows of them read, written, made.
-/
namespace Go.Th
open Go Go.RowKit

/-- What of the memory made since w0 is known. -/
structure Mem (w0 w : World) (bs : List (Nat × TypeId × List Value)) : Prop where
  below : Below w0.heap.size w0 w
  nodup : (bs.map (·.1)).Nodup
  old : ∀ e ∈ bs, w0.heap.size ≤ e.1
  blk : ∀ e ∈ bs, Blk w e.1 e.2.1 e.2.2

/-- One block's cells are turned. -/
inductive Upd : List (Nat × TypeId × List Value) → Nat → TypeId → List Value → List Value → List (Nat × TypeId × List Value) → Prop where
  | head (g t cs cs' r) : Upd ((g, t, cs) :: r) g t cs cs' ((g, t, cs') :: r)
  | tail (e r g t cs cs' r') (h : Upd r g t cs cs' r') : Upd (e :: r) g t cs cs' (e :: r')

/-- A block among them. -/
inductive Has : List (Nat × TypeId × List Value) → Nat → TypeId → List Value → Prop where
  | head (g t cs r) : Has ((g, t, cs) :: r) g t cs
  | tail (e r g t cs) (h : Has r g t cs) : Has (e :: r) g t cs

theorem Has.mem {bs g t cs} (h : Has bs g t cs) : (g, t, cs) ∈ bs := by
  induction h with
  | head => exact .head _
  | tail _ _ _ _ _ _ ih => exact .tail _ ih
theorem Upd.has {bs g t cs cs' bs'} (h : Upd bs g t cs cs' bs') : Has bs g t cs := by
  induction h with
  | head => exact .head _ _ _ _
  | tail _ _ _ _ _ _ _ _ ih => exact .tail _ _ _ _ _ ih
theorem Upd.keys {bs g t cs cs' bs'} (h : Upd bs g t cs cs' bs') : bs'.map (·.1) = bs.map (·.1) := by
  induction h with
  | head => rfl
  | tail _ _ _ _ _ _ _ _ ih => simp [ih]
theorem Upd.mem {bs g t cs cs' bs'} (h : Upd bs g t cs cs' bs') (hn : (bs.map (·.1)).Nodup) : ∀ e ∈ bs', e = (g, t, cs') ∨ (e ∈ bs ∧ e.1 ≠ g) := by
  induction h with
  | head g t cs cs' r =>
    intro e he
    rcases List.mem_cons.1 he with rfl | he
    · exact .inl rfl
    · refine .inr ⟨.tail _ he, ?_⟩
      simp only [List.map_cons, List.nodup_cons] at hn
      intro h
      exact hn.1 (List.mem_map.2 ⟨e, he, h⟩)
  | tail e0 r g t cs cs' r' h ih =>
    intro e he
    simp only [List.map_cons, List.nodup_cons] at hn
    rcases List.mem_cons.1 he with rfl | he
    · refine .inr ⟨.head _, ?_⟩
      intro h'
      have := h.has.mem
      exact hn.1 (List.mem_map.2 ⟨_, this, h'.symm⟩)
    · rcases ih hn.2 e he with h' | ⟨h1, h2⟩
      · exact .inl h'
      · exact .inr ⟨.tail _ h1, h2⟩

section
variable {w0 w w' : World} {bs bs' : List (Nat × TypeId × List Value)} {g : Nat} {t : TypeId} {cs cs' : List Value}
theorem Mem.start (w : World) : Mem w w [] := ⟨Below.refl _ _, List.nodup_nil, by simp, by simp⟩
theorem Mem.fresh (M : Mem w0 w bs) : w0.heap.size ≤ w.heap.size := M.below.size
theorem Mem.has (M : Mem w0 w bs) (h : Has bs g t cs) : Blk w g t cs := M.blk _ h.mem
theorem Mem.from (M : Mem w0 w bs) (h : Has bs g t cs) : w0.heap.size ≤ g := M.old _ h.mem
theorem Mem.lt (M : Mem w0 w bs) (h : Has bs g t cs) : g < w.heap.size := (M.has h).lt
theorem Mem.alloc (M : Mem w0 w bs) (t : TypeId) (cs : List Value) : Mem w0 (w.alloc (.cells cs.toArray t)) ((w.heap.size, t, cs) :: bs) where
  below := M.below.alloc M.below.size _
  nodup := by
    simp only [List.map_cons, List.nodup_cons]
    refine ⟨fun h => ?_, M.nodup⟩
    obtain ⟨e, he, h'⟩ := List.mem_map.1 h
    have := (M.blk e he).lt
    omega
  old := by
    intro e he
    rcases List.mem_cons.1 he with rfl | he
    · exact M.below.size
    · exact M.old e he
  blk := by
    intro e he
    rcases List.mem_cons.1 he with rfl | he
    · exact Blk.new _ _ _
    · exact (M.blk e he).alloc _
theorem Mem.call (M : Mem w0 w bs) (h : Below w.heap.size w w') : Mem w0 w' bs :=
  ⟨M.below.trans (h.mono M.below.size), M.nodup, M.old, fun e he => (M.blk e he).below h (M.blk e he).lt⟩
theorem Mem.drew (M : Mem w0 w bs) : Mem w0 w.drew bs := ⟨M.below.drew, M.nodup, M.old, fun e he => (M.blk e he).drew⟩
theorem Mem.drewN (M : Mem w0 w bs) (n : Nat) : Mem w0 (w.drewN n) bs := ⟨below_dN M.below n, M.nodup, M.old, fun e he => (M.blk e he).drewN n⟩
theorem Mem.drop {e} (M : Mem w0 w (e :: bs)) : Mem w0 w bs := ⟨M.below, (List.nodup_cons.1 M.nodup).2, fun e he => M.old e (.tail _ he), fun e he => M.blk e (.tail _ he)⟩
theorem Mem.pick (M : Mem w0 w bs) (h : bs'.Sublist bs) : Mem w0 w bs' :=
  ⟨M.below, (h.map _).nodup M.nodup, fun e he => M.old e (h.subset he), fun e he => M.blk e (h.subset he)⟩
theorem Mem.bare (M : Mem w0 w bs) : Mem w0 w [] := ⟨M.below, List.nodup_nil, by simp, by simp⟩
theorem Mem.cell (M : Mem w0 w bs) (h : Has bs g t cs) {i : Nat} {u : Value} (hi : cs[i]? = some u) : w.cell? ⟨g, i, none⟩ = some u := (M.has h).cell hi
theorem Mem.free (M : Mem w0 w bs) (h : Has bs g t cs) (i : Nat) : w.frozen? ⟨g, i, none⟩ = false := (M.has h).free i
theorem Mem.set (M : Mem w0 w bs) (i : Nat) (u : Value) (hu : Upd bs g t cs (cs.set i u) bs') (hi : i < cs.length) : Mem w0 (w.setCell ⟨g, i, none⟩ u) bs' where
  below := M.below.setCell (M.from hu.has) _
  nodup := by rw [hu.keys]; exact M.nodup
  old := by
    intro e he
    rcases hu.mem M.nodup e he with rfl | ⟨h1, _⟩
    · exact M.from hu.has
    · exact M.old e h1
  blk := by
    intro e he
    rcases hu.mem M.nodup e he with rfl | ⟨h1, h2⟩
    · exact (M.has hu.has).set i u hi
    · exact (M.blk e h1).other _ _ (Ne.symm h2)
theorem Mem.row (M : Mem w0 w bs) (hu : Upd bs g t cs cs' bs') : Mem w0 (w.setRow g cs'.toArray) bs' where
  below := below_setRow M.below g (M.from hu.has) _
  nodup := by rw [hu.keys]; exact M.nodup
  old := by
    intro e he
    rcases hu.mem M.nodup e he with rfl | ⟨h1, _⟩
    · exact M.from hu.has
    · exact M.old e h1
  blk := by
    intro e he
    rcases hu.mem M.nodup e he with rfl | ⟨h1, h2⟩
    · exact (M.has hu.has).row _
    · exact (M.blk e h1).row_other _ _ (Ne.symm h2)
end

/-! ### What a variable of a type reads as, in a block's cells; what a store makes of them -/
section
variable {P : Program}
structure Rd (P : Program) (ty : TypeId) (off : Nat) (cs : List Value) (v : Value) : Prop where
  run : ∀ (w : World) (g : Nat) (t : TypeId), Blk w g t cs → (loadVar ty ⟨g, off, none⟩).run P w = .ok v w
structure Wr (P : Program) (ty : TypeId) (off : Nat) (cs : List Value) (v : Value) (cs' : List Value) : Prop where
  run : ∀ (w : World) (g : Nat) (t : TypeId), Blk w g t cs → (storeVar ty ⟨g, off, none⟩ v).run P w = .ok () (w.setRow g cs'.toArray)

theorem isAgg_true {ty : TypeId} {d : TypeDesc} (hu : P.underlying ty = some d) (hd : (match d with | .struct _ | .array _ _ => true | _ => false) = true) (w : World) : (isAgg ty).run P w = .ok true w := by
  unfold isAgg
  rw [Sem.run_bind, run_underlying hu w]
  cases d <;> simp_all
theorem isAgg_false {ty : TypeId} {d : TypeDesc} (hu : P.underlying ty = some d) (hd : (match d with | .struct _ | .array _ _ => true | _ => false) = false) (w : World) : (isAgg ty).run P w = .ok false w := by
  unfold isAgg
  rw [Sem.run_bind, run_underlying hu w]
  cases d <;> simp_all

theorem Rd.agg {ty : TypeId} {d : TypeDesc} {off : Nat} {cs ds : List Value} (hu : P.underlying ty = some d) (hd : (match d with | .struct _ | .array _ _ => true | _ => false) = true)
    (hi : (P.info? ty).map (·.size) = some ds.length) (h : ∀ j u, ds[j]? = some u → cs[off + j]? = some u) : Rd P ty off cs (.agg ds.toArray) := by
  constructor
  intro w g t hb
  have hl : (loadCells ⟨g, off, none⟩ ds.length).run P w = .ok ds.toArray w :=
    run_loadCells_list (P := P) w ⟨g, off, none⟩ ds (fun j v hv => by rw [add_none]; exact hb.cell (h j v hv))
  cases hq : P.info? ty with
  | none => simp [hq] at hi
  | some i =>
    have hs : i.size = ds.length := by simpa [hq] using hi
    simp [loadVar, Sem.run_bind, isAgg_true hu hd w, sizeOf, typeInfo, hq, hs, hl]
theorem Rd.one {ty : TypeId} {d : TypeDesc} {off : Nat} {cs : List Value} {u : Value} (hu : P.underlying ty = some d) (hd : (match d with | .struct _ | .array _ _ => true | _ => false) = false)
    (h : cs[off]? = some u) : Rd P ty off cs u := by
  constructor
  intro w g t hb
  have hc := hb.cell h
  simp [loadVar, Sem.run_bind, isAgg_false hu hd w, hc]
theorem Wr.agg {ty : TypeId} {off : Nat} {cs ds : List Value} (hi : (P.info? ty).map (·.size) = some ds.length) (hl : off + ds.length ≤ cs.length) (h1 : ∀ u ∈ ds, u.oneCell' = true) :
    Wr P ty off cs (.agg ds.toArray) (cs.take off ++ ds ++ cs.drop (off + ds.length)) := by
  constructor
  intro w g t hb
  have hst := run_storeCells_at P g off t ds 0 cs.toArray w hb (by simpa using hl) h1
  cases hq : P.info? ty with
  | none => simp [hq] at hi
  | some i =>
    have hs : ds.length = i.size := by simp [hq] at hi; omega
    have : (storeCells ⟨g, off, none⟩ ds 0).run P w = .ok () (w.setRow g (cs.take off ++ ds ++ cs.drop (off + ds.length)).toArray) := by simpa using hst
    rw [hs] at this
    simp only [List.append_assoc] at this
    simp [storeVar, sizeOf, typeInfo, hq, Value.cells, hs, this]
theorem Wr.whole {ty : TypeId} {cs ds : List Value} (hi : (P.info? ty).map (·.size) = some ds.length) (hl : ds.length = cs.length) (h1 : ∀ u ∈ ds, u.oneCell' = true) :
    Wr P ty 0 cs (.agg ds.toArray) ds := by
  have h := Wr.agg (P := P) (off := 0) (cs := cs) hi (by omega) h1
  rw [Nat.zero_add, List.drop_of_length_le (by omega)] at h
  simpa using h
end

/-! ### Laws of the walk -/
section
variable {P : Program} {ops : Array Oper} {rest : List Oper} {o : Oper} {a : Act} {w w0 : World} {Q : Exit → Act → World → Prop} {K : Act → World → Prop} {bs bs' : List (Nat × TypeId × List Value)}
  {g off : Nat} {t ty : TypeId} {cs cs' : List Value} {v : Value} {x y : Operand}

theorem wp_ld (M : Mem w0 w bs) (ho : o.op = .load ty x) (hx : a.eval x = .pointer (some ⟨g, off, none⟩)) (hm : Has bs g t cs) (hr : Rd P ty off cs v) (h : K (a.put o.dst v) w) : o.wp P a w K Q := by
  unfold Oper.wp execOp
  simp only [ho, hx, Instr.loadAt, Instr.sureAddr, Sem.run_bind, Sem.run_pure, Result.andThen_ok, hr.run w g t (M.has hm)]
  exact h
theorem wp_st (M : Mem w0 w bs) (ho : o.op = .store ty x y) (hx : a.eval x = .pointer (some ⟨g, off, none⟩)) (hy : a.eval y = v) (hm : Has bs g t cs) (hr : Wr P ty off cs v cs') (hu : Upd bs g t cs cs' bs')
    (h : ∀ w', Mem w0 w' bs' → K (a.put o.dst undef) w') : o.wp P a w K Q := by
  unfold Oper.wp execOp
  simp only [ho, hx, hy, Instr.storeAt, Instr.sureAddr, Sem.run_bind, Sem.run_pure, Result.andThen_ok, hr.run w g t (M.has hu.has)]
  exact h _ (M.row hu)
theorem wp_al (M : Mem w0 w bs) (ho : o.op = .alloc ty) {z : Value} (hz : (P.info? ty).map (·.zero) = some (some z)) (hc : z.cells = cs.toArray)
    (h : ∀ g w', Mem w0 w' ((g, ty, cs) :: bs) → K (a.put o.dst (.pointer (some ⟨g, 0, none⟩))) w') : o.wp P a w K Q := by
  cases hq : P.info? ty with
  | none => simp [hq] at hz
  | some i =>
    have hs : i.zero = some z := by simpa [hq] using hz
    unfold Oper.wp execOp
    have hr : (Instr.alloc ty true (.tuple #[])).run P w = .ok (.pointer (some ⟨w.heap.size, 0, none⟩)) (w.alloc (.cells cs.toArray ty)) := by
      rw [← hc]
      simp [Instr.alloc, zeroValue, typeInfo, hq, hs, newVar, newRow, Value.cells, go_sem]
    simp only [ho, Sem.run_bind, hr, Result.andThen_ok]
    exact h _ _ (M.alloc _ _)
theorem wp_bx (M : Mem w0 w bs) (ho : o.op = .box ty x) (hx : a.eval x = v) (hc : v.cells = cs.toArray)
    (h : ∀ g w', Mem w0 w' ((g, ty, cs) :: bs) → K (a.put o.dst (.pointer (some ⟨g, 0, none⟩))) w') : o.wp P a w K Q := by
  unfold Oper.wp execOp
  have hr : (Instr.box ty v).run P w = .ok (.pointer (some ⟨w.heap.size, 0, none⟩)) (w.alloc (.cells cs.toArray ty)) := by
    rw [← hc]
    simp [Instr.box, newVar, newRow, Value.cells, go_sem]
  simp only [ho, hx, Sem.run_bind, hr, Result.andThen_ok]
  exact h _ _ (M.alloc _ _)
theorem wp_bd {parts : Array (Nat × Operand)} (ho : o.op = .build ty parts) (hb : P.built ty (parts.map fun (i, x) => (i, a.eval x)).toList = some cs.toArray) (h : K (a.put o.dst (.agg cs.toArray)) w) : o.wp P a w K Q := by
  refine wp_build ty parts ho (by rw [hb]; rfl) ?_
  rw [hb]
  exact h
/-- An operation whose run is known, and only reads. -/
theorem wp_bin {op : BinOp} {xt yt : TypeId} {u v r : Value} (ho : o.op = .binOp op xt x y yt) (hx : a.eval x = u) (hy : a.eval y = v) (hg : (eqGuard op xt x y u v).run P w = .ok () w) (hr : (binOp op xt u v).run P w = .ok r w)
    (h : K (a.put o.dst r) w) : o.wp P a w K Q := by
  unfold Oper.wp execOp
  simp only [ho, hx, hy, Sem.run_bind, hg, hr, Result.andThen_ok]
  exact h

theorem wpL_ld (M : Mem w0 w bs) (hgd : o.guard = none) (ho : o.op = .load ty x) (hx : a.eval x = .pointer (some ⟨g, off, none⟩)) (hm : Has bs g t cs) (hr : Rd P ty off cs v)
    (h : wpList P ops Q rest (a.put o.dst v) w) : wpList P ops Q (o :: rest) a w := wpList_plain hgd fun _ hK => wp_ld M ho hx hm hr (hK _ _ h)
theorem wpL_ldg (M : Mem w0 w bs) (ho : o.op = .load ty x) (hx : a.eval x = .pointer (some ⟨g, off, none⟩)) (hw : Region.wanted o (yielded ops a.tmps) = true) (hm : Has bs g t cs) (hr : Rd P ty off cs v)
    (h : wpList P ops Q rest (a.put o.dst v) w) : wpList P ops Q (o :: rest) a w := wpList_step fun K hK => by
      rw [if_pos hw]
      exact wp_ld M ho hx hm hr (hK _ _ h)
theorem wpL_st (M : Mem w0 w bs) (hgd : o.guard = none) (ho : o.op = .store ty x y) (hx : a.eval x = .pointer (some ⟨g, off, none⟩)) (hy : a.eval y = v) (hm : Has bs g t cs) (hr : Wr P ty off cs v cs') (hu : Upd bs g t cs cs' bs')
    (h : ∀ w', Mem w0 w' bs' → wpList P ops Q rest (a.put o.dst undef) w') : wpList P ops Q (o :: rest) a w := wpList_plain hgd fun _ hK => wp_st M ho hx hy hm hr hu fun w' h' => hK _ _ (h w' h')
theorem wpL_al (M : Mem w0 w bs) (hgd : o.guard = none) (ho : o.op = .alloc ty) {z : Value} (hz : (P.info? ty).map (·.zero) = some (some z)) (hc : z.cells = cs.toArray)
    (h : ∀ g w', Mem w0 w' ((g, ty, cs) :: bs) → wpList P ops Q rest (a.put o.dst (.pointer (some ⟨g, 0, none⟩))) w') : wpList P ops Q (o :: rest) a w :=
  wpList_plain hgd fun _ hK => wp_al M ho hz hc fun g' w' h' => hK _ _ (h g' w' h')
theorem wpL_bx (M : Mem w0 w bs) (hgd : o.guard = none) (ho : o.op = .box ty x) (hx : a.eval x = v) (hc : v.cells = cs.toArray)
    (h : ∀ g w', Mem w0 w' ((g, ty, cs) :: bs) → wpList P ops Q rest (a.put o.dst (.pointer (some ⟨g, 0, none⟩))) w') : wpList P ops Q (o :: rest) a w :=
  wpList_plain hgd fun _ hK => wp_bx M ho hx hc fun g' w' h' => hK _ _ (h g' w' h')
theorem wpL_bd {parts : Array (Nat × Operand)} (hgd : o.guard = none) (ho : o.op = .build ty parts) (hb : P.built ty (parts.map fun (i, x) => (i, a.eval x)).toList = some cs.toArray)
    (h : wpList P ops Q rest (a.put o.dst (.agg cs.toArray)) w) : wpList P ops Q (o :: rest) a w := wpList_plain hgd fun _ hK => wp_bd ho hb (hK _ _ h)
theorem wpL_bd0 (hgd : o.guard = none) (ho : o.op = .build ty #[]) (hb : P.built ty [] = some cs.toArray)
    (h : wpList P ops Q rest (a.put o.dst (.agg cs.toArray)) w) : wpList P ops Q (o :: rest) a w := wpL_bd hgd ho (by simpa using hb) h
theorem wpL_bd1 {i : Nat} (hgd : o.guard = none) (ho : o.op = .build ty #[(i, x)]) (hx : a.eval x = v) (hb : P.built ty [(i, v)] = some cs.toArray)
    (h : wpList P ops Q rest (a.put o.dst (.agg cs.toArray)) w) : wpList P ops Q (o :: rest) a w := wpL_bd hgd ho (by simpa [hx] using hb) h
theorem wpL_bd2 {i j : Nat} {u : Value} (hgd : o.guard = none) (ho : o.op = .build ty #[(i, x), (j, y)]) (hx : a.eval x = v) (hy : a.eval y = u) (hb : P.built ty [(i, v), (j, u)] = some cs.toArray)
    (h : wpList P ops Q rest (a.put o.dst (.agg cs.toArray)) w) : wpList P ops Q (o :: rest) a w := wpL_bd hgd ho (by simpa [hx, hy] using hb) h
theorem wpL_bin {op : BinOp} {xt yt : TypeId} {u v r : Value} (hgd : o.guard = none) (ho : o.op = .binOp op xt x y yt) (hx : a.eval x = u) (hy : a.eval y = v) (hg : (eqGuard op xt x y u v).run P w = .ok () w) (hr : (binOp op xt u v).run P w = .ok r w)
    (h : wpList P ops Q rest (a.put o.dst r) w) : wpList P ops Q (o :: rest) a w := wpList_plain hgd fun _ hK => wp_bin ho hx hy hg hr (hK _ _ h)

/-- In a region that draws its order. -/
theorem yi_ld {S : World → Prop} (hS : ∀ w, S w → ∃ w0, Mem w0 w bs) (hw : Region.wanted o (yielded ops a.tmps) = true) (ho : o.op = .load ty x) (hx : a.eval x = .pointer (some ⟨g, off, none⟩)) (hm : Has bs g t cs) (hr : Rd P ty off cs v) :
    YieldsIf P ops S o v a := .inl ⟨hw, fun w hw' => by
      obtain ⟨w0, M⟩ := hS w hw'
      unfold execOp
      simp only [ho, hx, Instr.loadAt, Instr.sureAddr, Sem.run_bind, Sem.run_pure, Result.andThen_ok, hr.run w g t (M.has hm)]⟩

/-- Results that lie in variables. -/
theorem res_cell {fn : Func} {p : Tmp} (h : fn.results = #[.cell p ty]) (M : Mem w0 w bs) {tmps : Array Value} (hp : tmps.getD p undef = .pointer (some ⟨g, off, none⟩)) (hm : Has bs g t cs) (hr : Rd P ty off cs v) : (results fn tmps).run P w = .ok v w := by
  have hp' : tmps[p]?.getD undef = .pointer (some ⟨g, off, none⟩) := by simpa using hp
  simp [results, h, hp', asAddr, hr.run w g t (M.has hm)]
theorem res_cell_tmp {fn : Func} {p q : Tmp} (h : fn.results = #[.cell p ty, .tmp q]) (M : Mem w0 w bs) {tmps : Array Value} (hp : tmps.getD p undef = .pointer (some ⟨g, off, none⟩)) (hm : Has bs g t cs) (hr : Rd P ty off cs v) {u : Value} (hq : tmps.getD q undef = u) :
    (results fn tmps).run P w = .ok (.tuple #[v, u]) w := by
  have hp' : tmps[p]?.getD undef = .pointer (some ⟨g, off, none⟩) := by simpa using hp
  have hq' : tmps[q]?.getD undef = u := by simpa using hq
  simp [results, h, hp', hq', asAddr, hr.run w g t (M.has hm)]
theorem res_cells {fn : Func} {p q : Tmp} {ty2 : TypeId} (h : fn.results = #[.cell p ty, .cell q ty2]) (M : Mem w0 w bs) {tmps : Array Value} (hp : tmps.getD p undef = .pointer (some ⟨g, off, none⟩)) (hm : Has bs g t cs) (hr : Rd P ty off cs v)
    {g2 off2 : Nat} {t2 : TypeId} {cs2 : List Value} {v2 : Value} (hq : tmps.getD q undef = .pointer (some ⟨g2, off2, none⟩)) (hm2 : Has bs g2 t2 cs2) (hr2 : Rd P ty2 off2 cs2 v2) : (results fn tmps).run P w = .ok (.tuple #[v, v2]) w := by
  have hp' : tmps[p]?.getD undef = .pointer (some ⟨g, off, none⟩) := by simpa using hp
  have hq' : tmps[q]?.getD undef = .pointer (some ⟨g2, off2, none⟩) := by simpa using hq
  simp [results, h, hp', hq', asAddr, hr.run w g t (M.has hm), hr2.run w g2 t2 (M.has hm2)]
end
end Go.Th

/-
  Blocks, variables, stores: found by instances, so that a walk's arms are short.
-/
namespace Go.Th
open Go Go.RowKit

/-- A block among them. -/
class HsI (bs : List (Nat × TypeId × List Value)) (g : Nat) (t : outParam TypeId) (cs : outParam (List Value)) : Prop where
  has : Has bs g t cs
instance hsHead (g : Nat) (t : TypeId) (cs : List Value) (r : List (Nat × TypeId × List Value)) : HsI ((g, t, cs) :: r) g t cs := ⟨.head _ _ _ _⟩
instance (priority := low) hsTail (e : Nat × TypeId × List Value) (r : List (Nat × TypeId × List Value)) (g : Nat) (t : TypeId) (cs : List Value) [h : HsI r g t cs] : HsI (e :: r) g t cs := ⟨.tail _ _ _ _ _ h.has⟩
/-- One block's cells turned. -/
class UpI (bs : List (Nat × TypeId × List Value)) (g : Nat) (t : TypeId) (cs cs' : List Value) (bs' : outParam (List (Nat × TypeId × List Value))) : Prop where
  upd : Upd bs g t cs cs' bs'
instance upHead (g : Nat) (t : TypeId) (cs cs' : List Value) (r : List (Nat × TypeId × List Value)) : UpI ((g, t, cs) :: r) g t cs cs' ((g, t, cs') :: r) := ⟨.head _ _ _ _ _⟩
instance (priority := low) upTail (e : Nat × TypeId × List Value) (r r' : List (Nat × TypeId × List Value)) (g : Nat) (t : TypeId) (cs cs' : List Value) [h : UpI r g t cs cs' r'] : UpI (e :: r) g t cs cs' (e :: r') := ⟨.tail _ _ _ _ _ _ _ h.upd⟩
/-- A cell of a row. -/
class ElI (cs : List Value) (i : Nat) (u : outParam Value) : Prop where
  at_ : cs[i]? = some u
instance elHead (u : Value) (r : List Value) : ElI (u :: r) 0 u := ⟨rfl⟩
instance elTail (v u : Value) (r : List Value) (i : Nat) [h : ElI r i u] : ElI (v :: r) (i + 1) u := ⟨by rw [List.getElem?_cons_succ]; exact h.at_⟩
/-- A type of one cell. -/
class BsI (P : Program) (ty : TypeId) : Prop where
  one : ∀ {off : Nat} {cs : List Value} {u : Value}, cs[off]? = some u → Rd P ty off cs u
/-- A variable that reads so. -/
class RdI (P : Program) (ty : TypeId) (off : Nat) (cs : List Value) (v : outParam Value) : Prop where
  rd : Rd P ty off cs v
instance (priority := low) rdBase (P : Program) (ty : TypeId) (off : Nat) (cs : List Value) (u : Value) [b : BsI P ty] [e : ElI cs off u] : RdI P ty off cs u :=
  ⟨b.one e.at_⟩
/-- How many cells a type has; how many these are, each of them one. -/
class SzI (P : Program) (ty : TypeId) (k : outParam Nat) : Prop where
  sz : (P.info? ty).map (·.size) = some k
class LnI (cs : List Value) (k : outParam Nat) : Prop where
  ln : cs.length = k
instance lnNil : LnI [] 0 := ⟨rfl⟩
instance lnCons (u : Value) (r : List Value) (k : Nat) [h : LnI r k] : LnI (u :: r) (k + 1) := ⟨by rw [List.length_cons, h.ln]⟩
class OcI (cs : List Value) : Prop where
  oc : ∀ u ∈ cs, u.oneCell' = true
instance ocNil : OcI [] := ⟨by simp⟩
instance ocInt (k : IntKind) (n : Int) (r : List Value) [h : OcI r] : OcI (.int k n :: r) := ⟨fun u hu => by rcases List.mem_cons.1 hu with rfl | hu; rfl; exact h.oc u hu⟩
instance ocBool (b : Bool) (r : List Value) [h : OcI r] : OcI (.bool b :: r) := ⟨fun u hu => by rcases List.mem_cons.1 hu with rfl | hu; rfl; exact h.oc u hu⟩
instance ocSlice (a : Option Addr) (n cap : Nat) (r : List Value) [h : OcI r] : OcI (.slice a n cap :: r) := ⟨fun u hu => by rcases List.mem_cons.1 hu with rfl | hu; rfl; exact h.oc u hu⟩
/-- One cell of a row turned. -/
class StI (cs : List Value) (i : Nat) (v : Value) (cs' : outParam (List Value)) : Prop where
  st : cs.set i v = cs'
  lt : i < cs.length
instance stHead (u v : Value) (r : List Value) : StI (u :: r) 0 v (v :: r) := ⟨rfl, by simp⟩
instance stTail (u v : Value) (r r' : List Value) (i : Nat) [h : StI r i v r'] : StI (u :: r) (i + 1) v (u :: r') := ⟨by rw [List.set_cons_succ, h.st], by have := h.lt; simp; omega⟩
/-- A type's zero. -/
class ZrI (P : Program) (ty : TypeId) (z : outParam Value) (cs : outParam (List Value)) : Prop where
  zr : (P.info? ty).map (·.zero) = some (some z)
  cl : z.cells = cs.toArray

section
variable {P : Program} {w w0 : World} {bs bs' : List (Nat × TypeId × List Value)} {g off : Nat} {t ty : TypeId} {cs cs' : List Value} {v : Value} {ops : Array Oper} {rest : List Oper} {o : Oper} {a : Act} {Q : Exit → Act → World → Prop} {x y : Operand}
theorem wpL_ldc (M : Mem w0 w bs) (hgd : o.guard = none) (ho : o.op = .load ty x) (hx : a.eval x = .pointer (some ⟨g, off, none⟩)) (h : wpList P ops Q rest (a.put o.dst v) w) [hm : HsI bs g t cs] [hr : RdI P ty off cs v] : wpList P ops Q (o :: rest) a w := wpL_ld M hgd ho hx hm.has hr.rd h
theorem wpL_lgc (M : Mem w0 w bs) (ho : o.op = .load ty x) (hx : a.eval x = .pointer (some ⟨g, off, none⟩)) (hw : Region.wanted o (yielded ops a.tmps) = true) (h : wpList P ops Q rest (a.put o.dst v) w) [hm : HsI bs g t cs] [hr : RdI P ty off cs v] : wpList P ops Q (o :: rest) a w := wpL_ldg M ho hx hw hm.has hr.rd h
theorem wpL_stc {ds : List Value} {k k' : Nat} (M : Mem w0 w bs) (hgd : o.guard = none) (ho : o.op = .store ty x y) (hx : a.eval x = .pointer (some ⟨g, 0, none⟩)) (hy : a.eval y = .agg ds.toArray) (h : ∀ w', Mem w0 w' bs' → wpList P ops Q rest (a.put o.dst undef) w')
    [hm : HsI bs g t cs] [hs : SzI P ty k] [hl : LnI cs k] [hd : LnI ds k'] [hc : OcI ds] [hu : UpI bs g t cs ds bs'] (hk : k' = k := by rfl) : wpList P ops Q (o :: rest) a w :=
  wpL_st M hgd ho hx hy hm.has (Wr.whole (by rw [hs.sz, hd.ln, hk]) (by rw [hd.ln, hl.ln, hk]) hc.oc) hu.upd h
theorem wr_cell1 {u : Value} {i : Nat} (hs : (P.info? ty).map (·.size) = some 1) (hi : cs[i]? = some u) (hv : v.cells = #[v]) (hst : ∀ (w : World) (g : Nat), w.cell? ⟨g, i, none⟩ = some u → w.frozen? ⟨g, i, none⟩ = false → (storeCells ⟨g, i, none⟩ [v] 0).run P w = .ok () (w.setCell ⟨g, i, none⟩ v)) (he : cs.set i v = cs') : Wr P ty i cs v cs' := by
  constructor
  intro w g t hb
  have hc := hb.cell hi
  have hf := hb.free i
  have e : w.setCell ⟨g, i, none⟩ v = w.setRow g cs'.toArray := by
    rw [setCell_eq_setRow w g i _ t (0, 0) _ hb]
    congr 1
    simp [← he]
  cases hq : P.info? ty with
  | none => simp [hq] at hs
  | some j =>
    have hz : j.size = 1 := by simpa [hq] using hs
    rw [← e]
    simp [storeVar, sizeOf, typeInfo, hq, hz, hv, hst w g hc hf]
theorem store_int (k : IntKind) (n : Int) (u : Value) (w : World) (g i : Nat) (hc : w.cell? ⟨g, i, none⟩ = some u) (hf : w.frozen? ⟨g, i, none⟩ = false) : (storeCells ⟨g, i, none⟩ [.int k n] 0).run P w = .ok () (w.setCell ⟨g, i, none⟩ (.int k n)) := by
  have hst := run_store P w ⟨g, i, none⟩ (.int k n) .plain rfl
  rw [hc] at hst
  simp only [hf, Bool.false_eq_true, if_false] at hst
  simp [storeCells, hst, add_none]
theorem store_bool (b : Bool) (u : Value) (w : World) (g i : Nat) (hc : w.cell? ⟨g, i, none⟩ = some u) (hf : w.frozen? ⟨g, i, none⟩ = false) : (storeCells ⟨g, i, none⟩ [.bool b] 0).run P w = .ok () (w.setCell ⟨g, i, none⟩ (.bool b)) := by
  have hst := run_store P w ⟨g, i, none⟩ (.bool b) .plain rfl
  rw [hc] at hst
  simp only [hf, Bool.false_eq_true, if_false] at hst
  simp [storeCells, hst, add_none]
theorem wpL_sti {kd : IntKind} {n : Int} (M : Mem w0 w bs) (hgd : o.guard = none) (ho : o.op = .store ty x y) (hx : a.eval x = .pointer (some ⟨g, off, none⟩)) (hy : a.eval y = .int kd n) (h : ∀ w', Mem w0 w' bs' → wpList P ops Q rest (a.put o.dst undef) w')
    [hm : HsI bs g t cs] [hs : SzI P ty 1] [he : StI cs off (.int kd n) cs'] [hu : UpI bs g t cs cs' bs'] : wpList P ops Q (o :: rest) a w :=
  wpL_st M hgd ho hx hy hm.has (wr_cell1 hs.sz (List.getElem?_eq_getElem he.lt) rfl (fun w g hc hf => store_int kd n _ w g off hc hf) he.st) hu.upd h
theorem wpL_stb {b : Bool} (M : Mem w0 w bs) (hgd : o.guard = none) (ho : o.op = .store ty x y) (hx : a.eval x = .pointer (some ⟨g, off, none⟩)) (hy : a.eval y = .bool b) (h : ∀ w', Mem w0 w' bs' → wpList P ops Q rest (a.put o.dst undef) w')
    [hm : HsI bs g t cs] [hs : SzI P ty 1] [he : StI cs off (.bool b) cs'] [hu : UpI bs g t cs cs' bs'] : wpList P ops Q (o :: rest) a w :=
  wpL_st M hgd ho hx hy hm.has (wr_cell1 hs.sz (List.getElem?_eq_getElem he.lt) rfl (fun w g hc hf => store_bool b _ w g off hc hf) he.st) hu.upd h
theorem wpL_alc {z : Value} (M : Mem w0 w bs) (hgd : o.guard = none) (ho : o.op = .alloc ty) (h : ∀ g w', Mem w0 w' ((g, ty, cs) :: bs) → wpList P ops Q rest (a.put o.dst (.pointer (some ⟨g, 0, none⟩))) w') [hz : ZrI P ty z cs] : wpList P ops Q (o :: rest) a w := wpL_al M hgd ho hz.zr hz.cl h
/-- The same, of a variable that is told to read so, or of a store that is told. -/
theorem wpL_ldh (M : Mem w0 w bs) (hgd : o.guard = none) (ho : o.op = .load ty x) (hx : a.eval x = .pointer (some ⟨g, off, none⟩)) (hr : Rd P ty off cs v) (h : wpList P ops Q rest (a.put o.dst v) w) [hm : HsI bs g t cs] : wpList P ops Q (o :: rest) a w := wpL_ld M hgd ho hx hm.has hr h
theorem wpL_sth (M : Mem w0 w bs) (hgd : o.guard = none) (ho : o.op = .store ty x y) (hx : a.eval x = .pointer (some ⟨g, off, none⟩)) (hy : a.eval y = v) (hr : Wr P ty off cs v cs') (h : ∀ w', Mem w0 w' bs' → wpList P ops Q rest (a.put o.dst undef) w') [hm : HsI bs g t cs] [hu : UpI bs g t cs cs' bs'] : wpList P ops Q (o :: rest) a w := wpL_st M hgd ho hx hy hm.has hr hu.upd h
end
/-! ### One operation of a region that draws, taken first -/
theorem puts : (∀ (l : List Value) (i : Nat) (a : Value), l.toArray.setIfInBounds i a = (l.set i a).toArray) ∧ (∀ (a b : Value) (l : List Value), (b :: l).set 0 a = a :: l) ∧ (∀ (a b : Value) (l : List Value) (n : Nat), (b :: l).set (n + 1) a = b :: l.set n a) ∧
    (∀ (l : List Oper) (i : Nat) (h : i < l.toArray.size), l.toArray[i] = l[i]'(by simpa using h)) ∧ (∀ (a : Oper) (l : List Oper) (h : 0 < (a :: l).length), (a :: l)[0] = a) ∧ (∀ (a : Oper) (l : List Oper) (i : Nat) (h : i + 1 < (a :: l).length), (a :: l)[i + 1] = l[i]'(by simpa using h)) :=
  ⟨fun _ _ _ => List.setIfInBounds_toArray .., fun _ _ _ => List.set_cons_zero .., fun _ _ _ _ => List.set_cons_succ .., fun _ _ _ => List.getElem_toArray .., fun _ _ _ => List.getElem_cons_zero .., fun _ _ _ _ => List.getElem_cons_succ ..⟩
section
variable {P : Program} {md : Region.Mode} {ops : Array Oper} {Q : Exit → Act → World → Prop} {S : World → Prop} {fuel : Nat} {listed : Array Bool} {a : Act} {w : World} {oi : Oper}
theorem tkT (i : Nat) (v : Value) (hy : ∀ w', S w' → (execOp a.eval oi).run P w' = .ok (.value v) w') (hS : S w) (h : wpAnyH P md ops Q S fuel (listed.setIfInBounds i true) (a.put oi.dst v) w)
    (hi : ops[i]? = some oi := by exact rfl) (hw : Region.wanted oi (yielded ops a.tmps) = true := by rfl) (hs : Region.noSelect ops = true := by kernel_rfl) (hf : Region.free md ops listed i = true := by kernel_rfl) (hr : (Region.ready md ops listed).contains i = true := by kernel_rfl)
    (hQ : ∀ c a w, Q (.panic c) (a.put oi.dst v) w → Q (.panic c) a w := by exact fun _ _ _ h => h) : wpAnyH P md ops Q S (fuel + 1) listed a w := wpAnyH_take hi hs hf hr hQ (Or.inl ⟨hw, hy⟩) hS h
theorem tkS (i : Nat) (hS : S w) (h : wpAnyH P md ops Q S fuel (listed.setIfInBounds i true) (a.put oi.dst undef) w)
    (hi : ops[i]? = some oi := by exact rfl) (hw : Region.wanted oi (yielded ops a.tmps) = false := by rfl) (hs : Region.noSelect ops = true := by kernel_rfl) (hf : Region.free md ops listed i = true := by kernel_rfl) (hr : (Region.ready md ops listed).contains i = true := by kernel_rfl)
    (hQ : ∀ c a w, Q (.panic c) (a.put oi.dst undef) w → Q (.panic c) a w := by exact fun _ _ _ h => h) : wpAnyH P md ops Q S (fuel + 1) listed a w := wpAnyH_take hi hs hf hr hQ (Or.inr ⟨hw, rfl⟩) hS h
end
end Go.Th

/-
  Slices cut in the middle; copy into a row of the call's own; four results.
-/
namespace Go.Th
open Go Go.RowKit

theorem results_tmp4 {fn : Func} {t u v x : Tmp} (h : fn.results = #[.tmp t, .tmp u, .tmp v, .tmp x]) (tmps : Array Value) (P : Program) (w : World) :
    (results fn tmps).run P w = .ok (.tuple #[tmps.getD t undef, tmps.getD u undef, tmps.getD v undef, tmps.getD x undef]) w := by
  simp [results, h]

/-- A part of a row is laid over. -/
abbrev over {α : Type} (L : List α) (off : Nat) (cs : List α) : List α := splice L off cs
theorem over_length {α : Type} (L : List α) (off : Nat) (cs : List α) (h : off + cs.length ≤ L.length) : (over L off cs).length = L.length := length_splice L off cs h
theorem over_map {α β : Type} (f : α → β) (L : List α) (off : Nat) (cs : List α) : over (L.map f) off (cs.map f) = (over L off cs).map f := by
  simp [over, splice, List.map_take, List.map_drop]

theorem take_over {α : Type} (L cs : List α) (off n : Nat) (h : off + cs.length ≤ n) (hn : n ≤ L.length) : (over L off cs).take n = over (L.take n) off cs := by
  unfold over splice
  have e1 : (L.take off).length = off := by rw [List.length_take]; omega
  rw [List.take_append, e1, List.take_of_length_le (l := L.take off) (by omega), List.take_append, List.take_of_length_le (l := cs) (by omega), List.take_take, Nat.min_eq_left (by omega : off ≤ n), List.drop_take, Nat.sub_sub]

section
variable {P : Program} {w : World} {t e : TypeId} {bytes : Nat} {a : Option Addr} {n cap : Nat} {xs : List Value}

/-- s[A:B]. -/
theorem Sl.cut_mid (E : ElemOf P t e 1 bytes) (h : Sl w 1 (.slice a n cap) n xs) (lo len : Nat) (hk : lo + len ≤ n) (A B : Int) (hA : A = (lo : Int)) (hB : B = (lo : Int) + (len : Int)) :
    ∃ a' cap', (∀ wx, (Instr.slice t (.slice a n cap) (some (.int .i64 A)) (some (.int .i64 B)) none).run P wx = .ok (.slice a' len cap') wx) ∧ Sl w 1 (.slice a' len cap') len ((xs.drop lo).take len) ∧
      (∀ x, a' = some x → ∃ y, a = some y ∧ y.block = x.block) ∧ (∀ b o, a = some ⟨b, o, none⟩ → 0 < len → a' = some ⟨b, o + lo, none⟩) := by
  obtain ⟨i, z, hi, hz, hsize, hby, hzs⟩ := E.info
  obtain ⟨hnc, hcm⟩ := h.max
  obtain ⟨a0, c0, he, h1, h2, h3, h4, h5⟩ := h
  cases he
  subst hA hB
  refine ⟨if cap = lo then a else a.map (·.add lo), cap - lo, fun wx => ?_, ?_, ?_, ?_⟩
  · have hb1 : (lo : Int) ≤ (lo : Int) + (len : Int) := by omega
    have hb2 : (lo : Int) + (len : Int) ≤ cap := by omega
    have hb3 : ((lo : Int) + (len : Int)).toNat = lo + len := by omega
    have hb0 : (0 : Int) ≤ (lo : Int) + (len : Int) := by omega
    have hb4 : ¬ ((lo : Int) + (len : Int) < 0) := by omega
    have hb5 : (lo : Int) + (len : Int) - (lo : Int) = len := by omega
    simp [Instr.slice, run_underlying E.und, Instr.sliceBounds, run_sliceBound, hb0, hb1, hb2, hb3, hb4, hb5, sizeOf, typeInfo, hi, hsize]
  · refine ⟨_, _, rfl, ?_, by omega, by unfold maxLen; omega, ?_, ?_⟩
    · rw [List.length_take, List.length_drop]; omega
    · intro hn
      by_cases hc : cap = lo
      · omega
      · rw [if_neg hc] at hn
        cases a with
        | none => have := h4 rfl; omega
        | some x => simp at hn
    · intro j u hu
      have hj : j < len := by
        have := (List.getElem?_eq_some_iff.1 hu).1
        rw [List.length_take] at this
        omega
      rw [List.getElem?_take, if_pos hj, List.getElem?_drop] at hu
      obtain ⟨b, o, rfl, hc⟩ := h5 (lo + j) u hu
      rw [if_neg (by omega)]
      refine ⟨b, o + lo, by simp [add_none], ?_⟩
      rw [Nat.add_assoc]; exact hc
  · intro x hA
    split at hA
    · exact ⟨x, hA, rfl⟩
    · cases a with
      | none => simp at hA
      | some y =>
        simp only [Option.map_some, Option.some.injEq] at hA
        refine ⟨y, rfl, ?_⟩
        rw [← hA]
        unfold Addr.add
        split <;> rfl
  · rintro b o rfl hl
    rw [if_neg (by omega)]
    simp [add_none]

/-- s[A:]. -/
theorem Sl.cut_off (E : ElemOf P t e 1 bytes) (h : Sl w 1 (.slice a n cap) n xs) (lo : Nat) (hk : lo ≤ n) (A : Int) (hA : A = (lo : Int)) :
    ∃ a' cap', (∀ wx, (Instr.slice t (.slice a n cap) (some (.int .i64 A)) none none).run P wx = .ok (.slice a' (n - lo) cap') wx) ∧ Sl w 1 (.slice a' (n - lo) cap') (n - lo) (xs.drop lo) ∧
      (∀ x, a' = some x → ∃ y, a = some y ∧ y.block = x.block) ∧ (∀ b o, a = some ⟨b, o, none⟩ → lo < n → a' = some ⟨b, o + lo, none⟩) := by
  obtain ⟨a', cap', h1, h2, h3⟩ := Sl.cut_from E h lo hk
  subst hA
  refine ⟨a', cap', h1, h2, h3, ?_⟩
  rintro b o rfl hl
  have hr := h1 default
  obtain ⟨i, z, hi, hz, hsize, hby, hzs⟩ := E.info
  obtain ⟨hnc, hcm⟩ := h.max
  have hb1 : (0 : Int) ≤ lo := by omega
  have hb2 : (lo : Int) ≤ n := by omega
  have hne : ¬ cap = lo := by omega
  simp [Instr.slice, run_underlying E.und, Instr.sliceBounds, run_sliceBound, hb2, sizeOf, typeInfo, hi, hsize, hne, add_none] at hr
  exact hr.1.symm

/-- copy into a row of the call's own. -/
theorem run_copy_at (E : ElemOf P t e 1 bytes) (ty : TypeId) {base g off m dcap sl scap k : Nat} {sa : Option Addr} {ys : List Value}
    (hown : w.ownsRow base e 1 (.slice (some ⟨g, 0, none⟩) n cap) n xs) (hS : Sl w 1 (.slice sa sl scap) sl ys) (hk : k = Nat.min sl m) (h0 : 0 < k) (hfit : off + k ≤ n) (h1 : ∀ u ∈ ys, u.oneCell' = true) :
    ∃ w', (Builtin.copy_ #[t, t] ty #[.slice (some ⟨g, off, none⟩) m dcap, .slice sa sl scap]).run P w = .ok (goInt k) w' ∧
      w'.ownsRow base e 1 (.slice (some ⟨g, 0, none⟩) n cap) n (over xs off (ys.take k)) ∧ Turned (fun j => j = g) w w' := by
  obtain ⟨i, z, hi, hz, hsize, hby, hzs⟩ := E.info
  obtain ⟨ho1, ho2⟩ := hown
  rcases ho2 with ⟨he, _⟩ | ⟨g', cap', cur, he, hb, hg, hnc, hcm, hcs, ht⟩
  · cases he
  · cases he
    obtain ⟨a0, c0, he2, s1, s2, s3, s4, s5⟩ := hS
    cases he2
    have hyl : k ≤ ys.length := by rw [s1, hk, Nat.mul_one]; exact Nat.min_le_left _ _
    have hkl : (ys.take k).length = k := by rw [List.length_take]; omega
    obtain ⟨b, o, rfl, _⟩ := s5 0 _ (List.getElem?_eq_getElem (by omega))
    have hr := run_copy_row P w t t ty e g off m dcap ⟨b, o, none⟩ sl scap cur e (ys.take k) E.und (by rw [hi]; simp [hsize]) hg (by rw [hkl, hk]) (by
        intro j v hv
        have hj : j < k := by have := (List.getElem?_eq_some_iff.1 hv).1; omega
        rw [List.getElem?_take, if_pos hj] at hv
        obtain ⟨b', o', e', hc⟩ := s5 j v hv
        cases e'
        rw [add_none]; exact hc) (by rw [hkl]; simp at hcs; omega) (fun v hv => h1 v (List.mem_of_mem_take hv))
    rw [hkl] at hr
    refine ⟨_, hr, ?_, ⟨rfl, rfl, rfl, by simp [World.setRow], fun j hj hs => setRow_other w g j _ hs⟩⟩
    have hcl : cur.toList.length = cap := by simpa using hcs
    refine ⟨?_, .inr ⟨g, cap, _, rfl, hb, setRow_heap w g _ _ e _ hg, hnc, hcm, ?_, ?_⟩⟩
    · rw [over_length _ _ _ (by rw [hkl, ho1, Nat.mul_one]; exact hfit)]; exact ho1
    · simp [hkl]; omega
    · rw [Nat.mul_one] at ht ⊢
      have hx : xs = cur.toList.take n := ht.symm
      have := take_over cur.toList (ys.take k) off n (by rw [hkl]; exact hfit) (by omega)
      rw [hx, ← this]
      unfold over splice
      rw [hkl, List.append_assoc]

theorem wp_copy_at (E : ElemOf P t e 1 bytes) {o : Oper} {b : Act} {K : Act → World → Prop} {Q : Exit → Act → World → Prop} (d s : Operand)
    (ho : o.op = .call { callee := .builtin .copy, args := #[d, s], argTypes := #[t, t] }) {base g off m dcap sl scap : Nat} {sa : Option Addr} {ys : List Value} (k : Nat)
    (hd : b.eval d = .slice (some ⟨g, off, none⟩) m dcap) (hs : b.eval s = .slice sa sl scap)
    (hown : w.ownsRow base e 1 (.slice (some ⟨g, 0, none⟩) n cap) n xs) (hS : Sl w 1 (.slice sa sl scap) sl ys) (hk : k = Nat.min sl m) (h0 : 0 < k) (hfit : off + k ≤ n) (h1 : ∀ u ∈ ys, u.oneCell' = true)
    (h : ∀ w', w'.ownsRow base e 1 (.slice (some ⟨g, 0, none⟩) n cap) n (over xs off (ys.take k)) → Turned (fun j => j = g) w w' → K (b.put o.dst (goInt k)) w') : o.wp P b w K Q := by
  obtain ⟨w', hr, h2, h3⟩ := run_copy_at (dcap := dcap) E o.type hown hS hk h0 hfit h1
  have hK := h w' h2 h3
  unfold Oper.wp
  simp [execOp, ho, resolve, invoke, builtin, hd, hs, hr, Result.andThen]
  exact hK
end
end Go.Th

/-
  Bytes as slices, over the program: cloned, held against each other, as texts.
-/
namespace Go.Proofs.Ytallbegibdlpaaa
open Go.RowKit Go.Th

def u8s (l : List Nat) : List Value := l.map (fun x : Nat => .int .u8 (x : Int))

theorem oneCell_u8s (l : List Nat) : ∀ u ∈ u8s l, u.oneCell' = true := by
  intro u hu
  obtain ⟨x, _, rfl⟩ := List.mem_map.1 hu
  rfl

theorem Sl.bytes {w : World} (cs : List Nat) (t : TypeId) (n : Nat) (hn : n = cs.length) (hm : n ≤ maxLen) : Sl (w.alloc (.cells (u8s cs).toArray t)) 1 (.slice (some ⟨w.heap.size, 0, none⟩) n n) n (u8s cs) := by
  subst hn
  refine ⟨_, _, rfl, by simp [u8s], Nat.le_refl _, hm, fun h => (by cases h), ?_⟩
  intro j u hu
  refine ⟨_, _, rfl, ?_⟩
  rw [World.cell?_alloc_at _ _ _ _ rfl]
  simpa using hu

/-- A literal text as bytes. -/
theorem Sl.lit {w : World} (cs : List Nat) (t : TypeId) (fr : Nat × Nat) (n : Nat) (hn : n = cs.length) (hm : n ≤ maxLen) : Sl (w.alloc (.cells (u8s cs).toArray t fr)) 1 (.slice (some ⟨w.heap.size, 0, none⟩) n n) n (u8s cs) := by
  subst hn
  refine ⟨_, _, rfl, by simp [u8s], Nat.le_refl _, hm, fun h => (by cases h), ?_⟩
  intro j u hu
  refine ⟨_, _, rfl, ?_⟩
  have : (w.alloc (.cells (u8s cs).toArray t fr)).heap[w.heap.size]? = some (.cells (u8s cs).toArray t fr) := by
    show (w.heap.push _)[w.heap.size]? = _
    simp
  unfold World.cell?
  rw [this]
  simp [hu]

/-- Bytes as a text. -/
def strOf (bs : List Nat) : ByteArray := ⟨(bs.map UInt8.ofNat).toArray⟩

theorem fold_push (bs : List Nat) : ∀ s : ByteArray, (bs.map (fun x : Nat => (x : Int))).foldl (fun r n => r.push (UInt8.ofNat n.toNat)) s = ⟨s.data ++ (bs.map UInt8.ofNat).toArray⟩ := by
  induction bs with
  | nil => intro s; simp
  | cons b r ih =>
    intro s
    simp only [List.map_cons, List.foldl_cons]
    rw [ih]
    simp [ByteArray.push]

theorem strOf_inj (a b : List Nat) (ha : ∀ x ∈ a, x < 256) (hb : ∀ x ∈ b, x < 256) (h : strOf a = strOf b) : a = b := by
  have h1 : a.map UInt8.ofNat = b.map UInt8.ofNat := by
    have := congrArg (fun s : ByteArray => s.data.toList) h
    simpa [strOf] using this
  have h2 : ∀ l : List Nat, (∀ x ∈ l, x < 256) → (l.map UInt8.ofNat).map UInt8.toNat = l := by
    intro l hl
    rw [List.map_map]
    conv => rhs; rw [← List.map_id l]
    refine List.map_congr_left fun x hx => ?_
    have := hl x hx
    simp [Nat.mod_eq_of_lt this]
  rw [← h2 a ha, ← h2 b hb, h1]

theorem strOf_ne (a b : List Nat) (ha : ∀ x ∈ a, x < 256) (hb : ∀ x ∈ b, x < 256) (h : a ≠ b) : ((strOf a).toList == (strOf b).toList) = false := by
  rw [ByteArray.toList_eq, ByteArray.toList_eq, Bool.eq_false_iff]
  intro e
  exact h (strOf_inj a b ha hb (Go.WideShapes.bytes_inj (eq_of_beq e)))

theorem oneCell_u8 (x : Int) : ∀ u ∈ [Value.int .u8 x], u.oneCell' = true := by
  intro u hu
  simp at hu
  subst hu
  rfl
end Go.Proofs.Ytallbegibdlpaaa

/-
  bytes.Clone.
-/
namespace Go.Proofs.Ytallbegibdlpaaa
open Go.RowKit Go.Th

end Go.Proofs.Ytallbegibdlpaaa

/-
  The reference's Same.
-/
namespace Go.Proofs.Ytallbegibdlpaaa
open Go.RowKit Go.Th

end Go.Proofs.Ytallbegibdlpaaa

/-
  bytes.Equal.
-/
namespace Go.Proofs.Ytallbegibdlpaaa
open Go.RowKit Go.Th

end Go.Proofs.Ytallbegibdlpaaa

/-
  Bits as a row, and bytes: plain.
-/
namespace Go.Th

/-- The byte number i of a row of bits, with noughts at the end. -/
def byteAt (l : List Bool) (i : Nat) : Nat := (List.range 8).foldl (fun n k => 2 * n + (l.getD (8 * i + k) false).toNat) 0
/-- A row of bits as bytes. -/
def pack (l : List Bool) : List Nat := (List.range ((l.length + 7) / 8)).map (byteAt l)

theorem pack_length (l : List Bool) : (pack l).length = (l.length + 7) / 8 := by simp [pack]

theorem byteAt_lt (l : List Bool) (i : Nat) : byteAt l i < 256 := by
  have h : ∀ b : Bool, b.toNat ≤ 1 := fun b => by cases b <;> decide
  simp only [byteAt, List.range, List.range.loop, List.foldl]
  have := h (l.getD (8 * i + 0) false); have := h (l.getD (8 * i + 1) false); have := h (l.getD (8 * i + 2) false); have := h (l.getD (8 * i + 3) false)
  have := h (l.getD (8 * i + 4) false); have := h (l.getD (8 * i + 5) false); have := h (l.getD (8 * i + 6) false); have := h (l.getD (8 * i + 7) false)
  omega

theorem byteAt_snoc_other (l : List Bool) (x : Bool) (i : Nat) (h : i ≠ l.length / 8) : byteAt (l ++ [x]) i = byteAt l i := by
  have hk : ∀ k, k < 8 → (l ++ [x]).getD (8 * i + k) false = l.getD (8 * i + k) false := by
    intro k hk
    simp only [List.getD]
    by_cases h1 : 8 * i + k < l.length
    · rw [List.getElem?_append_left h1]
    · rw [List.getElem?_append_right (by omega), List.getElem?_eq_none (l := l) (by omega), List.getElem?_eq_none]
      simp; omega
  simp only [byteAt, List.range, List.range.loop, List.foldl]
  rw [hk 0, hk 1, hk 2, hk 3, hk 4, hk 5, hk 6, hk 7] <;> omega

theorem getD_snoc (l : List Bool) (x : Bool) (j : Nat) : (l ++ [x]).getD j false = if j < l.length then l.getD j false else if j = l.length then x else false := by
  simp only [List.getD]
  by_cases h1 : j < l.length
  · rw [List.getElem?_append_left h1, if_pos h1]
  · rw [if_neg h1]
    by_cases h2 : j = l.length
    · subst h2; simp
    · rw [if_neg h2, List.getElem?_append_right (by omega), List.getElem?_eq_none]
      · rfl
      · simp; omega

theorem or_bit : ∀ (b0 b1 b2 b3 b4 b5 b6 : Bool) (r : Fin 8),
    (List.range 8).foldl (fun n k => 2 * n + (if k < r.1 then ([b0, b1, b2, b3, b4, b5, b6, false].getD k false) else if k = r.1 then true else false).toNat) 0 =
    ((List.range 8).foldl (fun n k => 2 * n + (if k < r.1 then ([b0, b1, b2, b3, b4, b5, b6, false].getD k false) else false).toNat) 0) ||| (128 >>> r.1) := by
  decide +kernel

theorem fold8 (f : Nat → Bool) : (List.range 8).foldl (fun n k => 2 * n + (f k).toNat) 0 =
    2 * (2 * (2 * (2 * (2 * (2 * (2 * (2 * 0 + (f 0).toNat) + (f 1).toNat) + (f 2).toNat) + (f 3).toNat) + (f 4).toNat) + (f 5).toNat) + (f 6).toNat) + (f 7).toNat := rfl

theorem fold8_congr (f g : Nat → Bool) (h : ∀ k, k < 8 → f k = g k) : (List.range 8).foldl (fun n k => 2 * n + (f k).toNat) 0 = (List.range 8).foldl (fun n k => 2 * n + (g k).toNat) 0 := by
  simp only [fold8]
  rw [h 0, h 1, h 2, h 3, h 4, h 5, h 6, h 7] <;> omega

theorem byteAt_snoc_false (l : List Bool) (i : Nat) : byteAt (l ++ [false]) i = byteAt l i := by
  unfold byteAt
  refine fold8_congr _ _ fun k _ => ?_
  rw [getD_snoc]
  split
  · rfl
  · rename_i h
    rw [List.getD, List.getElem?_eq_none (by omega)]
    split <;> rfl

theorem byteAt_snoc_true (l : List Bool) : byteAt (l ++ [true]) (l.length / 8) = byteAt l (l.length / 8) ||| (128 >>> (l.length % 8)) := by
  have hr : l.length % 8 < 8 := Nat.mod_lt _ (by omega)
  have hd : l.length = 8 * (l.length / 8) + l.length % 8 := by omega
  have e := or_bit (l.getD (8 * (l.length / 8)) false) (l.getD (8 * (l.length / 8) + 1) false) (l.getD (8 * (l.length / 8) + 2) false) (l.getD (8 * (l.length / 8) + 3) false)
    (l.getD (8 * (l.length / 8) + 4) false) (l.getD (8 * (l.length / 8) + 5) false) (l.getD (8 * (l.length / 8) + 6) false) ⟨l.length % 8, hr⟩
  have hlist : ∀ k, k < 7 → [l.getD (8 * (l.length / 8)) false, l.getD (8 * (l.length / 8) + 1) false, l.getD (8 * (l.length / 8) + 2) false, l.getD (8 * (l.length / 8) + 3) false,
      l.getD (8 * (l.length / 8) + 4) false, l.getD (8 * (l.length / 8) + 5) false, l.getD (8 * (l.length / 8) + 6) false, false].getD k false = l.getD (8 * (l.length / 8) + k) false := by
    intro k hk
    match k, hk with
    | 0, _ => rfl
    | 1, _ => rfl
    | 2, _ => rfl
    | 3, _ => rfl
    | 4, _ => rfl
    | 5, _ => rfl
    | 6, _ => rfl
  have e1 : byteAt (l ++ [true]) (l.length / 8) = (List.range 8).foldl (fun n k => 2 * n + (if k < l.length % 8 then ([l.getD (8 * (l.length / 8)) false, l.getD (8 * (l.length / 8) + 1) false, l.getD (8 * (l.length / 8) + 2) false, l.getD (8 * (l.length / 8) + 3) false,
      l.getD (8 * (l.length / 8) + 4) false, l.getD (8 * (l.length / 8) + 5) false, l.getD (8 * (l.length / 8) + 6) false, false].getD k false) else if k = l.length % 8 then true else false).toNat) 0 := by
    unfold byteAt
    refine fold8_congr _ _ fun k hk => ?_
    rw [getD_snoc]
    by_cases h : k < l.length % 8
    · rw [if_pos (by omega), if_pos h, hlist k (by omega)]
    · rw [if_neg (by omega), if_neg h]
      by_cases h2 : k = l.length % 8
      · rw [if_pos (by omega), if_pos h2]
      · rw [if_neg (by omega), if_neg h2]
  have e2 : byteAt l (l.length / 8) = (List.range 8).foldl (fun n k => 2 * n + (if k < l.length % 8 then ([l.getD (8 * (l.length / 8)) false, l.getD (8 * (l.length / 8) + 1) false, l.getD (8 * (l.length / 8) + 2) false, l.getD (8 * (l.length / 8) + 3) false,
      l.getD (8 * (l.length / 8) + 4) false, l.getD (8 * (l.length / 8) + 5) false, l.getD (8 * (l.length / 8) + 6) false, false].getD k false) else false).toNat) 0 := by
    unfold byteAt
    refine fold8_congr _ _ fun k hk => ?_
    by_cases h : k < l.length % 8
    · rw [if_pos h, hlist k (by omega)]
    · rw [if_neg h, List.getD, List.getElem?_eq_none (by omega)]
      rfl
  rw [e1, e2]
  exact e

theorem byteAt_end (l : List Bool) (i : Nat) (h : l.length ≤ 8 * i) : byteAt l i = 0 := by
  have : byteAt l i = (List.range 8).foldl (fun n k => 2 * n + (false).toNat) 0 := by
    unfold byteAt
    refine fold8_congr _ (fun _ => false) fun k hk => ?_
    rw [List.getD, List.getElem?_eq_none (by omega)]; rfl
  rw [this]; rfl

/-- One bit more, behind whole bytes: a byte more. -/
theorem pack_snoc_new (l : List Bool) (x : Bool) (h : l.length % 8 = 0) : pack (l ++ [x]) = pack l ++ [byteAt (l ++ [x]) (l.length / 8)] := by
  unfold pack
  have h1 : ((l ++ [x]).length + 7) / 8 = (l.length + 7) / 8 + 1 := by simp; omega
  rw [h1, List.range_succ, List.map_append, List.map_singleton]
  have h2 : (l.length + 7) / 8 = l.length / 8 := by omega
  rw [h2]
  congr 1
  refine List.map_congr_left fun i hi => ?_
  have := List.mem_range.1 hi
  exact byteAt_snoc_other l x i (by omega)

/-- One bit more, in the last byte. -/
theorem pack_snoc_old (l : List Bool) (x : Bool) (h : l.length % 8 ≠ 0) : pack (l ++ [x]) = (pack l).set (l.length / 8) (byteAt (l ++ [x]) (l.length / 8)) := by
  unfold pack
  have h1 : ((l ++ [x]).length + 7) / 8 = (l.length + 7) / 8 := by simp; omega
  rw [h1]
  apply List.ext_getElem?
  intro j
  rw [List.getElem?_set]
  by_cases hj : j < (l.length + 7) / 8
  · by_cases he : l.length / 8 = j
    · subst he; simp [hj]
    · rw [if_neg he]
      simp [List.getElem?_map, List.getElem?_range hj, byteAt_snoc_other l x j (fun e => he e.symm)]
  · have hn : ¬ (l.length / 8 = j) := by omega
    rw [if_neg hn]
    simp [List.getElem?_map, List.getElem?_eq_none (l := List.range ((l.length + 7) / 8)) (i := j) (by simp; omega)]


theorem pack_set_same (l : List Bool) (i : Nat) : (pack l).set i (byteAt l i) = pack l := by
  apply List.ext_getElem?
  intro j
  rw [List.getElem?_set]
  by_cases he : i = j
  · subst he
    rw [if_pos rfl]
    by_cases h : i < (pack l).length
    · rw [if_pos h]
      simp only [pack, List.getElem?_map]
      rw [List.getElem?_range (by simpa [pack] using h)]; rfl
    · rw [if_neg h, List.getElem?_eq_none (by omega)]
  · rw [if_neg he]

/-- The lowest k bits of a number, the highest first. -/
def numBits (x k : Nat) : List Bool := (List.range k).map fun i => x / 2 ^ (k - 1 - i) % 2 == 1
theorem numBits_length (x k : Nat) : (numBits x k).length = k := by simp [numBits]
theorem numBits_take (x k i : Nat) (h : i < k) : (numBits x k).take (i + 1) = (numBits x k).take i ++ [x / 2 ^ (k - 1 - i) % 2 == 1] := by
  rw [List.take_add_one]
  congr 1
  simp only [numBits, List.getElem?_map]
  rw [List.getElem?_range h]; rfl

theorem numBits_succ (x k : Nat) : numBits x (k + 1) = numBits (x / 2) k ++ [x % 2 == 1] := by
  simp only [numBits, List.range_succ, List.map_append, List.map_singleton]
  congr 1
  · refine List.map_congr_left fun i hi => ?_
    have := List.mem_range.1 hi
    rw [show k + 1 - 1 - i = (k - 1 - i) + 1 from by omega, Nat.pow_succ, Nat.mul_comm, Nat.div_div_eq_div_mul]
  · simp

/-- n ones, and a nought. -/
def onesBits (n : Nat) : List Bool := List.replicate n true ++ [false]

/-- The bit number j of bytes, the highest of each first. -/
def bitAt (bs : List Nat) (j : Nat) : Bool := bs.getD (j / 8) 0 / 2 ^ (7 - j % 8) % 2 == 1
/-- The number of so many bits from one on, modulo 2^64. -/
def valAt (bs : List Nat) (at_ : Nat) : Nat → Nat
  | 0 => 0
  | k + 1 => (2 * valAt bs at_ k + (bitAt bs (at_ + k)).toNat) % 18446744073709551616
theorem valAt_lt (bs : List Nat) (at_ k : Nat) : valAt bs at_ k < 18446744073709551616 := by
  cases k with
  | zero => simp [valAt]
  | succ k => simp only [valAt]; omega

theorem and_bit : ∀ (b : Fin 256) (k : Fin 8), (decide ((b.1 &&& (128 >>> k.1)) ≠ 0)) = (b.1 / 2 ^ (7 - k.1) % 2 == 1) := by decide +kernel


theorem fold_lt (f : Nat → Bool) (j : Nat) : (List.range j).foldl (fun n k => 2 * n + (f k).toNat) 0 < 2 ^ j := by
  induction j with
  | zero => simp
  | succ j ih =>
    rw [List.range_succ, List.foldl_append, Nat.pow_succ]
    have : (f j).toNat ≤ 1 := by cases f j <;> decide
    simp only [List.foldl_cons, List.foldl_nil]
    omega
end Go.Th

/-
  The writer of bits: what it holds, and what each of its methods does.
-/
namespace Go.Proofs.Ytallbegibdlpaaa
open Go.RowKit Go.Th

structure WInv (w : World) (pb po base : Nat) (v : Value) (l : List Bool) : Prop where
  c0 : w.cell? ⟨pb, po, none⟩ = some v
  c1 : w.cell? ⟨pb, po + 1, none⟩ = some (.int .i64 (l.length : Nat))
  f0 : w.frozen? ⟨pb, po, none⟩ = false
  f1 : w.frozen? ⟨pb, po + 1, none⟩ = false
  own : w.ownsRow base 5 1 v ((l.length + 7) / 8) (u8s (pack l))
  ne : v.ownBlock ≠ some pb

theorem WInv.drew {w : World} {pb po base : Nat} {v : Value} {l : List Bool} (h : WInv w pb po base v l) : WInv w.drew pb po base v l :=
  ⟨h.c0, h.c1, h.f0, h.f1, h.own, h.ne⟩

theorem WInv.lt {w : World} {pb po base : Nat} {v : Value} {l : List Bool} (h : WInv w pb po base v l) : pb < w.heap.size := by
  have := World.block_lt_of_cell? w _ h.c0
  simpa using this

/-- What a call on the writer may have turned: itself, the row of its bytes, and new blocks. -/
structure WGo (pb : Nat) (w w' : World) (v v' : Value) : Prop where
  turned : Turned (fun k => k = pb ∨ v.ownBlock = some k) w w'
  new : v'.ownBlock = v.ownBlock ∨ ∃ g, v'.ownBlock = some g ∧ w.heap.size ≤ g

theorem WGo.refl (pb : Nat) (w : World) (v : Value) : WGo pb w w v v := ⟨Turned.refl _ _, .inl rfl⟩
theorem WGo.trans {pb : Nat} {w w' w'' : World} {v v' v'' : Value} (h : WGo pb w w' v v') (k : WGo pb w' w'' v' v'') : WGo pb w w'' v v'' := by
  refine ⟨h.turned.trans k.turned ?_, ?_⟩
  · rintro j hj (rfl | h1)
    · exact .inl rfl
    · rcases h.new with e | ⟨g, e, hg⟩
      · exact .inr (e ▸ h1)
      · rw [e] at h1; cases h1; omega
  · rcases k.new with e | ⟨g, e, hg⟩
    · rw [e]; exact h.new
    · exact .inr ⟨g, e, Nat.le_trans h.turned.size hg⟩

theorem winv_count {w : World} {pb po base : Nat} {u1 v : Value} {m : Int} {L : List Bool}
    (c0 : w.cell? ⟨pb, po, none⟩ = some v) (c1 : w.cell? ⟨pb, po + 1, none⟩ = some u1) (f0 : w.frozen? ⟨pb, po, none⟩ = false) (f1 : w.frozen? ⟨pb, po + 1, none⟩ = false)
    {M : Nat} {xs : List Value} (own : w.ownsRow base 5 1 v M xs) (ne : v.ownBlock ≠ some pb) (hM : M = (L.length + 7) / 8) (hxs : xs = u8s (pack L)) (hm : m = (L.length : Nat)) :
    WInv (w.setCell ⟨pb, po + 1, none⟩ (.int .i64 m)) pb po base v L := by
  subst hM hxs hm
  refine ⟨(World.cell?_setCell_other _ _ _ _ (by simp)).trans c0, World.cell?_setCell_same _ _ _ c1, ?_, ?_, ?_, ne⟩
  · rw [World.frozen?_setCell]; exact f0
  · rw [World.frozen?_setCell]; exact f1
  · exact ownsRow_setCell_other own ne _

theorem winv_stored {w : World} {pb po base M : Nat} {u0 u1 v : Value} {xs : List Value} {m : Int} (L : List Bool)
    (c0 : w.cell? ⟨pb, po, none⟩ = some u0) (c1 : w.cell? ⟨pb, po + 1, none⟩ = some u1) (f0 : w.frozen? ⟨pb, po, none⟩ = false) (f1 : w.frozen? ⟨pb, po + 1, none⟩ = false)
    (own : w.ownsRow base 5 1 v M xs) (ne : v.ownBlock ≠ some pb) (hM : M = (L.length + 7) / 8) (hxs : xs = u8s (pack L)) (hm : m = (L.length : Nat)) :
    WInv ((w.setCell ⟨pb, po, none⟩ v).setCell ⟨pb, po + 1, none⟩ (.int .i64 m)) pb po base v L := by
  subst hM hxs hm
  have a0 : (w.setCell ⟨pb, po, none⟩ v).cell? ⟨pb, po, none⟩ = some v := World.cell?_setCell_same _ _ _ c0
  have a1 : (w.setCell ⟨pb, po, none⟩ v).cell? ⟨pb, po + 1, none⟩ = some u1 := (World.cell?_setCell_other _ _ _ _ (by simp)).trans c1
  refine ⟨(World.cell?_setCell_other _ _ _ _ (by simp)).trans a0, World.cell?_setCell_same _ _ _ a1, ?_, ?_, ?_, ne⟩
  · rw [World.frozen?_setCell, World.frozen?_setCell]; exact f0
  · rw [World.frozen?_setCell, World.frozen?_setCell]; exact f1
  · exact ownsRow_setCell_other (ownsRow_setCell_other own ne _) ne _

theorem and_one (x : Nat) (hx : x < 18446744073709551616) (j : Nat) : (bits BinOp.and IntKind.u64 ((x : Int) / 2 ^ j) 1 == 1) = (x / 2 ^ j % 2 == 1) := by
  have h1 : ((x : Int) / 2 ^ j) = ((x / 2 ^ j : Nat) : Int) := by simp
  have h2 : bits BinOp.and IntKind.u64 ((x / 2 ^ j : Nat) : Int) ((1 : Nat) : Int) = ((x / 2 ^ j &&& 1 : Nat) : Int) := u64_and_nat _ _ (Nat.lt_of_le_of_lt (Nat.div_le_self _ _) hx) (by decide)
  rw [h1, show (1 : Int) = ((1 : Nat) : Int) from rfl, h2, nat_mask1, Bool.eq_iff_iff]
  simp only [beq_iff_eq]
  omega

end Go.Proofs.Ytallbegibdlpaaa

/-
  The reader of bits: what it holds, and what each of its methods does.
-/
namespace Go.Proofs.Ytallbegibdlpaaa
open Go.RowKit Go.Th

structure RInv (w : World) (pb po base : Nat) (v : Value) (bs : List Nat) (at_ : Nat) (bad : Bool) : Prop where
  c0 : w.cell? ⟨pb, po, none⟩ = some v
  c1 : w.cell? ⟨pb, po + 1, none⟩ = some (.int .i64 (at_ : Nat))
  c2 : w.cell? ⟨pb, po + 2, none⟩ = some (.bool bad)
  f0 : w.frozen? ⟨pb, po, none⟩ = false
  f1 : w.frozen? ⟨pb, po + 1, none⟩ = false
  f2 : w.frozen? ⟨pb, po + 2, none⟩ = false
  own : w.ownsRow base 5 1 v bs.length (u8s bs)
  ne : v.ownBlock ≠ some pb
  le : at_ ≤ 8 * bs.length
  small : bs.length ≤ 140737488355328
  byte : ∀ x ∈ bs, x < 256

theorem RInv.drewN {w : World} {pb po base : Nat} {v : Value} {bs : List Nat} {at_ : Nat} {bad : Bool} (n : Nat) (h : RInv w pb po base v bs at_ bad) : RInv (w.drewN n) pb po base v bs at_ bad :=
  ⟨by simpa using h.c0, by simpa using h.c1, by simpa using h.c2, by simpa using h.f0, by simpa using h.f1, by simpa using h.f2, h.own, h.ne, h.le, h.small, h.byte⟩

theorem RInv.drew {w : World} {pb po base : Nat} {v : Value} {bs : List Nat} {at_ : Nat} {bad : Bool} (h : RInv w pb po base v bs at_ bad) : RInv w.drew pb po base v bs at_ bad :=
  ⟨h.c0, h.c1, h.c2, h.f0, h.f1, h.f2, h.own, h.ne, h.le, h.small, h.byte⟩

theorem RInv.slice {w : World} {pb po base : Nat} {v : Value} {bs : List Nat} {at_ : Nat} {bad : Bool} (h : RInv w pb po base v bs at_ bad) :
    ∃ a cap, v = .slice a bs.length cap := by
  obtain ⟨a, cap, h1, _⟩ := ownsRow_slice h.own
  exact ⟨a, cap, h1⟩

theorem rinv_at {w : World} {pb po base : Nat} {v : Value} {bs : List Nat} {at_ m : Nat} {bad : Bool} {x : Int} (h : RInv w pb po base v bs at_ bad) (hm : m ≤ 8 * bs.length) (hx : x = (m : Nat)) :
    RInv (w.setCell ⟨pb, po + 1, none⟩ (.int .i64 x)) pb po base v bs m bad := by
  subst hx
  refine ⟨(World.cell?_setCell_other _ _ _ _ (by simp)).trans h.c0, World.cell?_setCell_same _ _ _ h.c1, (World.cell?_setCell_other _ _ _ _ (by simp)).trans h.c2, ?_, ?_, ?_, ownsRow_setCell_other h.own h.ne _, h.ne, hm, h.small, h.byte⟩
  · simp only [World.frozen?_setCell]; exact h.f0
  · simp only [World.frozen?_setCell]; exact h.f1
  · simp only [World.frozen?_setCell]; exact h.f2

theorem bit_of (b k : Nat) (hb : b < 256) (hk : k < 8) : (bits BinOp.and IntKind.u8 (b : Int) (128 / 2 ^ k) != 0) = (b / 2 ^ (7 - k) % 2 == 1) := by
  have h1 : (128 / 2 ^ k : Int) = ((128 >>> k : Nat) : Int) := by rw [Nat.shiftRight_eq_div_pow]; simp
  have h2 : 128 >>> k < 256 := by rw [Nat.shiftRight_eq_div_pow]; exact Nat.lt_of_le_of_lt (Nat.div_le_self _ _) (by decide)
  rw [h1, u8_and_nat _ _ hb h2, ← and_bit ⟨b, hb⟩ ⟨k, hk⟩]
  generalize (b &&& 128 >>> k) = t
  cases t with
  | zero => rfl
  | succ n => simp; omega

theorem or_one (x : Nat) : bits BinOp.or IntKind.u64 ((2 * x % 18446744073709551616 : Nat) : Int) 1 = ((2 * x % 18446744073709551616 + 1 : Nat) : Int) := by
  have h := u64_or_nat (2 * x % 18446744073709551616) 1 (by omega) (by decide)
  rw [nat_join 1 _ 1 (by omega) (by decide)] at h
  exact h

theorem wrap_two (x : Nat) : IntKind.u64.wrap ((x : Int) * 2) = ((2 * x % 18446744073709551616 : Nat) : Int) := by
  simp [IntKind.wrap, IntKind.bits, IntKind.signed]; omega

/-- Was nothing wrong, and are fewer than eight bits left, all noughts? -/
def closes (bs : List Nat) (at_ : Nat) (bad : Bool) : Bool := !bad && decide (8 * bs.length - at_ < 8) && (valAt bs at_ (8 * bs.length - at_) == 0)

end Go.Proofs.Ytallbegibdlpaaa

/-
  The reference's functions on bits.
-/
namespace Go.Proofs.Ytallbegibdlpaaa
open Go.RowKit Go.Th

def bls (l : List Bool) : List Value := l.map Value.bool

theorem oneCell_bls (l : List Bool) : ∀ u ∈ bls l, u.oneCell' = true := by
  intro u hu
  obtain ⟨x, _, rfl⟩ := List.mem_map.1 hu
  rfl

/-- The number of a row of bits, modulo 2^64. -/
def valL (l : List Bool) : Nat := l.foldl (fun x b => (2 * x + b.toNat) % 18446744073709551616) 0

theorem valL_snoc (l : List Bool) (b : Bool) : valL (l ++ [b]) = (2 * valL l + b.toNat) % 18446744073709551616 := by simp [valL]
theorem valL_lt (l : List Bool) : valL l < 18446744073709551616 := by
  rcases List.eq_nil_or_concat l with rfl | ⟨l', b, rfl⟩
  · simp [valL]
  · rw [List.concat_eq_append, valL_snoc]; omega

theorem wrap_two' (x : Nat) : IntKind.u64.wrap (2 * (x : Int)) = ((2 * x % 18446744073709551616 : Nat) : Int) := by
  simp [IntKind.wrap, IntKind.bits, IntKind.signed]
theorem wrap_two1 (x : Nat) : IntKind.u64.wrap (IntKind.u64.wrap (2 * (x : Int)) + 1) = (((2 * x + 1) % 18446744073709551616 : Nat) : Int) := by
  simp [IntKind.wrap, IntKind.bits, IntKind.signed]

theorem take_snoc_bool (l : List Bool) (k : Nat) (h : k < l.length) : l.take (k + 1) = l.take k ++ [l[k]] := by
  rw [List.take_add_one, List.getElem?_eq_getElem h]; rfl

/-- How many ones come ahead of the first nought. -/
def onesL : List Bool → Option Nat
  | [] => none
  | b :: r => if b then (onesL r).map (· + 1) else some 0

theorem onesL_some (l : List Bool) (i : Nat) (hi : i < l.length) (hall : ∀ j (h : j < l.length), j < i → l[j] = true) (hz : l[i] = false) : onesL l = some i := by
  induction l generalizing i with
  | nil => simp at hi
  | cons b r ih =>
    cases i with
    | zero => simp at hz; simp [onesL, hz]
    | succ i =>
      have hb : b = true := hall 0 (by simp) (by omega)
      have := ih i (by simpa using hi) (fun j h hj => by have := hall (j + 1) (by simp; omega) (by omega); simpa using this) (by simpa using hz)
      simp [onesL, hb, this]

theorem onesL_none (l : List Bool) (hall : ∀ j (h : j < l.length), l[j] = true) : onesL l = none := by
  induction l with
  | nil => rfl
  | cons b r ih =>
    have hb : b = true := hall 0 (by simp)
    have := ih (fun j h => by have := hall (j + 1) (by simp; omega); simpa using this)
    simp [onesL, hb, this]

def onesInt (l : List Bool) : Int := match onesL l with | some n => (n : Int) | none => -1

/-- The bits of bytes, the highest of each first. -/
def rowOf (bs : List Nat) : List Bool := bs.flatMap fun b => (List.range 8).map fun k => b / 2 ^ (7 - k) % 2 == 1

theorem byte_bit : ∀ (b : Fin 256) (k : Fin 8), decide (128 ≤ b.1 * 2 ^ k.1 % 256) = (b.1 / 2 ^ (7 - k.1) % 2 == 1) := by decide +kernel

theorem rowOf_length (bs : List Nat) : (rowOf bs).length = 8 * bs.length := by
  induction bs with
  | nil => rfl
  | cons b r ih => simp only [rowOf, List.flatMap_cons, List.length_append] at ih ⊢; rw [ih]; simp; omega

def partByte (l : List Bool) (i j : Nat) : Nat := (List.range j).foldl (fun n k => 2 * n + (l.getD (8 * i + k) false).toNat) 0

end Go.Proofs.Ytallbegibdlpaaa

/-
  Bits of packed rows: plain.
-/
namespace Go.Th
/-! ### Bits of packed rows -/
theorem bit_of_fold : ∀ (b0 b1 b2 b3 b4 b5 b6 b7 : Bool) (k : Fin 8),
    ((List.range 8).foldl (fun n k => 2 * n + ([b0, b1, b2, b3, b4, b5, b6, b7].getD k false).toNat) 0 / 2 ^ (7 - k.1) % 2 == 1) = [b0, b1, b2, b3, b4, b5, b6, b7].getD k.1 false := by decide +kernel

theorem byteAt_bit (l : List Bool) (i k : Nat) (hk : k < 8) : (byteAt l i / 2 ^ (7 - k) % 2 == 1) = l.getD (8 * i + k) false := by
  have h := bit_of_fold (l.getD (8 * i) false) (l.getD (8 * i + 1) false) (l.getD (8 * i + 2) false) (l.getD (8 * i + 3) false) (l.getD (8 * i + 4) false) (l.getD (8 * i + 5) false) (l.getD (8 * i + 6) false) (l.getD (8 * i + 7) false) ⟨k, hk⟩
  have e : ∀ k, k < 8 → [l.getD (8 * i) false, l.getD (8 * i + 1) false, l.getD (8 * i + 2) false, l.getD (8 * i + 3) false, l.getD (8 * i + 4) false, l.getD (8 * i + 5) false, l.getD (8 * i + 6) false, l.getD (8 * i + 7) false].getD k false = l.getD (8 * i + k) false := by
    intro k hk
    match k, hk with
    | 0, _ => rfl
    | 1, _ => rfl
    | 2, _ => rfl
    | 3, _ => rfl
    | 4, _ => rfl
    | 5, _ => rfl
    | 6, _ => rfl
    | 7, _ => rfl
  rw [e k hk] at h
  rw [← h, byteAt]
  congr 3

theorem bitAt_pack (l : List Bool) (j : Nat) (hj : j < l.length) : bitAt (pack l) j = l.getD j false := by
  have h : (pack l).getD (j / 8) 0 = byteAt l (j / 8) := by
    simp only [pack, List.getD, List.getElem?_map]
    rw [List.getElem?_range (by omega)]
    rfl
  rw [bitAt, h, byteAt_bit l (j / 8) (j % 8) (by omega), Nat.div_add_mod]

theorem pack_lt (l : List Bool) : ∀ x ∈ pack l, x < 256 := by
  intro x hx
  obtain ⟨i, _, rfl⟩ := List.mem_map.1 hx
  exact byteAt_lt l i
end Go.Th

/-
  Writers and readers in later worlds.
-/
namespace Go.Th
open Go Go.RowKit
/-- What reads so in a world reads so in a later one, where its block has not been turned, if there are any elements. -/
theorem Sl.apart {w w' : World} {S : Nat → Prop} {size n cap : Nat} {a : Option Addr} {xs : List Value} (h : Sl w size (.slice a n cap) n xs) (ht : Turned S w w') (hs : ∀ x, a = some x → 0 < n → ¬ S x.block) : Sl w' size (.slice a n cap) n xs := by
  obtain ⟨a0, c0, he, h2, h3, h4, h6, h5⟩ := h
  cases he
  refine ⟨a, cap, rfl, h2, h3, h4, h6, fun j u hu => ?_⟩
  obtain ⟨b, o, ha, hc⟩ := h5 j u hu
  have hl := (List.getElem?_eq_some_iff.1 hu).1
  have hn : 0 < n := by
    rcases Nat.eq_zero_or_pos n with e | e
    · rw [h2, e] at hl; simp at hl
    · exact e
  exact ⟨b, o, ha, (ht.cell (p := ⟨b, o + j, none⟩) (World.block_lt_of_cell? w _ hc) (hs ⟨b, o, none⟩ ha hn)).trans hc⟩
/-- A slice that has elements lies in a block. -/
theorem Sl.block_lt {w : World} {n cap : Nat} {a : Option Addr} {xs : List Value} (h : Sl w 1 (.slice a n cap) n xs) : ∀ p, a = some p → 0 < n → p.block < w.heap.size := by
  rintro p rfl hn
  obtain ⟨a0, c0, he, h2, _, _, _, h5⟩ := h
  cases he
  obtain ⟨b, o, e, hc⟩ := h5 0 _ (List.getElem?_eq_getElem (by omega))
  cases e
  have := World.block_lt_of_cell? w _ hc
  simpa using this
theorem block_cells {w : World} {p : Addr} {v : Value} (h : w.cell? p = some v) : ∀ o, w.heap[p.block]? = some o → o.isCells = true := by
  intro o ho
  unfold World.cell? at h
  rw [ho] at h
  cases o <;> simp_all [Obj.isCells]
theorem own_cells {w : World} {base : Nat} {e : TypeId} {size n : Nat} {v : Value} {xs : List Value} (h : w.ownsRow base e size v n xs) {g : Nat} (hg : v.ownBlock = some g) : ∀ o, w.heap[g]? = some o → o.isCells = true := by
  rcases h.2 with ⟨rfl, _⟩ | ⟨g', cap, cur, rfl, _, hb, _⟩
  · simp [Value.ownBlock] at hg
  · obtain rfl : g' = g := by simpa [Value.ownBlock] using hg
    intro o ho
    rw [hb] at ho; cases ho; rfl
/-- What is no cells stays, where only cells have turned. -/
theorem Turned.others {S : Nat → Prop} {w w' : World} (h : Turned S w w') (hS : ∀ k, S k → ∀ o, w.heap[k]? = some o → o.isCells = true) : KeepsOthers w w' :=
  ⟨h.size, fun k o hk ho => (h.block k (Array.getElem?_eq_some_iff.1 hk).1 (fun hs => by rw [hS k hs o hk] at ho; cases ho)).trans hk⟩
/-- What lay below B, but for one block. -/
theorem Turned.belowB {S : Nat → Prop} {w w' w'' : World} (h : Turned S w w') {B : Nat} (hB : w.heap.size ≤ B) (hb : Below B w' w'') : Turned S w w'' :=
  ⟨hb.os.trans h.os, hb.tape.trans h.tape, hb.output.trans h.output, Nat.le_trans h.size hb.size, fun k hk n => (hb.block k (by omega)).trans (h.block k hk n)⟩

/-- What an append to the call's own row leaves. -/
theorem app_below {w w2 : World} {B : Nat} {e : TypeId} {size n : Nat} {v : Value} {xs : List Value} {o : Obj} (ho : w.ownsRow B e size v n xs) (hB : B ≤ w.heap.size) (hg : (w.alloc o).grownBy w2 v.ownBlock) : Below B w w2 :=
  ((Below.refl B w).alloc hB o).grown hg (by simp; omega) (fun j hj => (ho.lt j hj).1)

end Go.Th
namespace Go.Proofs.Ytallbegibdlpaaa
open Go.RowKit Go.Th

/-- A writer that has written nothing owns nothing: its row may begin anywhere. -/
theorem WInv.rebase {w : World} {pb po base : Nat} {l : List Bool} (h : WInv w pb po base (.slice none 0 0) l) (b : Nat) : WInv w pb po b (.slice none 0 0) l := by
  refine ⟨h.c0, h.c1, h.f0, h.f1, ?_, h.ne⟩
  rcases h.own.2 with ⟨_, h0⟩ | ⟨g, cap, cur, e, _⟩
  · exact ⟨h.own.1, .inl ⟨rfl, h0⟩⟩
  · cases e
theorem WInv.below {w w' : World} {pb po base : Nat} {v : Value} {l : List Bool} (h : WInv w pb po base v l) (hb : Below w.heap.size w w') : WInv w' pb po base v l :=
  ⟨(hb.cell (p := ⟨pb, po, none⟩) h.lt).trans h.c0, (hb.cell (p := ⟨pb, po + 1, none⟩) h.lt).trans h.c1, (hb.frozen (p := ⟨pb, po, none⟩) h.lt).trans h.f0, (hb.frozen (p := ⟨pb, po + 1, none⟩) h.lt).trans h.f1, ownsRow_below h.own hb, h.ne⟩
theorem RInv.lt {w : World} {pb po base : Nat} {v : Value} {bs : List Nat} {at_ : Nat} {bad : Bool} (h : RInv w pb po base v bs at_ bad) : pb < w.heap.size := by
  have := World.block_lt_of_cell? w _ h.c0
  simpa using this
theorem RInv.below {w w' : World} {pb po base : Nat} {v : Value} {bs : List Nat} {at_ : Nat} {bad : Bool} (h : RInv w pb po base v bs at_ bad) (hb : Below w.heap.size w w') : RInv w' pb po base v bs at_ bad :=
  ⟨(hb.cell (p := ⟨pb, po, none⟩) h.lt).trans h.c0, (hb.cell (p := ⟨pb, po + 1, none⟩) h.lt).trans h.c1, (hb.cell (p := ⟨pb, po + 2, none⟩) h.lt).trans h.c2,
    (hb.frozen (p := ⟨pb, po, none⟩) h.lt).trans h.f0, (hb.frozen (p := ⟨pb, po + 1, none⟩) h.lt).trans h.f1, (hb.frozen (p := ⟨pb, po + 2, none⟩) h.lt).trans h.f2, ownsRow_below h.own hb, h.ne, h.le, h.small, h.byte⟩
theorem WInv.drewN {w : World} {pb po base : Nat} {v : Value} {l : List Bool} (h : WInv w pb po base v l) (n : Nat) : WInv (w.drewN n) pb po base v l :=
  ⟨by simpa using h.c0, by simpa using h.c1, by simpa using h.f0, by simpa using h.f1, h.own, h.ne⟩
/-- A writer over what another may have turned. -/
theorem WInv.turned {w w' : World} {S : Nat → Prop} {pb po base : Nat} {v : Value} {l : List Bool} (h : WInv w pb po base v l) (ht : Turned S w w') (hp : ¬ S pb) (hv : ∀ k, v.ownBlock = some k → ¬ S k) : WInv w' pb po base v l :=
  ⟨(ht.cell (p := ⟨pb, po, none⟩) h.lt hp).trans h.c0, (ht.cell (p := ⟨pb, po + 1, none⟩) h.lt hp).trans h.c1, (ht.frozen (p := ⟨pb, po, none⟩) h.lt hp).trans h.f0, (ht.frozen (p := ⟨pb, po + 1, none⟩) h.lt hp).trans h.f1, ht.own h.own hv, h.ne⟩
/-- A reader over what another may have turned. -/
theorem RInv.turned {w w' : World} {S : Nat → Prop} {pb po base : Nat} {v : Value} {bs : List Nat} {at_ : Nat} {bad : Bool} (h : RInv w pb po base v bs at_ bad) (ht : Turned S w w') (hp : ¬ S pb) (hv : ∀ k, v.ownBlock = some k → ¬ S k) : RInv w' pb po base v bs at_ bad :=
  ⟨(ht.cell (p := ⟨pb, po, none⟩) h.lt hp).trans h.c0, (ht.cell (p := ⟨pb, po + 1, none⟩) h.lt hp).trans h.c1, (ht.cell (p := ⟨pb, po + 2, none⟩) h.lt hp).trans h.c2,
    (ht.frozen (p := ⟨pb, po, none⟩) h.lt hp).trans h.f0, (ht.frozen (p := ⟨pb, po + 1, none⟩) h.lt hp).trans h.f1, (ht.frozen (p := ⟨pb, po + 2, none⟩) h.lt hp).trans h.f2, ht.own h.own hv, h.ne, h.le, h.small, h.byte⟩
/-- A block that is no cells may turn under a writer. -/
theorem WInv.other {w w' : World} {pb po base : Nat} {v : Value} {l : List Bool} {row : Option Nat} (h : WInv w pb po base v l) (hg : w.grownBy w' row) (hr : ∀ r, row = some r → ∃ o : Obj, w.heap[r]? = some o ∧ o.isCells = false) : WInv w' pb po base v l := by
  refine ⟨cell_kept h.c0 hg hr, cell_kept h.c1 hg hr, (frozen_kept h.c0 hg hr).trans h.f0, (frozen_kept h.c1 hg hr).trans h.f1, ?_, h.ne⟩
  refine h.own.kept hg ?_
  cases hv : v.ownBlock with
  | none => exact .inl rfl
  | some g =>
    refine .inr fun e => ?_
    obtain ⟨o, ho, hc⟩ := hr g e.symm
    rw [own_cells h.own hv o ho] at hc; cases hc
end Go.Proofs.Ytallbegibdlpaaa

/-
  What a call answers, whatever the world is; a number of 128 bits as a value.
-/
namespace Go.Proofs.Ytallbegibdlpaaa
open Go Go.RowKit Go.Th

/-- What a call answers, whatever the world is. -/
abbrev Ans (f : Nat) (args : Array Value) (v : Value) : Prop := ∀ w : World, Calls Try.prog f args w fun e w' => e = .returned v ∧ Below w.heap.size w w'
abbrev wv (h l : Int) : Value := .agg #[.int .i64 h, .int .u64 l]
end Go.Proofs.Ytallbegibdlpaaa

/-
  A region that draws its order, whose last stores hit cells that it has read: what holds of the world is kept as long as one operation (the first of these stores) has not come up.
-/
namespace Go.Th
open Go

section
variable {P : Program} {ops : Array Oper} {Q : Exit → Act → World → Prop} {md : Region.Mode} {S : World → Prop} {n : Nat}

/-- Whatever order is picked from here on, and S holds behind each operation as long as number n has not come up. -/
def wpAnyN (P : Program) (md : Region.Mode) (ops : Array Oper) (Q : Exit → Act → World → Prop) (S : World → Prop) (n : Nat) : Nat → Array Bool → Act → World → Prop
  | 0, listed, a, w => Region.ready md ops listed = [] ∧ Q .normal a w
  | fuel + 1, listed, a, w =>
    (Region.ready md ops listed = [] → Q .normal a w) ∧
    ∀ i ∈ Region.ready md ops listed, wpOp P ops Q i (fun a' w' => ((listed.setIfInBounds i true).getD n true = false → S w') ∧ wpAnyN P md ops Q S n fuel (listed.setIfInBounds i true) a' w') a w

theorem wpAny_of_N : ∀ (fuel : Nat) (listed : Array Bool) (a : Act) (w : World), wpAnyN P md ops Q S n fuel listed a w → wpAny P md ops Q fuel listed a w
  | 0, _, _, _, h => h
  | fuel + 1, _, _, _, h => ⟨h.1, fun i hi => wpOp_mono (fun a' w' h' => wpAny_of_N fuel _ a' w' h'.2) (h.2 i hi)⟩

theorem wpAnyN_first {i : Nat} {oi : Oper} {v : Value} (hi : ops[i]? = some oi) (hsel : ∀ (j : Nat) (o : Oper) cs b, ops[j]? = some o → o.op ≠ .select cs b)
    (hQ : ∀ c a w, Q (.panic c) (a.put oi.dst v) w → Q (.panic c) a w) (hin : i ≠ n) (hn : ∀ o, ops[n]? = some o → ∃ e ∈ o.after, Region.binds md e = true ∧ e.on = i) :
    ∀ (fuel : Nat) (listed : Array Bool) (a : Act) (w : World),
      (∀ j oj, ops[j]? = some oj → j ≠ i → listed.getD j true = false → (∀ e ∈ oj.after, Region.binds md e = true → e.on ≠ i) → oi.apart ops oj = true) →
      i ∈ Region.ready md ops listed → YieldsIf P ops S oi v a → S w → listed.getD n true = false →
      wpAnyN P md ops Q S n fuel (listed.setIfInBounds i true) (a.put oi.dst v) w → wpAnyN P md ops Q S n (fuel + 1) listed a w := by
  intro fuel
  induction fuel with
  | zero =>
    intro listed a w _ hr hy hS hl H
    refine ⟨fun h => (by rw [h] at hr; cases hr), fun j hj => ?_⟩
    by_cases hji : j = i
    · subst hji; exact hy.wpOp hi hS ⟨fun _ => hS, H⟩
    · have := ready_mono hj hji
      rw [H.1] at this
      cases this
  | succ fuel ih =>
    intro listed a w hfree hr hy hS hl H
    refine ⟨fun h => (by rw [h] at hr; cases hr), fun j hj => ?_⟩
    by_cases hji : j = i
    · subst hji; exact hy.wpOp hi hS ⟨fun _ => hS, H⟩
    · have h1 := H.2 j (ready_mono hj hji)
      obtain ⟨hjun, oj, hoj, hall⟩ := mem_ready.1 hj
      have hnot : ∀ e ∈ oj.after, Region.binds md e = true → e.on ≠ i := fun e he hb heq => by
        have h1 := hall e he hb
        have h0 := (mem_ready.1 hr).1
        rw [heq] at h1
        rcases Nat.lt_or_ge i listed.size with h' | h'
        · simp [h'] at h0 h1; rw [h0] at h1; cases h1
        · simp [Array.getElem?_eq_none h'] at h1
      have hjn : j ≠ n := by
        rintro rfl
        obtain ⟨e, he, hb, heq⟩ := hn oj hoj
        exact hnot e he hb heq
      have h2 := wpOp_putIf hoj (hfree j oj hoj hji hjun hnot) (fun cs b => hsel i oi cs b hi) (fun cs b => hsel j oj cs b hoj) hQ hy h1
      have hfree' : ∀ k ok, ops[k]? = some ok → k ≠ i → (listed.setIfInBounds j true).getD k true = false →
          (∀ e ∈ ok.after, Region.binds md e = true → e.on ≠ i) → oi.apart ops ok = true := fun k ok hk hki hun hno => by
        refine hfree k ok hk hki ?_ hno
        by_cases hjk : j = k
        · subst hjk; exact hjun
        · rw [getD_set_ne true hjk] at hun; exact hun
      refine wpOp_mono (fun a' w' h3 => ?_) h2
      have hS' : S w' := h3.2.1 (by rw [getD_set_ne true hjn, getD_set_ne true hin]; exact hl)
      refine ⟨fun _ => hS', ih (listed.setIfInBounds j true) a' w' hfree' (ready_mono hr (Ne.symm hji)) h3.1 hS' (by rw [getD_set_ne true hjn]; exact hl) ?_⟩
      rw [Array.setIfInBounds_comm _ _ hji]
      exact h3.2.2

/-- What yields in whatever world is taken first, whether number n has come up or not. -/
theorem wpAnyN_firstY {i : Nat} {oi : Oper} {v : Value} (hi : ops[i]? = some oi) (hsel : ∀ (j : Nat) (o : Oper) cs b, ops[j]? = some o → o.op ≠ .select cs b)
    (hQ : ∀ c a w, Q (.panic c) (a.put oi.dst v) w → Q (.panic c) a w) (hin : i ≠ n) :
    ∀ (fuel : Nat) (listed : Array Bool) (a : Act) (w : World),
      (∀ j oj, ops[j]? = some oj → j ≠ i → listed.getD j true = false → (∀ e ∈ oj.after, Region.binds md e = true → e.on ≠ i) → oi.apart ops oj = true) →
      i ∈ Region.ready md ops listed → YieldsIf P ops (fun _ => True) oi v a → (listed.getD n true = false → S w) →
      wpAnyN P md ops Q S n fuel (listed.setIfInBounds i true) (a.put oi.dst v) w → wpAnyN P md ops Q S n (fuel + 1) listed a w := by
  intro fuel
  induction fuel with
  | zero =>
    intro listed a w _ hr hy hS H
    refine ⟨fun h => (by rw [h] at hr; cases hr), fun j hj => ?_⟩
    by_cases hji : j = i
    · subst hji; exact hy.wpOp hi trivial ⟨fun h => hS (by rw [getD_set_ne true hin] at h; exact h), H⟩
    · have := ready_mono hj hji
      rw [H.1] at this
      cases this
  | succ fuel ih =>
    intro listed a w hfree hr hy hS H
    refine ⟨fun h => (by rw [h] at hr; cases hr), fun j hj => ?_⟩
    by_cases hji : j = i
    · subst hji; exact hy.wpOp hi trivial ⟨fun h => hS (by rw [getD_set_ne true hin] at h; exact h), H⟩
    · have h1 := H.2 j (ready_mono hj hji)
      obtain ⟨hjun, oj, hoj, hall⟩ := mem_ready.1 hj
      have hnot : ∀ e ∈ oj.after, Region.binds md e = true → e.on ≠ i := fun e he hb heq => by
        have h1 := hall e he hb
        have h0 := (mem_ready.1 hr).1
        rw [heq] at h1
        rcases Nat.lt_or_ge i listed.size with h' | h'
        · simp [h'] at h0 h1; rw [h0] at h1; cases h1
        · simp [Array.getElem?_eq_none h'] at h1
      have h2 := wpOp_putIf hoj (hfree j oj hoj hji hjun hnot) (fun cs b => hsel i oi cs b hi) (fun cs b => hsel j oj cs b hoj) hQ hy h1
      have hfree' : ∀ k ok, ops[k]? = some ok → k ≠ i → (listed.setIfInBounds j true).getD k true = false →
          (∀ e ∈ ok.after, Region.binds md e = true → e.on ≠ i) → oi.apart ops ok = true := fun k ok hk hki hun hno => by
        refine hfree k ok hk hki ?_ hno
        by_cases hjk : j = k
        · subst hjk; exact hjun
        · rw [getD_set_ne true hjk] at hun; exact hun
      refine wpOp_mono (fun a' w' h3 => ?_) h2
      have hS' : (listed.setIfInBounds j true).getD n true = false → S w' := fun h => h3.2.1 (by rw [Array.setIfInBounds_comm _ _ (Ne.symm hji), getD_set_ne true hin]; exact h)
      refine ⟨hS', ih (listed.setIfInBounds j true) a' w' hfree' (ready_mono hr (Ne.symm hji)) h3.1 hS' ?_⟩
      rw [Array.setIfInBounds_comm _ _ hji]
      exact h3.2.2
theorem wpAnyN_takeY {i : Nat} {oi : Oper} {v : Value} {fuel : Nat} {listed : Array Bool} {a : Act} {w : World} (hi : ops[i]? = some oi)
    (hs : Region.noSelect ops = true) (hf : Region.free md ops listed i = true) (hr : (Region.ready md ops listed).contains i = true)
    (hQ : ∀ c a w, Q (.panic c) (a.put oi.dst v) w → Q (.panic c) a w) (hin : (i == n) = false) (hy : YieldsIf P ops (fun _ => True) oi v a) (hS : listed.getD n true = false → S w)
    (h : wpAnyN P md ops Q S n fuel (listed.setIfInBounds i true) (a.put oi.dst v) w) : wpAnyN P md ops Q S n (fuel + 1) listed a w :=
  wpAnyN_firstY hi (Region.noSelect_spec hs) hQ (by simpa using hin) fuel listed a w (Region.free_spec hi hf) (by simpa using hr) hy hS h

/-- Whether number n waits for number i. -/
def waits (md : Region.Mode) (ops : Array Oper) (n i : Nat) : Bool :=
  match ops[n]? with
  | some o => o.after.any fun e => Region.binds md e && e.on == i
  | none => true
theorem waits_spec {i : Nat} (h : waits md ops n i = true) : ∀ o, ops[n]? = some o → ∃ e ∈ o.after, Region.binds md e = true ∧ e.on = i := by
  intro o ho
  unfold waits at h
  rw [ho] at h
  obtain ⟨k, hk, he⟩ := Array.any_eq_true.1 h
  simp only [Bool.and_eq_true, beq_iff_eq] at he
  exact ⟨o.after[k], Array.getElem_mem hk, he.1, he.2⟩

theorem wpAnyN_take {i : Nat} {oi : Oper} {v : Value} {fuel : Nat} {listed : Array Bool} {a : Act} {w : World} (hi : ops[i]? = some oi)
    (hs : Region.noSelect ops = true) (hf : Region.free md ops listed i = true) (hr : (Region.ready md ops listed).contains i = true)
    (hQ : ∀ c a w, Q (.panic c) (a.put oi.dst v) w → Q (.panic c) a w) (hin : (i == n) = false) (hw : waits md ops n i = true) (hl : listed.getD n true = false) (hy : YieldsIf P ops S oi v a) (hS : S w)
    (h : wpAnyN P md ops Q S n fuel (listed.setIfInBounds i true) (a.put oi.dst v) w) : wpAnyN P md ops Q S n (fuel + 1) listed a w :=
  wpAnyN_first hi (Region.noSelect_spec hs) hQ (by simpa using hin) (waits_spec hw) fuel listed a w (Region.free_spec hi hf) (by simpa using hr) hy hS hl h

theorem wpAnyN_done {listed : Array Bool} {a : Act} {w : World} (hr : Region.ready md ops listed = []) (h : Q .normal a w) :
    ∀ fuel, wpAnyN P md ops Q S n fuel listed a w
  | 0 => ⟨hr, h⟩
  | _ + 1 => ⟨fun _ => h, by rw [hr]; simp⟩

/-- Each of these comes up next. -/
def AllReadyN (P : Program) (md : Region.Mode) (ops : Array Oper) (Q : Exit → Act → World → Prop) (S : World → Prop) (n : Nat) (fuel : Nat) (listed : Array Bool) (a : Act) (w : World) (rs : List Nat) : Prop :=
  ∀ i ∈ rs, wpOp P ops Q i (fun a' w' => ((listed.setIfInBounds i true).getD n true = false → S w') ∧ wpAnyN P md ops Q S n fuel (listed.setIfInBounds i true) a' w') a w
theorem AllReadyN.nil {fuel : Nat} {listed : Array Bool} {a : Act} {w : World} : AllReadyN P md ops Q S n fuel listed a w [] := fun _ h => by cases h
theorem AllReadyN.cons {fuel : Nat} {listed : Array Bool} {a : Act} {w : World} {i : Nat} {o : Oper} {rs : List Nat} (ho : ops[i]? = some o)
    (h : ∀ K' : Act → World → Prop, Shut (∀ a w, ((listed.setIfInBounds i true).getD n true = false → S w) → wpAnyN P md ops Q S n fuel (listed.setIfInBounds i true) a w → K' a w) → if Region.wanted o (yielded ops a.tmps) = true then Oper.wp P o a w K' Q else K' (a.put o.dst undef) w)
    (hs : AllReadyN P md ops Q S n fuel listed a w rs) : AllReadyN P md ops Q S n fuel listed a w (i :: rs) := fun j hj => by
  rcases List.mem_cons.1 hj with rfl | hj
  · exact wpOp_step ho (fun K' hK => h K' (fun a w hS hW => hK a w ⟨hS, hW⟩))
  · exact hs j hj
theorem wpAnyN_ready {rs : List Nat} {fuel : Nat} {listed : Array Bool} {a : Act} {w : World} (hr : Region.ready md ops listed = rs) (hne : rs ≠ [])
    (h : AllReadyN P md ops Q S n fuel listed a w rs) : wpAnyN P md ops Q S n (fuel + 1) listed a w :=
  ⟨fun h0 => absurd (hr ▸ h0) hne, hr ▸ h⟩
theorem wp_region_N_drew {id : Nat} {a : Act} {w : World} (n : Nat) (hm : P.follows .mixedOrders = true)
    (h : wpAnyN P .any ops Q S n ops.size (Array.replicate ops.size false) a w.drew) : (Code.region id ops true).wp P Q a w :=
  wp_region_any hm (wpAny_of_N _ _ _ _ h)
end
end Go.Th

/-
  For ranges over a function that makes memory: blocks that lie as they lay; a frame by a name; no way out by a panic.
-/
namespace Go.Proofs.Ytallbegibdlpaaa
open Go Go.RowKit Go.Th

/-- These blocks lie as they lay. -/
def KeptF (K : Nat → Prop) (W W' : World) : Prop := ∀ k, K k → W'.heap[k]? = W.heap[k]?
theorem KeptF.refl (K : Nat → Prop) (W : World) : KeptF K W W := fun _ _ => rfl
theorem KeptF.trans {K : Nat → Prop} {A B C : World} (h : KeptF K A B) (k : KeptF K B C) : KeptF K A C := fun j hj => (k j hj).trans (h j hj)
theorem keptF_b {K : Nat → Prop} {w : World} (hK : ∀ k, K k → k < w.heap.size) (W : World) (l : Nat) (o o' : Obj) (hl : w.heap.size ≤ l) (_ : W.heap[l]? = some o) (_ : o.isCells = false) (_ : o.isWalk = false) : KeptF K W (W.putObj l o') :=
  fun k hk => World.putObj_heap_other (by have := hK k hk; omega)
theorem KeptF.cell {K : Nat → Prop} {W W' : World} (h : KeptF K W W') {p : Addr} (hp : K p.block) : W'.cell? p = W.cell? p := World.cell?_of_block (w := W) (h p.block hp)
theorem KeptF.below {K : Nat → Prop} {W A B : World} (h : KeptF K W A) (hb : Below A.heap.size A B) (hK : ∀ k, K k → k < A.heap.size) : KeptF K W B := fun k hk => (hb.block k (hK k hk)).trans (h k hk)
theorem sl_keptF {K : Nat → Prop} {W W' : World} {n cap : Nat} {a : Option Addr} {xs : List Value} (h : Sl W 1 (.slice a n cap) n xs) (hk : KeptF K W W') (hK : ∀ p, a = some p → K p.block) : Sl W' 1 (.slice a n cap) n xs := by
  obtain ⟨a0, c0, he, h2, h3, h4, h6, h5⟩ := h
  cases he
  refine ⟨a, cap, rfl, h2, h3, h4, h6, fun j u hu => ?_⟩
  obtain ⟨b, o, ha, hc⟩ := h5 j u hu
  exact ⟨b, o, ha, (hk.cell (p := ⟨b, o + j, none⟩) (hK ⟨b, o, none⟩ ha)).trans hc⟩
theorem grown_below {W W' : World} (h : Below W.heap.size W W') : W.grownBy W' none := ⟨h.os, h.tape, h.output, h.size, fun k hk _ => h.block k hk⟩
theorem keepsFrom_below {B : Nat} {W W' : World} (h : Below W.heap.size W W') : KeepsFrom B W W' :=
  ⟨h.size, fun k o _ hk _ => (h.block k (Array.getElem?_eq_some_iff.1 hk).1).trans hk⟩
theorem blk_grown {W W' : World} {row : Option Nat} {g : Nat} {t : TypeId} {cs : List Value} (h : Blk W g t cs) (hg : W.grownBy W' row) (hr : ∀ r, row = some r → ∃ o : Obj, W.heap[r]? = some o ∧ o.isCells = false) : Blk W' g t cs :=
  (grownBy_keeps_cells hg hr h rfl).trans h

theorem with_tmps {P : Program} {c : Code} {Q : Exit → Act → World → Prop} {t : Array Value} {d : _} {W : World} (h : ∀ A : Array Value, A = t → Code.wp P c Q { tmps := A, defers := d } W) : Code.wp P c Q { tmps := t, defers := d } W := h t rfl
/-- No way out by a panic. -/
def noPanic (Q : Exit → Act → World → Prop) : Exit → Act → World → Prop
  | .panic _, _, _ => False
  | e, a, w => Q e a w
theorem wp_noPanic {P : Program} {c : Code} {Q : Exit → Act → World → Prop} {a : Act} {w : World} (h : c.wp P (noPanic Q) a w) : c.wp P Q a w :=
  Code.wp_mono (hq := fun e a w hq => by cases e <;> first | exact hq | exact hq.elim) h
end Go.Proofs.Ytallbegibdlpaaa

/-
  A region that draws its order, in a round of a range over a function: what is walked plainly serves there, at the wide fence, where no call is deferred.
-/
namespace Go.Th
open Go Go.RowKit

section
variable {P : Program} {Q : Exit → Act → World → Prop} {ops : Array Oper} {l n : Nat}
theorem op_round {o : Oper} {a : Act} {w : World} {K : Act → World → Prop} (hd : ∀ c, o.op ≠ .defer c) (h : o.wp P a w K Q) : o.wpIn (Fence.wide.inRound l) n P a w K Q := by
  unfold Oper.wp at h
  refine ⟨fun _ _ => trivial, ?_⟩
  rw [Oper.semAt_eq _ _ _ hd]
  generalize (execOp a.eval o).run P w = r at h ⊢
  cases r with
  | ok x w1 =>
    cases x with
    | value v => exact h
    | skip => exact h
    | defer d => exact h
    | enter f args =>
      refine ⟨fun e => by simp [Fence.wide] at e, CallsIn.inRound l (callsIn_wide.2 (Calls.mono h fun e w2 he => ?_))⟩
      cases e <;> exact he
    | row rw args => exact ⟨fun e => by simp [Fence.wide] at e, fun c cs _ => let ⟨v, w2, hr, hs⟩ := h c cs; ⟨v, w2, hr, stepsIn_wide.2 hs⟩⟩
    | _ => exact h.elim
  | halt x w1 => cases x <;> exact h
theorem op_round_at {i : Nat} {a : Act} {w : World} {K K' : Act → World → Prop} (hd : ∀ o ∈ ops.toList, ∀ c, o.op ≠ .defer c) (hO : ∀ a w, ¬ Q .outgrown a w) (hK : ∀ a w, K a w → K' a w) (h : wpOp P ops Q i K a w) : wpOpIn (Fence.wide.inRound l) n P ops Q i K' a w := by
  refine wpOpIn_mono hK ?_
  unfold wpOp at h
  unfold wpOpIn
  cases ho : ops[i]? with
  | none => simpa [ho] using h
  | some o =>
    simp only [ho] at h
    dsimp only
    split
    · rename_i hw
      simp only [hw, if_true] at h
      rcases h with h | ⟨_, a', w', h⟩
      · exact op_round (hd o (by rw [Array.mem_toList_iff]; exact Array.mem_of_getElem? ho)) h
      · exact absurd h (hO _ _)
    · rename_i hw
      simp only [hw] at h
      exact ⟨fun _ _ => trivial, h⟩
theorem any_round (hd : ∀ o ∈ ops.toList, ∀ c, o.op ≠ .defer c) (hO : ∀ a w, ¬ Q .outgrown a w) : ∀ (fuel : Nat) (listed : Array Bool) (a : Act) (w : World),
    wpAny P .any ops Q fuel listed a w → wpAnyIn (Fence.wide.inRound l) n P .any ops Q fuel listed a w
  | 0, _, _, _, h => h
  | fuel + 1, listed, a, w, h => ⟨h.1, fun i hi => op_round_at hd hO (fun a' w' h' => any_round hd hO fuel _ a' w' h') (h.2 i hi)⟩
theorem wpIn_region_round {S : World → Prop} {id : Nat} {a : Act} {w : World} (hd : ∀ o ∈ ops.toList, ∀ c, o.op ≠ .defer c) (hO : ∀ a w, ¬ Q .outgrown a w) (hm : P.follows .mixedOrders = true) (hS : S w.drew)
    (h : S w.drew → wpAnyH P .any ops Q S ops.size (Array.replicate ops.size false) a w.drew) : (Code.region id ops true).wpIn (Fence.wide.inRound l) n P Q a w :=
  wpIn_region_any hm (any_round hd hO _ _ _ _ (wpAny_of_held _ _ _ _ (h hS)))
end
end Go.Th
