/-
  Texts in one: Base, Blk, Mem, MemC, Copy, Bytes, Clone, Same, BytesEqual, BitsSpec, BitW, BitR, RefBits, BitsPack, BitK, Ans, HeldN, KeptF, RoundReg.
-/
import Derived.WalkKit
import Derived.KernelRfl
import Derived.Deep.QuietTactic
import Derived.BigQuiet
import Derived.Lib.Hide
import Derived.WalkSpells
import Derived.OneCell
import Derived.Laws.Rows
import Derived.Laws.Tables
import Derived.Laws.CopyRow
import Derived.Laws.StructEq
import Derived.Deep.RegionHeld3
import Derived.OwnWalk
import Derived.Laws.CopyOwn
import Derived.Laws.OwnMore
import Derived.Test.YtallbegibdlpaaaGreatRows
import Derived.WideShapes
import Derived.RangeFuncOwn
import Derived.RangeFuncFrom
import Derived.RangeFuncNested
import Derived.RangeFuncBox
import Derived.RangeFuncBound
import Derived.RangeFuncCalls
import Derived.RangeFuncLeaves
import Derived.OrdersIn
set_option linter.unusedVariables false
set_option linter.unusedSimpArgs false

/-
  General words on memory, over any program: a slice that reads as a list of cells; append to a row of the call's own, whatever is appended; what a call may have turned.
-/
namespace Go.Th
open Go Go.RowKit

/-- What a slice type and its elements' type are, as far as the laws ask. -/
structure ElemOf (P : Program) (t e : TypeId) (size bytes : Nat) : Prop where
  und : P.underlying t = some (.slice e)
  info : ∃ i z, P.info? e = some i ∧ i.zero = some z ∧ i.size = size ∧ i.bytes = bytes ∧ z.cells.size = size
  pos : 0 < size

theorem ElemOf.mk' {P : Program} {t e : TypeId} {size bytes : Nat} {z : Value} (h1 : P.underlying t = some (.slice e))
    (h2 : (P.info? e).map (fun i => (i.zero, i.size, i.bytes)) = some (some z, size, bytes)) (h3 : z.cells.size = size) (h4 : 0 < size) : ElemOf P t e size bytes := by
  obtain ⟨i, hi, hz0, hz1, hz2⟩ := info_parts h2
  exact ⟨h1, ⟨i, z, hi, hz0, hz1, hz2, h3⟩, h4⟩

/-- A slice value that reads as the cells xs (n elements, each of so many cells). -/
def Sl (w : World) (size : Nat) (v : Value) (n : Nat) (xs : List Value) : Prop :=
  ∃ a cap, v = .slice a n cap ∧ xs.length = n * size ∧ n ≤ cap ∧ cap ≤ maxLen ∧ (a = none → n = 0 ∧ cap = 0) ∧
    ∀ j u, xs[j]? = some u → ∃ b o, a = some ⟨b, o, none⟩ ∧ w.cell? ⟨b, o + j, none⟩ = some u

theorem ret_int {k : IntKind} {a b : Int} (h : a = b) : Ending.returned (.int k a) = .returned (.int k b) := by rw [h]
theorem ret_bool {a b : Bool} (h : a = b) : Ending.returned (.bool a) = .returned (.bool b) := by rw [h]

theorem add_none (b o j : Nat) : (⟨b, o, none⟩ : Addr).add j = ⟨b, o + j, none⟩ := by
  unfold Addr.add; split <;> simp_all

theorem Sl.nil (w : World) (size : Nat) : Sl w size (.slice none 0 0) 0 [] :=
  ⟨none, 0, rfl, by simp, Nat.le_refl _, Nat.zero_le _, fun _ => ⟨rfl, rfl⟩, by intro j u h; simp at h⟩

theorem Sl.one (w : World) (u : Value) (t : TypeId) : Sl (w.alloc (.cells #[u] t)) 1 (.slice (some ⟨w.heap.size, 0, none⟩) 1 1) 1 [u] := by
  refine ⟨_, _, rfl, rfl, Nat.le_refl _, by unfold maxLen; omega, fun h => (by cases h), ?_⟩
  intro j x h
  match j, h with
  | 0, h =>
    simp at h; subst h
    exact ⟨_, _, rfl, by rw [World.cell?_alloc_at _ _ _ _ (by simp)]; rfl⟩

theorem Sl.of_own {w : World} {base : Nat} {e : TypeId} {size : Nat} {v : Value} {n : Nat} {xs : List Value} (h : w.ownsRow base e size v n xs) : Sl w size v n xs := by
  obtain ⟨h1, h2⟩ := h
  rcases h2 with ⟨rfl, rfl⟩ | ⟨g, cap, cur, rfl, hb, hg, hnc, hcm, hcs, ht⟩
  · have : xs = [] := List.eq_nil_of_length_eq_zero (by simpa using h1)
    subst this
    exact Sl.nil _ _
  · refine ⟨_, _, rfl, h1, hnc, hcm, fun h => (by cases h), ?_⟩
    intro j u hu
    refine ⟨g, 0, rfl, ?_⟩
    have := World.ownsRow.cells (w := w) (base := base) (e := e) (size := size) (v := .slice (some ⟨g, 0, none⟩) n cap) (n := n) (xs := xs) ⟨h1, .inr ⟨g, cap, cur, rfl, hb, hg, hnc, hcm, hcs, ht⟩⟩ (g := g) rfl j u hu
    rwa [add_none] at this

/-- What reads so in a world reads so in each later one in which no block of the first has turned. -/
theorem Sl.below {w w' : World} {size n : Nat} {v : Value} {xs : List Value} (h : Sl w size v n xs) (hb : Below w.heap.size w w') : Sl w' size v n xs := by
  obtain ⟨a, cap, h1, h2, h3, h4, h6, h5⟩ := h
  refine ⟨a, cap, h1, h2, h3, h4, h6, fun j u hu => ?_⟩
  obtain ⟨b, o, ha, hc⟩ := h5 j u hu
  exact ⟨b, o, ha, (hb.cell (p := ⟨b, o + j, none⟩) (World.block_lt_of_cell? w _ hc)).trans hc⟩

theorem ownsRow_below {w w' : World} {base : Nat} {e : TypeId} {size : Nat} {v : Value} {n : Nat} {xs : List Value} (h : w.ownsRow base e size v n xs) (hb : Below w.heap.size w w') : w'.ownsRow base e size v n xs := by
  obtain ⟨h1, h2⟩ := h
  refine ⟨h1, h2.imp id ?_⟩
  rintro ⟨g, cap, cur, rfl, hg, hh, r⟩
  exact ⟨g, cap, cur, rfl, hg, (hb.block g (lt_of_block hh)).trans hh, r⟩

theorem ownsRow_base {w : World} {base base' : Nat} {e : TypeId} {size : Nat} {v : Value} {n : Nat} {xs : List Value} (h : w.ownsRow base e size v n xs) (hb : base' ≤ base) : w.ownsRow base' e size v n xs :=
  ⟨h.1, h.2.imp id fun ⟨g, cap, cur, h1, h2, h3⟩ => ⟨g, cap, cur, h1, Nat.le_trans hb h2, h3⟩⟩

/-- The value of a row of which something is owned is no nil. -/
theorem ownsRow_val {w : World} {base : Nat} {e : TypeId} {size : Nat} {v : Value} {n : Nat} {xs : List Value} (h : w.ownsRow base e size v n xs) (hn : 0 < n) :
    ∃ g cap, v = .slice (some ⟨g, 0, none⟩) n cap ∧ base ≤ g ∧ g < w.heap.size ∧ n ≤ cap ∧ cap ≤ maxLen := by
  rcases h.2 with ⟨_, h0⟩ | ⟨g, cap, cur, h1, h2, h3, h4, h5, _⟩
  · omega
  · exact ⟨g, cap, h1, h2, lt_of_block h3, h4, h5⟩

theorem ownsRow_slice {w : World} {base : Nat} {e : TypeId} {size : Nat} {v : Value} {n : Nat} {xs : List Value} (h : w.ownsRow base e size v n xs) :
    ∃ a cap, v = .slice a n cap ∧ n ≤ cap ∧ cap ≤ maxLen := by
  rcases h.2 with ⟨h1, h0⟩ | ⟨g, cap, cur, h1, h2, h3, h4, h5, _⟩
  · exact ⟨none, 0, by rw [h1, h0], by omega, Nat.zero_le _⟩
  · exact ⟨_, cap, h1, h4, h5⟩

theorem below_dN {B : Nat} {w w' : World} (h : Below B w w') (n : Nat) : Below B w (w'.drewN n) := ⟨h.os, h.tape, h.output, h.size, h.block⟩

/-- What a call may have turned: the blocks of S, and new ones. -/
structure Turned (S : Nat → Prop) (w w' : World) : Prop where
  os : w'.os = w.os
  tape : w'.tape = w.tape
  output : w'.output = w.output
  size : w.heap.size ≤ w'.heap.size
  block : ∀ k, k < w.heap.size → ¬ S k → w'.heap[k]? = w.heap[k]?

section
variable {S : Nat → Prop} {w w' w'' : World}
theorem Turned.refl (S : Nat → Prop) (w : World) : Turned S w w := ⟨rfl, rfl, rfl, Nat.le_refl _, fun _ _ _ => rfl⟩
theorem Turned.below (h : Below w.heap.size w w') : Turned S w w' := ⟨h.os, h.tape, h.output, h.size, fun k hk _ => h.block k hk⟩
theorem Turned.drew (h : Turned S w w') : Turned S w w'.drew := ⟨h.os, h.tape, h.output, h.size, h.block⟩
theorem Turned.drewN (h : Turned S w w') (n : Nat) : Turned S w (w'.drewN n) := ⟨h.os, h.tape, h.output, h.size, h.block⟩
theorem Turned.alloc (h : Turned S w w') (o : Obj) : Turned S w (w'.alloc o) :=
  ⟨h.os, h.tape, h.output, Nat.le_trans h.size (by simp), fun k hk hs => (Below.heap_alloc _ _ _ (Nat.lt_of_lt_of_le hk h.size)).trans (h.block k hk hs)⟩
theorem Turned.setCell (h : Turned S w w') {a : Addr} (ha : S a.block ∨ w.heap.size ≤ a.block) (u : Value) : Turned S w (w'.setCell a u) :=
  ⟨h.os, h.tape, h.output, Nat.le_trans h.size (by simp [World.setCell]), fun k hk hs => (Below.heap_setCell _ _ _ _ (by
    intro e; subst e; rcases ha with ha | ha
    · exact hs ha
    · omega)).trans (h.block k hk hs)⟩
theorem Turned.grown (h : Turned S w w') {row : Option Nat} (hg : w'.grownBy w'' row) (hr : ∀ k, row = some k → k < w.heap.size → S k) : Turned S w w'' :=
  ⟨hg.os.trans h.os, hg.tape.trans h.tape, hg.output.trans h.output, Nat.le_trans h.size hg.size, fun k hk hs =>
    (hg.block k (Nat.lt_of_lt_of_le hk h.size) (fun e => hs (hr k e.symm hk))).trans (h.block k hk hs)⟩
theorem Turned.trans {S' : Nat → Prop} (h : Turned S w w') (h' : Turned S' w' w'') (hs : ∀ k, k < w.heap.size → S' k → S k) : Turned S w w'' :=
  ⟨h'.os.trans h.os, h'.tape.trans h.tape, h'.output.trans h.output, Nat.le_trans h.size h'.size, fun k hk n =>
    (h'.block k (Nat.lt_of_lt_of_le hk h.size) (fun e => n (hs k hk e))).trans (h.block k hk n)⟩
theorem Turned.mono {S' : Nat → Prop} (h : Turned S w w') (hs : ∀ k, k < w.heap.size → S k → S' k) : Turned S' w w' :=
  ⟨h.os, h.tape, h.output, h.size, fun k hk n => h.block k hk (fun e => n (hs k hk e))⟩
theorem Turned.cell (h : Turned S w w') {p : Addr} (hp : p.block < w.heap.size) (hs : ¬ S p.block) : w'.cell? p = w.cell? p := World.cell?_of_block (w := w) (h.block p.block hp hs)
theorem Turned.frozen (h : Turned S w w') {p : Addr} (hp : p.block < w.heap.size) (hs : ¬ S p.block) : w'.frozen? p = w.frozen? p := World.frozen?_of_block (w := w) (h.block p.block hp hs)
/-- Where all that may be turned is new to an elder world. -/
theorem Turned.old (h : Turned S w w') {B : Nat} {w0 : World} (h0 : Below B w0 w) (hB : B ≤ w.heap.size) (hs : ∀ k, k < B → ¬ S k) : Below B w0 w' :=
  h0.trans ⟨h.os, h.tape, h.output, h.size, fun k hk => h.block k (by omega) (hs k hk)⟩
theorem Turned.own (h : Turned S w w') {base : Nat} {e : TypeId} {size : Nat} {v : Value} {n : Nat} {xs : List Value} (ho : w.ownsRow base e size v n xs) (hs : ∀ k, v.ownBlock = some k → ¬ S k) : w'.ownsRow base e size v n xs := by
  refine ⟨ho.1, ho.2.imp id ?_⟩
  rintro ⟨g, cap, cur, rfl, hg, hh, r⟩
  exact ⟨g, cap, cur, rfl, hg, (h.block g (lt_of_block hh) (hs g rfl)).trans hh, r⟩
end

section
variable {P : Program}

/-- append to a row of the call's own, whatever is appended; where it lies now is where it lay, or new. -/
theorem run_app {w : World} {t e : TypeId} {size bytes : Nat} (E : ElemOf P t e size bytes) (ty : TypeId) (base : Nat)
    (v : Value) (n : Nat) (xs : List Value) (hown : w.ownsRow base e size v n xs) (vx : Value) (m : Nat) (news : List Value) (hx : Sl w size vx m news)
    (h1 : ∀ u ∈ news, u.oneCell' = true) (h63 : n + m ≤ maxLen) (hbytes : (n + m) * bytes ≤ 140737488355328) (hbase : base ≤ w.heap.size) :
    ∃ v' w', (Builtin.append_ #[t, t] ty #[v, vx]).run P w = .ok v' w' ∧ w'.ownsRow base e size v' (n + m) (xs ++ news) ∧ w.grownBy w' v.ownBlock ∧
      (v'.ownBlock = v.ownBlock ∨ ∃ g, v'.ownBlock = some g ∧ w.heap.size ≤ g) := by
  obtain ⟨i, z, hi, hz, hsize, hby, hzs⟩ := E.info
  obtain ⟨a, c, rfl, hl, hmc, hcm, _, hcell⟩ := hx
  cases a with
  | none =>
    have hnil : news = [] := by
      cases news with
      | nil => rfl
      | cons y ys => obtain ⟨b, o, h, _⟩ := hcell 0 y rfl; cases h
    subst hnil
    have hm : m = 0 := by
      rcases Nat.eq_zero_or_pos m with h | h
      · exact h
      · have := Nat.mul_pos h E.pos; simp at hl; omega
    subst hm
    have hr : (Builtin.append_ #[t, t] ty #[v, .slice none 0 c]).run P w = .ok v w := by
      obtain ⟨ho1, ho2⟩ := hown
      rcases ho2 with ⟨rfl, rfl⟩ | ⟨g, cap, cur, rfl, hb, hg, hnc, hcap, hcs, ht⟩
      · simp [Builtin.append_, run_underlying E.und, sizeOf, typeInfo, hi, Builtin.lenOf, Builtin.firstCells]
      · have h0 : n + 0 ≤ cap := by omega
        simp [Builtin.append_, run_underlying E.und, sizeOf, typeInfo, hi, Builtin.lenOf, Builtin.firstCells, hnc, storeCells]
    refine ⟨v, w, hr, by simpa using hown, ⟨rfl, rfl, rfl, Nat.le_refl _, fun _ _ _ => rfl⟩, .inl rfl⟩
  | some ad =>
    by_cases hm0 : m = 0 ∧ news = []
    · obtain ⟨rfl, rfl⟩ := hm0
      have hr : (Builtin.append_ #[t, t] ty #[v, .slice (some ad) 0 c]).run P w = .ok v w := by
        obtain ⟨ho1, ho2⟩ := hown
        rcases ho2 with ⟨rfl, rfl⟩ | ⟨g, cap, cur, rfl, hb, hg, hnc, hcap, hcs, ht⟩
        · simp [Builtin.append_, run_underlying E.und, sizeOf, typeInfo, hi, Builtin.lenOf, Builtin.firstCells, loadCells, loadCellsFrom]
        · simp [Builtin.append_, run_underlying E.und, sizeOf, typeInfo, hi, Builtin.lenOf, Builtin.firstCells, hnc, storeCells, loadCells, loadCellsFrom]
      exact ⟨v, w, hr, by simpa using hown, ⟨rfl, rfl, rfl, Nat.le_refl _, fun _ _ _ => rfl⟩, .inl rfl⟩
    · have hne : news ≠ [] := by
        intro h; subst h
        apply hm0
        refine ⟨?_, rfl⟩
        rcases Nat.eq_zero_or_pos m with h | h
        · exact h
        · have := Nat.mul_pos h E.pos; simp at hl; omega
      obtain ⟨y, ys, rfl⟩ := List.exists_cons_of_ne_nil hne
      obtain ⟨b, o, hA, _⟩ := hcell 0 y rfl
      cases hA
      have hnews : ∀ j u, (y :: ys)[j]? = some u → w.cell? ((⟨b, o, none⟩ : Addr).add j) = some u := by
        intro j u hu
        obtain ⟨b', o', hA, hc⟩ := hcell j u hu
        cases hA
        rw [add_none]; exact hc
      by_cases hroom : v.ownBlock = none ∨ True
      · obtain ⟨v', w', r1, r2, r3, _⟩ := run_append_own (P := P) w base t ty e i z size bytes E.und hi hz hsize hby hzs E.pos v n xs hown ⟨b, o, none⟩ m c (y :: ys) hl hnews h1 h63 hbytes hbase
        refine ⟨v', w', r1, r2, r3, ?_⟩
        -- where it lies: by the room
        obtain ⟨ho1, ho2⟩ := hown
        subst hsize
        rcases ho2 with ⟨rfl, rfl⟩ | ⟨g, cap, cur, rfl, hb, hg, hnc, hcap, hcs, ht⟩
        · have hr := run_append_nil (P := P) w t ty e i z E.und hi hz ⟨b, o, none⟩ m c (y :: ys) hl hnews (by
              rcases Nat.eq_zero_or_pos m with h | h
              · subst h; simp at hl
              · exact h) (by simp only [maxLen] at h63; omega) (by rw [hby]; simp only [Nat.zero_add] at hbytes; omega)
          rw [hr] at r1
          cases r1
          exact .inr ⟨_, rfl, Nat.le_refl _⟩
        · by_cases hr : n + m ≤ cap
          · have hfit : n * i.size + (y :: ys).length ≤ cur.size := by rw [hl, hcs, ← Nat.add_mul]; exact Nat.mul_le_mul_right _ hr
            have hr' := run_append_room (P := P) w t ty e i E.und hi g n cap cur hg ⟨b, o, none⟩ m c (y :: ys) hl hnews h1 hr hfit
            rw [hr'] at r1
            cases r1
            exact .inl rfl
          · have holds : ∀ j u, xs[j]? = some u → w.cell? ((⟨g, 0, none⟩ : Addr).add j) = some u :=
              World.ownsRow.cells (w := w) (base := base) (e := e) (size := i.size) (v := .slice (some ⟨g, 0, none⟩) n cap) (n := n) (xs := xs) ⟨ho1, .inr ⟨g, cap, cur, rfl, hb, hg, hnc, hcap, hcs, ht⟩⟩ (g := g) rfl
            have hr' := run_append_grow (P := P) w t ty e i z E.und hi hz ⟨g, 0, none⟩ n cap xs ho1 holds ⟨b, o, none⟩ m c (y :: ys) hl hnews (by omega) (by simp only [maxLen] at h63; omega) (growslice_fits (by omega) (by rw [hby]; exact hbytes))
            rw [hr'] at r1
            cases r1
            exact .inr ⟨_, rfl, Nat.le_refl _⟩
      · exact absurd (.inr trivial) hroom

theorem wp_app {w : World} {t e : TypeId} {size bytes : Nat} (E : ElemOf P t e size bytes) {o : Oper} {a : Act} {K : Act → World → Prop} {Q : Exit → Act → World → Prop} (s x : Operand)
    (ho : o.op = .call { callee := .builtin .append, args := #[s, x], argTypes := #[t, t] })
    (base : Nat) {v : Value} {n : Nat} {xs : List Value} (hs : a.eval s = v) (hown : w.ownsRow base e size v n xs) {vx : Value} {m : Nat} {news : List Value} (hvx : a.eval x = vx) (hx : Sl w size vx m news)
    (h1 : ∀ u ∈ news, u.oneCell' = true) (h63 : n + m ≤ maxLen) (hbytes : (n + m) * bytes ≤ 140737488355328) (hbase : base ≤ w.heap.size)
    (h : ∀ v' w', w'.ownsRow base e size v' (n + m) (xs ++ news) → w.grownBy w' v.ownBlock → (v'.ownBlock = v.ownBlock ∨ ∃ g, v'.ownBlock = some g ∧ w.heap.size ≤ g) → K (a.put o.dst v') w') : o.wp P a w K Q := by
  obtain ⟨v', w', hr, h2, h3, h4⟩ := run_app (P := P) E o.type base v n xs hown vx m news hx h1 h63 hbytes hbase
  unfold Oper.wp execOp
  simp only [ho, resolve, invoke, builtin, Sem.run_bind, Sem.run_pure, Result.andThen_ok, List.map_toArray, List.map_cons, List.map_nil, hs, hvx, hr]
  exact h v' w' h2 h3 h4

theorem wpList_app {w : World} {t e : TypeId} {size bytes : Nat} (E : ElemOf P t e size bytes) {ops : Array Oper} {rest : List Oper} {o : Oper} {a : Act} {Q : Exit → Act → World → Prop} (hgd : o.guard = none) (s x : Operand)
    (ho : o.op = .call { callee := .builtin .append, args := #[s, x], argTypes := #[t, t] })
    (base : Nat) {v : Value} {n : Nat} {xs : List Value} (hs : a.eval s = v) (hown : w.ownsRow base e size v n xs) {vx : Value} {m : Nat} {news : List Value} (hvx : a.eval x = vx) (hx : Sl w size vx m news)
    (h1 : ∀ u ∈ news, u.oneCell' = true) (h63 : n + m ≤ maxLen) (hbytes : (n + m) * bytes ≤ 140737488355328) (hbase : base ≤ w.heap.size)
    (h : ∀ v' w', w'.ownsRow base e size v' (n + m) (xs ++ news) → w.grownBy w' v.ownBlock → (v'.ownBlock = v.ownBlock ∨ ∃ g, v'.ownBlock = some g ∧ w.heap.size ≤ g) → wpList P ops Q rest (a.put o.dst v') w') : wpList P ops Q (o :: rest) a w :=
  wpList_plain hgd fun _ hK => wp_app E s x ho base hs hown hvx hx h1 h63 hbytes hbase fun v' w' h2 h3 h4 => hK _ _ (h v' w' h2 h3 h4)
end

/-- What reads so in a world reads so in a later one, where its block has not been turned. -/
theorem Sl.turned {w w' : World} {S : Nat → Prop} {size n cap : Nat} {a : Option Addr} {xs : List Value} (h : Sl w size (.slice a n cap) n xs) (ht : Turned S w w') (hs : ∀ x, a = some x → ¬ S x.block) : Sl w' size (.slice a n cap) n xs := by
  obtain ⟨a0, c0, he, h2, h3, h4, h6, h5⟩ := h
  cases he
  refine ⟨a, cap, rfl, h2, h3, h4, h6, fun j u hu => ?_⟩
  obtain ⟨b, o, ha, hc⟩ := h5 j u hu
  exact ⟨b, o, ha, (ht.cell (p := ⟨b, o + j, none⟩) (World.block_lt_of_cell? w _ hc) (hs ⟨b, o, none⟩ ha)).trans hc⟩

/-! ### Cuts of a slice of one-cell elements -/
section
variable {P : Program} {w : World} {t e : TypeId} {bytes : Nat} {a : Option Addr} {n cap : Nat} {xs : List Value}

theorem Sl.max {size : Nat} (h : Sl w size (.slice a n cap) n xs) : n ≤ cap ∧ cap ≤ 9223372036854775807 := by
  obtain ⟨a', c', he, _, h2, h3, _⟩ := h
  cases he
  unfold maxLen at h3
  exact ⟨h2, h3⟩

theorem Sl.cut_from (E : ElemOf P t e 1 bytes) (h : Sl w 1 (.slice a n cap) n xs) (k : Nat) (hk : k ≤ n) :
    ∃ a' cap', (∀ wx, (Instr.slice t (.slice a n cap) (some (.int .i64 k)) none none).run P wx = .ok (.slice a' (n - k) cap') wx) ∧ Sl w 1 (.slice a' (n - k) cap') (n - k) (xs.drop k) ∧ (∀ x, a' = some x → ∃ y, a = some y ∧ y.block = x.block) := by
  obtain ⟨i, z, hi, hz, hsize, hby, hzs⟩ := E.info
  obtain ⟨hnc, hcm⟩ := h.max
  obtain ⟨a0, c0, he, h1, h2, h3, h4, h5⟩ := h
  cases he
  refine ⟨if cap = k then a else a.map (·.add k), cap - k, fun wx => ?_, ?_, ?_⟩
  · have hb1 : (0 : Int) ≤ k := by omega
    have hb2 : (k : Int) ≤ n := by omega
    simp [Instr.slice, run_underlying E.und, Instr.sliceBounds, run_sliceBound, hb2, sizeOf, typeInfo, hi, hsize]
  · refine ⟨_, _, rfl, by simp; omega, by omega, by unfold maxLen; omega, ?_, ?_⟩
    · intro hn
      by_cases hc : cap = k
      · omega
      · rw [if_neg hc] at hn
        cases a with
        | none => have := h4 rfl; omega
        | some x => simp at hn
    · intro j u hu
      have hj : j < n - k := by
        have := (List.getElem?_eq_some_iff.1 hu).1
        simp at this; omega
      rw [List.getElem?_drop] at hu
      obtain ⟨b, o, rfl, hc⟩ := h5 (k + j) u hu
      rw [if_neg (by omega)]
      refine ⟨b, o + k, by simp [add_none], ?_⟩
      rw [Nat.add_assoc]; exact hc
  · intro x hA
    split at hA
    · exact ⟨x, hA, rfl⟩
    · cases a with
      | none => simp at hA
      | some y =>
        simp only [Option.map_some, Option.some.injEq] at hA
        refine ⟨y, rfl, ?_⟩
        rw [← hA]
        unfold Addr.add
        split <;> rfl

end
end Go.Th

/-
  A block known whole: an array of the call's own.
-/
namespace Go.Th
open Go Go.RowKit

/-- The block b is an array of these cells, free to be written. -/
def Blk (w : World) (b : Nat) (t : TypeId) (cs : List Value) : Prop := w.heap[b]? = some (.cells cs.toArray t (0, 0))

section
variable {w w' : World} {b : Nat} {t : TypeId} {cs : List Value}
theorem Blk.lt (h : Blk w b t cs) : b < w.heap.size := lt_of_block h
theorem Blk.new (w : World) (t : TypeId) (cs : List Value) : Blk (w.alloc (.cells cs.toArray t)) w.heap.size t cs := heap_alloc_new w _
theorem Blk.cell (h : Blk w b t cs) {i : Nat} {u : Value} (hi : cs[i]? = some u) : w.cell? ⟨b, i, none⟩ = some u := by
  unfold Blk at h
  simp [World.cell?, h, hi]
theorem Blk.free (h : Blk w b t cs) (i : Nat) : w.frozen? ⟨b, i, none⟩ = false := by
  unfold Blk at h
  simp [World.frozen?, h]
theorem Blk.set (h : Blk w b t cs) (i : Nat) (u : Value) (_ : i < cs.length) : Blk (w.setCell ⟨b, i, none⟩ u) b t (cs.set i u) := by
  have hlt := lt_of_block h
  have h' : w.heap[b] = .cells cs.toArray t (0, 0) := by simpa [Blk, Array.getElem?_eq_getElem hlt] using h
  show (w.heap.modify b _)[b]? = _
  rw [Array.getElem?_eq_getElem (by simpa using hlt), Array.getElem_modify_self, h']
  simp
theorem Blk.of_block (h : Blk w b t cs) (hb : w'.heap[b]? = w.heap[b]?) : Blk w' b t cs := hb.trans h
theorem Blk.below {B : Nat} (h : Blk w b t cs) (hb : Below B w w') (hB : b < B) : Blk w' b t cs := h.of_block (hb.block b hB)
theorem Blk.alloc (h : Blk w b t cs) (o : Obj) : Blk (w.alloc o) b t cs := h.of_block (Below.heap_alloc _ _ _ h.lt)
theorem Blk.drew (h : Blk w b t cs) : Blk w.drew b t cs := h
theorem Blk.drewN (h : Blk w b t cs) (n : Nat) : Blk (w.drewN n) b t cs := h
theorem Blk.other (h : Blk w b t cs) (a : Addr) (u : Value) (ha : a.block ≠ b) : Blk (w.setCell a u) b t cs := h.of_block (Below.heap_setCell _ _ _ _ (Ne.symm ha))
theorem Blk.turned {S : Nat → Prop} (h : Blk w b t cs) (ht : Turned S w w') (hs : ¬ S b) : Blk w' b t cs := h.of_block (ht.block b h.lt hs)
theorem Blk.row (h : Blk w b t cs) (ds : List Value) : Blk (w.setRow b ds.toArray) b t ds := by
  have hlt := lt_of_block h
  have h' : w.heap[b] = .cells cs.toArray t (0, 0) := by simpa [Blk, Array.getElem?_eq_getElem hlt] using h
  show (w.heap.modify b _)[b]? = _
  rw [Array.getElem?_eq_getElem (by simpa using hlt), Array.getElem_modify_self, h']
theorem Blk.row_other (h : Blk w b t cs) (g : Nat) (ds : Array Value) (hg : g ≠ b) : Blk (w.setRow g ds) b t cs := by
  refine h.of_block ?_
  show (w.heap.modify g _)[b]? = _
  rw [Array.getElem?_modify, if_neg hg]
/-- The whole of such an array as a slice. -/
theorem Blk.sl (h : Blk w b t cs) (n : Nat) (hn : n = cs.length) (hm : n ≤ maxLen) : Sl w 1 (.slice (some ⟨b, 0, none⟩) n n) n cs := by
  subst hn
  refine ⟨_, _, rfl, by simp, Nat.le_refl _, hm, fun h => (by cases h), ?_⟩
  intro j u hu
  refine ⟨b, 0, rfl, ?_⟩
  rw [Nat.zero_add]; exact h.cell hu
end
theorem below_setRow {B : Nat} {w w' : World} (h : Below B w w') (g : Nat) (hg : B ≤ g) (ds : Array Value) : Below B w (w'.setRow g ds) :=
  ⟨h.os, h.tape, h.output, Nat.le_trans h.size (by simp [World.setRow]), fun k hk => by
    refine Eq.trans ?_ (h.block k hk)
    show (w'.heap.modify g _)[k]? = _
    rw [Array.getElem?_modify, if_neg (by omega)]⟩

/-- One element of an owned row of one-cell elements is stored. -/
theorem ownsRow_set {w : World} {base : Nat} {e : TypeId} {g n cap : Nat} {xs : List Value} (h : w.ownsRow base e 1 (.slice (some ⟨g, 0, none⟩) n cap) n xs) (i : Nat) (_ : i < n) (u : Value) :
    (w.setCell ⟨g, i, none⟩ u).ownsRow base e 1 (.slice (some ⟨g, 0, none⟩) n cap) n (xs.set i u) := by
  obtain ⟨h1, h2⟩ := h
  rcases h2 with ⟨he, _⟩ | ⟨g', cap', cur, he, hb, hg, hnc, hcm, hcs, ht⟩
  · cases he
  · cases he
    refine ⟨by simpa using h1, .inr ⟨g, cap, cur.setIfInBounds i u, rfl, hb, ?_, hnc, hcm, by simpa using hcs, ?_⟩⟩
    · have hlt := lt_of_block hg
      have h' : w.heap[g] = .cells cur e (0, 0) := by simpa [Array.getElem?_eq_getElem hlt] using hg
      show (w.heap.modify g _)[g]? = _
      rw [Array.getElem?_eq_getElem (by simpa using hlt), Array.getElem_modify_self, h']
      simp
    · rw [← ht, Array.toList_setIfInBounds, List.take_set]
theorem ownsRow_cell {w : World} {base : Nat} {e : TypeId} {g n cap : Nat} {xs : List Value} (h : w.ownsRow base e 1 (.slice (some ⟨g, 0, none⟩) n cap) n xs) {i : Nat} {u : Value} (hi : xs[i]? = some u) : w.cell? ⟨g, i, none⟩ = some u := by
  have := h.cells (g := g) rfl i u hi
  rwa [add_none, Nat.zero_add] at this
theorem ownsRow_free {w : World} {base : Nat} {e : TypeId} {g n cap : Nat} {xs : List Value} (h : w.ownsRow base e 1 (.slice (some ⟨g, 0, none⟩) n cap) n xs) (i : Nat) : w.frozen? ⟨g, i, none⟩ = false := by
  obtain ⟨h1, h2⟩ := h
  rcases h2 with ⟨he, _⟩ | ⟨g', cap', cur, he, hb, hg, _⟩
  · cases he
  · cases he
    simp [World.frozen?, hg]
end Go.Th

/-
  What of the memory that a call has made is known: its blocks, one by one; whole rows of them read, written, made.
-/
namespace Go.Th
open Go Go.RowKit

/-- What of the memory made since w0 is known. -/
structure Mem (w0 w : World) (bs : List (Nat × TypeId × List Value)) : Prop where
  below : Below w0.heap.size w0 w
  nodup : (bs.map (·.1)).Nodup
  old : ∀ e ∈ bs, w0.heap.size ≤ e.1
  blk : ∀ e ∈ bs, Blk w e.1 e.2.1 e.2.2

/-- One block's cells are turned. -/
inductive Upd : List (Nat × TypeId × List Value) → Nat → TypeId → List Value → List Value → List (Nat × TypeId × List Value) → Prop where
  | head (g t cs cs' r) : Upd ((g, t, cs) :: r) g t cs cs' ((g, t, cs') :: r)
  | tail (e r g t cs cs' r') (h : Upd r g t cs cs' r') : Upd (e :: r) g t cs cs' (e :: r')

/-- A block among them. -/
inductive Has : List (Nat × TypeId × List Value) → Nat → TypeId → List Value → Prop where
  | head (g t cs r) : Has ((g, t, cs) :: r) g t cs
  | tail (e r g t cs) (h : Has r g t cs) : Has (e :: r) g t cs

theorem Has.mem {bs g t cs} (h : Has bs g t cs) : (g, t, cs) ∈ bs := by
  induction h with
  | head => exact .head _
  | tail _ _ _ _ _ _ ih => exact .tail _ ih
theorem Upd.has {bs g t cs cs' bs'} (h : Upd bs g t cs cs' bs') : Has bs g t cs := by
  induction h with
  | head => exact .head _ _ _ _
  | tail _ _ _ _ _ _ _ _ ih => exact .tail _ _ _ _ _ ih
theorem Upd.keys {bs g t cs cs' bs'} (h : Upd bs g t cs cs' bs') : bs'.map (·.1) = bs.map (·.1) := by
  induction h with
  | head => rfl
  | tail _ _ _ _ _ _ _ _ ih => simp [ih]
theorem Upd.mem {bs g t cs cs' bs'} (h : Upd bs g t cs cs' bs') (hn : (bs.map (·.1)).Nodup) : ∀ e ∈ bs', e = (g, t, cs') ∨ (e ∈ bs ∧ e.1 ≠ g) := by
  induction h with
  | head g t cs cs' r =>
    intro e he
    rcases List.mem_cons.1 he with rfl | he
    · exact .inl rfl
    · refine .inr ⟨.tail _ he, ?_⟩
      simp only [List.map_cons, List.nodup_cons] at hn
      intro h
      exact hn.1 (List.mem_map.2 ⟨e, he, h⟩)
  | tail e0 r g t cs cs' r' h ih =>
    intro e he
    simp only [List.map_cons, List.nodup_cons] at hn
    rcases List.mem_cons.1 he with rfl | he
    · refine .inr ⟨.head _, ?_⟩
      intro h'
      have := h.has.mem
      exact hn.1 (List.mem_map.2 ⟨_, this, h'.symm⟩)
    · rcases ih hn.2 e he with h' | ⟨h1, h2⟩
      · exact .inl h'
      · exact .inr ⟨.tail _ h1, h2⟩

section
variable {w0 w w' : World} {bs bs' : List (Nat × TypeId × List Value)} {g : Nat} {t : TypeId} {cs cs' : List Value}
theorem Mem.start (w : World) : Mem w w [] := ⟨Below.refl _ _, List.nodup_nil, by simp, by simp⟩
theorem Mem.has (M : Mem w0 w bs) (h : Has bs g t cs) : Blk w g t cs := M.blk _ h.mem
theorem Mem.from (M : Mem w0 w bs) (h : Has bs g t cs) : w0.heap.size ≤ g := M.old _ h.mem
theorem Mem.lt (M : Mem w0 w bs) (h : Has bs g t cs) : g < w.heap.size := (M.has h).lt
theorem Mem.alloc (M : Mem w0 w bs) (t : TypeId) (cs : List Value) : Mem w0 (w.alloc (.cells cs.toArray t)) ((w.heap.size, t, cs) :: bs) where
  below := M.below.alloc M.below.size _
  nodup := by
    simp only [List.map_cons, List.nodup_cons]
    refine ⟨fun h => ?_, M.nodup⟩
    obtain ⟨e, he, h'⟩ := List.mem_map.1 h
    have := (M.blk e he).lt
    omega
  old := by
    intro e he
    rcases List.mem_cons.1 he with rfl | he
    · exact M.below.size
    · exact M.old e he
  blk := by
    intro e he
    rcases List.mem_cons.1 he with rfl | he
    · exact Blk.new _ _ _
    · exact (M.blk e he).alloc _
theorem Mem.call (M : Mem w0 w bs) (h : Below w.heap.size w w') : Mem w0 w' bs :=
  ⟨M.below.trans (h.mono M.below.size), M.nodup, M.old, fun e he => (M.blk e he).below h (M.blk e he).lt⟩
theorem Mem.drew (M : Mem w0 w bs) : Mem w0 w.drew bs := ⟨M.below.drew, M.nodup, M.old, fun e he => (M.blk e he).drew⟩
theorem Mem.drewN (M : Mem w0 w bs) (n : Nat) : Mem w0 (w.drewN n) bs := ⟨below_dN M.below n, M.nodup, M.old, fun e he => (M.blk e he).drewN n⟩
theorem Mem.drop {e} (M : Mem w0 w (e :: bs)) : Mem w0 w bs := ⟨M.below, (List.nodup_cons.1 M.nodup).2, fun e he => M.old e (.tail _ he), fun e he => M.blk e (.tail _ he)⟩
theorem Mem.pick (M : Mem w0 w bs) (h : bs'.Sublist bs) : Mem w0 w bs' :=
  ⟨M.below, (h.map _).nodup M.nodup, fun e he => M.old e (h.subset he), fun e he => M.blk e (h.subset he)⟩
theorem Mem.cell (M : Mem w0 w bs) (h : Has bs g t cs) {i : Nat} {u : Value} (hi : cs[i]? = some u) : w.cell? ⟨g, i, none⟩ = some u := (M.has h).cell hi
theorem Mem.free (M : Mem w0 w bs) (h : Has bs g t cs) (i : Nat) : w.frozen? ⟨g, i, none⟩ = false := (M.has h).free i
theorem Mem.set (M : Mem w0 w bs) (i : Nat) (u : Value) (hu : Upd bs g t cs (cs.set i u) bs') (hi : i < cs.length) : Mem w0 (w.setCell ⟨g, i, none⟩ u) bs' where
  below := M.below.setCell (M.from hu.has) _
  nodup := by rw [hu.keys]; exact M.nodup
  old := by
    intro e he
    rcases hu.mem M.nodup e he with rfl | ⟨h1, _⟩
    · exact M.from hu.has
    · exact M.old e h1
  blk := by
    intro e he
    rcases hu.mem M.nodup e he with rfl | ⟨h1, h2⟩
    · exact (M.has hu.has).set i u hi
    · exact (M.blk e h1).other _ _ (Ne.symm h2)
theorem Mem.row (M : Mem w0 w bs) (hu : Upd bs g t cs cs' bs') : Mem w0 (w.setRow g cs'.toArray) bs' where
  below := below_setRow M.below g (M.from hu.has) _
  nodup := by rw [hu.keys]; exact M.nodup
  old := by
    intro e he
    rcases hu.mem M.nodup e he with rfl | ⟨h1, _⟩
    · exact M.from hu.has
    · exact M.old e h1
  blk := by
    intro e he
    rcases hu.mem M.nodup e he with rfl | ⟨h1, h2⟩
    · exact (M.has hu.has).row _
    · exact (M.blk e h1).row_other _ _ (Ne.symm h2)
end

/-! ### What a variable of a type reads as, in a block's cells; what a store makes of them -/
section
variable {P : Program}
structure Rd (P : Program) (ty : TypeId) (off : Nat) (cs : List Value) (v : Value) : Prop where
  run : ∀ (w : World) (g : Nat) (t : TypeId), Blk w g t cs → (loadVar ty ⟨g, off, none⟩).run P w = .ok v w
structure Wr (P : Program) (ty : TypeId) (off : Nat) (cs : List Value) (v : Value) (cs' : List Value) : Prop where
  run : ∀ (w : World) (g : Nat) (t : TypeId), Blk w g t cs → (storeVar ty ⟨g, off, none⟩ v).run P w = .ok () (w.setRow g cs'.toArray)

theorem isAgg_true {ty : TypeId} {d : TypeDesc} (hu : P.underlying ty = some d) (hd : (match d with | .struct _ | .array _ _ => true | _ => false) = true) (w : World) : (isAgg ty).run P w = .ok true w := by
  unfold isAgg
  rw [Sem.run_bind, run_underlying hu w]
  cases d <;> simp_all
theorem isAgg_false {ty : TypeId} {d : TypeDesc} (hu : P.underlying ty = some d) (hd : (match d with | .struct _ | .array _ _ => true | _ => false) = false) (w : World) : (isAgg ty).run P w = .ok false w := by
  unfold isAgg
  rw [Sem.run_bind, run_underlying hu w]
  cases d <;> simp_all

theorem Rd.agg {ty : TypeId} {d : TypeDesc} {off : Nat} {cs ds : List Value} (hu : P.underlying ty = some d) (hd : (match d with | .struct _ | .array _ _ => true | _ => false) = true)
    (hi : (P.info? ty).map (·.size) = some ds.length) (h : ∀ j u, ds[j]? = some u → cs[off + j]? = some u) : Rd P ty off cs (.agg ds.toArray) := by
  constructor
  intro w g t hb
  have hl : (loadCells ⟨g, off, none⟩ ds.length).run P w = .ok ds.toArray w :=
    run_loadCells_list (P := P) w ⟨g, off, none⟩ ds (fun j v hv => by rw [add_none]; exact hb.cell (h j v hv))
  cases hq : P.info? ty with
  | none => simp [hq] at hi
  | some i =>
    have hs : i.size = ds.length := by simpa [hq] using hi
    simp [loadVar, Sem.run_bind, isAgg_true hu hd w, sizeOf, typeInfo, hq, hs, hl]
theorem Rd.one {ty : TypeId} {d : TypeDesc} {off : Nat} {cs : List Value} {u : Value} (hu : P.underlying ty = some d) (hd : (match d with | .struct _ | .array _ _ => true | _ => false) = false)
    (h : cs[off]? = some u) : Rd P ty off cs u := by
  constructor
  intro w g t hb
  have hc := hb.cell h
  simp [loadVar, Sem.run_bind, isAgg_false hu hd w, hc]
theorem Wr.agg {ty : TypeId} {off : Nat} {cs ds : List Value} (hi : (P.info? ty).map (·.size) = some ds.length) (hl : off + ds.length ≤ cs.length) (h1 : ∀ u ∈ ds, u.oneCell' = true) :
    Wr P ty off cs (.agg ds.toArray) (cs.take off ++ ds ++ cs.drop (off + ds.length)) := by
  constructor
  intro w g t hb
  have hst := run_storeCells_at P g off t ds 0 cs.toArray w hb (by simpa using hl) h1
  cases hq : P.info? ty with
  | none => simp [hq] at hi
  | some i =>
    have hs : ds.length = i.size := by simp [hq] at hi; omega
    have : (storeCells ⟨g, off, none⟩ ds 0).run P w = .ok () (w.setRow g (cs.take off ++ ds ++ cs.drop (off + ds.length)).toArray) := by simpa using hst
    rw [hs] at this
    simp only [List.append_assoc] at this
    simp [storeVar, sizeOf, typeInfo, hq, Value.cells, hs, this]
theorem Wr.whole {ty : TypeId} {cs ds : List Value} (hi : (P.info? ty).map (·.size) = some ds.length) (hl : ds.length = cs.length) (h1 : ∀ u ∈ ds, u.oneCell' = true) :
    Wr P ty 0 cs (.agg ds.toArray) ds := by
  have h := Wr.agg (P := P) (off := 0) (cs := cs) hi (by omega) h1
  rw [Nat.zero_add, List.drop_of_length_le (by omega)] at h
  simpa using h
end

/-! ### Laws of the walk -/
section
variable {P : Program} {ops : Array Oper} {rest : List Oper} {o : Oper} {a : Act} {w w0 : World} {Q : Exit → Act → World → Prop} {K : Act → World → Prop} {bs bs' : List (Nat × TypeId × List Value)}
  {g off : Nat} {t ty : TypeId} {cs cs' : List Value} {v : Value} {x y : Operand}

theorem wp_ld (M : Mem w0 w bs) (ho : o.op = .load ty x) (hx : a.eval x = .pointer (some ⟨g, off, none⟩)) (hm : Has bs g t cs) (hr : Rd P ty off cs v) (h : K (a.put o.dst v) w) : o.wp P a w K Q := by
  unfold Oper.wp execOp
  simp only [ho, hx, Instr.loadAt, Instr.sureAddr, Sem.run_bind, Sem.run_pure, Result.andThen_ok, hr.run w g t (M.has hm)]
  exact h
theorem wp_st (M : Mem w0 w bs) (ho : o.op = .store ty x y) (hx : a.eval x = .pointer (some ⟨g, off, none⟩)) (hy : a.eval y = v) (hm : Has bs g t cs) (hr : Wr P ty off cs v cs') (hu : Upd bs g t cs cs' bs')
    (h : ∀ w', Mem w0 w' bs' → K (a.put o.dst undef) w') : o.wp P a w K Q := by
  unfold Oper.wp execOp
  simp only [ho, hx, hy, Instr.storeAt, Instr.sureAddr, Sem.run_bind, Sem.run_pure, Result.andThen_ok, hr.run w g t (M.has hu.has)]
  exact h _ (M.row hu)
theorem wp_al (M : Mem w0 w bs) (ho : o.op = .alloc ty) {z : Value} (hz : (P.info? ty).map (·.zero) = some (some z)) (hc : z.cells = cs.toArray)
    (h : ∀ g w', Mem w0 w' ((g, ty, cs) :: bs) → K (a.put o.dst (.pointer (some ⟨g, 0, none⟩))) w') : o.wp P a w K Q := by
  cases hq : P.info? ty with
  | none => simp [hq] at hz
  | some i =>
    have hs : i.zero = some z := by simpa [hq] using hz
    unfold Oper.wp execOp
    have hr : (Instr.alloc ty true (.tuple #[])).run P w = .ok (.pointer (some ⟨w.heap.size, 0, none⟩)) (w.alloc (.cells cs.toArray ty)) := by
      rw [← hc]
      simp [Instr.alloc, zeroValue, typeInfo, hq, hs, newVar, newRow, Value.cells, go_sem]
    simp only [ho, Sem.run_bind, hr, Result.andThen_ok]
    exact h _ _ (M.alloc _ _)
theorem wp_bx (M : Mem w0 w bs) (ho : o.op = .box ty x) (hx : a.eval x = v) (hc : v.cells = cs.toArray)
    (h : ∀ g w', Mem w0 w' ((g, ty, cs) :: bs) → K (a.put o.dst (.pointer (some ⟨g, 0, none⟩))) w') : o.wp P a w K Q := by
  unfold Oper.wp execOp
  have hr : (Instr.box ty v).run P w = .ok (.pointer (some ⟨w.heap.size, 0, none⟩)) (w.alloc (.cells cs.toArray ty)) := by
    rw [← hc]
    simp [Instr.box, newVar, newRow, Value.cells, go_sem]
  simp only [ho, hx, Sem.run_bind, hr, Result.andThen_ok]
  exact h _ _ (M.alloc _ _)
theorem wpL_ld (M : Mem w0 w bs) (hgd : o.guard = none) (ho : o.op = .load ty x) (hx : a.eval x = .pointer (some ⟨g, off, none⟩)) (hm : Has bs g t cs) (hr : Rd P ty off cs v)
    (h : wpList P ops Q rest (a.put o.dst v) w) : wpList P ops Q (o :: rest) a w := wpList_plain hgd fun _ hK => wp_ld M ho hx hm hr (hK _ _ h)
theorem wpL_ldg (M : Mem w0 w bs) (ho : o.op = .load ty x) (hx : a.eval x = .pointer (some ⟨g, off, none⟩)) (hw : Region.wanted o (yielded ops a.tmps) = true) (hm : Has bs g t cs) (hr : Rd P ty off cs v)
    (h : wpList P ops Q rest (a.put o.dst v) w) : wpList P ops Q (o :: rest) a w := wpList_step fun K hK => by
      rw [if_pos hw]
      exact wp_ld M ho hx hm hr (hK _ _ h)
theorem wpL_st (M : Mem w0 w bs) (hgd : o.guard = none) (ho : o.op = .store ty x y) (hx : a.eval x = .pointer (some ⟨g, off, none⟩)) (hy : a.eval y = v) (hm : Has bs g t cs) (hr : Wr P ty off cs v cs') (hu : Upd bs g t cs cs' bs')
    (h : ∀ w', Mem w0 w' bs' → wpList P ops Q rest (a.put o.dst undef) w') : wpList P ops Q (o :: rest) a w := wpList_plain hgd fun _ hK => wp_st M ho hx hy hm hr hu fun w' h' => hK _ _ (h w' h')
theorem wpL_al (M : Mem w0 w bs) (hgd : o.guard = none) (ho : o.op = .alloc ty) {z : Value} (hz : (P.info? ty).map (·.zero) = some (some z)) (hc : z.cells = cs.toArray)
    (h : ∀ g w', Mem w0 w' ((g, ty, cs) :: bs) → wpList P ops Q rest (a.put o.dst (.pointer (some ⟨g, 0, none⟩))) w') : wpList P ops Q (o :: rest) a w :=
  wpList_plain hgd fun _ hK => wp_al M ho hz hc fun g' w' h' => hK _ _ (h g' w' h')
theorem wpL_bx (M : Mem w0 w bs) (hgd : o.guard = none) (ho : o.op = .box ty x) (hx : a.eval x = v) (hc : v.cells = cs.toArray)
    (h : ∀ g w', Mem w0 w' ((g, ty, cs) :: bs) → wpList P ops Q rest (a.put o.dst (.pointer (some ⟨g, 0, none⟩))) w') : wpList P ops Q (o :: rest) a w :=
  wpList_plain hgd fun _ hK => wp_bx M ho hx hc fun g' w' h' => hK _ _ (h g' w' h')
/-- In a region that draws its order. -/
theorem yi_ld {S : World → Prop} (hS : ∀ w, S w → ∃ w0, Mem w0 w bs) (hw : Region.wanted o (yielded ops a.tmps) = true) (ho : o.op = .load ty x) (hx : a.eval x = .pointer (some ⟨g, off, none⟩)) (hm : Has bs g t cs) (hr : Rd P ty off cs v) :
    YieldsIf P ops S o v a := .inl ⟨hw, fun w hw' => by
      obtain ⟨w0, M⟩ := hS w hw'
      unfold execOp
      simp only [ho, hx, Instr.loadAt, Instr.sureAddr, Sem.run_bind, Sem.run_pure, Result.andThen_ok, hr.run w g t (M.has hm)]⟩

/-- Results that lie in variables. -/
theorem res_cell {fn : Func} {p : Tmp} (h : fn.results = #[.cell p ty]) (M : Mem w0 w bs) {tmps : Array Value} (hp : tmps.getD p undef = .pointer (some ⟨g, off, none⟩)) (hm : Has bs g t cs) (hr : Rd P ty off cs v) : (results fn tmps).run P w = .ok v w := by
  have hp' : tmps[p]?.getD undef = .pointer (some ⟨g, off, none⟩) := by simpa using hp
  simp [results, h, hp', asAddr, hr.run w g t (M.has hm)]
theorem res_cell_tmp {fn : Func} {p q : Tmp} (h : fn.results = #[.cell p ty, .tmp q]) (M : Mem w0 w bs) {tmps : Array Value} (hp : tmps.getD p undef = .pointer (some ⟨g, off, none⟩)) (hm : Has bs g t cs) (hr : Rd P ty off cs v) {u : Value} (hq : tmps.getD q undef = u) :
    (results fn tmps).run P w = .ok (.tuple #[v, u]) w := by
  have hp' : tmps[p]?.getD undef = .pointer (some ⟨g, off, none⟩) := by simpa using hp
  have hq' : tmps[q]?.getD undef = u := by simpa using hq
  simp [results, h, hp', hq', asAddr, hr.run w g t (M.has hm)]
end
end Go.Th

/-
  Blocks, variables, stores: found by instances, so that a walk's arms are short.
-/
namespace Go.Th
open Go Go.RowKit

/-- A block among them. -/
class HsI (bs : List (Nat × TypeId × List Value)) (g : Nat) (t : outParam TypeId) (cs : outParam (List Value)) : Prop where
  has : Has bs g t cs
instance hsHead (g : Nat) (t : TypeId) (cs : List Value) (r : List (Nat × TypeId × List Value)) : HsI ((g, t, cs) :: r) g t cs := ⟨.head _ _ _ _⟩
instance (priority := low) hsTail (e : Nat × TypeId × List Value) (r : List (Nat × TypeId × List Value)) (g : Nat) (t : TypeId) (cs : List Value) [h : HsI r g t cs] : HsI (e :: r) g t cs := ⟨.tail _ _ _ _ _ h.has⟩
/-- One block's cells turned. -/
class UpI (bs : List (Nat × TypeId × List Value)) (g : Nat) (t : TypeId) (cs cs' : List Value) (bs' : outParam (List (Nat × TypeId × List Value))) : Prop where
  upd : Upd bs g t cs cs' bs'
instance upHead (g : Nat) (t : TypeId) (cs cs' : List Value) (r : List (Nat × TypeId × List Value)) : UpI ((g, t, cs) :: r) g t cs cs' ((g, t, cs') :: r) := ⟨.head _ _ _ _ _⟩
instance (priority := low) upTail (e : Nat × TypeId × List Value) (r r' : List (Nat × TypeId × List Value)) (g : Nat) (t : TypeId) (cs cs' : List Value) [h : UpI r g t cs cs' r'] : UpI (e :: r) g t cs cs' (e :: r') := ⟨.tail _ _ _ _ _ _ _ h.upd⟩
/-- A cell of a row. -/
class ElI (cs : List Value) (i : Nat) (u : outParam Value) : Prop where
  at_ : cs[i]? = some u
instance elHead (u : Value) (r : List Value) : ElI (u :: r) 0 u := ⟨rfl⟩
instance elTail (v u : Value) (r : List Value) (i : Nat) [h : ElI r i u] : ElI (v :: r) (i + 1) u := ⟨by rw [List.getElem?_cons_succ]; exact h.at_⟩
/-- A type of one cell. -/
class BsI (P : Program) (ty : TypeId) : Prop where
  one : ∀ {off : Nat} {cs : List Value} {u : Value}, cs[off]? = some u → Rd P ty off cs u
/-- A variable that reads so. -/
class RdI (P : Program) (ty : TypeId) (off : Nat) (cs : List Value) (v : outParam Value) : Prop where
  rd : Rd P ty off cs v
instance (priority := low) rdBase (P : Program) (ty : TypeId) (off : Nat) (cs : List Value) (u : Value) [b : BsI P ty] [e : ElI cs off u] : RdI P ty off cs u :=
  ⟨b.one e.at_⟩
/-- How many cells a type has; how many these are, each of them one. -/
class SzI (P : Program) (ty : TypeId) (k : outParam Nat) : Prop where
  sz : (P.info? ty).map (·.size) = some k
class LnI (cs : List Value) (k : outParam Nat) : Prop where
  ln : cs.length = k
instance lnNil : LnI [] 0 := ⟨rfl⟩
instance lnCons (u : Value) (r : List Value) (k : Nat) [h : LnI r k] : LnI (u :: r) (k + 1) := ⟨by rw [List.length_cons, h.ln]⟩
class OcI (cs : List Value) : Prop where
  oc : ∀ u ∈ cs, u.oneCell' = true
instance ocNil : OcI [] := ⟨by simp⟩
instance ocInt (k : IntKind) (n : Int) (r : List Value) [h : OcI r] : OcI (.int k n :: r) := ⟨fun u hu => by rcases List.mem_cons.1 hu with rfl | hu; rfl; exact h.oc u hu⟩
instance ocBool (b : Bool) (r : List Value) [h : OcI r] : OcI (.bool b :: r) := ⟨fun u hu => by rcases List.mem_cons.1 hu with rfl | hu; rfl; exact h.oc u hu⟩
instance ocSlice (a : Option Addr) (n cap : Nat) (r : List Value) [h : OcI r] : OcI (.slice a n cap :: r) := ⟨fun u hu => by rcases List.mem_cons.1 hu with rfl | hu; rfl; exact h.oc u hu⟩
/-- One cell of a row turned. -/
class StI (cs : List Value) (i : Nat) (v : Value) (cs' : outParam (List Value)) : Prop where
  st : cs.set i v = cs'
  lt : i < cs.length
instance stHead (u v : Value) (r : List Value) : StI (u :: r) 0 v (v :: r) := ⟨rfl, by simp⟩
instance stTail (u v : Value) (r r' : List Value) (i : Nat) [h : StI r i v r'] : StI (u :: r) (i + 1) v (u :: r') := ⟨by rw [List.set_cons_succ, h.st], by have := h.lt; simp; omega⟩
/-- A type's zero. -/
class ZrI (P : Program) (ty : TypeId) (z : outParam Value) (cs : outParam (List Value)) : Prop where
  zr : (P.info? ty).map (·.zero) = some (some z)
  cl : z.cells = cs.toArray

section
variable {P : Program} {w w0 : World} {bs bs' : List (Nat × TypeId × List Value)} {g off : Nat} {t ty : TypeId} {cs cs' : List Value} {v : Value} {ops : Array Oper} {rest : List Oper} {o : Oper} {a : Act} {Q : Exit → Act → World → Prop} {x y : Operand}
theorem wpL_ldc (M : Mem w0 w bs) (hgd : o.guard = none) (ho : o.op = .load ty x) (hx : a.eval x = .pointer (some ⟨g, off, none⟩)) (h : wpList P ops Q rest (a.put o.dst v) w) [hm : HsI bs g t cs] [hr : RdI P ty off cs v] : wpList P ops Q (o :: rest) a w := wpL_ld M hgd ho hx hm.has hr.rd h
theorem wpL_lgc (M : Mem w0 w bs) (ho : o.op = .load ty x) (hx : a.eval x = .pointer (some ⟨g, off, none⟩)) (hw : Region.wanted o (yielded ops a.tmps) = true) (h : wpList P ops Q rest (a.put o.dst v) w) [hm : HsI bs g t cs] [hr : RdI P ty off cs v] : wpList P ops Q (o :: rest) a w := wpL_ldg M ho hx hw hm.has hr.rd h
theorem wpL_stc {ds : List Value} {k k' : Nat} (M : Mem w0 w bs) (hgd : o.guard = none) (ho : o.op = .store ty x y) (hx : a.eval x = .pointer (some ⟨g, 0, none⟩)) (hy : a.eval y = .agg ds.toArray) (h : ∀ w', Mem w0 w' bs' → wpList P ops Q rest (a.put o.dst undef) w')
    [hm : HsI bs g t cs] [hs : SzI P ty k] [hl : LnI cs k] [hd : LnI ds k'] [hc : OcI ds] [hu : UpI bs g t cs ds bs'] (hk : k' = k := by rfl) : wpList P ops Q (o :: rest) a w :=
  wpL_st M hgd ho hx hy hm.has (Wr.whole (by rw [hs.sz, hd.ln, hk]) (by rw [hd.ln, hl.ln, hk]) hc.oc) hu.upd h
theorem wr_cell1 {u : Value} {i : Nat} (hs : (P.info? ty).map (·.size) = some 1) (hi : cs[i]? = some u) (hv : v.cells = #[v]) (hst : ∀ (w : World) (g : Nat), w.cell? ⟨g, i, none⟩ = some u → w.frozen? ⟨g, i, none⟩ = false → (storeCells ⟨g, i, none⟩ [v] 0).run P w = .ok () (w.setCell ⟨g, i, none⟩ v)) (he : cs.set i v = cs') : Wr P ty i cs v cs' := by
  constructor
  intro w g t hb
  have hc := hb.cell hi
  have hf := hb.free i
  have e : w.setCell ⟨g, i, none⟩ v = w.setRow g cs'.toArray := by
    rw [setCell_eq_setRow w g i _ t (0, 0) _ hb]
    congr 1
    simp [← he]
  cases hq : P.info? ty with
  | none => simp [hq] at hs
  | some j =>
    have hz : j.size = 1 := by simpa [hq] using hs
    rw [← e]
    simp [storeVar, sizeOf, typeInfo, hq, hz, hv, hst w g hc hf]
theorem store_int (k : IntKind) (n : Int) (u : Value) (w : World) (g i : Nat) (hc : w.cell? ⟨g, i, none⟩ = some u) (hf : w.frozen? ⟨g, i, none⟩ = false) : (storeCells ⟨g, i, none⟩ [.int k n] 0).run P w = .ok () (w.setCell ⟨g, i, none⟩ (.int k n)) := by
  have hst := run_store P w ⟨g, i, none⟩ (.int k n) .plain rfl
  rw [hc] at hst
  simp only [hf, Bool.false_eq_true, if_false] at hst
  simp [storeCells, hst, add_none]
theorem wpL_sti {kd : IntKind} {n : Int} (M : Mem w0 w bs) (hgd : o.guard = none) (ho : o.op = .store ty x y) (hx : a.eval x = .pointer (some ⟨g, off, none⟩)) (hy : a.eval y = .int kd n) (h : ∀ w', Mem w0 w' bs' → wpList P ops Q rest (a.put o.dst undef) w')
    [hm : HsI bs g t cs] [hs : SzI P ty 1] [he : StI cs off (.int kd n) cs'] [hu : UpI bs g t cs cs' bs'] : wpList P ops Q (o :: rest) a w :=
  wpL_st M hgd ho hx hy hm.has (wr_cell1 hs.sz (List.getElem?_eq_getElem he.lt) rfl (fun w g hc hf => store_int kd n _ w g off hc hf) he.st) hu.upd h
theorem wpL_alc {z : Value} (M : Mem w0 w bs) (hgd : o.guard = none) (ho : o.op = .alloc ty) (h : ∀ g w', Mem w0 w' ((g, ty, cs) :: bs) → wpList P ops Q rest (a.put o.dst (.pointer (some ⟨g, 0, none⟩))) w') [hz : ZrI P ty z cs] : wpList P ops Q (o :: rest) a w := wpL_al M hgd ho hz.zr hz.cl h
theorem wpL_sth (M : Mem w0 w bs) (hgd : o.guard = none) (ho : o.op = .store ty x y) (hx : a.eval x = .pointer (some ⟨g, off, none⟩)) (hy : a.eval y = v) (hr : Wr P ty off cs v cs') (h : ∀ w', Mem w0 w' bs' → wpList P ops Q rest (a.put o.dst undef) w') [hm : HsI bs g t cs] [hu : UpI bs g t cs cs' bs'] : wpList P ops Q (o :: rest) a w := wpL_st M hgd ho hx hy hm.has hr hu.upd h
end
/-! ### One operation of a region that draws, taken first -/
theorem puts : (∀ (l : List Value) (i : Nat) (a : Value), l.toArray.setIfInBounds i a = (l.set i a).toArray) ∧ (∀ (a b : Value) (l : List Value), (b :: l).set 0 a = a :: l) ∧ (∀ (a b : Value) (l : List Value) (n : Nat), (b :: l).set (n + 1) a = b :: l.set n a) ∧
    (∀ (l : List Oper) (i : Nat) (h : i < l.toArray.size), l.toArray[i] = l[i]'(by simpa using h)) ∧ (∀ (a : Oper) (l : List Oper) (h : 0 < (a :: l).length), (a :: l)[0] = a) ∧ (∀ (a : Oper) (l : List Oper) (i : Nat) (h : i + 1 < (a :: l).length), (a :: l)[i + 1] = l[i]'(by simpa using h)) :=
  ⟨fun _ _ _ => List.setIfInBounds_toArray .., fun _ _ _ => List.set_cons_zero .., fun _ _ _ _ => List.set_cons_succ .., fun _ _ _ => List.getElem_toArray .., fun _ _ _ => List.getElem_cons_zero .., fun _ _ _ _ => List.getElem_cons_succ ..⟩
section
variable {P : Program} {md : Region.Mode} {ops : Array Oper} {Q : Exit → Act → World → Prop} {S : World → Prop} {fuel : Nat} {listed : Array Bool} {a : Act} {w : World} {oi : Oper}
theorem tkT (i : Nat) (v : Value) (hy : ∀ w', S w' → (execOp a.eval oi).run P w' = .ok (.value v) w') (hS : S w) (h : wpAnyH P md ops Q S fuel (listed.setIfInBounds i true) (a.put oi.dst v) w)
    (hi : ops[i]? = some oi := by exact rfl) (hw : Region.wanted oi (yielded ops a.tmps) = true := by rfl) (hs : Region.noSelect ops = true := by kernel_rfl) (hf : Region.free md ops listed i = true := by kernel_rfl) (hr : (Region.ready md ops listed).contains i = true := by kernel_rfl)
    (hQ : ∀ c a w, Q (.panic c) (a.put oi.dst v) w → Q (.panic c) a w := by exact fun _ _ _ h => h) : wpAnyH P md ops Q S (fuel + 1) listed a w := wpAnyH_take hi hs hf hr hQ (Or.inl ⟨hw, hy⟩) hS h
end
end Go.Th

/-
  Slices cut in the middle; copy into a row of the call's own; four results.
-/
namespace Go.Th
open Go Go.RowKit

/-- A part of a row is laid over. -/
abbrev over {α : Type} (L : List α) (off : Nat) (cs : List α) : List α := splice L off cs
theorem over_length {α : Type} (L : List α) (off : Nat) (cs : List α) (h : off + cs.length ≤ L.length) : (over L off cs).length = L.length := length_splice L off cs h
theorem take_over {α : Type} (L cs : List α) (off n : Nat) (h : off + cs.length ≤ n) (hn : n ≤ L.length) : (over L off cs).take n = over (L.take n) off cs := by
  unfold over splice
  have e1 : (L.take off).length = off := by rw [List.length_take]; omega
  rw [List.take_append, e1, List.take_of_length_le (l := L.take off) (by omega), List.take_append, List.take_of_length_le (l := cs) (by omega), List.take_take, Nat.min_eq_left (by omega : off ≤ n), List.drop_take, Nat.sub_sub]

section
variable {P : Program} {w : World} {t e : TypeId} {bytes : Nat} {a : Option Addr} {n cap : Nat} {xs : List Value}

/-- s[A:]. -/
theorem Sl.cut_off (E : ElemOf P t e 1 bytes) (h : Sl w 1 (.slice a n cap) n xs) (lo : Nat) (hk : lo ≤ n) (A : Int) (hA : A = (lo : Int)) :
    ∃ a' cap', (∀ wx, (Instr.slice t (.slice a n cap) (some (.int .i64 A)) none none).run P wx = .ok (.slice a' (n - lo) cap') wx) ∧ Sl w 1 (.slice a' (n - lo) cap') (n - lo) (xs.drop lo) ∧
      (∀ x, a' = some x → ∃ y, a = some y ∧ y.block = x.block) ∧ (∀ b o, a = some ⟨b, o, none⟩ → lo < n → a' = some ⟨b, o + lo, none⟩) := by
  obtain ⟨a', cap', h1, h2, h3⟩ := Sl.cut_from E h lo hk
  subst hA
  refine ⟨a', cap', h1, h2, h3, ?_⟩
  rintro b o rfl hl
  have hr := h1 default
  obtain ⟨i, z, hi, hz, hsize, hby, hzs⟩ := E.info
  obtain ⟨hnc, hcm⟩ := h.max
  have hb1 : (0 : Int) ≤ lo := by omega
  have hb2 : (lo : Int) ≤ n := by omega
  have hne : ¬ cap = lo := by omega
  simp [Instr.slice, run_underlying E.und, Instr.sliceBounds, run_sliceBound, hb2, sizeOf, typeInfo, hi, hsize, hne, add_none] at hr
  exact hr.1.symm

/-- copy into a row of the call's own. -/
theorem run_copy_at (E : ElemOf P t e 1 bytes) (ty : TypeId) {base g off m dcap sl scap k : Nat} {sa : Option Addr} {ys : List Value}
    (hown : w.ownsRow base e 1 (.slice (some ⟨g, 0, none⟩) n cap) n xs) (hS : Sl w 1 (.slice sa sl scap) sl ys) (hk : k = Nat.min sl m) (h0 : 0 < k) (hfit : off + k ≤ n) (h1 : ∀ u ∈ ys, u.oneCell' = true) :
    ∃ w', (Builtin.copy_ #[t, t] ty #[.slice (some ⟨g, off, none⟩) m dcap, .slice sa sl scap]).run P w = .ok (goInt k) w' ∧
      w'.ownsRow base e 1 (.slice (some ⟨g, 0, none⟩) n cap) n (over xs off (ys.take k)) ∧ Turned (fun j => j = g) w w' := by
  obtain ⟨i, z, hi, hz, hsize, hby, hzs⟩ := E.info
  obtain ⟨ho1, ho2⟩ := hown
  rcases ho2 with ⟨he, _⟩ | ⟨g', cap', cur, he, hb, hg, hnc, hcm, hcs, ht⟩
  · cases he
  · cases he
    obtain ⟨a0, c0, he2, s1, s2, s3, s4, s5⟩ := hS
    cases he2
    have hyl : k ≤ ys.length := by rw [s1, hk, Nat.mul_one]; exact Nat.min_le_left _ _
    have hkl : (ys.take k).length = k := by rw [List.length_take]; omega
    obtain ⟨b, o, rfl, _⟩ := s5 0 _ (List.getElem?_eq_getElem (by omega))
    have hr := run_copy_row P w t t ty e g off m dcap ⟨b, o, none⟩ sl scap cur e (ys.take k) E.und (by rw [hi]; simp [hsize]) hg (by rw [hkl, hk]) (by
        intro j v hv
        have hj : j < k := by have := (List.getElem?_eq_some_iff.1 hv).1; omega
        rw [List.getElem?_take, if_pos hj] at hv
        obtain ⟨b', o', e', hc⟩ := s5 j v hv
        cases e'
        rw [add_none]; exact hc) (by rw [hkl]; simp at hcs; omega) (fun v hv => h1 v (List.mem_of_mem_take hv))
    rw [hkl] at hr
    refine ⟨_, hr, ?_, ⟨rfl, rfl, rfl, by simp [World.setRow], fun j hj hs => setRow_other w g j _ hs⟩⟩
    have hcl : cur.toList.length = cap := by simpa using hcs
    refine ⟨?_, .inr ⟨g, cap, _, rfl, hb, setRow_heap w g _ _ e _ hg, hnc, hcm, ?_, ?_⟩⟩
    · rw [over_length _ _ _ (by rw [hkl, ho1, Nat.mul_one]; exact hfit)]; exact ho1
    · simp [hkl]; omega
    · rw [Nat.mul_one] at ht ⊢
      have hx : xs = cur.toList.take n := ht.symm
      have := take_over cur.toList (ys.take k) off n (by rw [hkl]; exact hfit) (by omega)
      rw [hx, ← this]
      unfold over splice
      rw [hkl, List.append_assoc]

theorem wp_copy_at (E : ElemOf P t e 1 bytes) {o : Oper} {b : Act} {K : Act → World → Prop} {Q : Exit → Act → World → Prop} (d s : Operand)
    (ho : o.op = .call { callee := .builtin .copy, args := #[d, s], argTypes := #[t, t] }) {base g off m dcap sl scap : Nat} {sa : Option Addr} {ys : List Value} (k : Nat)
    (hd : b.eval d = .slice (some ⟨g, off, none⟩) m dcap) (hs : b.eval s = .slice sa sl scap)
    (hown : w.ownsRow base e 1 (.slice (some ⟨g, 0, none⟩) n cap) n xs) (hS : Sl w 1 (.slice sa sl scap) sl ys) (hk : k = Nat.min sl m) (h0 : 0 < k) (hfit : off + k ≤ n) (h1 : ∀ u ∈ ys, u.oneCell' = true)
    (h : ∀ w', w'.ownsRow base e 1 (.slice (some ⟨g, 0, none⟩) n cap) n (over xs off (ys.take k)) → Turned (fun j => j = g) w w' → K (b.put o.dst (goInt k)) w') : o.wp P b w K Q := by
  obtain ⟨w', hr, h2, h3⟩ := run_copy_at (dcap := dcap) E o.type hown hS hk h0 hfit h1
  have hK := h w' h2 h3
  unfold Oper.wp
  simp [execOp, ho, resolve, invoke, builtin, hd, hs, hr, Result.andThen]
  exact hK
end
end Go.Th

/-
  Bytes as slices, over the program: cloned, held against each other, as texts.
-/
namespace Go.Proofs.YtallbegibdlpaaaGreat
open Go.RowKit Go.Th

def u8s (l : List Nat) : List Value := l.map (fun x : Nat => .int .u8 (x : Int))

theorem Sl.bytes {w : World} (cs : List Nat) (t : TypeId) (n : Nat) (hn : n = cs.length) (hm : n ≤ maxLen) : Sl (w.alloc (.cells (u8s cs).toArray t)) 1 (.slice (some ⟨w.heap.size, 0, none⟩) n n) n (u8s cs) := by
  subst hn
  refine ⟨_, _, rfl, by simp [u8s], Nat.le_refl _, hm, fun h => (by cases h), ?_⟩
  intro j u hu
  refine ⟨_, _, rfl, ?_⟩
  rw [World.cell?_alloc_at _ _ _ _ rfl]
  simpa using hu

end Go.Proofs.YtallbegibdlpaaaGreat

/-
  bytes.Clone.
-/
namespace Go.Proofs.YtallbegibdlpaaaGreat
open Go.RowKit Go.Th

end Go.Proofs.YtallbegibdlpaaaGreat

/-
  The reference's Same.
-/
namespace Go.Proofs.YtallbegibdlpaaaGreat
open Go.RowKit Go.Th

end Go.Proofs.YtallbegibdlpaaaGreat

/-
  bytes.Equal.
-/
namespace Go.Proofs.YtallbegibdlpaaaGreat
open Go.RowKit Go.Th

end Go.Proofs.YtallbegibdlpaaaGreat

/-
  Bits as a row, and bytes: plain.
-/
namespace Go.Th

/-- The byte number i of a row of bits, with noughts at the end. -/
def byteAt (l : List Bool) (i : Nat) : Nat := (List.range 8).foldl (fun n k => 2 * n + (l.getD (8 * i + k) false).toNat) 0
/-- A row of bits as bytes. -/
def pack (l : List Bool) : List Nat := (List.range ((l.length + 7) / 8)).map (byteAt l)

end Go.Th

/-
  The writer of bits: what it holds, and what each of its methods does.
-/
namespace Go.Proofs.YtallbegibdlpaaaGreat
open Go.RowKit Go.Th

structure WInv (w : World) (pb po base : Nat) (v : Value) (l : List Bool) : Prop where
  c0 : w.cell? ⟨pb, po, none⟩ = some v
  c1 : w.cell? ⟨pb, po + 1, none⟩ = some (.int .i64 (l.length : Nat))
  f0 : w.frozen? ⟨pb, po, none⟩ = false
  f1 : w.frozen? ⟨pb, po + 1, none⟩ = false
  own : w.ownsRow base 5 1 v ((l.length + 7) / 8) (u8s (pack l))
  ne : v.ownBlock ≠ some pb

theorem WInv.drew {w : World} {pb po base : Nat} {v : Value} {l : List Bool} (h : WInv w pb po base v l) : WInv w.drew pb po base v l :=
  ⟨h.c0, h.c1, h.f0, h.f1, h.own, h.ne⟩

theorem WInv.lt {w : World} {pb po base : Nat} {v : Value} {l : List Bool} (h : WInv w pb po base v l) : pb < w.heap.size := by
  have := World.block_lt_of_cell? w _ h.c0
  simpa using this

/-- What a call on the writer may have turned: itself, the row of its bytes, and new blocks. -/
structure WGo (pb : Nat) (w w' : World) (v v' : Value) : Prop where
  turned : Turned (fun k => k = pb ∨ v.ownBlock = some k) w w'
  new : v'.ownBlock = v.ownBlock ∨ ∃ g, v'.ownBlock = some g ∧ w.heap.size ≤ g

theorem WGo.refl (pb : Nat) (w : World) (v : Value) : WGo pb w w v v := ⟨Turned.refl _ _, .inl rfl⟩
theorem WGo.trans {pb : Nat} {w w' w'' : World} {v v' v'' : Value} (h : WGo pb w w' v v') (k : WGo pb w' w'' v' v'') : WGo pb w w'' v v'' := by
  refine ⟨h.turned.trans k.turned ?_, ?_⟩
  · rintro j hj (rfl | h1)
    · exact .inl rfl
    · rcases h.new with e | ⟨g, e, hg⟩
      · exact .inr (e ▸ h1)
      · rw [e] at h1; cases h1; omega
  · rcases k.new with e | ⟨g, e, hg⟩
    · rw [e]; exact h.new
    · exact .inr ⟨g, e, Nat.le_trans h.turned.size hg⟩

end Go.Proofs.YtallbegibdlpaaaGreat

/-
  The reader of bits: what it holds, and what each of its methods does.
-/
namespace Go.Proofs.YtallbegibdlpaaaGreat
open Go.RowKit Go.Th

structure RInv (w : World) (pb po base : Nat) (v : Value) (bs : List Nat) (at_ : Nat) (bad : Bool) : Prop where
  c0 : w.cell? ⟨pb, po, none⟩ = some v
  c1 : w.cell? ⟨pb, po + 1, none⟩ = some (.int .i64 (at_ : Nat))
  c2 : w.cell? ⟨pb, po + 2, none⟩ = some (.bool bad)
  f0 : w.frozen? ⟨pb, po, none⟩ = false
  f1 : w.frozen? ⟨pb, po + 1, none⟩ = false
  f2 : w.frozen? ⟨pb, po + 2, none⟩ = false
  own : w.ownsRow base 5 1 v bs.length (u8s bs)
  ne : v.ownBlock ≠ some pb
  le : at_ ≤ 8 * bs.length
  small : bs.length ≤ 140737488355328
  byte : ∀ x ∈ bs, x < 256

theorem RInv.drewN {w : World} {pb po base : Nat} {v : Value} {bs : List Nat} {at_ : Nat} {bad : Bool} (n : Nat) (h : RInv w pb po base v bs at_ bad) : RInv (w.drewN n) pb po base v bs at_ bad :=
  ⟨by simpa using h.c0, by simpa using h.c1, by simpa using h.c2, by simpa using h.f0, by simpa using h.f1, by simpa using h.f2, h.own, h.ne, h.le, h.small, h.byte⟩

theorem RInv.drew {w : World} {pb po base : Nat} {v : Value} {bs : List Nat} {at_ : Nat} {bad : Bool} (h : RInv w pb po base v bs at_ bad) : RInv w.drew pb po base v bs at_ bad :=
  ⟨h.c0, h.c1, h.c2, h.f0, h.f1, h.f2, h.own, h.ne, h.le, h.small, h.byte⟩

theorem RInv.slice {w : World} {pb po base : Nat} {v : Value} {bs : List Nat} {at_ : Nat} {bad : Bool} (h : RInv w pb po base v bs at_ bad) :
    ∃ a cap, v = .slice a bs.length cap := by
  obtain ⟨a, cap, h1, _⟩ := ownsRow_slice h.own
  exact ⟨a, cap, h1⟩

end Go.Proofs.YtallbegibdlpaaaGreat

/-
  The reference's functions on bits.
-/
namespace Go.Proofs.YtallbegibdlpaaaGreat
open Go.RowKit Go.Th

end Go.Proofs.YtallbegibdlpaaaGreat

/-
  Bits of packed rows: plain.
-/
namespace Go.Th
/-! ### Bits of packed rows -/
end Go.Th

/-
  Writers and readers in later worlds.
-/
namespace Go.Th
open Go Go.RowKit
/-- What reads so in a world reads so in a later one, where its block has not been turned, if there are any elements. -/
theorem Sl.apart {w w' : World} {S : Nat → Prop} {size n cap : Nat} {a : Option Addr} {xs : List Value} (h : Sl w size (.slice a n cap) n xs) (ht : Turned S w w') (hs : ∀ x, a = some x → 0 < n → ¬ S x.block) : Sl w' size (.slice a n cap) n xs := by
  obtain ⟨a0, c0, he, h2, h3, h4, h6, h5⟩ := h
  cases he
  refine ⟨a, cap, rfl, h2, h3, h4, h6, fun j u hu => ?_⟩
  obtain ⟨b, o, ha, hc⟩ := h5 j u hu
  have hl := (List.getElem?_eq_some_iff.1 hu).1
  have hn : 0 < n := by
    rcases Nat.eq_zero_or_pos n with e | e
    · rw [h2, e] at hl; simp at hl
    · exact e
  exact ⟨b, o, ha, (ht.cell (p := ⟨b, o + j, none⟩) (World.block_lt_of_cell? w _ hc) (hs ⟨b, o, none⟩ ha hn)).trans hc⟩
theorem own_cells {w : World} {base : Nat} {e : TypeId} {size n : Nat} {v : Value} {xs : List Value} (h : w.ownsRow base e size v n xs) {g : Nat} (hg : v.ownBlock = some g) : ∀ o, w.heap[g]? = some o → o.isCells = true := by
  rcases h.2 with ⟨rfl, _⟩ | ⟨g', cap, cur, rfl, _, hb, _⟩
  · simp [Value.ownBlock] at hg
  · obtain rfl : g' = g := by simpa [Value.ownBlock] using hg
    intro o ho
    rw [hb] at ho; cases ho; rfl
/-- What is no cells stays, where only cells have turned. -/
theorem Turned.others {S : Nat → Prop} {w w' : World} (h : Turned S w w') (hS : ∀ k, S k → ∀ o, w.heap[k]? = some o → o.isCells = true) : KeepsOthers w w' :=
  ⟨h.size, fun k o hk ho => (h.block k (Array.getElem?_eq_some_iff.1 hk).1 (fun hs => by rw [hS k hs o hk] at ho; cases ho)).trans hk⟩
end Go.Th
namespace Go.Proofs.YtallbegibdlpaaaGreat
open Go.RowKit Go.Th

theorem WInv.below {w w' : World} {pb po base : Nat} {v : Value} {l : List Bool} (h : WInv w pb po base v l) (hb : Below w.heap.size w w') : WInv w' pb po base v l :=
  ⟨(hb.cell (p := ⟨pb, po, none⟩) h.lt).trans h.c0, (hb.cell (p := ⟨pb, po + 1, none⟩) h.lt).trans h.c1, (hb.frozen (p := ⟨pb, po, none⟩) h.lt).trans h.f0, (hb.frozen (p := ⟨pb, po + 1, none⟩) h.lt).trans h.f1, ownsRow_below h.own hb, h.ne⟩
theorem RInv.lt {w : World} {pb po base : Nat} {v : Value} {bs : List Nat} {at_ : Nat} {bad : Bool} (h : RInv w pb po base v bs at_ bad) : pb < w.heap.size := by
  have := World.block_lt_of_cell? w _ h.c0
  simpa using this
theorem RInv.below {w w' : World} {pb po base : Nat} {v : Value} {bs : List Nat} {at_ : Nat} {bad : Bool} (h : RInv w pb po base v bs at_ bad) (hb : Below w.heap.size w w') : RInv w' pb po base v bs at_ bad :=
  ⟨(hb.cell (p := ⟨pb, po, none⟩) h.lt).trans h.c0, (hb.cell (p := ⟨pb, po + 1, none⟩) h.lt).trans h.c1, (hb.cell (p := ⟨pb, po + 2, none⟩) h.lt).trans h.c2,
    (hb.frozen (p := ⟨pb, po, none⟩) h.lt).trans h.f0, (hb.frozen (p := ⟨pb, po + 1, none⟩) h.lt).trans h.f1, (hb.frozen (p := ⟨pb, po + 2, none⟩) h.lt).trans h.f2, ownsRow_below h.own hb, h.ne, h.le, h.small, h.byte⟩
theorem WInv.drewN {w : World} {pb po base : Nat} {v : Value} {l : List Bool} (h : WInv w pb po base v l) (n : Nat) : WInv (w.drewN n) pb po base v l :=
  ⟨by simpa using h.c0, by simpa using h.c1, by simpa using h.f0, by simpa using h.f1, h.own, h.ne⟩
/-- A writer over what another may have turned. -/
theorem WInv.turned {w w' : World} {S : Nat → Prop} {pb po base : Nat} {v : Value} {l : List Bool} (h : WInv w pb po base v l) (ht : Turned S w w') (hp : ¬ S pb) (hv : ∀ k, v.ownBlock = some k → ¬ S k) : WInv w' pb po base v l :=
  ⟨(ht.cell (p := ⟨pb, po, none⟩) h.lt hp).trans h.c0, (ht.cell (p := ⟨pb, po + 1, none⟩) h.lt hp).trans h.c1, (ht.frozen (p := ⟨pb, po, none⟩) h.lt hp).trans h.f0, (ht.frozen (p := ⟨pb, po + 1, none⟩) h.lt hp).trans h.f1, ht.own h.own hv, h.ne⟩
/-- A reader over what another may have turned. -/
theorem RInv.turned {w w' : World} {S : Nat → Prop} {pb po base : Nat} {v : Value} {bs : List Nat} {at_ : Nat} {bad : Bool} (h : RInv w pb po base v bs at_ bad) (ht : Turned S w w') (hp : ¬ S pb) (hv : ∀ k, v.ownBlock = some k → ¬ S k) : RInv w' pb po base v bs at_ bad :=
  ⟨(ht.cell (p := ⟨pb, po, none⟩) h.lt hp).trans h.c0, (ht.cell (p := ⟨pb, po + 1, none⟩) h.lt hp).trans h.c1, (ht.cell (p := ⟨pb, po + 2, none⟩) h.lt hp).trans h.c2,
    (ht.frozen (p := ⟨pb, po, none⟩) h.lt hp).trans h.f0, (ht.frozen (p := ⟨pb, po + 1, none⟩) h.lt hp).trans h.f1, (ht.frozen (p := ⟨pb, po + 2, none⟩) h.lt hp).trans h.f2, ht.own h.own hv, h.ne, h.le, h.small, h.byte⟩
/-- A block that is no cells may turn under a writer. -/
theorem WInv.other {w w' : World} {pb po base : Nat} {v : Value} {l : List Bool} {row : Option Nat} (h : WInv w pb po base v l) (hg : w.grownBy w' row) (hr : ∀ r, row = some r → ∃ o : Obj, w.heap[r]? = some o ∧ o.isCells = false) : WInv w' pb po base v l := by
  refine ⟨cell_kept h.c0 hg hr, cell_kept h.c1 hg hr, (frozen_kept h.c0 hg hr).trans h.f0, (frozen_kept h.c1 hg hr).trans h.f1, ?_, h.ne⟩
  refine h.own.kept hg ?_
  cases hv : v.ownBlock with
  | none => exact .inl rfl
  | some g =>
    refine .inr fun e => ?_
    obtain ⟨o, ho, hc⟩ := hr g e.symm
    rw [own_cells h.own hv o ho] at hc; cases hc
end Go.Proofs.YtallbegibdlpaaaGreat

/-
  What a call answers, whatever the world is; a number of 128 bits as a value.
-/
namespace Go.Proofs.YtallbegibdlpaaaGreat
open Go Go.RowKit Go.Th

/-- What a call answers, whatever the world is. -/
abbrev Ans (f : Nat) (args : Array Value) (v : Value) : Prop := ∀ w : World, Calls Tryz.prog f args w fun e w' => e = .returned v ∧ Below w.heap.size w w'
abbrev wv (h l : Int) : Value := .agg #[.int .i64 h, .int .u64 l]
end Go.Proofs.YtallbegibdlpaaaGreat

/-
  A region that draws its order, whose last stores hit cells that it has read: what holds of the world is kept as long as one operation (the first of these stores) has not come up.
-/
namespace Go.Th
open Go

section
variable {P : Program} {ops : Array Oper} {Q : Exit → Act → World → Prop} {md : Region.Mode} {S : World → Prop} {n : Nat}

/-- Whatever order is picked from here on, and S holds behind each operation as long as number n has not come up. -/
def wpAnyN (P : Program) (md : Region.Mode) (ops : Array Oper) (Q : Exit → Act → World → Prop) (S : World → Prop) (n : Nat) : Nat → Array Bool → Act → World → Prop
  | 0, listed, a, w => Region.ready md ops listed = [] ∧ Q .normal a w
  | fuel + 1, listed, a, w =>
    (Region.ready md ops listed = [] → Q .normal a w) ∧
    ∀ i ∈ Region.ready md ops listed, wpOp P ops Q i (fun a' w' => ((listed.setIfInBounds i true).getD n true = false → S w') ∧ wpAnyN P md ops Q S n fuel (listed.setIfInBounds i true) a' w') a w

theorem wpAny_of_N : ∀ (fuel : Nat) (listed : Array Bool) (a : Act) (w : World), wpAnyN P md ops Q S n fuel listed a w → wpAny P md ops Q fuel listed a w
  | 0, _, _, _, h => h
  | fuel + 1, _, _, _, h => ⟨h.1, fun i hi => wpOp_mono (fun a' w' h' => wpAny_of_N fuel _ a' w' h'.2) (h.2 i hi)⟩

theorem wpAnyN_first {i : Nat} {oi : Oper} {v : Value} (hi : ops[i]? = some oi) (hsel : ∀ (j : Nat) (o : Oper) cs b, ops[j]? = some o → o.op ≠ .select cs b)
    (hQ : ∀ c a w, Q (.panic c) (a.put oi.dst v) w → Q (.panic c) a w) (hin : i ≠ n) (hn : ∀ o, ops[n]? = some o → ∃ e ∈ o.after, Region.binds md e = true ∧ e.on = i) :
    ∀ (fuel : Nat) (listed : Array Bool) (a : Act) (w : World),
      (∀ j oj, ops[j]? = some oj → j ≠ i → listed.getD j true = false → (∀ e ∈ oj.after, Region.binds md e = true → e.on ≠ i) → oi.apart ops oj = true) →
      i ∈ Region.ready md ops listed → YieldsIf P ops S oi v a → S w → listed.getD n true = false →
      wpAnyN P md ops Q S n fuel (listed.setIfInBounds i true) (a.put oi.dst v) w → wpAnyN P md ops Q S n (fuel + 1) listed a w := by
  intro fuel
  induction fuel with
  | zero =>
    intro listed a w _ hr hy hS hl H
    refine ⟨fun h => (by rw [h] at hr; cases hr), fun j hj => ?_⟩
    by_cases hji : j = i
    · subst hji; exact hy.wpOp hi hS ⟨fun _ => hS, H⟩
    · have := ready_mono hj hji
      rw [H.1] at this
      cases this
  | succ fuel ih =>
    intro listed a w hfree hr hy hS hl H
    refine ⟨fun h => (by rw [h] at hr; cases hr), fun j hj => ?_⟩
    by_cases hji : j = i
    · subst hji; exact hy.wpOp hi hS ⟨fun _ => hS, H⟩
    · have h1 := H.2 j (ready_mono hj hji)
      obtain ⟨hjun, oj, hoj, hall⟩ := mem_ready.1 hj
      have hnot : ∀ e ∈ oj.after, Region.binds md e = true → e.on ≠ i := fun e he hb heq => by
        have h1 := hall e he hb
        have h0 := (mem_ready.1 hr).1
        rw [heq] at h1
        rcases Nat.lt_or_ge i listed.size with h' | h'
        · simp [h'] at h0 h1; rw [h0] at h1; cases h1
        · simp [Array.getElem?_eq_none h'] at h1
      have hjn : j ≠ n := by
        rintro rfl
        obtain ⟨e, he, hb, heq⟩ := hn oj hoj
        exact hnot e he hb heq
      have h2 := wpOp_putIf hoj (hfree j oj hoj hji hjun hnot) (fun cs b => hsel i oi cs b hi) (fun cs b => hsel j oj cs b hoj) hQ hy h1
      have hfree' : ∀ k ok, ops[k]? = some ok → k ≠ i → (listed.setIfInBounds j true).getD k true = false →
          (∀ e ∈ ok.after, Region.binds md e = true → e.on ≠ i) → oi.apart ops ok = true := fun k ok hk hki hun hno => by
        refine hfree k ok hk hki ?_ hno
        by_cases hjk : j = k
        · subst hjk; exact hjun
        · rw [getD_set_ne true hjk] at hun; exact hun
      refine wpOp_mono (fun a' w' h3 => ?_) h2
      have hS' : S w' := h3.2.1 (by rw [getD_set_ne true hjn, getD_set_ne true hin]; exact hl)
      refine ⟨fun _ => hS', ih (listed.setIfInBounds j true) a' w' hfree' (ready_mono hr (Ne.symm hji)) h3.1 hS' (by rw [getD_set_ne true hjn]; exact hl) ?_⟩
      rw [Array.setIfInBounds_comm _ _ hji]
      exact h3.2.2

/-- What yields in whatever world is taken first, whether number n has come up or not. -/
theorem wpAnyN_firstY {i : Nat} {oi : Oper} {v : Value} (hi : ops[i]? = some oi) (hsel : ∀ (j : Nat) (o : Oper) cs b, ops[j]? = some o → o.op ≠ .select cs b)
    (hQ : ∀ c a w, Q (.panic c) (a.put oi.dst v) w → Q (.panic c) a w) (hin : i ≠ n) :
    ∀ (fuel : Nat) (listed : Array Bool) (a : Act) (w : World),
      (∀ j oj, ops[j]? = some oj → j ≠ i → listed.getD j true = false → (∀ e ∈ oj.after, Region.binds md e = true → e.on ≠ i) → oi.apart ops oj = true) →
      i ∈ Region.ready md ops listed → YieldsIf P ops (fun _ => True) oi v a → (listed.getD n true = false → S w) →
      wpAnyN P md ops Q S n fuel (listed.setIfInBounds i true) (a.put oi.dst v) w → wpAnyN P md ops Q S n (fuel + 1) listed a w := by
  intro fuel
  induction fuel with
  | zero =>
    intro listed a w _ hr hy hS H
    refine ⟨fun h => (by rw [h] at hr; cases hr), fun j hj => ?_⟩
    by_cases hji : j = i
    · subst hji; exact hy.wpOp hi trivial ⟨fun h => hS (by rw [getD_set_ne true hin] at h; exact h), H⟩
    · have := ready_mono hj hji
      rw [H.1] at this
      cases this
  | succ fuel ih =>
    intro listed a w hfree hr hy hS H
    refine ⟨fun h => (by rw [h] at hr; cases hr), fun j hj => ?_⟩
    by_cases hji : j = i
    · subst hji; exact hy.wpOp hi trivial ⟨fun h => hS (by rw [getD_set_ne true hin] at h; exact h), H⟩
    · have h1 := H.2 j (ready_mono hj hji)
      obtain ⟨hjun, oj, hoj, hall⟩ := mem_ready.1 hj
      have hnot : ∀ e ∈ oj.after, Region.binds md e = true → e.on ≠ i := fun e he hb heq => by
        have h1 := hall e he hb
        have h0 := (mem_ready.1 hr).1
        rw [heq] at h1
        rcases Nat.lt_or_ge i listed.size with h' | h'
        · simp [h'] at h0 h1; rw [h0] at h1; cases h1
        · simp [Array.getElem?_eq_none h'] at h1
      have h2 := wpOp_putIf hoj (hfree j oj hoj hji hjun hnot) (fun cs b => hsel i oi cs b hi) (fun cs b => hsel j oj cs b hoj) hQ hy h1
      have hfree' : ∀ k ok, ops[k]? = some ok → k ≠ i → (listed.setIfInBounds j true).getD k true = false →
          (∀ e ∈ ok.after, Region.binds md e = true → e.on ≠ i) → oi.apart ops ok = true := fun k ok hk hki hun hno => by
        refine hfree k ok hk hki ?_ hno
        by_cases hjk : j = k
        · subst hjk; exact hjun
        · rw [getD_set_ne true hjk] at hun; exact hun
      refine wpOp_mono (fun a' w' h3 => ?_) h2
      have hS' : (listed.setIfInBounds j true).getD n true = false → S w' := fun h => h3.2.1 (by rw [Array.setIfInBounds_comm _ _ (Ne.symm hji), getD_set_ne true hin]; exact h)
      refine ⟨hS', ih (listed.setIfInBounds j true) a' w' hfree' (ready_mono hr (Ne.symm hji)) h3.1 hS' ?_⟩
      rw [Array.setIfInBounds_comm _ _ hji]
      exact h3.2.2
theorem wpAnyN_takeY {i : Nat} {oi : Oper} {v : Value} {fuel : Nat} {listed : Array Bool} {a : Act} {w : World} (hi : ops[i]? = some oi)
    (hs : Region.noSelect ops = true) (hf : Region.free md ops listed i = true) (hr : (Region.ready md ops listed).contains i = true)
    (hQ : ∀ c a w, Q (.panic c) (a.put oi.dst v) w → Q (.panic c) a w) (hin : (i == n) = false) (hy : YieldsIf P ops (fun _ => True) oi v a) (hS : listed.getD n true = false → S w)
    (h : wpAnyN P md ops Q S n fuel (listed.setIfInBounds i true) (a.put oi.dst v) w) : wpAnyN P md ops Q S n (fuel + 1) listed a w :=
  wpAnyN_firstY hi (Region.noSelect_spec hs) hQ (by simpa using hin) fuel listed a w (Region.free_spec hi hf) (by simpa using hr) hy hS h

/-- Whether number n waits for number i. -/
def waits (md : Region.Mode) (ops : Array Oper) (n i : Nat) : Bool :=
  match ops[n]? with
  | some o => o.after.any fun e => Region.binds md e && e.on == i
  | none => true
theorem waits_spec {i : Nat} (h : waits md ops n i = true) : ∀ o, ops[n]? = some o → ∃ e ∈ o.after, Region.binds md e = true ∧ e.on = i := by
  intro o ho
  unfold waits at h
  rw [ho] at h
  obtain ⟨k, hk, he⟩ := Array.any_eq_true.1 h
  simp only [Bool.and_eq_true, beq_iff_eq] at he
  exact ⟨o.after[k], Array.getElem_mem hk, he.1, he.2⟩

theorem wpAnyN_take {i : Nat} {oi : Oper} {v : Value} {fuel : Nat} {listed : Array Bool} {a : Act} {w : World} (hi : ops[i]? = some oi)
    (hs : Region.noSelect ops = true) (hf : Region.free md ops listed i = true) (hr : (Region.ready md ops listed).contains i = true)
    (hQ : ∀ c a w, Q (.panic c) (a.put oi.dst v) w → Q (.panic c) a w) (hin : (i == n) = false) (hw : waits md ops n i = true) (hl : listed.getD n true = false) (hy : YieldsIf P ops S oi v a) (hS : S w)
    (h : wpAnyN P md ops Q S n fuel (listed.setIfInBounds i true) (a.put oi.dst v) w) : wpAnyN P md ops Q S n (fuel + 1) listed a w :=
  wpAnyN_first hi (Region.noSelect_spec hs) hQ (by simpa using hin) (waits_spec hw) fuel listed a w (Region.free_spec hi hf) (by simpa using hr) hy hS hl h

theorem wpAnyN_done {listed : Array Bool} {a : Act} {w : World} (hr : Region.ready md ops listed = []) (h : Q .normal a w) :
    ∀ fuel, wpAnyN P md ops Q S n fuel listed a w
  | 0 => ⟨hr, h⟩
  | _ + 1 => ⟨fun _ => h, by rw [hr]; simp⟩

/-- Each of these comes up next. -/
def AllReadyN (P : Program) (md : Region.Mode) (ops : Array Oper) (Q : Exit → Act → World → Prop) (S : World → Prop) (n : Nat) (fuel : Nat) (listed : Array Bool) (a : Act) (w : World) (rs : List Nat) : Prop :=
  ∀ i ∈ rs, wpOp P ops Q i (fun a' w' => ((listed.setIfInBounds i true).getD n true = false → S w') ∧ wpAnyN P md ops Q S n fuel (listed.setIfInBounds i true) a' w') a w
theorem AllReadyN.nil {fuel : Nat} {listed : Array Bool} {a : Act} {w : World} : AllReadyN P md ops Q S n fuel listed a w [] := fun _ h => by cases h
theorem AllReadyN.cons {fuel : Nat} {listed : Array Bool} {a : Act} {w : World} {i : Nat} {o : Oper} {rs : List Nat} (ho : ops[i]? = some o)
    (h : ∀ K' : Act → World → Prop, Shut (∀ a w, ((listed.setIfInBounds i true).getD n true = false → S w) → wpAnyN P md ops Q S n fuel (listed.setIfInBounds i true) a w → K' a w) → if Region.wanted o (yielded ops a.tmps) = true then Oper.wp P o a w K' Q else K' (a.put o.dst undef) w)
    (hs : AllReadyN P md ops Q S n fuel listed a w rs) : AllReadyN P md ops Q S n fuel listed a w (i :: rs) := fun j hj => by
  rcases List.mem_cons.1 hj with rfl | hj
  · exact wpOp_step ho (fun K' hK => h K' (fun a w hS hW => hK a w ⟨hS, hW⟩))
  · exact hs j hj
theorem wpAnyN_ready {rs : List Nat} {fuel : Nat} {listed : Array Bool} {a : Act} {w : World} (hr : Region.ready md ops listed = rs) (hne : rs ≠ [])
    (h : AllReadyN P md ops Q S n fuel listed a w rs) : wpAnyN P md ops Q S n (fuel + 1) listed a w :=
  ⟨fun h0 => absurd (hr ▸ h0) hne, hr ▸ h⟩
theorem wp_region_N_drew {id : Nat} {a : Act} {w : World} (n : Nat) (hm : P.follows .mixedOrders = true)
    (h : wpAnyN P .any ops Q S n ops.size (Array.replicate ops.size false) a w.drew) : (Code.region id ops true).wp P Q a w :=
  wp_region_any hm (wpAny_of_N _ _ _ _ h)
end
end Go.Th

/-
  For ranges over a function that makes memory: blocks that lie as they lay; a frame by a name; no way out by a panic.
-/
namespace Go.Proofs.YtallbegibdlpaaaGreat
open Go Go.RowKit Go.Th

/-- These blocks lie as they lay. -/
def KeptF (K : Nat → Prop) (W W' : World) : Prop := ∀ k, K k → W'.heap[k]? = W.heap[k]?
theorem KeptF.refl (K : Nat → Prop) (W : World) : KeptF K W W := fun _ _ => rfl
theorem KeptF.trans {K : Nat → Prop} {A B C : World} (h : KeptF K A B) (k : KeptF K B C) : KeptF K A C := fun j hj => (k j hj).trans (h j hj)
theorem KeptF.cell {K : Nat → Prop} {W W' : World} (h : KeptF K W W') {p : Addr} (hp : K p.block) : W'.cell? p = W.cell? p := World.cell?_of_block (w := W) (h p.block hp)
theorem KeptF.below {K : Nat → Prop} {W A B : World} (h : KeptF K W A) (hb : Below A.heap.size A B) (hK : ∀ k, K k → k < A.heap.size) : KeptF K W B := fun k hk => (hb.block k (hK k hk)).trans (h k hk)
theorem with_tmps {P : Program} {c : Code} {Q : Exit → Act → World → Prop} {t : Array Value} {d : _} {W : World} (h : ∀ A : Array Value, A = t → Code.wp P c Q { tmps := A, defers := d } W) : Code.wp P c Q { tmps := t, defers := d } W := h t rfl
end Go.Proofs.YtallbegibdlpaaaGreat

/-
  A region that draws its order, in a round of a range over a function: what is walked plainly serves there, at the wide fence, where no call is deferred.
-/
namespace Go.Th
open Go Go.RowKit

section
variable {P : Program} {Q : Exit → Act → World → Prop} {ops : Array Oper} {l n : Nat}
end
end Go.Th
