/-
  General words on memory, over any program: a slice that reads as a list of cells; append to a row of the call's own, whatever is appended; what a call may have turned.
-/
import Derived.WalkKit
import Derived.KernelRfl
import Derived.Deep.QuietTactic
import Derived.BigQuiet
import Derived.Lib.Hide
import Derived.WalkSpells
set_option linter.unusedVariables false
set_option linter.unusedSimpArgs false
namespace Go.Th
open Go Go.RowKit

/-- What a slice type and its elements' type are, as far as the laws ask. -/
structure ElemOf (P : Program) (t e : TypeId) (size bytes : Nat) : Prop where
  und : P.underlying t = some (.slice e)
  info : ∃ i z, P.info? e = some i ∧ i.zero = some z ∧ i.size = size ∧ i.bytes = bytes ∧ z.cells.size = size
  pos : 0 < size

theorem ElemOf.mk' {P : Program} {t e : TypeId} {size bytes : Nat} {z : Value} (h1 : P.underlying t = some (.slice e))
    (h2 : (P.info? e).map (fun i => (i.zero, i.size, i.bytes)) = some (some z, size, bytes)) (h3 : z.cells.size = size) (h4 : 0 < size) : ElemOf P t e size bytes := by
  obtain ⟨i, hi, hz0, hz1, hz2⟩ := info_parts h2
  exact ⟨h1, ⟨i, z, hi, hz0, hz1, hz2, h3⟩, h4⟩

/-- A slice value that reads as the cells xs (n elements, each of so many cells). -/
def Sl (w : World) (size : Nat) (v : Value) (n : Nat) (xs : List Value) : Prop :=
  ∃ a cap, v = .slice a n cap ∧ xs.length = n * size ∧ n ≤ cap ∧ cap ≤ maxLen ∧ (a = none → n = 0 ∧ cap = 0) ∧
    ∀ j u, xs[j]? = some u → ∃ b o, a = some ⟨b, o, none⟩ ∧ w.cell? ⟨b, o + j, none⟩ = some u

theorem ret_int {k : IntKind} {a b : Int} (h : a = b) : Ending.returned (.int k a) = .returned (.int k b) := by rw [h]
theorem ret_bool {a b : Bool} (h : a = b) : Ending.returned (.bool a) = .returned (.bool b) := by rw [h]

theorem add_none (b o j : Nat) : (⟨b, o, none⟩ : Addr).add j = ⟨b, o + j, none⟩ := by
  unfold Addr.add; split <;> simp_all

theorem Sl.nil (w : World) (size : Nat) : Sl w size (.slice none 0 0) 0 [] :=
  ⟨none, 0, rfl, by simp, Nat.le_refl _, Nat.zero_le _, fun _ => ⟨rfl, rfl⟩, by intro j u h; simp at h⟩

theorem Sl.one (w : World) (u : Value) (t : TypeId) : Sl (w.alloc (.cells #[u] t)) 1 (.slice (some ⟨w.heap.size, 0, none⟩) 1 1) 1 [u] := by
  refine ⟨_, _, rfl, rfl, Nat.le_refl _, by unfold maxLen; omega, fun h => (by cases h), ?_⟩
  intro j x h
  match j, h with
  | 0, h =>
    simp at h; subst h
    exact ⟨_, _, rfl, by rw [World.cell?_alloc_at _ _ _ _ (by simp)]; rfl⟩

theorem Sl.of_own {w : World} {base : Nat} {e : TypeId} {size : Nat} {v : Value} {n : Nat} {xs : List Value} (h : w.ownsRow base e size v n xs) : Sl w size v n xs := by
  obtain ⟨h1, h2⟩ := h
  rcases h2 with ⟨rfl, rfl⟩ | ⟨g, cap, cur, rfl, hb, hg, hnc, hcm, hcs, ht⟩
  · have : xs = [] := List.eq_nil_of_length_eq_zero (by simpa using h1)
    subst this
    exact Sl.nil _ _
  · refine ⟨_, _, rfl, h1, hnc, hcm, fun h => (by cases h), ?_⟩
    intro j u hu
    refine ⟨g, 0, rfl, ?_⟩
    have := World.ownsRow.cells (w := w) (base := base) (e := e) (size := size) (v := .slice (some ⟨g, 0, none⟩) n cap) (n := n) (xs := xs) ⟨h1, .inr ⟨g, cap, cur, rfl, hb, hg, hnc, hcm, hcs, ht⟩⟩ (g := g) rfl j u hu
    rwa [add_none] at this

/-- What reads so in a world reads so in each later one in which no block of the first has turned. -/
theorem Sl.below {w w' : World} {size n : Nat} {v : Value} {xs : List Value} (h : Sl w size v n xs) (hb : Below w.heap.size w w') : Sl w' size v n xs := by
  obtain ⟨a, cap, h1, h2, h3, h4, h6, h5⟩ := h
  refine ⟨a, cap, h1, h2, h3, h4, h6, fun j u hu => ?_⟩
  obtain ⟨b, o, ha, hc⟩ := h5 j u hu
  exact ⟨b, o, ha, (hb.cell (p := ⟨b, o + j, none⟩) (World.block_lt_of_cell? w _ hc)).trans hc⟩

theorem ownsRow_below {w w' : World} {base : Nat} {e : TypeId} {size : Nat} {v : Value} {n : Nat} {xs : List Value} (h : w.ownsRow base e size v n xs) (hb : Below w.heap.size w w') : w'.ownsRow base e size v n xs := by
  obtain ⟨h1, h2⟩ := h
  refine ⟨h1, h2.imp id ?_⟩
  rintro ⟨g, cap, cur, rfl, hg, hh, r⟩
  exact ⟨g, cap, cur, rfl, hg, (hb.block g (lt_of_block hh)).trans hh, r⟩

theorem ownsRow_base {w : World} {base base' : Nat} {e : TypeId} {size : Nat} {v : Value} {n : Nat} {xs : List Value} (h : w.ownsRow base e size v n xs) (hb : base' ≤ base) : w.ownsRow base' e size v n xs :=
  ⟨h.1, h.2.imp id fun ⟨g, cap, cur, h1, h2, h3⟩ => ⟨g, cap, cur, h1, Nat.le_trans hb h2, h3⟩⟩

/-- The value of a row of which something is owned is no nil. -/
theorem ownsRow_val {w : World} {base : Nat} {e : TypeId} {size : Nat} {v : Value} {n : Nat} {xs : List Value} (h : w.ownsRow base e size v n xs) (hn : 0 < n) :
    ∃ g cap, v = .slice (some ⟨g, 0, none⟩) n cap ∧ base ≤ g ∧ g < w.heap.size ∧ n ≤ cap ∧ cap ≤ maxLen := by
  rcases h.2 with ⟨_, h0⟩ | ⟨g, cap, cur, h1, h2, h3, h4, h5, _⟩
  · omega
  · exact ⟨g, cap, h1, h2, lt_of_block h3, h4, h5⟩

theorem ownsRow_slice {w : World} {base : Nat} {e : TypeId} {size : Nat} {v : Value} {n : Nat} {xs : List Value} (h : w.ownsRow base e size v n xs) :
    ∃ a cap, v = .slice a n cap ∧ n ≤ cap ∧ cap ≤ maxLen := by
  rcases h.2 with ⟨h1, h0⟩ | ⟨g, cap, cur, h1, h2, h3, h4, h5, _⟩
  · exact ⟨none, 0, by rw [h1, h0], by omega, Nat.zero_le _⟩
  · exact ⟨_, cap, h1, h4, h5⟩

theorem below_dN {B : Nat} {w w' : World} (h : Below B w w') (n : Nat) : Below B w (w'.drewN n) := ⟨h.os, h.tape, h.output, h.size, h.block⟩

/-- What a call may have turned: the blocks of S, and new ones. -/
structure Turned (S : Nat → Prop) (w w' : World) : Prop where
  os : w'.os = w.os
  tape : w'.tape = w.tape
  output : w'.output = w.output
  size : w.heap.size ≤ w'.heap.size
  block : ∀ k, k < w.heap.size → ¬ S k → w'.heap[k]? = w.heap[k]?

section
variable {S : Nat → Prop} {w w' w'' : World}
theorem Turned.refl (S : Nat → Prop) (w : World) : Turned S w w := ⟨rfl, rfl, rfl, Nat.le_refl _, fun _ _ _ => rfl⟩
theorem Turned.below (h : Below w.heap.size w w') : Turned S w w' := ⟨h.os, h.tape, h.output, h.size, fun k hk _ => h.block k hk⟩
theorem Turned.drew (h : Turned S w w') : Turned S w w'.drew := ⟨h.os, h.tape, h.output, h.size, h.block⟩
theorem Turned.drewN (h : Turned S w w') (n : Nat) : Turned S w (w'.drewN n) := ⟨h.os, h.tape, h.output, h.size, h.block⟩
theorem Turned.alloc (h : Turned S w w') (o : Obj) : Turned S w (w'.alloc o) :=
  ⟨h.os, h.tape, h.output, Nat.le_trans h.size (by simp), fun k hk hs => (Below.heap_alloc _ _ _ (Nat.lt_of_lt_of_le hk h.size)).trans (h.block k hk hs)⟩
theorem Turned.setCell (h : Turned S w w') {a : Addr} (ha : S a.block ∨ w.heap.size ≤ a.block) (u : Value) : Turned S w (w'.setCell a u) :=
  ⟨h.os, h.tape, h.output, Nat.le_trans h.size (by simp [World.setCell]), fun k hk hs => (Below.heap_setCell _ _ _ _ (by
    intro e; subst e; rcases ha with ha | ha
    · exact hs ha
    · omega)).trans (h.block k hk hs)⟩
theorem Turned.grown (h : Turned S w w') {row : Option Nat} (hg : w'.grownBy w'' row) (hr : ∀ k, row = some k → k < w.heap.size → S k) : Turned S w w'' :=
  ⟨hg.os.trans h.os, hg.tape.trans h.tape, hg.output.trans h.output, Nat.le_trans h.size hg.size, fun k hk hs =>
    (hg.block k (Nat.lt_of_lt_of_le hk h.size) (fun e => hs (hr k e.symm hk))).trans (h.block k hk hs)⟩
theorem Turned.trans {S' : Nat → Prop} (h : Turned S w w') (h' : Turned S' w' w'') (hs : ∀ k, k < w.heap.size → S' k → S k) : Turned S w w'' :=
  ⟨h'.os.trans h.os, h'.tape.trans h.tape, h'.output.trans h.output, Nat.le_trans h.size h'.size, fun k hk n =>
    (h'.block k (Nat.lt_of_lt_of_le hk h.size) (fun e => n (hs k hk e))).trans (h.block k hk n)⟩
theorem Turned.mono {S' : Nat → Prop} (h : Turned S w w') (hs : ∀ k, k < w.heap.size → S k → S' k) : Turned S' w w' :=
  ⟨h.os, h.tape, h.output, h.size, fun k hk n => h.block k hk (fun e => n (hs k hk e))⟩
theorem Turned.cell (h : Turned S w w') {p : Addr} (hp : p.block < w.heap.size) (hs : ¬ S p.block) : w'.cell? p = w.cell? p := World.cell?_of_block (w := w) (h.block p.block hp hs)
theorem Turned.frozen (h : Turned S w w') {p : Addr} (hp : p.block < w.heap.size) (hs : ¬ S p.block) : w'.frozen? p = w.frozen? p := World.frozen?_of_block (w := w) (h.block p.block hp hs)
/-- Where all that may be turned is new to an elder world. -/
theorem Turned.old (h : Turned S w w') {B : Nat} {w0 : World} (h0 : Below B w0 w) (hB : B ≤ w.heap.size) (hs : ∀ k, k < B → ¬ S k) : Below B w0 w' :=
  h0.trans ⟨h.os, h.tape, h.output, h.size, fun k hk => h.block k (by omega) (hs k hk)⟩
theorem Turned.own (h : Turned S w w') {base : Nat} {e : TypeId} {size : Nat} {v : Value} {n : Nat} {xs : List Value} (ho : w.ownsRow base e size v n xs) (hs : ∀ k, v.ownBlock = some k → ¬ S k) : w'.ownsRow base e size v n xs := by
  refine ⟨ho.1, ho.2.imp id ?_⟩
  rintro ⟨g, cap, cur, rfl, hg, hh, r⟩
  exact ⟨g, cap, cur, rfl, hg, (h.block g (lt_of_block hh) (hs g rfl)).trans hh, r⟩
end

theorem setCell_comm (w : World) (a b : Addr) (u v : Value) (h : a.block ≠ b.block) : (w.setCell a u).setCell b v = (w.setCell b v).setCell a u := by
  unfold World.setCell
  congr 1
  apply Array.ext
  · simp
  · intro i h1 h2
    simp only [Array.getElem_modify]
    by_cases ha : a.block = i
    · have hb : ¬ b.block = i := by omega
      simp [ha, hb]
    · simp [ha]

section
variable {P : Program}

/-- append to a row of the call's own, whatever is appended; where it lies now is where it lay, or new. -/
theorem run_app {w : World} {t e : TypeId} {size bytes : Nat} (E : ElemOf P t e size bytes) (ty : TypeId) (base : Nat)
    (v : Value) (n : Nat) (xs : List Value) (hown : w.ownsRow base e size v n xs) (vx : Value) (m : Nat) (news : List Value) (hx : Sl w size vx m news)
    (h1 : ∀ u ∈ news, u.oneCell' = true) (h63 : n + m ≤ maxLen) (hbytes : (n + m) * bytes ≤ 140737488355328) (hbase : base ≤ w.heap.size) :
    ∃ v' w', (Builtin.append_ #[t, t] ty #[v, vx]).run P w = .ok v' w' ∧ w'.ownsRow base e size v' (n + m) (xs ++ news) ∧ w.grownBy w' v.ownBlock ∧
      (v'.ownBlock = v.ownBlock ∨ ∃ g, v'.ownBlock = some g ∧ w.heap.size ≤ g) := by
  obtain ⟨i, z, hi, hz, hsize, hby, hzs⟩ := E.info
  obtain ⟨a, c, rfl, hl, hmc, hcm, _, hcell⟩ := hx
  cases a with
  | none =>
    have hnil : news = [] := by
      cases news with
      | nil => rfl
      | cons y ys => obtain ⟨b, o, h, _⟩ := hcell 0 y rfl; cases h
    subst hnil
    have hm : m = 0 := by
      rcases Nat.eq_zero_or_pos m with h | h
      · exact h
      · have := Nat.mul_pos h E.pos; simp at hl; omega
    subst hm
    have hr : (Builtin.append_ #[t, t] ty #[v, .slice none 0 c]).run P w = .ok v w := by
      obtain ⟨ho1, ho2⟩ := hown
      rcases ho2 with ⟨rfl, rfl⟩ | ⟨g, cap, cur, rfl, hb, hg, hnc, hcap, hcs, ht⟩
      · simp [Builtin.append_, run_underlying E.und, sizeOf, typeInfo, hi, Builtin.lenOf, Builtin.firstCells]
      · have h0 : n + 0 ≤ cap := by omega
        simp [Builtin.append_, run_underlying E.und, sizeOf, typeInfo, hi, Builtin.lenOf, Builtin.firstCells, hnc, storeCells]
    refine ⟨v, w, hr, by simpa using hown, ⟨rfl, rfl, rfl, Nat.le_refl _, fun _ _ _ => rfl⟩, .inl rfl⟩
  | some ad =>
    by_cases hm0 : m = 0 ∧ news = []
    · obtain ⟨rfl, rfl⟩ := hm0
      have hr : (Builtin.append_ #[t, t] ty #[v, .slice (some ad) 0 c]).run P w = .ok v w := by
        obtain ⟨ho1, ho2⟩ := hown
        rcases ho2 with ⟨rfl, rfl⟩ | ⟨g, cap, cur, rfl, hb, hg, hnc, hcap, hcs, ht⟩
        · simp [Builtin.append_, run_underlying E.und, sizeOf, typeInfo, hi, Builtin.lenOf, Builtin.firstCells, loadCells, loadCellsFrom]
        · simp [Builtin.append_, run_underlying E.und, sizeOf, typeInfo, hi, Builtin.lenOf, Builtin.firstCells, hnc, storeCells, loadCells, loadCellsFrom]
      exact ⟨v, w, hr, by simpa using hown, ⟨rfl, rfl, rfl, Nat.le_refl _, fun _ _ _ => rfl⟩, .inl rfl⟩
    · have hne : news ≠ [] := by
        intro h; subst h
        apply hm0
        refine ⟨?_, rfl⟩
        rcases Nat.eq_zero_or_pos m with h | h
        · exact h
        · have := Nat.mul_pos h E.pos; simp at hl; omega
      obtain ⟨y, ys, rfl⟩ := List.exists_cons_of_ne_nil hne
      obtain ⟨b, o, hA, _⟩ := hcell 0 y rfl
      cases hA
      have hnews : ∀ j u, (y :: ys)[j]? = some u → w.cell? ((⟨b, o, none⟩ : Addr).add j) = some u := by
        intro j u hu
        obtain ⟨b', o', hA, hc⟩ := hcell j u hu
        cases hA
        rw [add_none]; exact hc
      by_cases hroom : v.ownBlock = none ∨ True
      · obtain ⟨v', w', r1, r2, r3, _⟩ := run_append_own (P := P) w base t ty e i z size bytes E.und hi hz hsize hby hzs E.pos v n xs hown ⟨b, o, none⟩ m c (y :: ys) hl hnews h1 h63 hbytes hbase
        refine ⟨v', w', r1, r2, r3, ?_⟩
        -- where it lies: by the room
        obtain ⟨ho1, ho2⟩ := hown
        subst hsize
        rcases ho2 with ⟨rfl, rfl⟩ | ⟨g, cap, cur, rfl, hb, hg, hnc, hcap, hcs, ht⟩
        · have hr := run_append_nil (P := P) w t ty e i z E.und hi hz ⟨b, o, none⟩ m c (y :: ys) hl hnews (by
              rcases Nat.eq_zero_or_pos m with h | h
              · subst h; simp at hl
              · exact h) (by simp only [maxLen] at h63; omega) (by rw [hby]; simp only [Nat.zero_add] at hbytes; omega)
          rw [hr] at r1
          cases r1
          exact .inr ⟨_, rfl, Nat.le_refl _⟩
        · by_cases hr : n + m ≤ cap
          · have hfit : n * i.size + (y :: ys).length ≤ cur.size := by rw [hl, hcs, ← Nat.add_mul]; exact Nat.mul_le_mul_right _ hr
            have hr' := run_append_room (P := P) w t ty e i E.und hi g n cap cur hg ⟨b, o, none⟩ m c (y :: ys) hl hnews h1 hr hfit
            rw [hr'] at r1
            cases r1
            exact .inl rfl
          · have holds : ∀ j u, xs[j]? = some u → w.cell? ((⟨g, 0, none⟩ : Addr).add j) = some u :=
              World.ownsRow.cells (w := w) (base := base) (e := e) (size := i.size) (v := .slice (some ⟨g, 0, none⟩) n cap) (n := n) (xs := xs) ⟨ho1, .inr ⟨g, cap, cur, rfl, hb, hg, hnc, hcap, hcs, ht⟩⟩ (g := g) rfl
            have hr' := run_append_grow (P := P) w t ty e i z E.und hi hz ⟨g, 0, none⟩ n cap xs ho1 holds ⟨b, o, none⟩ m c (y :: ys) hl hnews (by omega) (by simp only [maxLen] at h63; omega) (growslice_fits (by omega) (by rw [hby]; exact hbytes))
            rw [hr'] at r1
            cases r1
            exact .inr ⟨_, rfl, Nat.le_refl _⟩
      · exact absurd (.inr trivial) hroom

theorem wp_app {w : World} {t e : TypeId} {size bytes : Nat} (E : ElemOf P t e size bytes) {o : Oper} {a : Act} {K : Act → World → Prop} {Q : Exit → Act → World → Prop} (s x : Operand)
    (ho : o.op = .call { callee := .builtin .append, args := #[s, x], argTypes := #[t, t] })
    (base : Nat) {v : Value} {n : Nat} {xs : List Value} (hs : a.eval s = v) (hown : w.ownsRow base e size v n xs) {vx : Value} {m : Nat} {news : List Value} (hvx : a.eval x = vx) (hx : Sl w size vx m news)
    (h1 : ∀ u ∈ news, u.oneCell' = true) (h63 : n + m ≤ maxLen) (hbytes : (n + m) * bytes ≤ 140737488355328) (hbase : base ≤ w.heap.size)
    (h : ∀ v' w', w'.ownsRow base e size v' (n + m) (xs ++ news) → w.grownBy w' v.ownBlock → (v'.ownBlock = v.ownBlock ∨ ∃ g, v'.ownBlock = some g ∧ w.heap.size ≤ g) → K (a.put o.dst v') w') : o.wp P a w K Q := by
  obtain ⟨v', w', hr, h2, h3, h4⟩ := run_app (P := P) E o.type base v n xs hown vx m news hx h1 h63 hbytes hbase
  unfold Oper.wp execOp
  simp only [ho, resolve, invoke, builtin, Sem.run_bind, Sem.run_pure, Result.andThen_ok, List.map_toArray, List.map_cons, List.map_nil, hs, hvx, hr]
  exact h v' w' h2 h3 h4

theorem wpList_app {w : World} {t e : TypeId} {size bytes : Nat} (E : ElemOf P t e size bytes) {ops : Array Oper} {rest : List Oper} {o : Oper} {a : Act} {Q : Exit → Act → World → Prop} (hgd : o.guard = none) (s x : Operand)
    (ho : o.op = .call { callee := .builtin .append, args := #[s, x], argTypes := #[t, t] })
    (base : Nat) {v : Value} {n : Nat} {xs : List Value} (hs : a.eval s = v) (hown : w.ownsRow base e size v n xs) {vx : Value} {m : Nat} {news : List Value} (hvx : a.eval x = vx) (hx : Sl w size vx m news)
    (h1 : ∀ u ∈ news, u.oneCell' = true) (h63 : n + m ≤ maxLen) (hbytes : (n + m) * bytes ≤ 140737488355328) (hbase : base ≤ w.heap.size)
    (h : ∀ v' w', w'.ownsRow base e size v' (n + m) (xs ++ news) → w.grownBy w' v.ownBlock → (v'.ownBlock = v.ownBlock ∨ ∃ g, v'.ownBlock = some g ∧ w.heap.size ≤ g) → wpList P ops Q rest (a.put o.dst v') w') : wpList P ops Q (o :: rest) a w :=
  wpList_plain hgd fun _ hK => wp_app E s x ho base hs hown hvx hx h1 h63 hbytes hbase fun v' w' h2 h3 h4 => hK _ _ (h v' w' h2 h3 h4)
end

/-- What reads so in a world reads so in a later one, where its block has not been turned. -/
theorem Sl.turned {w w' : World} {S : Nat → Prop} {size n cap : Nat} {a : Option Addr} {xs : List Value} (h : Sl w size (.slice a n cap) n xs) (ht : Turned S w w') (hs : ∀ x, a = some x → ¬ S x.block) : Sl w' size (.slice a n cap) n xs := by
  obtain ⟨a0, c0, he, h2, h3, h4, h6, h5⟩ := h
  cases he
  refine ⟨a, cap, rfl, h2, h3, h4, h6, fun j u hu => ?_⟩
  obtain ⟨b, o, ha, hc⟩ := h5 j u hu
  exact ⟨b, o, ha, (ht.cell (p := ⟨b, o + j, none⟩) (World.block_lt_of_cell? w _ hc) (hs ⟨b, o, none⟩ ha)).trans hc⟩

/-! ### Cuts of a slice of one-cell elements -/
section
variable {P : Program} {w : World} {t e : TypeId} {bytes : Nat} {a : Option Addr} {n cap : Nat} {xs : List Value}

theorem Sl.max {size : Nat} (h : Sl w size (.slice a n cap) n xs) : n ≤ cap ∧ cap ≤ 9223372036854775807 := by
  obtain ⟨a', c', he, _, h2, h3, _⟩ := h
  cases he
  unfold maxLen at h3
  exact ⟨h2, h3⟩

theorem Sl.cut_from (E : ElemOf P t e 1 bytes) (h : Sl w 1 (.slice a n cap) n xs) (k : Nat) (hk : k ≤ n) :
    ∃ a' cap', (∀ wx, (Instr.slice t (.slice a n cap) (some (.int .i64 k)) none none).run P wx = .ok (.slice a' (n - k) cap') wx) ∧ Sl w 1 (.slice a' (n - k) cap') (n - k) (xs.drop k) ∧ (∀ x, a' = some x → ∃ y, a = some y ∧ y.block = x.block) := by
  obtain ⟨i, z, hi, hz, hsize, hby, hzs⟩ := E.info
  obtain ⟨hnc, hcm⟩ := h.max
  obtain ⟨a0, c0, he, h1, h2, h3, h4, h5⟩ := h
  cases he
  refine ⟨if cap = k then a else a.map (·.add k), cap - k, fun wx => ?_, ?_, ?_⟩
  · have hb1 : (0 : Int) ≤ k := by omega
    have hb2 : (k : Int) ≤ n := by omega
    simp [Instr.slice, run_underlying E.und, Instr.sliceBounds, run_sliceBound, hb2, sizeOf, typeInfo, hi, hsize]
  · refine ⟨_, _, rfl, by simp; omega, by omega, by unfold maxLen; omega, ?_, ?_⟩
    · intro hn
      by_cases hc : cap = k
      · omega
      · rw [if_neg hc] at hn
        cases a with
        | none => have := h4 rfl; omega
        | some x => simp at hn
    · intro j u hu
      have hj : j < n - k := by
        have := (List.getElem?_eq_some_iff.1 hu).1
        simp at this; omega
      rw [List.getElem?_drop] at hu
      obtain ⟨b, o, rfl, hc⟩ := h5 (k + j) u hu
      rw [if_neg (by omega)]
      refine ⟨b, o + k, by simp [add_none], ?_⟩
      rw [Nat.add_assoc]; exact hc
  · intro x hA
    split at hA
    · exact ⟨x, hA, rfl⟩
    · cases a with
      | none => simp at hA
      | some y =>
        simp only [Option.map_some, Option.some.injEq] at hA
        refine ⟨y, rfl, ?_⟩
        rw [← hA]
        unfold Addr.add
        split <;> rfl

theorem Sl.cut_to (E : ElemOf P t e 1 bytes) (h : Sl w 1 (.slice a n cap) n xs) (k : Nat) (hk : k ≤ n) :
    (∀ wx, (Instr.slice t (.slice a n cap) none (some (.int .i64 k)) none).run P wx = .ok (.slice a k cap) wx) ∧ Sl w 1 (.slice a k cap) k (xs.take k) := by
  obtain ⟨i, z, hi, hz, hsize, hby, hzs⟩ := E.info
  obtain ⟨hnc, hcm⟩ := h.max
  obtain ⟨a0, c0, he, h1, h2, h3, h4, h5⟩ := h
  cases he
  refine ⟨fun wx => ?_, ?_⟩
  · have hb2 : (k : Int) ≤ cap := by omega
    have hb3 : k ≤ cap := by omega
    have ha : (if cap = 0 then a else a.map (·.add 0)) = a := by
      split
      · rfl
      · cases a <;> simp [Addr.add]
    simp [Instr.slice, run_underlying E.und, Instr.sliceBounds, run_sliceBound, hb3, sizeOf, typeInfo, hi]
    simpa using ha
  · refine ⟨_, _, rfl, by simp; omega, by omega, h3, fun hn => ?_, fun j u hu => ?_⟩
    · have := h4 hn; omega
    · have hj : j < k := by
        have := (List.getElem?_eq_some_iff.1 hu).1
        simp at this; omega
      rw [List.getElem?_take, if_pos hj] at hu
      exact h5 j u hu
end
end Go.Th
