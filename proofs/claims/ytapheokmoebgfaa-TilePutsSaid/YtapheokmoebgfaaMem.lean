/-
  What of the memory that a call has made is known: its blocks, one by one; whole rows of them read, written, made.
-/
import Derived.Test.YtapheokmoebgfaaBlk
import Derived.Laws.CopyRow
import Derived.Laws.StructEq
import Derived.Deep.RegionHeld3
set_option linter.unusedVariables false
set_option linter.unusedSimpArgs false
namespace Go.Th
open Go Go.RowKit

/-- What of the memory made since w0 is known. -/
structure Mem (w0 w : World) (bs : List (Nat × TypeId × List Value)) : Prop where
  below : Below w0.heap.size w0 w
  nodup : (bs.map (·.1)).Nodup
  old : ∀ e ∈ bs, w0.heap.size ≤ e.1
  blk : ∀ e ∈ bs, Blk w e.1 e.2.1 e.2.2

/-- One block's cells are turned. -/
inductive Upd : List (Nat × TypeId × List Value) → Nat → TypeId → List Value → List Value → List (Nat × TypeId × List Value) → Prop where
  | head (g t cs cs' r) : Upd ((g, t, cs) :: r) g t cs cs' ((g, t, cs') :: r)
  | tail (e r g t cs cs' r') (h : Upd r g t cs cs' r') : Upd (e :: r) g t cs cs' (e :: r')

/-- A block among them. -/
inductive Has : List (Nat × TypeId × List Value) → Nat → TypeId → List Value → Prop where
  | head (g t cs r) : Has ((g, t, cs) :: r) g t cs
  | tail (e r g t cs) (h : Has r g t cs) : Has (e :: r) g t cs

theorem Has.mem {bs g t cs} (h : Has bs g t cs) : (g, t, cs) ∈ bs := by
  induction h with
  | head => exact .head _
  | tail _ _ _ _ _ _ ih => exact .tail _ ih
theorem Upd.has {bs g t cs cs' bs'} (h : Upd bs g t cs cs' bs') : Has bs g t cs := by
  induction h with
  | head => exact .head _ _ _ _
  | tail _ _ _ _ _ _ _ _ ih => exact .tail _ _ _ _ _ ih
theorem Upd.keys {bs g t cs cs' bs'} (h : Upd bs g t cs cs' bs') : bs'.map (·.1) = bs.map (·.1) := by
  induction h with
  | head => rfl
  | tail _ _ _ _ _ _ _ _ ih => simp [ih]
theorem Upd.mem {bs g t cs cs' bs'} (h : Upd bs g t cs cs' bs') (hn : (bs.map (·.1)).Nodup) : ∀ e ∈ bs', e = (g, t, cs') ∨ (e ∈ bs ∧ e.1 ≠ g) := by
  induction h with
  | head g t cs cs' r =>
    intro e he
    rcases List.mem_cons.1 he with rfl | he
    · exact .inl rfl
    · refine .inr ⟨.tail _ he, ?_⟩
      simp only [List.map_cons, List.nodup_cons] at hn
      intro h
      exact hn.1 (List.mem_map.2 ⟨e, he, h⟩)
  | tail e0 r g t cs cs' r' h ih =>
    intro e he
    simp only [List.map_cons, List.nodup_cons] at hn
    rcases List.mem_cons.1 he with rfl | he
    · refine .inr ⟨.head _, ?_⟩
      intro h'
      have := h.has.mem
      exact hn.1 (List.mem_map.2 ⟨_, this, h'.symm⟩)
    · rcases ih hn.2 e he with h' | ⟨h1, h2⟩
      · exact .inl h'
      · exact .inr ⟨.tail _ h1, h2⟩

section
variable {w0 w w' : World} {bs bs' : List (Nat × TypeId × List Value)} {g : Nat} {t : TypeId} {cs cs' : List Value}
theorem Mem.start (w : World) : Mem w w [] := ⟨Below.refl _ _, List.nodup_nil, by simp, by simp⟩
theorem Mem.fresh (M : Mem w0 w bs) : w0.heap.size ≤ w.heap.size := M.below.size
theorem Mem.has (M : Mem w0 w bs) (h : Has bs g t cs) : Blk w g t cs := M.blk _ h.mem
theorem Mem.from (M : Mem w0 w bs) (h : Has bs g t cs) : w0.heap.size ≤ g := M.old _ h.mem
theorem Mem.lt (M : Mem w0 w bs) (h : Has bs g t cs) : g < w.heap.size := (M.has h).lt
theorem Mem.alloc (M : Mem w0 w bs) (t : TypeId) (cs : List Value) : Mem w0 (w.alloc (.cells cs.toArray t)) ((w.heap.size, t, cs) :: bs) where
  below := M.below.alloc M.below.size _
  nodup := by
    simp only [List.map_cons, List.nodup_cons]
    refine ⟨fun h => ?_, M.nodup⟩
    obtain ⟨e, he, h'⟩ := List.mem_map.1 h
    have := (M.blk e he).lt
    omega
  old := by
    intro e he
    rcases List.mem_cons.1 he with rfl | he
    · exact M.below.size
    · exact M.old e he
  blk := by
    intro e he
    rcases List.mem_cons.1 he with rfl | he
    · exact Blk.new _ _ _
    · exact (M.blk e he).alloc _
theorem Mem.call (M : Mem w0 w bs) (h : Below w.heap.size w w') : Mem w0 w' bs :=
  ⟨M.below.trans (h.mono M.below.size), M.nodup, M.old, fun e he => (M.blk e he).below h (M.blk e he).lt⟩
theorem Mem.drew (M : Mem w0 w bs) : Mem w0 w.drew bs := ⟨M.below.drew, M.nodup, M.old, fun e he => (M.blk e he).drew⟩
theorem Mem.drewN (M : Mem w0 w bs) (n : Nat) : Mem w0 (w.drewN n) bs := ⟨below_dN M.below n, M.nodup, M.old, fun e he => (M.blk e he).drewN n⟩
theorem Mem.drop {e} (M : Mem w0 w (e :: bs)) : Mem w0 w bs := ⟨M.below, (List.nodup_cons.1 M.nodup).2, fun e he => M.old e (.tail _ he), fun e he => M.blk e (.tail _ he)⟩
theorem Mem.pick (M : Mem w0 w bs) (h : bs'.Sublist bs) : Mem w0 w bs' :=
  ⟨M.below, (h.map _).nodup M.nodup, fun e he => M.old e (h.subset he), fun e he => M.blk e (h.subset he)⟩
theorem Mem.bare (M : Mem w0 w bs) : Mem w0 w [] := ⟨M.below, List.nodup_nil, by simp, by simp⟩
theorem Mem.cell (M : Mem w0 w bs) (h : Has bs g t cs) {i : Nat} {u : Value} (hi : cs[i]? = some u) : w.cell? ⟨g, i, none⟩ = some u := (M.has h).cell hi
theorem Mem.free (M : Mem w0 w bs) (h : Has bs g t cs) (i : Nat) : w.frozen? ⟨g, i, none⟩ = false := (M.has h).free i
theorem Mem.set (M : Mem w0 w bs) (i : Nat) (u : Value) (hu : Upd bs g t cs (cs.set i u) bs') (hi : i < cs.length) : Mem w0 (w.setCell ⟨g, i, none⟩ u) bs' where
  below := M.below.setCell (M.from hu.has) _
  nodup := by rw [hu.keys]; exact M.nodup
  old := by
    intro e he
    rcases hu.mem M.nodup e he with rfl | ⟨h1, _⟩
    · exact M.from hu.has
    · exact M.old e h1
  blk := by
    intro e he
    rcases hu.mem M.nodup e he with rfl | ⟨h1, h2⟩
    · exact (M.has hu.has).set i u hi
    · exact (M.blk e h1).other _ _ (Ne.symm h2)
theorem Mem.row (M : Mem w0 w bs) (hu : Upd bs g t cs cs' bs') : Mem w0 (w.setRow g cs'.toArray) bs' where
  below := below_setRow M.below g (M.from hu.has) _
  nodup := by rw [hu.keys]; exact M.nodup
  old := by
    intro e he
    rcases hu.mem M.nodup e he with rfl | ⟨h1, _⟩
    · exact M.from hu.has
    · exact M.old e h1
  blk := by
    intro e he
    rcases hu.mem M.nodup e he with rfl | ⟨h1, h2⟩
    · exact (M.has hu.has).row _
    · exact (M.blk e h1).row_other _ _ (Ne.symm h2)
end

/-! ### What a variable of a type reads as, in a block's cells; what a store makes of them -/
section
variable {P : Program}
structure Rd (P : Program) (ty : TypeId) (off : Nat) (cs : List Value) (v : Value) : Prop where
  run : ∀ (w : World) (g : Nat) (t : TypeId), Blk w g t cs → (loadVar ty ⟨g, off, none⟩).run P w = .ok v w
structure Wr (P : Program) (ty : TypeId) (off : Nat) (cs : List Value) (v : Value) (cs' : List Value) : Prop where
  run : ∀ (w : World) (g : Nat) (t : TypeId), Blk w g t cs → (storeVar ty ⟨g, off, none⟩ v).run P w = .ok () (w.setRow g cs'.toArray)

theorem isAgg_true {ty : TypeId} {d : TypeDesc} (hu : P.underlying ty = some d) (hd : (match d with | .struct _ | .array _ _ => true | _ => false) = true) (w : World) : (isAgg ty).run P w = .ok true w := by
  unfold isAgg
  rw [Sem.run_bind, run_underlying hu w]
  cases d <;> simp_all
theorem isAgg_false {ty : TypeId} {d : TypeDesc} (hu : P.underlying ty = some d) (hd : (match d with | .struct _ | .array _ _ => true | _ => false) = false) (w : World) : (isAgg ty).run P w = .ok false w := by
  unfold isAgg
  rw [Sem.run_bind, run_underlying hu w]
  cases d <;> simp_all

theorem Rd.agg {ty : TypeId} {d : TypeDesc} {off : Nat} {cs ds : List Value} (hu : P.underlying ty = some d) (hd : (match d with | .struct _ | .array _ _ => true | _ => false) = true)
    (hi : (P.info? ty).map (·.size) = some ds.length) (h : ∀ j u, ds[j]? = some u → cs[off + j]? = some u) : Rd P ty off cs (.agg ds.toArray) := by
  constructor
  intro w g t hb
  have hl : (loadCells ⟨g, off, none⟩ ds.length).run P w = .ok ds.toArray w :=
    run_loadCells_list (P := P) w ⟨g, off, none⟩ ds (fun j v hv => by rw [add_none]; exact hb.cell (h j v hv))
  cases hq : P.info? ty with
  | none => simp [hq] at hi
  | some i =>
    have hs : i.size = ds.length := by simpa [hq] using hi
    simp [loadVar, Sem.run_bind, isAgg_true hu hd w, sizeOf, typeInfo, hq, hs, hl]
theorem Rd.one {ty : TypeId} {d : TypeDesc} {off : Nat} {cs : List Value} {u : Value} (hu : P.underlying ty = some d) (hd : (match d with | .struct _ | .array _ _ => true | _ => false) = false)
    (h : cs[off]? = some u) : Rd P ty off cs u := by
  constructor
  intro w g t hb
  have hc := hb.cell h
  simp [loadVar, Sem.run_bind, isAgg_false hu hd w, hc]
theorem Wr.agg {ty : TypeId} {off : Nat} {cs ds : List Value} (hi : (P.info? ty).map (·.size) = some ds.length) (hl : off + ds.length ≤ cs.length) (h1 : ∀ u ∈ ds, u.oneCell' = true) :
    Wr P ty off cs (.agg ds.toArray) (cs.take off ++ ds ++ cs.drop (off + ds.length)) := by
  constructor
  intro w g t hb
  have hst := run_storeCells_at P g off t ds 0 cs.toArray w hb (by simpa using hl) h1
  cases hq : P.info? ty with
  | none => simp [hq] at hi
  | some i =>
    have hs : ds.length = i.size := by simp [hq] at hi; omega
    have : (storeCells ⟨g, off, none⟩ ds 0).run P w = .ok () (w.setRow g (cs.take off ++ ds ++ cs.drop (off + ds.length)).toArray) := by simpa using hst
    rw [hs] at this
    simp only [List.append_assoc] at this
    simp [storeVar, sizeOf, typeInfo, hq, Value.cells, hs, this]
theorem Wr.whole {ty : TypeId} {cs ds : List Value} (hi : (P.info? ty).map (·.size) = some ds.length) (hl : ds.length = cs.length) (h1 : ∀ u ∈ ds, u.oneCell' = true) :
    Wr P ty 0 cs (.agg ds.toArray) ds := by
  have h := Wr.agg (P := P) (off := 0) (cs := cs) hi (by omega) h1
  rw [Nat.zero_add, List.drop_of_length_le (by omega)] at h
  simpa using h
end

/-! ### Laws of the walk -/
section
variable {P : Program} {ops : Array Oper} {rest : List Oper} {o : Oper} {a : Act} {w w0 : World} {Q : Exit → Act → World → Prop} {K : Act → World → Prop} {bs bs' : List (Nat × TypeId × List Value)}
  {g off : Nat} {t ty : TypeId} {cs cs' : List Value} {v : Value} {x y : Operand}

theorem wp_ld (M : Mem w0 w bs) (ho : o.op = .load ty x) (hx : a.eval x = .pointer (some ⟨g, off, none⟩)) (hm : Has bs g t cs) (hr : Rd P ty off cs v) (h : K (a.put o.dst v) w) : o.wp P a w K Q := by
  unfold Oper.wp execOp
  simp only [ho, hx, Instr.loadAt, Instr.sureAddr, Sem.run_bind, Sem.run_pure, Result.andThen_ok, hr.run w g t (M.has hm)]
  exact h
theorem wp_st (M : Mem w0 w bs) (ho : o.op = .store ty x y) (hx : a.eval x = .pointer (some ⟨g, off, none⟩)) (hy : a.eval y = v) (hm : Has bs g t cs) (hr : Wr P ty off cs v cs') (hu : Upd bs g t cs cs' bs')
    (h : ∀ w', Mem w0 w' bs' → K (a.put o.dst undef) w') : o.wp P a w K Q := by
  unfold Oper.wp execOp
  simp only [ho, hx, hy, Instr.storeAt, Instr.sureAddr, Sem.run_bind, Sem.run_pure, Result.andThen_ok, hr.run w g t (M.has hu.has)]
  exact h _ (M.row hu)
theorem wp_al (M : Mem w0 w bs) (ho : o.op = .alloc ty) {z : Value} (hz : (P.info? ty).map (·.zero) = some (some z)) (hc : z.cells = cs.toArray)
    (h : ∀ g w', Mem w0 w' ((g, ty, cs) :: bs) → K (a.put o.dst (.pointer (some ⟨g, 0, none⟩))) w') : o.wp P a w K Q := by
  cases hq : P.info? ty with
  | none => simp [hq] at hz
  | some i =>
    have hs : i.zero = some z := by simpa [hq] using hz
    unfold Oper.wp execOp
    have hr : (Instr.alloc ty true (.tuple #[])).run P w = .ok (.pointer (some ⟨w.heap.size, 0, none⟩)) (w.alloc (.cells cs.toArray ty)) := by
      rw [← hc]
      simp [Instr.alloc, zeroValue, typeInfo, hq, hs, newVar, newRow, Value.cells, go_sem]
    simp only [ho, Sem.run_bind, hr, Result.andThen_ok]
    exact h _ _ (M.alloc _ _)
theorem wp_bx (M : Mem w0 w bs) (ho : o.op = .box ty x) (hx : a.eval x = v) (hc : v.cells = cs.toArray)
    (h : ∀ g w', Mem w0 w' ((g, ty, cs) :: bs) → K (a.put o.dst (.pointer (some ⟨g, 0, none⟩))) w') : o.wp P a w K Q := by
  unfold Oper.wp execOp
  have hr : (Instr.box ty v).run P w = .ok (.pointer (some ⟨w.heap.size, 0, none⟩)) (w.alloc (.cells cs.toArray ty)) := by
    rw [← hc]
    simp [Instr.box, newVar, newRow, Value.cells, go_sem]
  simp only [ho, hx, Sem.run_bind, hr, Result.andThen_ok]
  exact h _ _ (M.alloc _ _)
theorem wp_bd {parts : Array (Nat × Operand)} (ho : o.op = .build ty parts) (hb : P.built ty (parts.map fun (i, x) => (i, a.eval x)).toList = some cs.toArray) (h : K (a.put o.dst (.agg cs.toArray)) w) : o.wp P a w K Q := by
  refine wp_build ty parts ho (by rw [hb]; rfl) ?_
  rw [hb]
  exact h
/-- An operation whose run is known, and only reads. -/
theorem wp_bin {op : BinOp} {xt yt : TypeId} {u v r : Value} (ho : o.op = .binOp op xt x y yt) (hx : a.eval x = u) (hy : a.eval y = v) (hg : (eqGuard op xt x y u v).run P w = .ok () w) (hr : (binOp op xt u v).run P w = .ok r w)
    (h : K (a.put o.dst r) w) : o.wp P a w K Q := by
  unfold Oper.wp execOp
  simp only [ho, hx, hy, Sem.run_bind, hg, hr, Result.andThen_ok]
  exact h

theorem wpL_ld (M : Mem w0 w bs) (hgd : o.guard = none) (ho : o.op = .load ty x) (hx : a.eval x = .pointer (some ⟨g, off, none⟩)) (hm : Has bs g t cs) (hr : Rd P ty off cs v)
    (h : wpList P ops Q rest (a.put o.dst v) w) : wpList P ops Q (o :: rest) a w := wpList_plain hgd fun _ hK => wp_ld M ho hx hm hr (hK _ _ h)
theorem wpL_ldg (M : Mem w0 w bs) (ho : o.op = .load ty x) (hx : a.eval x = .pointer (some ⟨g, off, none⟩)) (hw : Region.wanted o (yielded ops a.tmps) = true) (hm : Has bs g t cs) (hr : Rd P ty off cs v)
    (h : wpList P ops Q rest (a.put o.dst v) w) : wpList P ops Q (o :: rest) a w := wpList_step fun K hK => by
      rw [if_pos hw]
      exact wp_ld M ho hx hm hr (hK _ _ h)
theorem wpL_st (M : Mem w0 w bs) (hgd : o.guard = none) (ho : o.op = .store ty x y) (hx : a.eval x = .pointer (some ⟨g, off, none⟩)) (hy : a.eval y = v) (hm : Has bs g t cs) (hr : Wr P ty off cs v cs') (hu : Upd bs g t cs cs' bs')
    (h : ∀ w', Mem w0 w' bs' → wpList P ops Q rest (a.put o.dst undef) w') : wpList P ops Q (o :: rest) a w := wpList_plain hgd fun _ hK => wp_st M ho hx hy hm hr hu fun w' h' => hK _ _ (h w' h')
theorem wpL_al (M : Mem w0 w bs) (hgd : o.guard = none) (ho : o.op = .alloc ty) {z : Value} (hz : (P.info? ty).map (·.zero) = some (some z)) (hc : z.cells = cs.toArray)
    (h : ∀ g w', Mem w0 w' ((g, ty, cs) :: bs) → wpList P ops Q rest (a.put o.dst (.pointer (some ⟨g, 0, none⟩))) w') : wpList P ops Q (o :: rest) a w :=
  wpList_plain hgd fun _ hK => wp_al M ho hz hc fun g' w' h' => hK _ _ (h g' w' h')
theorem wpL_bx (M : Mem w0 w bs) (hgd : o.guard = none) (ho : o.op = .box ty x) (hx : a.eval x = v) (hc : v.cells = cs.toArray)
    (h : ∀ g w', Mem w0 w' ((g, ty, cs) :: bs) → wpList P ops Q rest (a.put o.dst (.pointer (some ⟨g, 0, none⟩))) w') : wpList P ops Q (o :: rest) a w :=
  wpList_plain hgd fun _ hK => wp_bx M ho hx hc fun g' w' h' => hK _ _ (h g' w' h')
theorem wpL_bd {parts : Array (Nat × Operand)} (hgd : o.guard = none) (ho : o.op = .build ty parts) (hb : P.built ty (parts.map fun (i, x) => (i, a.eval x)).toList = some cs.toArray)
    (h : wpList P ops Q rest (a.put o.dst (.agg cs.toArray)) w) : wpList P ops Q (o :: rest) a w := wpList_plain hgd fun _ hK => wp_bd ho hb (hK _ _ h)
theorem wpL_bd0 (hgd : o.guard = none) (ho : o.op = .build ty #[]) (hb : P.built ty [] = some cs.toArray)
    (h : wpList P ops Q rest (a.put o.dst (.agg cs.toArray)) w) : wpList P ops Q (o :: rest) a w := wpL_bd hgd ho (by simpa using hb) h
theorem wpL_bd1 {i : Nat} (hgd : o.guard = none) (ho : o.op = .build ty #[(i, x)]) (hx : a.eval x = v) (hb : P.built ty [(i, v)] = some cs.toArray)
    (h : wpList P ops Q rest (a.put o.dst (.agg cs.toArray)) w) : wpList P ops Q (o :: rest) a w := wpL_bd hgd ho (by simpa [hx] using hb) h
theorem wpL_bd2 {i j : Nat} {u : Value} (hgd : o.guard = none) (ho : o.op = .build ty #[(i, x), (j, y)]) (hx : a.eval x = v) (hy : a.eval y = u) (hb : P.built ty [(i, v), (j, u)] = some cs.toArray)
    (h : wpList P ops Q rest (a.put o.dst (.agg cs.toArray)) w) : wpList P ops Q (o :: rest) a w := wpL_bd hgd ho (by simpa [hx, hy] using hb) h
theorem wpL_bin {op : BinOp} {xt yt : TypeId} {u v r : Value} (hgd : o.guard = none) (ho : o.op = .binOp op xt x y yt) (hx : a.eval x = u) (hy : a.eval y = v) (hg : (eqGuard op xt x y u v).run P w = .ok () w) (hr : (binOp op xt u v).run P w = .ok r w)
    (h : wpList P ops Q rest (a.put o.dst r) w) : wpList P ops Q (o :: rest) a w := wpList_plain hgd fun _ hK => wp_bin ho hx hy hg hr (hK _ _ h)

/-- In a region that draws its order. -/
theorem yi_ld {S : World → Prop} (hS : ∀ w, S w → ∃ w0, Mem w0 w bs) (hw : Region.wanted o (yielded ops a.tmps) = true) (ho : o.op = .load ty x) (hx : a.eval x = .pointer (some ⟨g, off, none⟩)) (hm : Has bs g t cs) (hr : Rd P ty off cs v) :
    YieldsIf P ops S o v a := .inl ⟨hw, fun w hw' => by
      obtain ⟨w0, M⟩ := hS w hw'
      unfold execOp
      simp only [ho, hx, Instr.loadAt, Instr.sureAddr, Sem.run_bind, Sem.run_pure, Result.andThen_ok, hr.run w g t (M.has hm)]⟩

/-- Results that lie in variables. -/
theorem res_cell {fn : Func} {p : Tmp} (h : fn.results = #[.cell p ty]) (M : Mem w0 w bs) {tmps : Array Value} (hp : tmps.getD p undef = .pointer (some ⟨g, off, none⟩)) (hm : Has bs g t cs) (hr : Rd P ty off cs v) : (results fn tmps).run P w = .ok v w := by
  have hp' : tmps[p]?.getD undef = .pointer (some ⟨g, off, none⟩) := by simpa using hp
  simp [results, h, hp', asAddr, hr.run w g t (M.has hm)]
theorem res_cell_tmp {fn : Func} {p q : Tmp} (h : fn.results = #[.cell p ty, .tmp q]) (M : Mem w0 w bs) {tmps : Array Value} (hp : tmps.getD p undef = .pointer (some ⟨g, off, none⟩)) (hm : Has bs g t cs) (hr : Rd P ty off cs v) {u : Value} (hq : tmps.getD q undef = u) :
    (results fn tmps).run P w = .ok (.tuple #[v, u]) w := by
  have hp' : tmps[p]?.getD undef = .pointer (some ⟨g, off, none⟩) := by simpa using hp
  have hq' : tmps[q]?.getD undef = u := by simpa using hq
  simp [results, h, hp', hq', asAddr, hr.run w g t (M.has hm)]
theorem res_cells {fn : Func} {p q : Tmp} {ty2 : TypeId} (h : fn.results = #[.cell p ty, .cell q ty2]) (M : Mem w0 w bs) {tmps : Array Value} (hp : tmps.getD p undef = .pointer (some ⟨g, off, none⟩)) (hm : Has bs g t cs) (hr : Rd P ty off cs v)
    {g2 off2 : Nat} {t2 : TypeId} {cs2 : List Value} {v2 : Value} (hq : tmps.getD q undef = .pointer (some ⟨g2, off2, none⟩)) (hm2 : Has bs g2 t2 cs2) (hr2 : Rd P ty2 off2 cs2 v2) : (results fn tmps).run P w = .ok (.tuple #[v, v2]) w := by
  have hp' : tmps[p]?.getD undef = .pointer (some ⟨g, off, none⟩) := by simpa using hp
  have hq' : tmps[q]?.getD undef = .pointer (some ⟨g2, off2, none⟩) := by simpa using hq
  simp [results, h, hp', hq', asAddr, hr.run w g t (M.has hm), hr2.run w g2 t2 (M.has hm2)]
end
end Go.Th
