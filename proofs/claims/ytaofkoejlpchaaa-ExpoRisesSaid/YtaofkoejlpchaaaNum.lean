/-
  The reference's numbers of 129 bits, as values; reading and writing them.
-/
import Derived.Test.YtaofkoejlpchaaaRows
import Derived.Test.YtaofkoejlpchaaaMem
import Derived.Test.YtaofkoejlpchaaaWideSpec
import Derived.ChangeKeysEq
set_option linter.unusedVariables false
set_option linter.unusedSimpArgs false
namespace Go.Proofs.Ytaofkoejlpchaaa
open Go Go.RowKit Go.Th Go.Th.Wide

def bitV (b : Nat) : Value := .int .i64 (b : Int)
def bitsC (n : Nat) : List Value := (List.range 129).map fun i => bitV (bt n i)
def numC (m : Bool) (n : Nat) : List Value := .bool m :: bitsC n
def arrV (n : Nat) : Value := .agg (bitsC n).toArray
def numV (m : Bool) (n : Nat) : Value := .agg (numC m n).toArray

theorem bitsC_len (n : Nat) : (bitsC n).length = 129 := by simp [bitsC]
theorem numC_len (m : Bool) (n : Nat) : (numC m n).length = 130 := by simp [numC, bitsC_len]
theorem bitsC_at (n : Nat) {i : Nat} (h : i < 129) : (bitsC n)[i]? = some (.int .i64 ((bt n i : Nat) : Int)) := by simp [bitsC, h, bitV]
theorem numC_at (m : Bool) (n : Nat) {i : Nat} (h : i < 129) : (numC m n)[i + 1]? = some (.int .i64 ((bt n i : Nat) : Int)) := by simp [numC, bitsC_at n h]
theorem numC_at' (m : Bool) (n : Nat) {i : Nat} (h : i < 129) : (numC m n)[1 + i]? = some (.int .i64 ((bt n i : Nat) : Int)) := by rw [Nat.add_comm]; exact numC_at m n h
theorem numC_0 (m : Bool) (n : Nat) : (numC m n)[0]? = some (.bool m) := rfl
theorem one_bits (n : Nat) : ∀ u ∈ bitsC n, u.oneCell' = true := by
  intro u hu
  obtain ⟨i, _, rfl⟩ := List.mem_map.1 hu
  rfl
theorem one_num (m : Bool) (n : Nat) : ∀ u ∈ numC m n, u.oneCell' = true := by
  intro u hu
  rcases List.mem_cons.1 hu with rfl | hu
  · rfl
  · exact one_bits n u hu
theorem bitsC_set (n n' b i : Nat) (hb : bt n' i = b) (h : ∀ j, j < 129 → j ≠ i → bt n' j = bt n j) : (bitsC n).set i (.int .i64 (b : Int)) = bitsC n' := by
  apply List.ext_getElem?
  intro j
  rw [List.getElem?_set]
  by_cases hj : i = j
  · subst hj
    by_cases hl : i < 129
    · rw [if_pos rfl, if_pos (by rw [bitsC_len]; exact hl), bitsC_at n' hl, hb]
    · rw [if_pos rfl, if_neg (by rw [bitsC_len]; exact hl), List.getElem?_eq_none (by rw [bitsC_len]; omega)]
  · rw [if_neg hj]
    by_cases hl : j < 129
    · rw [bitsC_at n hl, bitsC_at n' hl, h j hl (by omega)]
    · rw [List.getElem?_eq_none (by rw [bitsC_len]; omega), List.getElem?_eq_none (by rw [bitsC_len]; omega)]
theorem numC_set (m : Bool) (n n' b i : Nat) (hb : bt n' i = b) (h : ∀ j, j < 129 → j ≠ i → bt n' j = bt n j) : (numC m n).set (1 + i) (.int .i64 (b : Int)) = numC m n' := by
  rw [Nat.add_comm]
  show .bool m :: (bitsC n).set i _ = _
  rw [bitsC_set n n' b i hb h]; rfl
/-- One bit more. -/
theorem bits_up (N i : Nat) : (bitsC (N % 2 ^ i)).set i (.int .i64 ((bt N i : Nat) : Int)) = bitsC (N % 2 ^ (i + 1)) := by
  refine bitsC_set _ _ _ _ ?_ fun j _ hj => ?_
  · rw [bt_mod, if_pos (by omega)]
  · rw [bt_mod, bt_mod]
    by_cases h : j < i
    · rw [if_pos h, if_pos (by omega)]
    · rw [if_neg h, if_neg (by omega)]
theorem num_up (m : Bool) (N i : Nat) : (numC m (N % 2 ^ i)).set (1 + i) (.int .i64 ((bt N i : Nat) : Int)) = numC m (N % 2 ^ (i + 1)) := by
  refine numC_set _ _ _ _ _ ?_ fun j _ hj => ?_
  · rw [bt_mod, if_pos (by omega)]
  · rw [bt_mod, bt_mod]
    by_cases h : j < i
    · rw [if_pos h, if_pos (by omega)]
    · rw [if_neg h, if_neg (by omega)]
theorem num_same (m : Bool) (N i : Nat) (h : bt N i = 0) : numC m (N % 2 ^ i) = numC m (N % 2 ^ (i + 1)) := by
  rw [mod_up, h, Nat.mul_zero, Nat.add_zero]
theorem bitsC_inj {n m : Nat} (hn : n < 2 ^ 129) (hm : m < 2 ^ 129) (h : bitsC n = bitsC m) : n = m := by
  refine bt_inj hn hm fun i hi => ?_
  have h1 := bitsC_at n hi
  rw [h, bitsC_at m hi] at h1
  simp only [Option.some.injEq, Value.int.injEq, true_and] at h1
  omega

/-! ### This program's types -/
theorem size27 : (Try.prog.info? 50).map (·.size) = some 129 := by kernel_rfl
theorem size29 : (Try.prog.info? 52).map (·.size) = some 130 := by kernel_rfl
theorem zero27 : (Try.prog.info? 50).map (·.zero) = some (some (arrV 0)) := by kernel_rfl
theorem zero29 : (Try.prog.info? 52).map (·.zero) = some (some (numV false 0)) := by kernel_rfl

theorem rd_num (m : Bool) (n : Nat) : Rd Try.prog 52 0 (numC m n) (.agg (numC m n).toArray) :=
  Rd.agg Try.underlying52 rfl (by rw [numC_len]; exact size29) (fun j u h => by rw [Nat.zero_add]; exact h)
theorem rd_bits (n : Nat) : Rd Try.prog 50 0 (bitsC n) (.agg (bitsC n).toArray) :=
  Rd.agg Try.underlying50 rfl (by rw [bitsC_len]; exact size27) (fun j u h => by rw [Nat.zero_add]; exact h)
theorem rd_part (m : Bool) (n : Nat) : Rd Try.prog 50 1 (numC m n) (.agg (bitsC n).toArray) :=
  Rd.agg Try.underlying50 rfl (by rw [bitsC_len]; exact size27) (fun j u h => by rw [Nat.add_comm]; exact h)
theorem rd_minus (m : Bool) (n : Nat) : Rd Try.prog 4 0 (numC m n) (.bool m) :=
  Rd.one Try.underlying4 rfl rfl
theorem wr_num (cs : List Value) (hc : cs.length = 130) (m : Bool) (n : Nat) : Wr Try.prog 52 0 cs (.agg (numC m n).toArray) (numC m n) :=
  Wr.whole (by rw [numC_len]; exact size29) (by rw [numC_len, hc]) (one_num m n)
theorem wr_bits (cs : List Value) (hc : cs.length = 129) (n : Nat) : Wr Try.prog 50 0 cs (.agg (bitsC n).toArray) (bitsC n) :=
  Wr.whole (by rw [bitsC_len]; exact size27) (by rw [bitsC_len, hc]) (one_bits n)
theorem wr_part (m : Bool) (n n' : Nat) : Wr Try.prog 50 1 (numC m n) (.agg (bitsC n').toArray) (numC m n') := by
  have h := Wr.agg (P := Try.prog) (ty := 50) (off := 1) (cs := numC m n) (ds := bitsC n') (by rw [bitsC_len]; exact size27) (by rw [bitsC_len, numC_len]; decide) (one_bits n')
  have e : (numC m n).take 1 ++ bitsC n' ++ (numC m n).drop (1 + (bitsC n').length) = numC m n' := by
    rw [List.drop_of_length_le (by rw [bitsC_len, numC_len]; decide)]
    simp [numC]
  rw [e] at h
  exact h
theorem wr_minus (m m' : Bool) (n : Nat) : Wr Try.prog 4 0 (numC m n) (.bool m') (numC m' n) := by
  constructor
  intro w g t hb
  have hc := hb.cell (numC_0 m n)
  have hf := hb.free 0
  have e : w.setCell ⟨g, 0, none⟩ (.bool m') = w.setRow g (numC m' n).toArray := by
    rw [setCell_eq_setRow w g 0 (numC m n).toArray t (0, 0) _ hb]
    congr 1
  have hs : (Try.prog.info? 4).map (·.size) = some 1 := by kernel_rfl
  cases hq : Try.prog.info? 4 with
  | none => simp [hq] at hs
  | some i =>
    have hz : i.size = 1 := by simpa [hq] using hs
    rw [← e]
    have hst := run_store Try.prog w ⟨g, 0, none⟩ (.bool m') .plain rfl
    rw [hc] at hst
    simp only [hf, Bool.false_eq_true, if_false] at hst
    simp [storeVar, sizeOf, typeInfo, hq, hz, Value.cells, storeCells, hst, add_none]

/-! ### Built -/
theorem fill_fold (off : Nat) : ∀ (ds : List Value) (k : Nat) (cs : List Value), off + k + ds.length ≤ cs.length →
    (ds.zipIdx k).foldl (fun (cs : Array Value) (p : Value × Nat) => cs.setIfInBounds (off + p.2) p.1) cs.toArray = (cs.take (off + k) ++ ds ++ cs.drop (off + k + ds.length)).toArray
  | [], k, cs, _ => by simp
  | d :: ds, k, cs, h => by
    simp only [List.zipIdx_cons, List.foldl_cons, List.setIfInBounds_toArray]
    rw [fill_fold off ds (k + 1) (cs.set (off + k) d) (by simp at h ⊢; omega)]
    congr 1
    have e := list_seg_step cs (off + k) d ds (by simp at h ⊢; omega)
    simpa [Nat.add_assoc] using e
theorem built_fill (parts : List (Nat × Value)) : Try.prog.built 52 parts = Instr.fill (fun i => (#[(0, 1), (1, 129)] : Array (Nat × Nat))[i]?) (numC false 0).toArray parts := by kernel_rfl
theorem built_0 : Try.prog.built 52 [] = some (numC false 0).toArray := by rw [built_fill]; rfl
theorem built_1 (b : Bool) : Try.prog.built 52 [(0, .bool b)] = some (numC b 0).toArray := by cases b <;> kernel_rfl
theorem built_2 (b : Bool) (n : Nat) : Try.prog.built 52 [(0, .bool b), (1, .agg (bitsC n).toArray)] = some (numC b n).toArray := by
  have h1 := built_1 b
  rw [built_fill] at h1 ⊢
  unfold Instr.fill at h1 ⊢
  simp only [List.getElem?_toArray, List.getElem?_cons_zero] at h1 ⊢
  split at h1
  · cases h1
  · rename_i hc
    rw [if_neg hc]
    simp only [Instr.fill] at h1
    simp only [Option.some.injEq] at h1
    rw [h1]
    unfold Instr.fill
    simp only [List.getElem?_toArray, List.getElem?_cons_succ, List.getElem?_cons_zero, Value.cells, List.size_toArray, bitsC_len, numC_len, ne_eq, not_true_eq_false, decide_false, Bool.false_or, Nat.reduceAdd, gt_iff_lt, Nat.lt_irrefl, Bool.false_eq_true, if_false]
    have hf := fill_fold 1 (bitsC n) 0 (numC b 0) (by rw [bitsC_len, numC_len]; decide)
    rw [← Array.foldl_toList, Array.toList_zipIdx]
    simp only [Instr.fill]
    rw [hf, List.drop_of_length_le (by rw [bitsC_len, numC_len]; decide)]
    simp [numC]

section
variable {ops : Array Oper} {rest : List Oper} {o : Oper} {a : Act} {w : World} {Q : Exit → Act → World → Prop} {x y : Operand} {b : Bool} {n : Nat}
theorem wpN_0 (hgd : o.guard = none) (ho : o.op = .build 52 #[]) (h : wpList Try.prog ops Q rest (a.put o.dst (.agg (numC false 0).toArray)) w) : wpList Try.prog ops Q (o :: rest) a w := wpL_bd0 hgd ho built_0 h
theorem wpN_1 (hgd : o.guard = none) (ho : o.op = .build 52 #[(0, x)]) (hx : a.eval x = .bool b) (h : wpList Try.prog ops Q rest (a.put o.dst (.agg (numC b 0).toArray)) w) : wpList Try.prog ops Q (o :: rest) a w := wpL_bd1 hgd ho hx (built_1 b) h
theorem wpN_2 (hgd : o.guard = none) (ho : o.op = .build 52 #[(0, x), (1, y)]) (hx : a.eval x = .bool b) (hy : a.eval y = .agg (bitsC n).toArray) (h : wpList Try.prog ops Q rest (a.put o.dst (.agg (numC b n).toArray)) w) : wpList Try.prog ops Q (o :: rest) a w := wpL_bd2 hgd ho hx hy (built_2 b n) h
end

/-! ### Arrays compared -/
theorem eq_items (a b : Nat) (w : World) : ∀ (l : List Nat), (∀ i ∈ l, i < 129) →
    (Op.eqItems 9999 3 1 (bitsC a).toArray (bitsC b).toArray l).run Try.prog w = .ok (l.all fun i => bt a i == bt b i) w := by
  intro l
  induction l with
  | nil => intro _; simp [Op.eqItems]
  | cons i r ih =>
    intro h
    have hi := h i (by simp)
    have hr := ih (fun j hj => h j (by simp [hj]))
    have hp : ∀ n, (part 3 (bitsC n).toArray (i * 1)).run Try.prog w = .ok (.int .i64 ((bt n i : Nat) : Int)) w := by
      intro n
      unfold part
      simp only [Sem.run_bind, isAgg_false Try.underlying3 rfl w, Result.andThen_ok, Bool.false_eq_true, if_false]
      have hc : (bitsC n).toArray[i * 1]? = some (.int .i64 ((bt n i : Nat) : Int)) := by rw [Nat.mul_one, List.getElem?_toArray]; exact bitsC_at n hi
      rw [hc]
      rfl
    have he : (((bt a i : Nat) : Int) == ((bt b i : Nat) : Int)) = (bt a i == bt b i) := by
      rw [Bool.eq_iff_iff]; simp only [beq_iff_eq]; omega
    simp only [Op.eqItems, Sem.run_bind, hp, Result.andThen_ok, run_equalIn_int w 9998 3 .i64 .i64 _ _ Try.underlying3, he]
    cases hb : (bt a i == bt b i)
    · simp [hb]
    · simp only [Bool.not_true, Bool.false_eq_true, if_false, List.all_cons, hb, Bool.true_and]
      exact hr
theorem eq27 (a b : Nat) (ha : a < 2 ^ 129) (hb : b < 2 ^ 129) (w : World) : (binOp .eql 50 (.agg (bitsC a).toArray) (.agg (bitsC b).toArray)).run Try.prog w = .ok (.bool (decide (a = b))) w := by
  have hi : ∃ i, Try.prog.info? 3 = some i := by
    have : (Try.prog.info? 3).isSome = true := by kernel_rfl
    exact Option.isSome_iff_exists.1 this
  obtain ⟨i, hi⟩ := hi
  have hc : Try.prog.cellsOf 3 = 1 := by kernel_rfl
  rw [run_eql_struct, run_equalIn_array w 9999 _ _ Try.underlying50 hi, hc, eq_items a b w _ (fun j hj => List.mem_range.1 hj), Result.andThen_ok]
  congr 2
  rw [Bool.eq_iff_iff, List.all_eq_true, decide_eq_true_iff]
  constructor
  · intro h
    exact bt_inj ha hb fun j hj => eq_of_beq (h j (List.mem_range.2 hj))
  · rintro rfl j _
    exact beq_self_eq_true _
theorem wpN_eq {ops : Array Oper} {rest : List Oper} {o : Oper} {a : Act} {w : World} {Q : Exit → Act → World → Prop} {x y : Operand} {p q : Nat} {b : Bool}
    (E : ∀ w, (binOp .eql 50 (.agg (bitsC p).toArray) (.agg (bitsC q).toArray)).run Try.prog w = .ok (.bool b) w)
    (hgd : o.guard = none) (ho : o.op = .binOp .eql 50 x y 50) (hx : a.eval x = .agg (bitsC p).toArray) (hy : a.eval y = .agg (bitsC q).toArray)
    (h : wpList Try.prog ops Q rest (a.put o.dst (.bool b)) w) : wpList Try.prog ops Q (o :: rest) a w :=
  wpL_bin hgd ho hx hy (run_eqGuard_agg _ _ _ _ _ _ _ (by kernel_rfl)) (E w) h
theorem wpN_eqg {ops : Array Oper} {rest : List Oper} {o : Oper} {a : Act} {w : World} {Q : Exit → Act → World → Prop} {x y : Operand} {p q : Nat} {b : Bool}
    (E : ∀ w, (binOp .eql 50 (.agg (bitsC p).toArray) (.agg (bitsC q).toArray)).run Try.prog w = .ok (.bool b) w)
    (ho : o.op = .binOp .eql 50 x y 50) (hx : a.eval x = .agg (bitsC p).toArray) (hy : a.eval y = .agg (bitsC q).toArray) (hw : Region.wanted o (yielded ops a.tmps) = true)
    (h : wpList Try.prog ops Q rest (a.put o.dst (.bool b)) w) : wpList Try.prog ops Q (o :: rest) a w :=
  wpList_step fun K hK => by
    rw [if_pos hw]
    exact wp_bin ho hx hy (run_eqGuard_agg _ _ _ _ _ _ _ (by kernel_rfl)) (E w) (hK _ _ h)

/-- One bit read, and written. -/
theorem rd_bit (n : Nat) {i : Nat} (h : i < 129) : Rd Try.prog 3 i (bitsC n) (.int .i64 ((bt n i : Nat) : Int)) := Rd.one Try.underlying3 rfl (bitsC_at n h)
theorem wr_bit (n n' b : Nat) {i : Nat} (h : i < 129) (he : (bitsC n).set i (.int .i64 (b : Int)) = bitsC n') : Wr Try.prog 3 i (bitsC n) (.int .i64 (b : Int)) (bitsC n') := by
  constructor
  intro w g t hb
  have hc := hb.cell (bitsC_at n h)
  have hf := hb.free i
  have e : w.setCell ⟨g, i, none⟩ (.int .i64 (b : Int)) = w.setRow g (bitsC n').toArray := by
    rw [setCell_eq_setRow w g i (bitsC n).toArray t (0, 0) _ hb, ← he]
    congr 1
    simp
  have hs : (Try.prog.info? 3).map (·.size) = some 1 := by kernel_rfl
  cases hq : Try.prog.info? 3 with
  | none => simp [hq] at hs
  | some j =>
    have hz : j.size = 1 := by simpa [hq] using hs
    rw [← e]
    have hst := run_store Try.prog w ⟨g, i, none⟩ (.int .i64 (b : Int)) .plain rfl
    rw [hc] at hst
    simp only [hf, Bool.false_eq_true, if_false] at hst
    simp [storeVar, sizeOf, typeInfo, hq, hz, Value.cells, storeCells, hst, add_none]
end Go.Proofs.Ytaofkoejlpchaaa
