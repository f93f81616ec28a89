/-
  Texts in one: Num, RefA, RefB, RefC, RefD, RefE, RefF, RefG, RefH, RefI.
-/
import Derived.Test.YtbjhbbiahmhdeaaRows
import Derived.Test.YtbjhbbiahmhdeaaPackBits
import Derived.Test.YtbjhbbiahmhdeaaPackWide
import Derived.ChangeKeysEq
import Derived.Outline
set_option linter.unusedVariables false
set_option linter.unusedSimpArgs false

/-
  The reference's numbers of 129 bits, as values; reading and writing them.
-/
namespace Go.Proofs.Ytbjhbbiahmhdeaa
open Go Go.RowKit Go.Th Go.Th.Wide

def bitV (b : Nat) : Value := .int .i64 (b : Int)
def bitsC (n : Nat) : List Value := (List.range 129).map fun i => bitV (bt n i)
def numC (m : Bool) (n : Nat) : List Value := .bool m :: bitsC n
def arrV (n : Nat) : Value := .agg (bitsC n).toArray
def numV (m : Bool) (n : Nat) : Value := .agg (numC m n).toArray

theorem bitsC_len (n : Nat) : (bitsC n).length = 129 := by simp [bitsC]
theorem numC_len (m : Bool) (n : Nat) : (numC m n).length = 130 := by simp [numC, bitsC_len]
theorem bitsC_at (n : Nat) {i : Nat} (h : i < 129) : (bitsC n)[i]? = some (.int .i64 ((bt n i : Nat) : Int)) := by simp [bitsC, h, bitV]
theorem numC_at (m : Bool) (n : Nat) {i : Nat} (h : i < 129) : (numC m n)[i + 1]? = some (.int .i64 ((bt n i : Nat) : Int)) := by simp [numC, bitsC_at n h]
theorem numC_at' (m : Bool) (n : Nat) {i : Nat} (h : i < 129) : (numC m n)[1 + i]? = some (.int .i64 ((bt n i : Nat) : Int)) := by rw [Nat.add_comm]; exact numC_at m n h
theorem numC_0 (m : Bool) (n : Nat) : (numC m n)[0]? = some (.bool m) := rfl
theorem one_bits (n : Nat) : ∀ u ∈ bitsC n, u.oneCell' = true := by
  intro u hu
  obtain ⟨i, _, rfl⟩ := List.mem_map.1 hu
  rfl
theorem one_num (m : Bool) (n : Nat) : ∀ u ∈ numC m n, u.oneCell' = true := by
  intro u hu
  rcases List.mem_cons.1 hu with rfl | hu
  · rfl
  · exact one_bits n u hu
theorem bitsC_set (n n' b i : Nat) (hb : bt n' i = b) (h : ∀ j, j < 129 → j ≠ i → bt n' j = bt n j) : (bitsC n).set i (.int .i64 (b : Int)) = bitsC n' := by
  apply List.ext_getElem?
  intro j
  rw [List.getElem?_set]
  by_cases hj : i = j
  · subst hj
    by_cases hl : i < 129
    · rw [if_pos rfl, if_pos (by rw [bitsC_len]; exact hl), bitsC_at n' hl, hb]
    · rw [if_pos rfl, if_neg (by rw [bitsC_len]; exact hl), List.getElem?_eq_none (by rw [bitsC_len]; omega)]
  · rw [if_neg hj]
    by_cases hl : j < 129
    · rw [bitsC_at n hl, bitsC_at n' hl, h j hl (by omega)]
    · rw [List.getElem?_eq_none (by rw [bitsC_len]; omega), List.getElem?_eq_none (by rw [bitsC_len]; omega)]
theorem numC_set (m : Bool) (n n' b i : Nat) (hb : bt n' i = b) (h : ∀ j, j < 129 → j ≠ i → bt n' j = bt n j) : (numC m n).set (1 + i) (.int .i64 (b : Int)) = numC m n' := by
  rw [Nat.add_comm]
  show .bool m :: (bitsC n).set i _ = _
  rw [bitsC_set n n' b i hb h]; rfl
/-- One bit more. -/
theorem bits_up (N i : Nat) : (bitsC (N % 2 ^ i)).set i (.int .i64 ((bt N i : Nat) : Int)) = bitsC (N % 2 ^ (i + 1)) := by
  refine bitsC_set _ _ _ _ ?_ fun j _ hj => ?_
  · rw [bt_mod, if_pos (by omega)]
  · rw [bt_mod, bt_mod]
    by_cases h : j < i
    · rw [if_pos h, if_pos (by omega)]
    · rw [if_neg h, if_neg (by omega)]
theorem num_up (m : Bool) (N i : Nat) : (numC m (N % 2 ^ i)).set (1 + i) (.int .i64 ((bt N i : Nat) : Int)) = numC m (N % 2 ^ (i + 1)) := by
  refine numC_set _ _ _ _ _ ?_ fun j _ hj => ?_
  · rw [bt_mod, if_pos (by omega)]
  · rw [bt_mod, bt_mod]
    by_cases h : j < i
    · rw [if_pos h, if_pos (by omega)]
    · rw [if_neg h, if_neg (by omega)]
theorem num_same (m : Bool) (N i : Nat) (h : bt N i = 0) : numC m (N % 2 ^ i) = numC m (N % 2 ^ (i + 1)) := by
  rw [mod_up, h, Nat.mul_zero, Nat.add_zero]
theorem bitsC_inj {n m : Nat} (hn : n < 2 ^ 129) (hm : m < 2 ^ 129) (h : bitsC n = bitsC m) : n = m := by
  refine bt_inj hn hm fun i hi => ?_
  have h1 := bitsC_at n hi
  rw [h, bitsC_at m hi] at h1
  simp only [Option.some.injEq, Value.int.injEq, true_and] at h1
  omega

/-! ### This program's types -/
theorem size27 : (Try.prog.info? 45).map (·.size) = some 129 := by kernel_rfl
theorem size29 : (Try.prog.info? 47).map (·.size) = some 130 := by kernel_rfl
theorem zero27 : (Try.prog.info? 45).map (·.zero) = some (some (arrV 0)) := by kernel_rfl
theorem zero29 : (Try.prog.info? 47).map (·.zero) = some (some (numV false 0)) := by kernel_rfl

theorem rd_num (m : Bool) (n : Nat) : Rd Try.prog 47 0 (numC m n) (.agg (numC m n).toArray) :=
  Rd.agg Try.underlying47 rfl (by rw [numC_len]; exact size29) (fun j u h => by rw [Nat.zero_add]; exact h)
theorem rd_bits (n : Nat) : Rd Try.prog 45 0 (bitsC n) (.agg (bitsC n).toArray) :=
  Rd.agg Try.underlying45 rfl (by rw [bitsC_len]; exact size27) (fun j u h => by rw [Nat.zero_add]; exact h)
theorem rd_part (m : Bool) (n : Nat) : Rd Try.prog 45 1 (numC m n) (.agg (bitsC n).toArray) :=
  Rd.agg Try.underlying45 rfl (by rw [bitsC_len]; exact size27) (fun j u h => by rw [Nat.add_comm]; exact h)
theorem rd_minus (m : Bool) (n : Nat) : Rd Try.prog 4 0 (numC m n) (.bool m) :=
  Rd.one Try.underlying4 rfl rfl
theorem wr_num (cs : List Value) (hc : cs.length = 130) (m : Bool) (n : Nat) : Wr Try.prog 47 0 cs (.agg (numC m n).toArray) (numC m n) :=
  Wr.whole (by rw [numC_len]; exact size29) (by rw [numC_len, hc]) (one_num m n)
theorem wr_bits (cs : List Value) (hc : cs.length = 129) (n : Nat) : Wr Try.prog 45 0 cs (.agg (bitsC n).toArray) (bitsC n) :=
  Wr.whole (by rw [bitsC_len]; exact size27) (by rw [bitsC_len, hc]) (one_bits n)
theorem wr_part (m : Bool) (n n' : Nat) : Wr Try.prog 45 1 (numC m n) (.agg (bitsC n').toArray) (numC m n') := by
  have h := Wr.agg (P := Try.prog) (ty := 45) (off := 1) (cs := numC m n) (ds := bitsC n') (by rw [bitsC_len]; exact size27) (by rw [bitsC_len, numC_len]; decide) (one_bits n')
  have e : (numC m n).take 1 ++ bitsC n' ++ (numC m n).drop (1 + (bitsC n').length) = numC m n' := by
    rw [List.drop_of_length_le (by rw [bitsC_len, numC_len]; decide)]
    simp [numC]
  rw [e] at h
  exact h
theorem wr_minus (m m' : Bool) (n : Nat) : Wr Try.prog 4 0 (numC m n) (.bool m') (numC m' n) := by
  constructor
  intro w g t hb
  have hc := hb.cell (numC_0 m n)
  have hf := hb.free 0
  have e : w.setCell ⟨g, 0, none⟩ (.bool m') = w.setRow g (numC m' n).toArray := by
    rw [setCell_eq_setRow w g 0 (numC m n).toArray t (0, 0) _ hb]
    congr 1
  have hs : (Try.prog.info? 4).map (·.size) = some 1 := by kernel_rfl
  cases hq : Try.prog.info? 4 with
  | none => simp [hq] at hs
  | some i =>
    have hz : i.size = 1 := by simpa [hq] using hs
    rw [← e]
    have hst := run_store Try.prog w ⟨g, 0, none⟩ (.bool m') .plain rfl
    rw [hc] at hst
    simp only [hf, Bool.false_eq_true, if_false] at hst
    simp [storeVar, sizeOf, typeInfo, hq, hz, Value.cells, storeCells, hst, add_none]

/-! ### Built -/
theorem fill_fold (off : Nat) : ∀ (ds : List Value) (k : Nat) (cs : List Value), off + k + ds.length ≤ cs.length →
    (ds.zipIdx k).foldl (fun (cs : Array Value) (p : Value × Nat) => cs.setIfInBounds (off + p.2) p.1) cs.toArray = (cs.take (off + k) ++ ds ++ cs.drop (off + k + ds.length)).toArray
  | [], k, cs, _ => by simp
  | d :: ds, k, cs, h => by
    simp only [List.zipIdx_cons, List.foldl_cons, List.setIfInBounds_toArray]
    rw [fill_fold off ds (k + 1) (cs.set (off + k) d) (by simp at h ⊢; omega)]
    congr 1
    have e := list_seg_step cs (off + k) d ds (by simp at h ⊢; omega)
    simpa [Nat.add_assoc] using e
theorem built_fill (parts : List (Nat × Value)) : Try.prog.built 47 parts = Instr.fill (fun i => (#[(0, 1), (1, 129)] : Array (Nat × Nat))[i]?) (numC false 0).toArray parts := by kernel_rfl
theorem built_0 : Try.prog.built 47 [] = some (numC false 0).toArray := by rw [built_fill]; rfl
theorem built_1 (b : Bool) : Try.prog.built 47 [(0, .bool b)] = some (numC b 0).toArray := by cases b <;> kernel_rfl
theorem built_2 (b : Bool) (n : Nat) : Try.prog.built 47 [(0, .bool b), (1, .agg (bitsC n).toArray)] = some (numC b n).toArray := by
  have h1 := built_1 b
  rw [built_fill] at h1 ⊢
  unfold Instr.fill at h1 ⊢
  simp only [List.getElem?_toArray, List.getElem?_cons_zero] at h1 ⊢
  split at h1
  · cases h1
  · rename_i hc
    rw [if_neg hc]
    simp only [Instr.fill] at h1
    simp only [Option.some.injEq] at h1
    rw [h1]
    unfold Instr.fill
    simp only [List.getElem?_toArray, List.getElem?_cons_succ, List.getElem?_cons_zero, Value.cells, List.size_toArray, bitsC_len, numC_len, ne_eq, not_true_eq_false, decide_false, Bool.false_or, Nat.reduceAdd, gt_iff_lt, Nat.lt_irrefl, Bool.false_eq_true, if_false]
    have hf := fill_fold 1 (bitsC n) 0 (numC b 0) (by rw [bitsC_len, numC_len]; decide)
    rw [← Array.foldl_toList, Array.toList_zipIdx]
    simp only [Instr.fill]
    rw [hf, List.drop_of_length_le (by rw [bitsC_len, numC_len]; decide)]
    simp [numC]

section
variable {ops : Array Oper} {rest : List Oper} {o : Oper} {a : Act} {w : World} {Q : Exit → Act → World → Prop} {x y : Operand} {b : Bool} {n : Nat}
theorem wpN_0 (hgd : o.guard = none) (ho : o.op = .build 47 #[]) (h : wpList Try.prog ops Q rest (a.put o.dst (.agg (numC false 0).toArray)) w) : wpList Try.prog ops Q (o :: rest) a w := wpL_bd0 hgd ho built_0 h
theorem wpN_1 (hgd : o.guard = none) (ho : o.op = .build 47 #[(0, x)]) (hx : a.eval x = .bool b) (h : wpList Try.prog ops Q rest (a.put o.dst (.agg (numC b 0).toArray)) w) : wpList Try.prog ops Q (o :: rest) a w := wpL_bd1 hgd ho hx (built_1 b) h
theorem wpN_2 (hgd : o.guard = none) (ho : o.op = .build 47 #[(0, x), (1, y)]) (hx : a.eval x = .bool b) (hy : a.eval y = .agg (bitsC n).toArray) (h : wpList Try.prog ops Q rest (a.put o.dst (.agg (numC b n).toArray)) w) : wpList Try.prog ops Q (o :: rest) a w := wpL_bd2 hgd ho hx hy (built_2 b n) h
end

/-! ### Arrays compared -/
theorem eq_items (a b : Nat) (w : World) : ∀ (l : List Nat), (∀ i ∈ l, i < 129) →
    (Op.eqItems 9999 3 1 (bitsC a).toArray (bitsC b).toArray l).run Try.prog w = .ok (l.all fun i => bt a i == bt b i) w := by
  intro l
  induction l with
  | nil => intro _; simp [Op.eqItems]
  | cons i r ih =>
    intro h
    have hi := h i (by simp)
    have hr := ih (fun j hj => h j (by simp [hj]))
    have hp : ∀ n, (part 3 (bitsC n).toArray (i * 1)).run Try.prog w = .ok (.int .i64 ((bt n i : Nat) : Int)) w := by
      intro n
      unfold part
      simp only [Sem.run_bind, isAgg_false Try.underlying3 rfl w, Result.andThen_ok, Bool.false_eq_true, if_false]
      have hc : (bitsC n).toArray[i * 1]? = some (.int .i64 ((bt n i : Nat) : Int)) := by rw [Nat.mul_one, List.getElem?_toArray]; exact bitsC_at n hi
      rw [hc]
      rfl
    have he : (((bt a i : Nat) : Int) == ((bt b i : Nat) : Int)) = (bt a i == bt b i) := by
      rw [Bool.eq_iff_iff]; simp only [beq_iff_eq]; omega
    simp only [Op.eqItems, Sem.run_bind, hp, Result.andThen_ok, run_equalIn_int w 9998 3 .i64 .i64 _ _ Try.underlying3, he]
    cases hb : (bt a i == bt b i)
    · simp [hb]
    · simp only [Bool.not_true, Bool.false_eq_true, if_false, List.all_cons, hb, Bool.true_and]
      exact hr
set_option maxRecDepth 20000 in
theorem eq27 (a b : Nat) (ha : a < 2 ^ 129) (hb : b < 2 ^ 129) (w : World) : (binOp .eql 45 (.agg (bitsC a).toArray) (.agg (bitsC b).toArray)).run Try.prog w = .ok (.bool (decide (a = b))) w := by
  have hi : ∃ i, Try.prog.info? 3 = some i := by
    have : (Try.prog.info? 3).isSome = true := by kernel_rfl
    exact Option.isSome_iff_exists.1 this
  obtain ⟨i, hi⟩ := hi
  have hc : Try.prog.cellsOf 3 = 1 := by kernel_rfl
  rw [run_eql_struct, run_equalIn_array w 9999 _ _ Try.underlying45 hi, hc, eq_items a b w _ (fun j hj => List.mem_range.1 hj), Result.andThen_ok]
  congr 2
  rw [Bool.eq_iff_iff, List.all_eq_true, decide_eq_true_iff]
  constructor
  · intro h
    exact bt_inj ha hb fun j hj => eq_of_beq (h j (List.mem_range.2 hj))
  · rintro rfl j _
    exact beq_self_eq_true _
theorem wpN_eq {ops : Array Oper} {rest : List Oper} {o : Oper} {a : Act} {w : World} {Q : Exit → Act → World → Prop} {x y : Operand} {p q : Nat} {b : Bool}
    (E : ∀ w, (binOp .eql 45 (.agg (bitsC p).toArray) (.agg (bitsC q).toArray)).run Try.prog w = .ok (.bool b) w)
    (hgd : o.guard = none) (ho : o.op = .binOp .eql 45 x y 45) (hx : a.eval x = .agg (bitsC p).toArray) (hy : a.eval y = .agg (bitsC q).toArray)
    (h : wpList Try.prog ops Q rest (a.put o.dst (.bool b)) w) : wpList Try.prog ops Q (o :: rest) a w :=
  wpL_bin hgd ho hx hy (run_eqGuard_agg _ _ _ _ _ _ _ (by kernel_rfl)) (E w) h
theorem wpN_eqg {ops : Array Oper} {rest : List Oper} {o : Oper} {a : Act} {w : World} {Q : Exit → Act → World → Prop} {x y : Operand} {p q : Nat} {b : Bool}
    (E : ∀ w, (binOp .eql 45 (.agg (bitsC p).toArray) (.agg (bitsC q).toArray)).run Try.prog w = .ok (.bool b) w)
    (ho : o.op = .binOp .eql 45 x y 45) (hx : a.eval x = .agg (bitsC p).toArray) (hy : a.eval y = .agg (bitsC q).toArray) (hw : Region.wanted o (yielded ops a.tmps) = true)
    (h : wpList Try.prog ops Q rest (a.put o.dst (.bool b)) w) : wpList Try.prog ops Q (o :: rest) a w :=
  wpList_step fun K hK => by
    rw [if_pos hw]
    exact wp_bin ho hx hy (run_eqGuard_agg _ _ _ _ _ _ _ (by kernel_rfl)) (E w) (hK _ _ h)

/-- One bit read, and written. -/
theorem rd_bit (n : Nat) {i : Nat} (h : i < 129) : Rd Try.prog 3 i (bitsC n) (.int .i64 ((bt n i : Nat) : Int)) := Rd.one Try.underlying3 rfl (bitsC_at n h)
theorem wr_bit (n n' b : Nat) {i : Nat} (h : i < 129) (he : (bitsC n).set i (.int .i64 (b : Int)) = bitsC n') : Wr Try.prog 3 i (bitsC n) (.int .i64 (b : Int)) (bitsC n') := by
  constructor
  intro w g t hb
  have hc := hb.cell (bitsC_at n h)
  have hf := hb.free i
  have e : w.setCell ⟨g, i, none⟩ (.int .i64 (b : Int)) = w.setRow g (bitsC n').toArray := by
    rw [setCell_eq_setRow w g i (bitsC n).toArray t (0, 0) _ hb, ← he]
    congr 1
    simp
  have hs : (Try.prog.info? 3).map (·.size) = some 1 := by kernel_rfl
  cases hq : Try.prog.info? 3 with
  | none => simp [hq] at hs
  | some j =>
    have hz : j.size = 1 := by simpa [hq] using hs
    rw [← e]
    have hst := run_store Try.prog w ⟨g, i, none⟩ (.int .i64 (b : Int)) .plain rfl
    rw [hc] at hst
    simp only [hf, Bool.false_eq_true, if_false] at hst
    simp [storeVar, sizeOf, typeInfo, hq, hz, Value.cells, storeCells, hst, add_none]

instance rNum (m : Bool) (n : Nat) : RdI Try.prog 47 0 (numC m n) (.agg (numC m n).toArray) := ⟨rd_num m n⟩
instance rBits (n : Nat) : RdI Try.prog 45 0 (bitsC n) (.agg (bitsC n).toArray) := ⟨rd_bits n⟩
instance rPart (m : Bool) (n : Nat) : RdI Try.prog 45 1 (numC m n) (.agg (bitsC n).toArray) := ⟨rd_part m n⟩
instance rMinus (m : Bool) (n : Nat) : RdI Try.prog 4 0 (numC m n) (.bool m) := ⟨rd_minus m n⟩
instance kNum : SzI Try.prog 47 130 := ⟨size29⟩
instance kBits : SzI Try.prog 45 129 := ⟨size27⟩
instance lNum (m : Bool) (n : Nat) : LnI (numC m n) 130 := ⟨numC_len m n⟩
instance lBits (n : Nat) : LnI (bitsC n) 129 := ⟨bitsC_len n⟩
instance oNum (m : Bool) (n : Nat) : OcI (numC m n) := ⟨one_num m n⟩
instance oBits (n : Nat) : OcI (bitsC n) := ⟨one_bits n⟩
instance zNum : ZrI Try.prog 47 (numV false 0) (numC false 0) := ⟨zero29, rfl⟩
instance zBits : ZrI Try.prog 45 (arrV 0) (bitsC 0) := ⟨zero27, rfl⟩
end Go.Proofs.Ytbjhbbiahmhdeaa

/-
  The reference: numbers of bits added.
-/
namespace Go.Proofs.Ytbjhbbiahmhdeaa
open Go Go.RowKit Go.Th Go.Th.Wide

theorem mod2 (x : Nat) : (x : Int).tmod 2 = ((x % 2 : Nat) : Int) := by rw [Int.tmod_eq_emod_of_nonneg (by omega)]; omega
set_option maxHeartbeats 1600000 in
theorem addBits_any (a b : Nat) (w : World) :
    Calls Try.prog 44 #[.agg (bitsC a).toArray, .agg (bitsC b).toArray] w fun e w' => e = .returned (.agg (bitsC ((a + b) % 2 ^ 129)).toArray) ∧ Below w.heap.size w w' := by
  obtain ⟨N, hN⟩ : ∃ N, N = (a + b) % 2 ^ 129 := ⟨_, rfl⟩
  rw [← hN]
  have HN := Lib.hid hN; clear hN
  have M0 := Mem.start w
  go_enter Try.func44, Try.ntmps44
  go_wp2_with ((with_reducible refine (?_ : Go.wpList _ _ _ (_ :: _) _ _)); (first | go_skip | (refine wpL_bx M0 rfl rfl rfl rfl ?_; clear M0; intro g1 w1 M1) | (refine wpL_alc M0 rfl rfl ?_; clear M0; intro g1 w1 M1) | (refine wpL_ldc M0 rfl rfl rfl ?_) | (refine wpL_lgc M0 rfl rfl rfl ?_) | (refine wpL_ldh M0 rfl rfl rfl (by assumption) ?_) | (refine wpN_1 rfl rfl rfl ?_) | (refine wpN_0 rfl rfl ?_) | (refine wpN_2 rfl rfl rfl rfl ?_) | (refine wpL_stc M0 rfl rfl rfl rfl ?_; clear M0; intro w' M0) | (refine wpL_sti M0 rfl rfl rfl rfl ?_; clear M0; intro w' M0) | (refine wpL_sth M0 rfl rfl rfl rfl (wr_part _ _ _) ?_; clear M0; intro w' M0) | (refine wpL_sth M0 rfl rfl rfl rfl (wr_minus _ _ _) ?_; clear M0; intro w' M0) | (refine wpL_sth M0 rfl rfl rfl rfl (by assumption) ?_; clear M0; intro w' M0) | (refine wpL_bx M1 rfl rfl rfl rfl ?_; clear M1; intro g2 w2 M2) | (refine wpL_alc M1 rfl rfl ?_; clear M1; intro g2 w2 M2) | (refine wpL_ldc M1 rfl rfl rfl ?_) | (refine wpL_lgc M1 rfl rfl rfl ?_) | (refine wpL_ldh M1 rfl rfl rfl (by assumption) ?_) | (refine wpL_stc M1 rfl rfl rfl rfl ?_; clear M1; intro w' M1) | (refine wpL_sti M1 rfl rfl rfl rfl ?_; clear M1; intro w' M1) | (refine wpL_sth M1 rfl rfl rfl rfl (wr_part _ _ _) ?_; clear M1; intro w' M1) | (refine wpL_sth M1 rfl rfl rfl rfl (wr_minus _ _ _) ?_; clear M1; intro w' M1) | (refine wpL_sth M1 rfl rfl rfl rfl (by assumption) ?_; clear M1; intro w' M1) | (refine wpL_bx M2 rfl rfl rfl rfl ?_; clear M2; intro g3 w3 M3) | (refine wpL_alc M2 rfl rfl ?_; clear M2; intro g3 w3 M3) | (refine wpL_ldc M2 rfl rfl rfl ?_) | (refine wpL_lgc M2 rfl rfl rfl ?_) | (refine wpL_ldh M2 rfl rfl rfl (by assumption) ?_) | (refine wpL_stc M2 rfl rfl rfl rfl ?_; clear M2; intro w' M2) | (refine wpL_sti M2 rfl rfl rfl rfl ?_; clear M2; intro w' M2) | (refine wpL_sth M2 rfl rfl rfl rfl (wr_part _ _ _) ?_; clear M2; intro w' M2) | (refine wpL_sth M2 rfl rfl rfl rfl (wr_minus _ _ _) ?_; clear M2; intro w' M2) | (refine wpL_sth M2 rfl rfl rfl rfl (by assumption) ?_; clear M2; intro w' M2) | (refine wpL_bx M3 rfl rfl rfl rfl ?_; clear M3; intro g4 w4 M4) | (refine wpL_alc M3 rfl rfl ?_; clear M3; intro g4 w4 M4) | (refine wpL_ldc M3 rfl rfl rfl ?_) | (refine wpL_lgc M3 rfl rfl rfl ?_) | (refine wpL_ldh M3 rfl rfl rfl (by assumption) ?_) | (refine wpL_stc M3 rfl rfl rfl rfl ?_; clear M3; intro w' M3) | (refine wpL_sti M3 rfl rfl rfl rfl ?_; clear M3; intro w' M3) | (refine wpL_sth M3 rfl rfl rfl rfl (wr_part _ _ _) ?_; clear M3; intro w' M3) | (refine wpL_sth M3 rfl rfl rfl rfl (wr_minus _ _ _) ?_; clear M3; intro w' M3) | (refine wpL_sth M3 rfl rfl rfl rfl (by assumption) ?_; clear M3; intro w' M3) | (refine wpL_ldc M4 rfl rfl rfl ?_) | (refine wpL_lgc M4 rfl rfl rfl ?_) | (refine wpL_ldh M4 rfl rfl rfl (by assumption) ?_) | (refine wpL_stc M4 rfl rfl rfl rfl ?_; clear M4; intro w' M4) | (refine wpL_sti M4 rfl rfl rfl rfl ?_; clear M4; intro w' M4) | (refine wpL_sth M4 rfl rfl rfl rfl (wr_part _ _ _) ?_; clear M4; intro w' M4) | (refine wpL_sth M4 rfl rfl rfl rfl (wr_minus _ _ _) ?_; clear M4; intro w' M4) | (refine wpL_sth M4 rfl rfl rfl rfl (by assumption) ?_; clear M4; intro w' M4)))
  go_loopw [6, 7, 8] (fun c i s wx => ∃ k : Nat, k ≤ 129 ∧ i = .int .i64 k ∧ c = .int .i64 (carry a b k : Nat) ∧ Mem w wx [(g4, 45, bitsC ((a + b) % 2 ^ k)), (g3, 45, bitsC 0), (g2, 45, bitsC b), (g1, 45, bitsC a)]) (fun _ i _ _ => 129 - (intOf i).toNat)
  case atStart => exact ⟨0, by omega, rfl, by rw [carry_zero]; rfl, by rw [show (a + b) % 2 ^ 0 = 0 from Nat.mod_one _]; exact M4⟩
  case round =>
    clear M4
    obtain ⟨k, hk, rfl, rfl, M⟩ := hrel
    by_cases hlt : k < 129
    · have c1 := M.cell (g := g1) (by repeat (first | exact Has.head _ _ _ _ | apply Has.tail)) (bitsC_at a hlt)
      have c2 := M.cell (g := g2) (by repeat (first | exact Has.head _ _ _ _ | apply Has.tail)) (bitsC_at b hlt)
      have c3 := M.cell (g := g4) (by repeat (first | exact Has.head _ _ _ _ | apply Has.tail)) (bitsC_at ((a + b) % 2 ^ k) hlt)
      have c4 := M.free (g := g4) (by repeat (first | exact Has.head _ _ _ _ | apply Has.tail)) k
      have hi0 : (0 : Int) ≤ k := by omega
      have hi1 : (k : Int) < 129 := by omega
      have l1 := bt_lt a k
      have l2 := bt_lt b k
      have l3 := carry_le a b k
      have HB := Lib.hid (carry_bit a b k)
      have HS := Lib.hid (carry_step a b k)
      obtain ⟨x, hx⟩ : ∃ x, x = bt a k := ⟨_, rfl⟩
      obtain ⟨y, hy⟩ : ∃ y, y = bt b k := ⟨_, rfl⟩
      obtain ⟨z, hz⟩ : ∃ z, z = carry a b k := ⟨_, rfl⟩
      rw [← hx] at c1 l1 HB HS
      rw [← hy] at c2 l2 HB HS
      rw [← hz] at l3 HB HS ⊢
      clear hx hy hz
      go_wp2
      go_quiet (fail)
      go_wp2
      go_roundw
      case rel =>
        refine ⟨k + 1, by omega, by go_num, ?_, ?_⟩
        · have := HS.out; congr 1; omega
        · have e : ((x : Int) + y + z) % 2 = ((bt (a + b) k : Nat) : Int) := by rw [← HB.out]; omega
          rw [e]
          exact (M.drewN _).set k _ (by rw [bits_up]; exact (by repeat (first | exact Upd.head _ _ _ _ _ | apply Upd.tail))) (by rw [bitsC_len]; exact hlt)
      case measure => simp [intOf]; omega
    · obtain rfl : k = 129 := by omega
      rw [← HN.out] at M
      have M5 := M
      clear M
      go_wp2_with ((with_reducible refine (?_ : Go.wpList _ _ _ (_ :: _) _ _)); (first | go_skip | (refine wpL_ldc M5 rfl rfl rfl ?_) | (refine wpL_lgc M5 rfl rfl rfl ?_) | (refine wpL_ldh M5 rfl rfl rfl (by assumption) ?_) | (refine wpN_1 rfl rfl rfl ?_) | (refine wpN_0 rfl rfl ?_) | (refine wpN_2 rfl rfl rfl rfl ?_) | (refine wpL_stc M5 rfl rfl rfl rfl ?_; clear M5; intro w' M5) | (refine wpL_sti M5 rfl rfl rfl rfl ?_; clear M5; intro w' M5) | (refine wpL_sth M5 rfl rfl rfl rfl (wr_part _ _ _) ?_; clear M5; intro w' M5) | (refine wpL_sth M5 rfl rfl rfl rfl (wr_minus _ _ _) ?_; clear M5; intro w' M5) | (refine wpL_sth M5 rfl rfl rfl rfl (by assumption) ?_; clear M5; intro w' M5)))
      ((try simp only [Exit.inBlock, Exit.then]); refine bodyPost_ret (res_cell rfl M5 rfl (by repeat (first | exact Has.head _ _ _ _ | apply Has.tail)) (by first | exact rd_num _ _ | exact rd_bits _ | exact rd_part _ _ | exact rd_minus _ _ | assumption)) rfl ?_)
      exact ⟨rfl, M5.below⟩

theorem shift_any (a : Nat) (w : World) :
    Calls Try.prog 49 #[.agg (bitsC a).toArray] w fun e w' => e = .returned (.agg (bitsC (2 * a % 2 ^ 129)).toArray) ∧ Below w.heap.size w w' := by
  obtain ⟨N, hN⟩ : ∃ N, N = 2 * a % 2 ^ 129 := ⟨_, rfl⟩
  rw [← hN]
  have HN := Lib.hid hN; clear hN
  have M0 := Mem.start w
  go_enter Try.func49, Try.ntmps49
  go_wp2_with ((with_reducible refine (?_ : Go.wpList _ _ _ (_ :: _) _ _)); (first | go_skip | (refine wpL_bx M0 rfl rfl rfl rfl ?_; clear M0; intro g1 w1 M1) | (refine wpL_alc M0 rfl rfl ?_; clear M0; intro g1 w1 M1) | (refine wpL_ldc M0 rfl rfl rfl ?_) | (refine wpL_lgc M0 rfl rfl rfl ?_) | (refine wpL_ldh M0 rfl rfl rfl (by assumption) ?_) | (refine wpN_1 rfl rfl rfl ?_) | (refine wpN_0 rfl rfl ?_) | (refine wpN_2 rfl rfl rfl rfl ?_) | (refine wpL_stc M0 rfl rfl rfl rfl ?_; clear M0; intro w' M0) | (refine wpL_sti M0 rfl rfl rfl rfl ?_; clear M0; intro w' M0) | (refine wpL_sth M0 rfl rfl rfl rfl (wr_part _ _ _) ?_; clear M0; intro w' M0) | (refine wpL_sth M0 rfl rfl rfl rfl (wr_minus _ _ _) ?_; clear M0; intro w' M0) | (refine wpL_sth M0 rfl rfl rfl rfl (by assumption) ?_; clear M0; intro w' M0) | (refine wpL_bx M1 rfl rfl rfl rfl ?_; clear M1; intro g2 w2 M2) | (refine wpL_alc M1 rfl rfl ?_; clear M1; intro g2 w2 M2) | (refine wpL_ldc M1 rfl rfl rfl ?_) | (refine wpL_lgc M1 rfl rfl rfl ?_) | (refine wpL_ldh M1 rfl rfl rfl (by assumption) ?_) | (refine wpL_stc M1 rfl rfl rfl rfl ?_; clear M1; intro w' M1) | (refine wpL_sti M1 rfl rfl rfl rfl ?_; clear M1; intro w' M1) | (refine wpL_sth M1 rfl rfl rfl rfl (wr_part _ _ _) ?_; clear M1; intro w' M1) | (refine wpL_sth M1 rfl rfl rfl rfl (wr_minus _ _ _) ?_; clear M1; intro w' M1) | (refine wpL_sth M1 rfl rfl rfl rfl (by assumption) ?_; clear M1; intro w' M1) | (refine wpL_ldc M2 rfl rfl rfl ?_) | (refine wpL_lgc M2 rfl rfl rfl ?_) | (refine wpL_ldh M2 rfl rfl rfl (by assumption) ?_) | (refine wpL_stc M2 rfl rfl rfl rfl ?_; clear M2; intro w' M2) | (refine wpL_sti M2 rfl rfl rfl rfl ?_; clear M2; intro w' M2) | (refine wpL_sth M2 rfl rfl rfl rfl (wr_part _ _ _) ?_; clear M2; intro w' M2) | (refine wpL_sth M2 rfl rfl rfl rfl (wr_minus _ _ _) ?_; clear M2; intro w' M2) | (refine wpL_sth M2 rfl rfl rfl rfl (by assumption) ?_; clear M2; intro w' M2)))
  refine (addBits_any a a _).mono ?_
  rintro e w3 ⟨rfl, hB⟩
  rw [← Nat.two_mul, ← HN.out]
  have M3 := M2.call hB
  clear M2 hB
  go_wp2_with ((with_reducible refine (?_ : Go.wpList _ _ _ (_ :: _) _ _)); (first | go_skip | (refine wpL_ldc M3 rfl rfl rfl ?_) | (refine wpL_lgc M3 rfl rfl rfl ?_) | (refine wpL_ldh M3 rfl rfl rfl (by assumption) ?_) | (refine wpN_1 rfl rfl rfl ?_) | (refine wpN_0 rfl rfl ?_) | (refine wpN_2 rfl rfl rfl rfl ?_) | (refine wpL_stc M3 rfl rfl rfl rfl ?_; clear M3; intro w' M3) | (refine wpL_sti M3 rfl rfl rfl rfl ?_; clear M3; intro w' M3) | (refine wpL_sth M3 rfl rfl rfl rfl (wr_part _ _ _) ?_; clear M3; intro w' M3) | (refine wpL_sth M3 rfl rfl rfl rfl (wr_minus _ _ _) ?_; clear M3; intro w' M3) | (refine wpL_sth M3 rfl rfl rfl rfl (by assumption) ?_; clear M3; intro w' M3)))
  ((try simp only [Exit.inBlock, Exit.then]); refine bodyPost_ret (res_cell rfl M3 rfl (by repeat (first | exact Has.head _ _ _ _ | apply Has.tail)) (by first | exact rd_num _ _ | exact rd_bits _ | exact rd_part _ _ | exact rd_minus _ _ | assumption)) rfl ?_)
  exact ⟨rfl, M3.below⟩

set_option maxHeartbeats 1600000 in
theorem sub_any (a b : Nat) (hab : b ≤ a) (w : World) :
    Calls Try.prog 46 #[.agg (bitsC a).toArray, .agg (bitsC b).toArray] w fun e w' => e = .returned (.agg (bitsC ((a - b) % 2 ^ 129)).toArray) ∧ Below w.heap.size w w' := by
  have HAB := Lib.hid hab; clear hab
  obtain ⟨N, hN⟩ : ∃ N, N = (a - b) % 2 ^ 129 := ⟨_, rfl⟩
  rw [← hN]
  have HN := Lib.hid hN; clear hN
  have M0 := Mem.start w
  go_enter Try.func46, Try.ntmps46
  go_wp2_with ((with_reducible refine (?_ : Go.wpList _ _ _ (_ :: _) _ _)); (first | go_skip | (refine wpL_bx M0 rfl rfl rfl rfl ?_; clear M0; intro g1 w1 M1) | (refine wpL_alc M0 rfl rfl ?_; clear M0; intro g1 w1 M1) | (refine wpL_ldc M0 rfl rfl rfl ?_) | (refine wpL_lgc M0 rfl rfl rfl ?_) | (refine wpL_ldh M0 rfl rfl rfl (by assumption) ?_) | (refine wpN_1 rfl rfl rfl ?_) | (refine wpN_0 rfl rfl ?_) | (refine wpN_2 rfl rfl rfl rfl ?_) | (refine wpL_stc M0 rfl rfl rfl rfl ?_; clear M0; intro w' M0) | (refine wpL_sti M0 rfl rfl rfl rfl ?_; clear M0; intro w' M0) | (refine wpL_sth M0 rfl rfl rfl rfl (wr_part _ _ _) ?_; clear M0; intro w' M0) | (refine wpL_sth M0 rfl rfl rfl rfl (wr_minus _ _ _) ?_; clear M0; intro w' M0) | (refine wpL_sth M0 rfl rfl rfl rfl (by assumption) ?_; clear M0; intro w' M0) | (refine wpL_bx M1 rfl rfl rfl rfl ?_; clear M1; intro g2 w2 M2) | (refine wpL_alc M1 rfl rfl ?_; clear M1; intro g2 w2 M2) | (refine wpL_ldc M1 rfl rfl rfl ?_) | (refine wpL_lgc M1 rfl rfl rfl ?_) | (refine wpL_ldh M1 rfl rfl rfl (by assumption) ?_) | (refine wpL_stc M1 rfl rfl rfl rfl ?_; clear M1; intro w' M1) | (refine wpL_sti M1 rfl rfl rfl rfl ?_; clear M1; intro w' M1) | (refine wpL_sth M1 rfl rfl rfl rfl (wr_part _ _ _) ?_; clear M1; intro w' M1) | (refine wpL_sth M1 rfl rfl rfl rfl (wr_minus _ _ _) ?_; clear M1; intro w' M1) | (refine wpL_sth M1 rfl rfl rfl rfl (by assumption) ?_; clear M1; intro w' M1) | (refine wpL_bx M2 rfl rfl rfl rfl ?_; clear M2; intro g3 w3 M3) | (refine wpL_alc M2 rfl rfl ?_; clear M2; intro g3 w3 M3) | (refine wpL_ldc M2 rfl rfl rfl ?_) | (refine wpL_lgc M2 rfl rfl rfl ?_) | (refine wpL_ldh M2 rfl rfl rfl (by assumption) ?_) | (refine wpL_stc M2 rfl rfl rfl rfl ?_; clear M2; intro w' M2) | (refine wpL_sti M2 rfl rfl rfl rfl ?_; clear M2; intro w' M2) | (refine wpL_sth M2 rfl rfl rfl rfl (wr_part _ _ _) ?_; clear M2; intro w' M2) | (refine wpL_sth M2 rfl rfl rfl rfl (wr_minus _ _ _) ?_; clear M2; intro w' M2) | (refine wpL_sth M2 rfl rfl rfl rfl (by assumption) ?_; clear M2; intro w' M2) | (refine wpL_bx M3 rfl rfl rfl rfl ?_; clear M3; intro g4 w4 M4) | (refine wpL_alc M3 rfl rfl ?_; clear M3; intro g4 w4 M4) | (refine wpL_ldc M3 rfl rfl rfl ?_) | (refine wpL_lgc M3 rfl rfl rfl ?_) | (refine wpL_ldh M3 rfl rfl rfl (by assumption) ?_) | (refine wpL_stc M3 rfl rfl rfl rfl ?_; clear M3; intro w' M3) | (refine wpL_sti M3 rfl rfl rfl rfl ?_; clear M3; intro w' M3) | (refine wpL_sth M3 rfl rfl rfl rfl (wr_part _ _ _) ?_; clear M3; intro w' M3) | (refine wpL_sth M3 rfl rfl rfl rfl (wr_minus _ _ _) ?_; clear M3; intro w' M3) | (refine wpL_sth M3 rfl rfl rfl rfl (by assumption) ?_; clear M3; intro w' M3) | (refine wpL_ldc M4 rfl rfl rfl ?_) | (refine wpL_lgc M4 rfl rfl rfl ?_) | (refine wpL_ldh M4 rfl rfl rfl (by assumption) ?_) | (refine wpL_stc M4 rfl rfl rfl rfl ?_; clear M4; intro w' M4) | (refine wpL_sti M4 rfl rfl rfl rfl ?_; clear M4; intro w' M4) | (refine wpL_sth M4 rfl rfl rfl rfl (wr_part _ _ _) ?_; clear M4; intro w' M4) | (refine wpL_sth M4 rfl rfl rfl rfl (wr_minus _ _ _) ?_; clear M4; intro w' M4) | (refine wpL_sth M4 rfl rfl rfl rfl (by assumption) ?_; clear M4; intro w' M4)))
  go_loopw [6, 7, 8] (fun c i s wx => ∃ k : Nat, k ≤ 129 ∧ i = .int .i64 k ∧ c = .int .i64 (borrow a b k : Nat) ∧ Mem w wx [(g4, 45, bitsC ((a - b) % 2 ^ k)), (g3, 45, bitsC 0), (g2, 45, bitsC b), (g1, 45, bitsC a)]) (fun _ i _ _ => 129 - (intOf i).toNat)
  case atStart => exact ⟨0, by omega, rfl, by rw [borrow_zero]; rfl, by rw [show (a - b) % 2 ^ 0 = 0 from Nat.mod_one _]; exact M4⟩
  case round =>
    clear M4
    obtain ⟨k, hk, rfl, rfl, M⟩ := hrel
    by_cases hlt : k < 129
    · have c1 := M.cell (g := g1) (by repeat (first | exact Has.head _ _ _ _ | apply Has.tail)) (bitsC_at a hlt)
      have c2 := M.cell (g := g2) (by repeat (first | exact Has.head _ _ _ _ | apply Has.tail)) (bitsC_at b hlt)
      have c3 := M.cell (g := g4) (by repeat (first | exact Has.head _ _ _ _ | apply Has.tail)) (bitsC_at ((a - b) % 2 ^ k) hlt)
      have c4 := M.free (g := g4) (by repeat (first | exact Has.head _ _ _ _ | apply Has.tail)) k
      have hi0 : (0 : Int) ≤ k := by omega
      have hi1 : (k : Int) < 129 := by omega
      have l1 := bt_lt a k
      have l2 := bt_lt b k
      have l3 := borrow_le a b k
      have l4 := borrow_le a b (k + 1)
      have l5 := bt_lt (a - b) k
      have hs := borrow_step a b k HAB.out
      obtain ⟨x, hx⟩ : ∃ x, x = bt a k := ⟨_, rfl⟩
      obtain ⟨y, hy⟩ : ∃ y, y = bt b k := ⟨_, rfl⟩
      obtain ⟨z, hz⟩ : ∃ z, z = borrow a b k := ⟨_, rfl⟩
      obtain ⟨d, hd⟩ : ∃ d, d = bt (a - b) k := ⟨_, rfl⟩
      obtain ⟨v, hv⟩ : ∃ v, v = borrow a b (k + 1) := ⟨_, rfl⟩
      rw [← hx] at c1 l1 hs
      rw [← hy] at c2 l2 hs
      rw [← hz] at l3 hs ⊢
      rw [← hd] at l5 hs
      rw [← hv] at l4 hs
      have HD := Lib.hid hd
      have HV := Lib.hid hv
      have HS := Lib.hid hs
      clear hx hy hz hd hv
      by_cases hneg : (x : Int) - y - z < 0
      · have hv1 : v = 1 := by omega
        have e : (x : Int) - y - z + 2 = (d : Int) := by omega
        have HE := Lib.hid e
        clear hs e
        go_wp2
        go_quiet (fail)
        go_wp2
        go_roundw
        case rel =>
          refine ⟨k + 1, by omega, by go_num, ?_, ?_⟩
          · rw [← HV.out, hv1]; rfl
          · rw [HE.out, HD.out]
            exact (M.drewN _).set k _ (by rw [bits_up]; exact (by repeat (first | exact Upd.head _ _ _ _ _ | apply Upd.tail))) (by rw [bitsC_len]; exact hlt)
        case measure => simp [intOf]; omega
      · have hv1 : v = 0 := by omega
        have e : (x : Int) - y - z = (d : Int) := by omega
        have HE := Lib.hid e
        have hd0 : decide ((x : Int) - y - z < 0) = false := by simp only [decide_eq_false_iff_not]; exact hneg
        have HV1 := Lib.hid hv1
        clear hs e hneg hv1 l4 l5
        go_wp2
        go_quiet (fail)
        go_wp2
        go_roundw
        case rel =>
          refine ⟨k + 1, by omega, by go_num, ?_, ?_⟩
          · rw [← HV.out, HV1.out]; rfl
          · rw [HE.out, HD.out]
            exact (M.drewN _).set k _ (by rw [bits_up]; exact (by repeat (first | exact Upd.head _ _ _ _ _ | apply Upd.tail))) (by rw [bitsC_len]; exact hlt)
        case measure => simp [intOf]; omega
    · obtain rfl : k = 129 := by omega
      rw [← HN.out] at M
      have M5 := M
      clear M
      go_wp2_with ((with_reducible refine (?_ : Go.wpList _ _ _ (_ :: _) _ _)); (first | go_skip | (refine wpL_ldc M5 rfl rfl rfl ?_) | (refine wpL_lgc M5 rfl rfl rfl ?_) | (refine wpL_ldh M5 rfl rfl rfl (by assumption) ?_) | (refine wpN_1 rfl rfl rfl ?_) | (refine wpN_0 rfl rfl ?_) | (refine wpN_2 rfl rfl rfl rfl ?_) | (refine wpL_stc M5 rfl rfl rfl rfl ?_; clear M5; intro w' M5) | (refine wpL_sti M5 rfl rfl rfl rfl ?_; clear M5; intro w' M5) | (refine wpL_sth M5 rfl rfl rfl rfl (wr_part _ _ _) ?_; clear M5; intro w' M5) | (refine wpL_sth M5 rfl rfl rfl rfl (wr_minus _ _ _) ?_; clear M5; intro w' M5) | (refine wpL_sth M5 rfl rfl rfl rfl (by assumption) ?_; clear M5; intro w' M5)))
      ((try simp only [Exit.inBlock, Exit.then]); refine bodyPost_ret (res_cell rfl M5 rfl (by repeat (first | exact Has.head _ _ _ _ | apply Has.tail)) (by first | exact rd_num _ _ | exact rd_bits _ | exact rd_part _ _ | exact rd_minus _ _ | assumption)) rfl ?_)
      exact ⟨rfl, M5.below⟩
end Go.Proofs.Ytbjhbbiahmhdeaa

/-
  The reference: is it nought, compared, its words, has it room.
-/
namespace Go.Proofs.Ytbjhbbiahmhdeaa
open Go Go.RowKit Go.Th Go.Th.Wide

theorem low_zero {n k : Nat} (h : n % 2 ^ k = 0) (hb : bt n k = 0) : n % 2 ^ (k + 1) = 0 := by rw [mod_up, h, hb]; rfl
theorem low_one {n k : Nat} (hb : bt n k ≠ 0) : n ≠ 0 := by rintro rfl; exact hb (bt_zero k)

set_option maxHeartbeats 800000 in
theorem zero_any (m : Bool) (n : Nat) (hn : n < 2 ^ 129) (w : World) :
    Calls Try.prog 47 #[.agg (numC m n).toArray] w fun e w' => e = .returned (.bool (decide (n = 0))) ∧ Below w.heap.size w w' := by
  have HN := Lib.hid hn; clear hn
  have M0 := Mem.start w
  go_enter Try.func47, Try.ntmps47
  go_wp2_with ((with_reducible refine (?_ : Go.wpList _ _ _ (_ :: _) _ _)); (first | go_skip | (refine wpL_bx M0 rfl rfl rfl rfl ?_; clear M0; intro g1 w1 M1) | (refine wpL_alc M0 rfl rfl ?_; clear M0; intro g1 w1 M1) | (refine wpL_ldc M0 rfl rfl rfl ?_) | (refine wpL_lgc M0 rfl rfl rfl ?_) | (refine wpL_ldh M0 rfl rfl rfl (by assumption) ?_) | (refine wpN_1 rfl rfl rfl ?_) | (refine wpN_0 rfl rfl ?_) | (refine wpN_2 rfl rfl rfl rfl ?_) | (refine wpL_stc M0 rfl rfl rfl rfl ?_; clear M0; intro w' M0) | (refine wpL_sti M0 rfl rfl rfl rfl ?_; clear M0; intro w' M0) | (refine wpL_sth M0 rfl rfl rfl rfl (wr_part _ _ _) ?_; clear M0; intro w' M0) | (refine wpL_sth M0 rfl rfl rfl rfl (wr_minus _ _ _) ?_; clear M0; intro w' M0) | (refine wpL_sth M0 rfl rfl rfl rfl (by assumption) ?_; clear M0; intro w' M0) | (refine wpL_ldc M1 rfl rfl rfl ?_) | (refine wpL_lgc M1 rfl rfl rfl ?_) | (refine wpL_ldh M1 rfl rfl rfl (by assumption) ?_) | (refine wpL_stc M1 rfl rfl rfl rfl ?_; clear M1; intro w' M1) | (refine wpL_sti M1 rfl rfl rfl rfl ?_; clear M1; intro w' M1) | (refine wpL_sth M1 rfl rfl rfl rfl (wr_part _ _ _) ?_; clear M1; intro w' M1) | (refine wpL_sth M1 rfl rfl rfl rfl (wr_minus _ _ _) ?_; clear M1; intro w' M1) | (refine wpL_sth M1 rfl rfl rfl rfl (by assumption) ?_; clear M1; intro w' M1)))
  go_loopw [3] (fun i wx => ∃ k : Nat, k ≤ 129 ∧ i = .int .i64 k ∧ Hid (n % 2 ^ k = 0) ∧ Mem w wx [(g1, 47, numC m n)]) (fun i _ => 129 - (intOf i).toNat)
  case atStart => exact ⟨0, by omega, rfl, Nat.mod_one _, M1⟩
  case round =>
    clear M1
    obtain ⟨k, hk, rfl, HZ, M⟩ := hrel
    by_cases hlt : k < 129
    · have c1 := M.cell (g := g1) (by repeat (first | exact Has.head _ _ _ _ | apply Has.tail)) (numC_at' m n hlt)
      have hi0 : (0 : Int) ≤ k := by omega
      have hi1 : (k : Int) < 129 := by omega
      by_cases hb : bt n k = 0
      · rw [hb] at c1
        have HB := Lib.hid hb; clear hb
        go_wp2
        go_roundw
        case rel => exact ⟨k + 1, by omega, by go_num, low_zero HZ.out HB.out, M⟩
        case measure => simp [intOf] <;> omega
      · have h1 : bt n k = 1 := by have := bt_lt n k; omega
        rw [h1] at c1
        have HB := Lib.hid hb; clear hb h1
        go_wp2
        go_ret
        exact ⟨ret_bool (by have := low_one HB.out; simp [this]), M.below⟩
    · obtain rfl : k = 129 := by omega
      go_wp2
      go_ret
      exact ⟨ret_bool (by have := HZ.out; rw [Nat.mod_eq_of_lt HN.out] at this; simp [this]), M.below⟩

set_option maxHeartbeats 800000 in
theorem less_any (a b : Nat) (ha : a < 2 ^ 129) (hb : b < 2 ^ 129) (w : World) :
    Calls Try.prog 45 #[.agg (bitsC a).toArray, .agg (bitsC b).toArray] w fun e w' => e = .returned (.bool (decide (a < b))) ∧ Below w.heap.size w w' := by
  have ha0 : a / 2 ^ 129 = b / 2 ^ 129 := by rw [Nat.div_eq_of_lt ha, Nat.div_eq_of_lt hb]
  have HA := Lib.hid ha0; clear ha hb ha0
  have M0 := Mem.start w
  go_enter Try.func45, Try.ntmps45
  go_wp2_with ((with_reducible refine (?_ : Go.wpList _ _ _ (_ :: _) _ _)); (first | go_skip | (refine wpL_bx M0 rfl rfl rfl rfl ?_; clear M0; intro g1 w1 M1) | (refine wpL_alc M0 rfl rfl ?_; clear M0; intro g1 w1 M1) | (refine wpL_ldc M0 rfl rfl rfl ?_) | (refine wpL_lgc M0 rfl rfl rfl ?_) | (refine wpL_ldh M0 rfl rfl rfl (by assumption) ?_) | (refine wpN_1 rfl rfl rfl ?_) | (refine wpN_0 rfl rfl ?_) | (refine wpN_2 rfl rfl rfl rfl ?_) | (refine wpL_stc M0 rfl rfl rfl rfl ?_; clear M0; intro w' M0) | (refine wpL_sti M0 rfl rfl rfl rfl ?_; clear M0; intro w' M0) | (refine wpL_sth M0 rfl rfl rfl rfl (wr_part _ _ _) ?_; clear M0; intro w' M0) | (refine wpL_sth M0 rfl rfl rfl rfl (wr_minus _ _ _) ?_; clear M0; intro w' M0) | (refine wpL_sth M0 rfl rfl rfl rfl (by assumption) ?_; clear M0; intro w' M0) | (refine wpL_bx M1 rfl rfl rfl rfl ?_; clear M1; intro g2 w2 M2) | (refine wpL_alc M1 rfl rfl ?_; clear M1; intro g2 w2 M2) | (refine wpL_ldc M1 rfl rfl rfl ?_) | (refine wpL_lgc M1 rfl rfl rfl ?_) | (refine wpL_ldh M1 rfl rfl rfl (by assumption) ?_) | (refine wpL_stc M1 rfl rfl rfl rfl ?_; clear M1; intro w' M1) | (refine wpL_sti M1 rfl rfl rfl rfl ?_; clear M1; intro w' M1) | (refine wpL_sth M1 rfl rfl rfl rfl (wr_part _ _ _) ?_; clear M1; intro w' M1) | (refine wpL_sth M1 rfl rfl rfl rfl (wr_minus _ _ _) ?_; clear M1; intro w' M1) | (refine wpL_sth M1 rfl rfl rfl rfl (by assumption) ?_; clear M1; intro w' M1) | (refine wpL_ldc M2 rfl rfl rfl ?_) | (refine wpL_lgc M2 rfl rfl rfl ?_) | (refine wpL_ldh M2 rfl rfl rfl (by assumption) ?_) | (refine wpL_stc M2 rfl rfl rfl rfl ?_; clear M2; intro w' M2) | (refine wpL_sti M2 rfl rfl rfl rfl ?_; clear M2; intro w' M2) | (refine wpL_sth M2 rfl rfl rfl rfl (wr_part _ _ _) ?_; clear M2; intro w' M2) | (refine wpL_sth M2 rfl rfl rfl rfl (wr_minus _ _ _) ?_; clear M2; intro w' M2) | (refine wpL_sth M2 rfl rfl rfl rfl (by assumption) ?_; clear M2; intro w' M2)))
  go_loopw [5] (fun i wx => ∃ k : Nat, k ≤ 129 ∧ i = .int .i64 ((k : Int) - 1) ∧ Hid (a / 2 ^ k = b / 2 ^ k) ∧ Mem w wx [(g2, 45, bitsC b), (g1, 45, bitsC a)]) (fun i _ => (intOf i + 1).toNat)
  case atStart => exact ⟨129, by omega, rfl, HA.out, M2⟩
  case round =>
    clear M2
    obtain ⟨k1, hk, rfl, HZ, M⟩ := hrel
    by_cases hlt : 0 < k1
    · obtain ⟨k, rfl⟩ : ∃ k, k1 = k + 1 := ⟨k1 - 1, by omega⟩
      have hk' : k < 129 := by omega
      have e : ((k + 1 : Nat) : Int) - 1 = (k : Int) := by omega
      rw [e]
      have c1 := M.cell (g := g1) (by repeat (first | exact Has.head _ _ _ _ | apply Has.tail)) (bitsC_at a hk')
      have c2 := M.cell (g := g2) (by repeat (first | exact Has.head _ _ _ _ | apply Has.tail)) (bitsC_at b hk')
      have hi0 : (0 : Int) ≤ k := by omega
      have hi1 : (k : Int) < 129 := by omega
      have l1 := bt_lt a k
      have l2 := bt_lt b k
      by_cases hb : bt a k = bt b k
      · rw [← hb] at c2
        have HB := Lib.hid hb
        clear hb l2
        obtain ⟨x, hx⟩ : ∃ x, x = bt a k := ⟨_, rfl⟩
        rw [← hx] at c1 c2 l1
        clear hx e
        go_wp2
        go_quiet (fail)
        go_wp2
        go_roundw
        case rel => exact ⟨k, by omega, rfl, div_same HZ.out HB.out, M.drewN _⟩
        case measure => simp [intOf] <;> omega
      · have HB := Lib.hid (less_at HZ.out hb)
        obtain ⟨x, hx⟩ : ∃ x, x = bt a k := ⟨_, rfl⟩
        obtain ⟨y, hy⟩ : ∃ y, y = bt b k := ⟨_, rfl⟩
        rw [← hx, ← hy] at HB hb
        rw [← hx] at c1 l1
        rw [← hy] at c2 l2
        have hxy : (x = 0 ∧ y = 1) ∨ (x = 1 ∧ y = 0) := by omega
        clear hx hy e hb l1 l2
        rcases hxy with ⟨rfl, rfl⟩ | ⟨rfl, rfl⟩
        · go_wp2
          go_quiet (fail)
          go_wp2
          go_quiet (fail)
          go_wp2
          go_ret
          exact ⟨ret_bool (by simp [HB.out]), below_dN (below_dN M.below _) _⟩
        · go_wp2
          go_quiet (fail)
          go_wp2
          go_quiet (fail)
          go_wp2
          go_ret
          exact ⟨ret_bool (by simp [HB.out]), below_dN (below_dN M.below _) _⟩
    · obtain rfl : k1 = 0 := by omega
      have h := HZ.out
      simp only [Nat.pow_zero, Nat.div_one] at h
      have H := Lib.hid h
      clear h
      go_wp2
      go_ret
      exact ⟨ret_bool (by rw [H.out]; simp), M.below⟩

theorem bt_from (N f i : Nat) (hi : i < 64) : bt N (f + i) = bt (N / 2 ^ f % 2 ^ 64) i := by
  rw [bt_mod, if_pos hi]
  unfold bt
  rw [Nat.div_div_eq_div_mul, ← Nat.pow_add]

end Go.Proofs.Ytbjhbbiahmhdeaa

/-
  The reference: has it room; numbers of 64 bits, of two words.
-/
namespace Go.Proofs.Ytbjhbbiahmhdeaa
open Go Go.RowKit Go.Th Go.Th.Wide

theorem ge_of_bt {n k : Nat} (h : bt n k ≠ 0) : 2 ^ k ≤ n := by
  rcases Nat.lt_or_ge n (2 ^ k) with h1 | h1
  · exact absurd (bt_big h1) h
  · exact h1
theorem fits_big {m : Bool} {n K k : Nat} (hk : K < k) (h : bt n k ≠ 0) : fitsS m n K = false := by
  have h1 := ge_of_bt h
  have h2 : 2 ^ K < 2 ^ k := Nat.pow_lt_pow_right (by decide) hk
  unfold fitsS
  rw [decide_eq_false (by omega), decide_eq_false (by omega)]; rfl
theorem fits_small {m : Bool} {n K : Nat} (h0 : n / 2 ^ (K + 1) = 0) (h : bt n K = 0) : fitsS m n K = true := by
  have h1 := div_up n K
  rw [h0, h] at h1
  have h2 : n < 2 ^ K := by
    rcases Nat.div_eq_zero_iff.1 h1 with h | h
    · have := Nat.two_pow_pos K; omega
    · exact h
  unfold fitsS
  rw [decide_eq_true h2]; rfl
theorem fits_mid {m : Bool} {n K k : Nat} (h : bt n K ≠ 0) (hk : k < K) (hb : bt n k ≠ 0) : fitsS m n K = false := by
  have h1 := ge_of_bt h
  have h2 : n ≠ 2 ^ K := by
    rintro rfl
    apply hb
    unfold bt
    rw [Nat.pow_div (by omega) (by decide), show K - k = (K - k - 1) + 1 from by omega, Nat.pow_succ]
    omega
  unfold fitsS
  rw [decide_eq_false (by omega), decide_eq_false h2]; rfl
theorem fits_end {m : Bool} {n K : Nat} (h0 : n / 2 ^ (K + 1) = 0) (h : bt n K = 1) (hz : n % 2 ^ K = 0) : fitsS m n K = m := by
  have h1 := div_up n K
  rw [h0, h] at h1
  have h2 := Nat.div_add_mod n (2 ^ K)
  rw [h1, hz] at h2
  have h3 : n = 2 ^ K := by omega
  unfold fitsS
  rw [decide_eq_false (by omega), decide_eq_true h3]
  simp
theorem bt_above (n K j : Nat) : bt n (K + 1 + j) = bt (n / 2 ^ (K + 1)) j := by unfold bt; rw [Nat.div_div_eq_div_mul, ← Nat.pow_add]

set_option maxHeartbeats 1600000 in
theorem fits_any (m : Bool) (n K : Nat) (hn : n < 2 ^ 129) (hK : K ≤ 127) (w : World) :
    Calls Try.prog 48 #[.agg (numC m n).toArray, .int .i64 K] w fun e w' => e = .returned (.bool (fitsS m n K)) ∧ Below w.heap.size w w' := by
  have hA : n / 2 ^ (K + 1) < 2 ^ (128 - K) := by
    rw [Nat.div_lt_iff_lt_mul (Nat.two_pow_pos _), ← Nat.pow_add, show 128 - K + (K + 1) = 129 from by omega]; exact hn
  have HA := Lib.hid hA; clear hA hn
  have M0 := Mem.start w
  go_enter Try.func48, Try.ntmps48
  go_wp2_with ((with_reducible refine (?_ : Go.wpList _ _ _ (_ :: _) _ _)); (first | go_skip | (refine wpL_bx M0 rfl rfl rfl rfl ?_; clear M0; intro g1 w1 M1) | (refine wpL_alc M0 rfl rfl ?_; clear M0; intro g1 w1 M1) | (refine wpL_ldc M0 rfl rfl rfl ?_) | (refine wpL_lgc M0 rfl rfl rfl ?_) | (refine wpL_ldh M0 rfl rfl rfl (by assumption) ?_) | (refine wpN_1 rfl rfl rfl ?_) | (refine wpN_0 rfl rfl ?_) | (refine wpN_2 rfl rfl rfl rfl ?_) | (refine wpL_stc M0 rfl rfl rfl rfl ?_; clear M0; intro w' M0) | (refine wpL_sti M0 rfl rfl rfl rfl ?_; clear M0; intro w' M0) | (refine wpL_sth M0 rfl rfl rfl rfl (wr_part _ _ _) ?_; clear M0; intro w' M0) | (refine wpL_sth M0 rfl rfl rfl rfl (wr_minus _ _ _) ?_; clear M0; intro w' M0) | (refine wpL_sth M0 rfl rfl rfl rfl (by assumption) ?_; clear M0; intro w' M0) | (refine wpL_ldc M1 rfl rfl rfl ?_) | (refine wpL_lgc M1 rfl rfl rfl ?_) | (refine wpL_ldh M1 rfl rfl rfl (by assumption) ?_) | (refine wpL_stc M1 rfl rfl rfl rfl ?_; clear M1; intro w' M1) | (refine wpL_sti M1 rfl rfl rfl rfl ?_; clear M1; intro w' M1) | (refine wpL_sth M1 rfl rfl rfl rfl (wr_part _ _ _) ?_; clear M1; intro w' M1) | (refine wpL_sth M1 rfl rfl rfl rfl (wr_minus _ _ _) ?_; clear M1; intro w' M1) | (refine wpL_sth M1 rfl rfl rfl rfl (by assumption) ?_; clear M1; intro w' M1)))
  go_loopw [5] (fun i wx => ∃ j : Nat, K + 1 + j ≤ 129 ∧ i = .int .i64 ((K : Int) + 1 + j) ∧ Hid (n / 2 ^ (K + 1) % 2 ^ j = 0) ∧ Mem w wx [(g1, 47, numC m n)]) (fun i _ => 129 - (intOf i).toNat)
  case atStart => exact ⟨0, by omega, by simp, Nat.mod_one _, M1⟩
  case round =>
    clear M1
    obtain ⟨j, hk, rfl, HZ, M⟩ := hrel
    by_cases hlt : K + 1 + j < 129
    · have c1 := M.cell (g := g1) (by repeat (first | exact Has.head _ _ _ _ | apply Has.tail)) (numC_at' m n hlt)
      have hi0 : (0 : Int) ≤ (K : Int) + 1 + j := by omega
      have hi1 : (K : Int) + 1 + j < 129 := by omega
      have hto : ((K : Int) + 1 + j).toNat = K + 1 + j := by omega
      by_cases hb : bt n (K + 1 + j) = 0
      · rw [hb] at c1
        have hb2 := hb
        rw [bt_above] at hb2
        have HB := Lib.hid hb2; clear hb hb2
        go_wp2
        go_roundw
        case rel => exact ⟨j + 1, by omega, by go_num, low_zero HZ.out HB.out, M⟩
        case measure => simp [intOf] <;> omega
      · have h1 : bt n (K + 1 + j) = 1 := by have := bt_lt n (K + 1 + j); omega
        rw [h1] at c1
        have HB := Lib.hid hb; clear hb h1
        go_wp2
        go_ret
        exact ⟨ret_bool (fits_big (by omega) HB.out).symm, M.below⟩
    · obtain rfl : j = 128 - K := by omega
      have e : (K : Int) + 1 + ((128 - K : Nat) : Int) = 129 := by omega
      rw [e]
      have h0 : n / 2 ^ (K + 1) = 0 := by have := HZ.out; rw [Nat.mod_eq_of_lt HA.out] at this; exact this
      have H0 := Lib.hid h0
      have c1 := M.cell (g := g1) (by repeat (first | exact Has.head _ _ _ _ | apply Has.tail)) (numC_at' m n (i := K) (by omega))
      have c2 := M.cell (g := g1) (by repeat (first | exact Has.head _ _ _ _ | apply Has.tail)) (numC_0 m n)
      have hi0 : (0 : Int) ≤ K := by omega
      have hi1 : (K : Int) < 129 := by omega
      clear h0 hk hlt e HZ
      by_cases hb : bt n K = 0
      · rw [hb] at c1
        have HB := Lib.hid hb; clear hb
        go_wp2
        go_ret
        exact ⟨ret_bool (fits_small H0.out HB.out).symm, M.below⟩
      · have h1 : bt n K = 1 := by have := bt_lt n K; omega
        rw [h1] at c1
        have HB := Lib.hid hb
        have H1 := Lib.hid h1; clear hb h1
        have M2 := M
        clear M
        go_wp2
        go_loopw [6] (fun i wx => ∃ k : Nat, k ≤ K ∧ i = .int .i64 k ∧ Hid (n % 2 ^ k = 0) ∧ Mem w wx [(g1, 47, numC m n)]) (fun i _ => K - (intOf i).toNat)
        case atStart => exact ⟨0, by omega, rfl, Nat.mod_one _, M2⟩
        case round =>
          clear M2 c1 c2
          obtain ⟨k, hk, rfl, HZ, M⟩ := hrel
          have c2 := M.cell (g := g1) (by repeat (first | exact Has.head _ _ _ _ | apply Has.tail)) (numC_0 m n)
          by_cases hlt : k < K
          · have c1 := M.cell (g := g1) (by repeat (first | exact Has.head _ _ _ _ | apply Has.tail)) (numC_at' m n (i := k) (by omega))
            have hj0 : (0 : Int) ≤ k := by omega
            have hj1 : (k : Int) < 129 := by omega
            by_cases hb : bt n k = 0
            · rw [hb] at c1
              have HB := Lib.hid hb; clear hb
              go_wp2
              go_roundw
              case rel => exact ⟨k + 1, by omega, by go_num, low_zero HZ.out HB.out, M⟩
              case measure => simp [intOf] <;> omega
            · have h1 : bt n k = 1 := by have := bt_lt n k; omega
              rw [h1] at c1
              have HB2 := Lib.hid hb; clear hb h1
              go_wp2
              go_ret
              exact ⟨ret_bool (fits_mid HB.out hlt HB2.out).symm, M.below⟩
          · obtain rfl : k = K := by omega
            go_wp2
            go_ret
            exact ⟨ret_bool (fits_end H0.out H1.out HZ.out).symm, M.below⟩
end Go.Proofs.Ytbjhbbiahmhdeaa

/-
  The reference: of a number of 64 bits, of two words; the parts.
-/
namespace Go.Proofs.Ytbjhbbiahmhdeaa
open Go Go.RowKit Go.Th Go.Th.Wide

set_option maxRecDepth 20000 in
set_option maxHeartbeats 1600000 in
theorem of_pos (m : Nat) (hm : m < 9223372036854775808) (w : World) :
    Calls Try.prog 32 #[.int .i64 m] w fun e w' => e = .returned (.agg (numC false m).toArray) ∧ Below w.heap.size w w' := by
  have M0 := Mem.start w
  have hneg : decide ((m : Int) < 0) = false := by simp only [decide_eq_false_iff_not]; omega
  go_enter Try.func32, Try.ntmps32
  go_wp2_with ((with_reducible refine (?_ : Go.wpList _ _ _ (_ :: _) _ _)); (first | go_skip | (refine wpL_bx M0 rfl rfl rfl rfl ?_; clear M0; intro g1 w1 M1) | (refine wpL_alc M0 rfl rfl ?_; clear M0; intro g1 w1 M1) | (refine wpL_ldc M0 rfl rfl rfl ?_) | (refine wpL_lgc M0 rfl rfl rfl ?_) | (refine wpL_ldh M0 rfl rfl rfl (by assumption) ?_) | (refine wpN_1 rfl rfl rfl ?_) | (refine wpN_0 rfl rfl ?_) | (refine wpN_2 rfl rfl rfl rfl ?_) | (refine wpL_stc M0 rfl rfl rfl rfl ?_; clear M0; intro w' M0) | (refine wpL_sti M0 rfl rfl rfl rfl ?_; clear M0; intro w' M0) | (refine wpL_sth M0 rfl rfl rfl rfl (wr_part _ _ _) ?_; clear M0; intro w' M0) | (refine wpL_sth M0 rfl rfl rfl rfl (wr_minus _ _ _) ?_; clear M0; intro w' M0) | (refine wpL_sth M0 rfl rfl rfl rfl (by assumption) ?_; clear M0; intro w' M0) | (refine wpL_bx M1 rfl rfl rfl rfl ?_; clear M1; intro g2 w2 M2) | (refine wpL_alc M1 rfl rfl ?_; clear M1; intro g2 w2 M2) | (refine wpL_ldc M1 rfl rfl rfl ?_) | (refine wpL_lgc M1 rfl rfl rfl ?_) | (refine wpL_ldh M1 rfl rfl rfl (by assumption) ?_) | (refine wpL_stc M1 rfl rfl rfl rfl ?_; clear M1; intro w' M1) | (refine wpL_sti M1 rfl rfl rfl rfl ?_; clear M1; intro w' M1) | (refine wpL_sth M1 rfl rfl rfl rfl (wr_part _ _ _) ?_; clear M1; intro w' M1) | (refine wpL_sth M1 rfl rfl rfl rfl (wr_minus _ _ _) ?_; clear M1; intro w' M1) | (refine wpL_sth M1 rfl rfl rfl rfl (by assumption) ?_; clear M1; intro w' M1) | (refine wpL_ldc M2 rfl rfl rfl ?_) | (refine wpL_lgc M2 rfl rfl rfl ?_) | (refine wpL_ldh M2 rfl rfl rfl (by assumption) ?_) | (refine wpL_stc M2 rfl rfl rfl rfl ?_; clear M2; intro w' M2) | (refine wpL_sti M2 rfl rfl rfl rfl ?_; clear M2; intro w' M2) | (refine wpL_sth M2 rfl rfl rfl rfl (wr_part _ _ _) ?_; clear M2; intro w' M2) | (refine wpL_sth M2 rfl rfl rfl rfl (wr_minus _ _ _) ?_; clear M2; intro w' M2) | (refine wpL_sth M2 rfl rfl rfl rfl (by assumption) ?_; clear M2; intro w' M2)))
  go_loopw [4, 5] (fun n i wx => ∃ k : Nat, k ≤ 65 ∧ i = .int .i64 k ∧ n = .int .i64 (m / 2 ^ k : Nat) ∧ Mem w wx [(g2, 47, numC false (m % 2 ^ k)), (g1, 47, numC false 0)]) (fun _ i _ => 65 - (intOf i).toNat)
  case atStart => exact ⟨0, by omega, rfl, by simp, by rw [show m % 2 ^ 0 = 0 from Nat.mod_one _]; exact M2⟩
  case round =>
    clear M2
    obtain ⟨k, hk, rfl, rfl, M⟩ := hrel
    have hq : m / 2 ^ k < 9223372036854775808 := Nat.lt_of_le_of_lt (Nat.div_le_self _ _) hm
    obtain ⟨q, hqe⟩ : ∃ q, q = m / 2 ^ k := ⟨_, rfl⟩
    rw [← hqe] at hq ⊢
    by_cases hlt : k < 65 ∧ q ≠ 0
    · obtain ⟨hlt, hq0⟩ := hlt
      have hq0' : ((q : Int) == 0) = false := by rw [beq_eq_false_iff_ne]; omega
      have hb : bt m k = q % 2 := by rw [hqe]; rfl
      have hn : m / 2 ^ (k + 1) = q / 2 := by rw [hqe, div_succ]
      have HN := Lib.hid hn
      have HB := Lib.hid hb
      have c1 := M.cell (g := g2) (by repeat (first | exact Has.head _ _ _ _ | apply Has.tail)) (numC_at' false (m % 2 ^ k) (i := k) (by omega))
      have c2 := M.free (g := g2) (by repeat (first | exact Has.head _ _ _ _ | apply Has.tail)) (1 + k)
      have hi0 : (0 : Int) ≤ k := by omega
      have hi1 : (k : Int) < 129 := by omega
      by_cases hodd : q % 2 = 1
      · have h2 : ((q : Int) % 2 == 0) = false := by rw [beq_eq_false_iff_ne]; omega
        have HO := Lib.hid hodd
        clear hn hb hqe hodd hq0
        go_wp2
        go_roundw
        case rel =>
          refine ⟨k + 1, by omega, by go_num, by rw [HN.out]; go_num, ?_⟩
          exact M.set (1 + k) (.int .i64 1) (by have e := num_up false m k; rw [HB.out, HO.out] at e; rw [show ((1 : Nat) : Int) = 1 from rfl] at e; rw [e]; exact (by repeat (first | exact Upd.head _ _ _ _ _ | apply Upd.tail))) (by rw [numC_len]; omega)
        case measure => simp [intOf] <;> omega
      · have h2 : ((q : Int) % 2 == 0) = true := by rw [beq_iff_eq]; omega
        have HO := Lib.hid hodd
        clear hn hb hqe hodd hq0
        go_wp2
        go_roundw
        case rel =>
          refine ⟨k + 1, by omega, by go_num, by rw [HN.out]; go_num, ?_⟩
          rw [← num_same false m k (by have := HB.out; have := HO.out; omega)]
          exact M
        case measure => simp [intOf] <;> omega
    · have hq0 : q = 0 := by
        rcases Nat.lt_or_ge k 65 with h | h
        · exact Decidable.byContradiction fun h' => hlt ⟨h, h'⟩
        · obtain rfl : k = 65 := by omega
          rw [hqe]; exact Nat.div_eq_of_lt (Nat.lt_of_lt_of_le hm (by decide))
      have hz : m % 2 ^ k = m := mod_full (by rw [← hqe]; exact hq0)
      rw [hz] at M
      subst hq0
      clear hqe hz hlt
      have M3 := M
      clear M
      go_wp2_with ((with_reducible refine (?_ : Go.wpList _ _ _ (_ :: _) _ _)); (first | go_skip | (refine wpL_ldc M3 rfl rfl rfl ?_) | (refine wpL_lgc M3 rfl rfl rfl ?_) | (refine wpL_ldh M3 rfl rfl rfl (by assumption) ?_) | (refine wpN_1 rfl rfl rfl ?_) | (refine wpN_0 rfl rfl ?_) | (refine wpN_2 rfl rfl rfl rfl ?_) | (refine wpL_stc M3 rfl rfl rfl rfl ?_; clear M3; intro w' M3) | (refine wpL_sti M3 rfl rfl rfl rfl ?_; clear M3; intro w' M3) | (refine wpL_sth M3 rfl rfl rfl rfl (wr_part _ _ _) ?_; clear M3; intro w' M3) | (refine wpL_sth M3 rfl rfl rfl rfl (wr_minus _ _ _) ?_; clear M3; intro w' M3) | (refine wpL_sth M3 rfl rfl rfl rfl (by assumption) ?_; clear M3; intro w' M3)))
      all_goals (((try simp only [Exit.inBlock, Exit.then]); refine bodyPost_ret (res_cell rfl M3 rfl (by repeat (first | exact Has.head _ _ _ _ | apply Has.tail)) (by first | exact rd_num _ _ | exact rd_bits _ | exact rd_part _ _ | exact rd_minus _ _ | assumption)) rfl ?_); exact ⟨rfl, M3.below⟩)
set_option maxRecDepth 20000 in
set_option maxHeartbeats 1600000 in
theorem of_neg (m : Nat) (h0 : 0 < m) (hm : m ≤ 9223372036854775808) (w : World) :
    Calls Try.prog 32 #[.int .i64 (-(m : Int))] w fun e w' => e = .returned (.agg (numC true m).toArray) ∧ Below w.heap.size w w' := by
  have M0 := Mem.start w
  have hneg : decide (-(m : Int) < 0) = true := by simp only [decide_eq_true_eq]; omega
  go_enter Try.func32, Try.ntmps32
  go_wp2_with ((with_reducible refine (?_ : Go.wpList _ _ _ (_ :: _) _ _)); (first | go_skip | (refine wpL_bx M0 rfl rfl rfl rfl ?_; clear M0; intro g1 w1 M1) | (refine wpL_alc M0 rfl rfl ?_; clear M0; intro g1 w1 M1) | (refine wpL_ldc M0 rfl rfl rfl ?_) | (refine wpL_lgc M0 rfl rfl rfl ?_) | (refine wpL_ldh M0 rfl rfl rfl (by assumption) ?_) | (refine wpN_1 rfl rfl rfl ?_) | (refine wpN_0 rfl rfl ?_) | (refine wpN_2 rfl rfl rfl rfl ?_) | (refine wpL_stc M0 rfl rfl rfl rfl ?_; clear M0; intro w' M0) | (refine wpL_sti M0 rfl rfl rfl rfl ?_; clear M0; intro w' M0) | (refine wpL_sth M0 rfl rfl rfl rfl (wr_part _ _ _) ?_; clear M0; intro w' M0) | (refine wpL_sth M0 rfl rfl rfl rfl (wr_minus _ _ _) ?_; clear M0; intro w' M0) | (refine wpL_sth M0 rfl rfl rfl rfl (by assumption) ?_; clear M0; intro w' M0) | (refine wpL_bx M1 rfl rfl rfl rfl ?_; clear M1; intro g2 w2 M2) | (refine wpL_alc M1 rfl rfl ?_; clear M1; intro g2 w2 M2) | (refine wpL_ldc M1 rfl rfl rfl ?_) | (refine wpL_lgc M1 rfl rfl rfl ?_) | (refine wpL_ldh M1 rfl rfl rfl (by assumption) ?_) | (refine wpL_stc M1 rfl rfl rfl rfl ?_; clear M1; intro w' M1) | (refine wpL_sti M1 rfl rfl rfl rfl ?_; clear M1; intro w' M1) | (refine wpL_sth M1 rfl rfl rfl rfl (wr_part _ _ _) ?_; clear M1; intro w' M1) | (refine wpL_sth M1 rfl rfl rfl rfl (wr_minus _ _ _) ?_; clear M1; intro w' M1) | (refine wpL_sth M1 rfl rfl rfl rfl (by assumption) ?_; clear M1; intro w' M1) | (refine wpL_ldc M2 rfl rfl rfl ?_) | (refine wpL_lgc M2 rfl rfl rfl ?_) | (refine wpL_ldh M2 rfl rfl rfl (by assumption) ?_) | (refine wpL_stc M2 rfl rfl rfl rfl ?_; clear M2; intro w' M2) | (refine wpL_sti M2 rfl rfl rfl rfl ?_; clear M2; intro w' M2) | (refine wpL_sth M2 rfl rfl rfl rfl (wr_part _ _ _) ?_; clear M2; intro w' M2) | (refine wpL_sth M2 rfl rfl rfl rfl (wr_minus _ _ _) ?_; clear M2; intro w' M2) | (refine wpL_sth M2 rfl rfl rfl rfl (by assumption) ?_; clear M2; intro w' M2)))
  go_loopw [4, 5] (fun n i wx => ∃ k : Nat, k ≤ 65 ∧ i = .int .i64 k ∧ n = .int .i64 (-((m / 2 ^ k : Nat) : Int)) ∧ Mem w wx [(g2, 47, numC true (m % 2 ^ k)), (g1, 47, numC false 0)]) (fun _ i _ => 65 - (intOf i).toNat)
  case atStart => exact ⟨0, by omega, rfl, by simp, by rw [show m % 2 ^ 0 = 0 from Nat.mod_one _]; exact M2⟩
  case round =>
    clear M2
    obtain ⟨k, hk, rfl, rfl, M⟩ := hrel
    have hq : m / 2 ^ k ≤ 9223372036854775808 := Nat.le_trans (Nat.div_le_self _ _) hm
    obtain ⟨q, hqe⟩ : ∃ q, q = m / 2 ^ k := ⟨_, rfl⟩
    rw [← hqe] at hq ⊢
    by_cases hlt : k < 65 ∧ q ≠ 0
    · obtain ⟨hlt, hq0⟩ := hlt
      have hq0' : (-(q : Int) == 0) = false := by rw [beq_eq_false_iff_ne]; omega
      have hb : bt m k = q % 2 := by rw [hqe]; rfl
      have hn : m / 2 ^ (k + 1) = q / 2 := by rw [hqe, div_succ]
      have HN := Lib.hid hn
      have HB := Lib.hid hb
      have c1 := M.cell (g := g2) (by repeat (first | exact Has.head _ _ _ _ | apply Has.tail)) (numC_at' true (m % 2 ^ k) (i := k) (by omega))
      have c2 := M.free (g := g2) (by repeat (first | exact Has.head _ _ _ _ | apply Has.tail)) (1 + k)
      have hi0 : (0 : Int) ≤ k := by omega
      have hi1 : (k : Int) < 129 := by omega
      by_cases hodd : q % 2 = 1
      · have h2 : (-((q : Int) % 2) == 0) = false := by rw [beq_eq_false_iff_ne]; omega
        have HO := Lib.hid hodd
        clear hn hb hqe hodd hq0
        go_wp2
        go_roundw
        case rel =>
          refine ⟨k + 1, by omega, by go_num, by rw [HN.out]; first | go_num | (congr 1; omega), ?_⟩
          exact M.set (1 + k) (.int .i64 1) (by have e := num_up true m k; rw [HB.out, HO.out] at e; rw [show ((1 : Nat) : Int) = 1 from rfl] at e; rw [e]; exact (by repeat (first | exact Upd.head _ _ _ _ _ | apply Upd.tail))) (by rw [numC_len]; omega)
        case measure => simp [intOf] <;> omega
      · have h2 : (-((q : Int) % 2) == 0) = true := by rw [beq_iff_eq]; omega
        have HO := Lib.hid hodd
        clear hn hb hqe hodd hq0
        go_wp2
        go_roundw
        case rel =>
          refine ⟨k + 1, by omega, by go_num, by rw [HN.out]; first | go_num | (congr 1; omega), ?_⟩
          rw [← num_same true m k (by have := HB.out; have := HO.out; omega)]
          exact M
        case measure => simp [intOf] <;> omega
    · have hq0 : q = 0 := by
        rcases Nat.lt_or_ge k 65 with h | h
        · exact Decidable.byContradiction fun h' => hlt ⟨h, h'⟩
        · obtain rfl : k = 65 := by omega
          rw [hqe]; exact Nat.div_eq_of_lt (Nat.lt_of_le_of_lt hm (by decide))
      have hz : m % 2 ^ k = m := mod_full (by rw [← hqe]; exact hq0)
      rw [hz] at M
      subst hq0
      clear hqe hz hlt
      have M3 := M
      clear M
      go_wp2_with ((with_reducible refine (?_ : Go.wpList _ _ _ (_ :: _) _ _)); (first | go_skip | (refine wpL_ldc M3 rfl rfl rfl ?_) | (refine wpL_lgc M3 rfl rfl rfl ?_) | (refine wpL_ldh M3 rfl rfl rfl (by assumption) ?_) | (refine wpN_1 rfl rfl rfl ?_) | (refine wpN_0 rfl rfl ?_) | (refine wpN_2 rfl rfl rfl rfl ?_) | (refine wpL_stc M3 rfl rfl rfl rfl ?_; clear M3; intro w' M3) | (refine wpL_sti M3 rfl rfl rfl rfl ?_; clear M3; intro w' M3) | (refine wpL_sth M3 rfl rfl rfl rfl (wr_part _ _ _) ?_; clear M3; intro w' M3) | (refine wpL_sth M3 rfl rfl rfl rfl (wr_minus _ _ _) ?_; clear M3; intro w' M3) | (refine wpL_sth M3 rfl rfl rfl rfl (by assumption) ?_; clear M3; intro w' M3)))
      all_goals (((try simp only [Exit.inBlock, Exit.then]); refine bodyPost_ret (res_cell rfl M3 rfl (by repeat (first | exact Has.head _ _ _ _ | apply Has.tail)) (by first | exact rd_num _ _ | exact rd_bits _ | exact rd_part _ _ | exact rd_minus _ _ | assumption)) rfl ?_); exact ⟨rfl, M3.below⟩)
end Go.Proofs.Ytbjhbbiahmhdeaa

/-
  The reference: the parts of a number; of two parts; the product.
-/
namespace Go.Proofs.Ytbjhbbiahmhdeaa
open Go Go.RowKit Go.Th Go.Th.Wide

theorem ret_ii {k k' : IntKind} {a b a' b' : Int} (h : a = a') (h' : b = b') : Ending.returned (.tuple #[.int k a, .int k' b]) = Ending.returned (.tuple #[.int k a', .int k' b']) := by rw [h, h']
theorem of_any (x : Int) (h : -9223372036854775808 ≤ x ∧ x ≤ 9223372036854775807) (w : World) :
    Calls Try.prog 32 #[.int .i64 x] w fun e w' => e = .returned (.agg (numC (decide (x < 0)) x.natAbs).toArray) ∧ Below w.heap.size w w' := by
  by_cases hx : x < 0
  · have e : x = -(x.natAbs : Int) := by omega
    have C := of_neg x.natAbs (by omega) (by omega) w
    rw [← e] at C
    rw [decide_eq_true hx]
    exact C
  · have e : x = (x.natAbs : Int) := by omega
    have C := of_pos x.natAbs (by omega) w
    rw [← e] at C
    rw [decide_eq_false hx]
    exact C

end Go.Proofs.Ytbjhbbiahmhdeaa

/-
  The reference: a number of two parts.
-/
namespace Go.Proofs.Ytbjhbbiahmhdeaa
open Go Go.RowKit Go.Th Go.Th.Wide

theorem bt_join (x y j : Nat) (hx : x < 2 ^ 64) : bt (x + 2 ^ 64 * y) j = if j < 64 then bt x j else bt y (j - 64) := by
  rw [Nat.add_comm]
  simp only [bt_test]
  rw [Nat.testBit_two_pow_mul_add _ hx]
  split <;> rfl
theorem from_sets (m : Bool) (L H k : Nat) (hk : k < 64) :
    ((numC m (L % 2 ^ k + 2 ^ 64 * (H % 2 ^ k))).set (1 + k) (.int .i64 ((bt L k : Nat) : Int))).set (1 + (64 + k)) (.int .i64 ((bt H k : Nat) : Int)) = numC m (L % 2 ^ (k + 1) + 2 ^ 64 * (H % 2 ^ (k + 1))) := by
  have hp : ∀ x j, j ≤ 64 → x % 2 ^ j < 2 ^ 64 := fun x j hj => Nat.lt_of_lt_of_le (Nat.mod_lt _ (Nat.two_pow_pos j)) (Nat.pow_le_pow_right (by decide) hj)
  rw [numC_set m _ (L % 2 ^ (k + 1) + 2 ^ 64 * (H % 2 ^ k)) (bt L k) k ?_ ?_, numC_set m _ (L % 2 ^ (k + 1) + 2 ^ 64 * (H % 2 ^ (k + 1))) (bt H k) (64 + k) ?_ ?_]
  · rw [bt_join _ _ _ (hp _ _ (by omega)), if_neg (by omega), bt_mod, show 64 + k - 64 = k by omega, if_pos (by omega)]
  · intro j _ hj
    rw [bt_join _ _ _ (hp _ _ (by omega)), bt_join _ _ _ (hp _ _ (by omega))]
    split
    · rfl
    · rw [bt_mod, bt_mod]
      by_cases h : j - 64 < k
      · rw [if_pos h, if_pos (by omega)]
      · rw [if_neg h, if_neg (by omega)]
  · rw [bt_join _ _ _ (hp _ _ (by omega)), if_pos hk, bt_mod, if_pos (by omega)]
  · intro j _ hj
    rw [bt_join _ _ _ (hp _ _ (by omega)), bt_join _ _ _ (hp _ _ (by omega))]
    split
    · rw [bt_mod, bt_mod]
      by_cases h : j < k
      · rw [if_pos h, if_pos (by omega)]
      · rw [if_neg h, if_neg (by omega)]
    · rfl

end Go.Proofs.Ytbjhbbiahmhdeaa

/-
  The reference: the product.
-/
namespace Go.Proofs.Ytbjhbbiahmhdeaa
open Go Go.RowKit Go.Th Go.Th.Wide

theorem mul_part (A B k : Nat) : A * (B % 2 ^ k) + (if bt B k = 1 then A * 2 ^ k else 0) = A * (B % 2 ^ (k + 1)) := by
  rw [mod_up, Nat.mul_add]
  congr 1
  have h := bt_lt B k
  by_cases h1 : bt B k = 1
  · rw [if_pos h1, h1, Nat.mul_one]
  · rw [if_neg h1, show bt B k = 0 by omega, Nat.mul_zero, Nat.mul_zero]
theorem mul_bound (A B k : Nat) (hA : A ≤ 2 ^ 63) (hk : k ≤ 65) : A * 2 ^ k ≤ 2 ^ 128 := by
  have h : A * 2 ^ k ≤ 2 ^ 63 * 2 ^ 65 := Nat.mul_le_mul hA (Nat.pow_le_pow_right (by decide) hk)
  exact h
theorem mul_bound2 (A B : Nat) (hA : A ≤ 2 ^ 63) (hB : B ≤ 2 ^ 63) : A * B ≤ 2 ^ 126 := by
  have h : A * B ≤ 2 ^ 63 * 2 ^ 63 := Nat.mul_le_mul hA hB
  exact h

set_option maxRecDepth 20000 in
set_option maxHeartbeats 3200000 in
theorem refMul_gen (a b : Int) (A B : Nat) (sa sb : Bool) (ha : -9223372036854775808 ≤ a ∧ a ≤ 9223372036854775807) (hb : -9223372036854775808 ≤ b ∧ b ≤ 9223372036854775807)
    (hA : A = a.natAbs) (hB : B = b.natAbs) (hsa : sa = decide (a < 0)) (hsb : sb = decide (b < 0)) (w : World) :
    Calls Try.prog 26 #[.int .i64 a, .int .i64 b] w fun e w' => e = .returned (.agg (numC ((sa != sb) && !decide (A * B = 0)) (A * B)).toArray) ∧ Below w.heap.size w w' := by
  have hA2 : A ≤ 2 ^ 63 := by omega
  have hB2 : B ≤ 2 ^ 63 := by omega
  have C1 := of_any a ha
  have C2 := of_any b hb
  rw [← hA, ← hsa] at C1
  rw [← hB, ← hsb] at C2
  clear hA hB hsa hsb
  have M0 := Mem.start w
  go_enter Try.func26, Try.ntmps26
  go_wp2_with ((with_reducible refine (?_ : Go.wpList _ _ _ (_ :: _) _ _)); (first | go_skip | (refine wpL_bx M0 rfl rfl rfl rfl ?_; clear M0; intro g1 w1 M1) | (refine wpL_alc M0 rfl rfl ?_; clear M0; intro g1 w1 M1) | (refine wpL_ldc M0 rfl rfl rfl ?_) | (refine wpL_lgc M0 rfl rfl rfl ?_) | (refine wpL_ldh M0 rfl rfl rfl (by assumption) ?_) | (refine wpN_1 rfl rfl rfl ?_) | (refine wpN_0 rfl rfl ?_) | (refine wpN_2 rfl rfl rfl rfl ?_) | (refine wpL_stc M0 rfl rfl rfl rfl ?_; clear M0; intro w' M0) | (refine wpL_sti M0 rfl rfl rfl rfl ?_; clear M0; intro w' M0) | (refine wpL_sth M0 rfl rfl rfl rfl (wr_part _ _ _) ?_; clear M0; intro w' M0) | (refine wpL_sth M0 rfl rfl rfl rfl (wr_minus _ _ _) ?_; clear M0; intro w' M0) | (refine wpL_sth M0 rfl rfl rfl rfl (by assumption) ?_; clear M0; intro w' M0) | (refine wpL_ldc M1 rfl rfl rfl ?_) | (refine wpL_lgc M1 rfl rfl rfl ?_) | (refine wpL_ldh M1 rfl rfl rfl (by assumption) ?_) | (refine wpL_stc M1 rfl rfl rfl rfl ?_; clear M1; intro w' M1) | (refine wpL_sti M1 rfl rfl rfl rfl ?_; clear M1; intro w' M1) | (refine wpL_sth M1 rfl rfl rfl rfl (wr_part _ _ _) ?_; clear M1; intro w' M1) | (refine wpL_sth M1 rfl rfl rfl rfl (wr_minus _ _ _) ?_; clear M1; intro w' M1) | (refine wpL_sth M1 rfl rfl rfl rfl (by assumption) ?_; clear M1; intro w' M1)))
  refine (C1 _).mono ?_
  rintro e w2 ⟨rfl, hBl⟩
  replace M1 := M1.call hBl
  clear hBl
  go_wp2_with ((with_reducible refine (?_ : Go.wpList _ _ _ (_ :: _) _ _)); (first | go_skip | (refine wpL_bx M1 rfl rfl rfl rfl ?_; clear M1; intro g2 w2 M2) | (refine wpL_alc M1 rfl rfl ?_; clear M1; intro g2 w2 M2) | (refine wpL_ldc M1 rfl rfl rfl ?_) | (refine wpL_lgc M1 rfl rfl rfl ?_) | (refine wpL_ldh M1 rfl rfl rfl (by assumption) ?_) | (refine wpN_1 rfl rfl rfl ?_) | (refine wpN_0 rfl rfl ?_) | (refine wpN_2 rfl rfl rfl rfl ?_) | (refine wpL_stc M1 rfl rfl rfl rfl ?_; clear M1; intro w' M1) | (refine wpL_sti M1 rfl rfl rfl rfl ?_; clear M1; intro w' M1) | (refine wpL_sth M1 rfl rfl rfl rfl (wr_part _ _ _) ?_; clear M1; intro w' M1) | (refine wpL_sth M1 rfl rfl rfl rfl (wr_minus _ _ _) ?_; clear M1; intro w' M1) | (refine wpL_sth M1 rfl rfl rfl rfl (by assumption) ?_; clear M1; intro w' M1) | (refine wpL_ldc M2 rfl rfl rfl ?_) | (refine wpL_lgc M2 rfl rfl rfl ?_) | (refine wpL_ldh M2 rfl rfl rfl (by assumption) ?_) | (refine wpL_stc M2 rfl rfl rfl rfl ?_; clear M2; intro w' M2) | (refine wpL_sti M2 rfl rfl rfl rfl ?_; clear M2; intro w' M2) | (refine wpL_sth M2 rfl rfl rfl rfl (wr_part _ _ _) ?_; clear M2; intro w' M2) | (refine wpL_sth M2 rfl rfl rfl rfl (wr_minus _ _ _) ?_; clear M2; intro w' M2) | (refine wpL_sth M2 rfl rfl rfl rfl (by assumption) ?_; clear M2; intro w' M2)))
  refine (C2 _).mono ?_
  rintro e w2 ⟨rfl, hBl⟩
  replace M2 := M2.call hBl
  clear hBl C1 C2
  go_wp2_with ((with_reducible refine (?_ : Go.wpList _ _ _ (_ :: _) _ _)); (first | go_skip | (refine wpL_bx M2 rfl rfl rfl rfl ?_; clear M2; intro g3 w3 M3) | (refine wpL_alc M2 rfl rfl ?_; clear M2; intro g3 w3 M3) | (refine wpL_ldc M2 rfl rfl rfl ?_) | (refine wpL_lgc M2 rfl rfl rfl ?_) | (refine wpL_ldh M2 rfl rfl rfl (by assumption) ?_) | (refine wpN_1 rfl rfl rfl ?_) | (refine wpN_0 rfl rfl ?_) | (refine wpN_2 rfl rfl rfl rfl ?_) | (refine wpL_stc M2 rfl rfl rfl rfl ?_; clear M2; intro w' M2) | (refine wpL_sti M2 rfl rfl rfl rfl ?_; clear M2; intro w' M2) | (refine wpL_sth M2 rfl rfl rfl rfl (wr_part _ _ _) ?_; clear M2; intro w' M2) | (refine wpL_sth M2 rfl rfl rfl rfl (wr_minus _ _ _) ?_; clear M2; intro w' M2) | (refine wpL_sth M2 rfl rfl rfl rfl (by assumption) ?_; clear M2; intro w' M2) | (refine wpL_bx M3 rfl rfl rfl rfl ?_; clear M3; intro g4 w4 M4) | (refine wpL_alc M3 rfl rfl ?_; clear M3; intro g4 w4 M4) | (refine wpL_ldc M3 rfl rfl rfl ?_) | (refine wpL_lgc M3 rfl rfl rfl ?_) | (refine wpL_ldh M3 rfl rfl rfl (by assumption) ?_) | (refine wpL_stc M3 rfl rfl rfl rfl ?_; clear M3; intro w' M3) | (refine wpL_sti M3 rfl rfl rfl rfl ?_; clear M3; intro w' M3) | (refine wpL_sth M3 rfl rfl rfl rfl (wr_part _ _ _) ?_; clear M3; intro w' M3) | (refine wpL_sth M3 rfl rfl rfl rfl (wr_minus _ _ _) ?_; clear M3; intro w' M3) | (refine wpL_sth M3 rfl rfl rfl rfl (by assumption) ?_; clear M3; intro w' M3) | (refine wpL_bx M4 rfl rfl rfl rfl ?_; clear M4; intro g5 w5 M5) | (refine wpL_alc M4 rfl rfl ?_; clear M4; intro g5 w5 M5) | (refine wpL_ldc M4 rfl rfl rfl ?_) | (refine wpL_lgc M4 rfl rfl rfl ?_) | (refine wpL_ldh M4 rfl rfl rfl (by assumption) ?_) | (refine wpL_stc M4 rfl rfl rfl rfl ?_; clear M4; intro w' M4) | (refine wpL_sti M4 rfl rfl rfl rfl ?_; clear M4; intro w' M4) | (refine wpL_sth M4 rfl rfl rfl rfl (wr_part _ _ _) ?_; clear M4; intro w' M4) | (refine wpL_sth M4 rfl rfl rfl rfl (wr_minus _ _ _) ?_; clear M4; intro w' M4) | (refine wpL_sth M4 rfl rfl rfl rfl (by assumption) ?_; clear M4; intro w' M4) | (refine wpL_ldc M5 rfl rfl rfl ?_) | (refine wpL_lgc M5 rfl rfl rfl ?_) | (refine wpL_ldh M5 rfl rfl rfl (by assumption) ?_) | (refine wpL_stc M5 rfl rfl rfl rfl ?_; clear M5; intro w' M5) | (refine wpL_sti M5 rfl rfl rfl rfl ?_; clear M5; intro w' M5) | (refine wpL_sth M5 rfl rfl rfl rfl (wr_part _ _ _) ?_; clear M5; intro w' M5) | (refine wpL_sth M5 rfl rfl rfl rfl (wr_minus _ _ _) ?_; clear M5; intro w' M5) | (refine wpL_sth M5 rfl rfl rfl rfl (by assumption) ?_; clear M5; intro w' M5)))
  go_loopw [9] (fun i wx => ∃ k : Nat, k ≤ 65 ∧ i = .int .i64 k ∧ Mem w wx [(g5, 45, bitsC (A * 2 ^ k)), (g4, 47, numC false (A * (B % 2 ^ k))), (g3, 47, numC sb B), (g2, 47, numC sa A), (g1, 47, numC false 0)]) (fun i _ => 65 - (intOf i).toNat)
  case atStart => exact ⟨0, by omega, rfl, by rw [Nat.pow_zero, Nat.mul_one, Nat.mod_one, Nat.mul_zero]; exact M5⟩
  case round =>
    clear M5
    obtain ⟨k, hk, rfl, M6⟩ := hrel
    have b1 := mul_bound A B k hA2 hk
    by_cases hlt : k < 65
    · have c1 := M6.cell (g := g3) (by repeat (first | exact Has.head _ _ _ _ | apply Has.tail)) (numC_at' sb B (i := k) (by omega))
      have hi0 : (0 : Int) ≤ k := by omega
      have hi1 : (k : Int) < 129 := by omega
      have hp := mul_part A B k
      have b2 : A * (B % 2 ^ (k + 1)) ≤ 2 ^ 126 := mul_bound2 _ _ hA2 (Nat.le_trans (Nat.mod_le _ _) hB2)
      have hs : 2 * (A * 2 ^ k) = A * 2 ^ (k + 1) := by rw [Nat.pow_succ, Nat.mul_left_comm, Nat.mul_comm 2]
      have b3 := mul_bound A B (k + 1) hA2 (by omega)
      have C3 := shift_any (A * 2 ^ k)
      rw [hs, Nat.mod_eq_of_lt (Nat.lt_of_le_of_lt b3 (by decide))] at C3
      by_cases h1 : bt B k = 1
      · rw [h1] at c1
        rw [if_pos h1] at hp
        have C4 := addBits_any (A * (B % 2 ^ k)) (A * 2 ^ k)
        rw [hp, Nat.mod_eq_of_lt (Nat.lt_of_le_of_lt b2 (by decide))] at C4
        clear hp h1 hs b1 b2 b3
        go_wp2_with ((with_reducible refine (?_ : Go.wpList _ _ _ (_ :: _) _ _)); (first | go_skip | (refine wpL_ldc M6 rfl rfl rfl ?_) | (refine wpL_lgc M6 rfl rfl rfl ?_) | (refine wpL_ldh M6 rfl rfl rfl (by assumption) ?_) | (refine wpN_1 rfl rfl rfl ?_) | (refine wpN_0 rfl rfl ?_) | (refine wpN_2 rfl rfl rfl rfl ?_) | (refine wpL_stc M6 rfl rfl rfl rfl ?_; clear M6; intro w' M6) | (refine wpL_sti M6 rfl rfl rfl rfl ?_; clear M6; intro w' M6) | (refine wpL_sth M6 rfl rfl rfl rfl (wr_part _ _ _) ?_; clear M6; intro w' M6) | (refine wpL_sth M6 rfl rfl rfl rfl (wr_minus _ _ _) ?_; clear M6; intro w' M6) | (refine wpL_sth M6 rfl rfl rfl rfl (by assumption) ?_; clear M6; intro w' M6)))
        refine (C4 _).mono ?_
        rintro e w2 ⟨rfl, hBl⟩
        replace M6 := M6.call hBl
        clear hBl C4
        go_wp2_with ((with_reducible refine (?_ : Go.wpList _ _ _ (_ :: _) _ _)); (first | go_skip | (refine wpL_ldc M6 rfl rfl rfl ?_) | (refine wpL_lgc M6 rfl rfl rfl ?_) | (refine wpL_ldh M6 rfl rfl rfl (by assumption) ?_) | (refine wpN_1 rfl rfl rfl ?_) | (refine wpN_0 rfl rfl ?_) | (refine wpN_2 rfl rfl rfl rfl ?_) | (refine wpL_stc M6 rfl rfl rfl rfl ?_; clear M6; intro w' M6) | (refine wpL_sti M6 rfl rfl rfl rfl ?_; clear M6; intro w' M6) | (refine wpL_sth M6 rfl rfl rfl rfl (wr_part _ _ _) ?_; clear M6; intro w' M6) | (refine wpL_sth M6 rfl rfl rfl rfl (wr_minus _ _ _) ?_; clear M6; intro w' M6) | (refine wpL_sth M6 rfl rfl rfl rfl (by assumption) ?_; clear M6; intro w' M6)))
        refine (C3 _).mono ?_
        rintro e w2 ⟨rfl, hBl⟩
        replace M6 := M6.call hBl
        clear hBl C3
        go_wp2_with ((with_reducible refine (?_ : Go.wpList _ _ _ (_ :: _) _ _)); (first | go_skip | (refine wpL_ldc M6 rfl rfl rfl ?_) | (refine wpL_lgc M6 rfl rfl rfl ?_) | (refine wpL_ldh M6 rfl rfl rfl (by assumption) ?_) | (refine wpN_1 rfl rfl rfl ?_) | (refine wpN_0 rfl rfl ?_) | (refine wpN_2 rfl rfl rfl rfl ?_) | (refine wpL_stc M6 rfl rfl rfl rfl ?_; clear M6; intro w' M6) | (refine wpL_sti M6 rfl rfl rfl rfl ?_; clear M6; intro w' M6) | (refine wpL_sth M6 rfl rfl rfl rfl (wr_part _ _ _) ?_; clear M6; intro w' M6) | (refine wpL_sth M6 rfl rfl rfl rfl (wr_minus _ _ _) ?_; clear M6; intro w' M6) | (refine wpL_sth M6 rfl rfl rfl rfl (by assumption) ?_; clear M6; intro w' M6)))
        go_roundw
        case rel => exact ⟨k + 1, by omega, by go_num, M6⟩
        case measure => simp [intOf] <;> omega
      · have h0 : bt B k = 0 := by have := bt_lt B k; omega
        rw [h0] at c1
        rw [if_neg h1, Nat.add_zero] at hp
        rw [hp] at M6
        clear hp h1 h0 hs b1 b2 b3
        go_wp2_with ((with_reducible refine (?_ : Go.wpList _ _ _ (_ :: _) _ _)); (first | go_skip | (refine wpL_ldc M6 rfl rfl rfl ?_) | (refine wpL_lgc M6 rfl rfl rfl ?_) | (refine wpL_ldh M6 rfl rfl rfl (by assumption) ?_) | (refine wpN_1 rfl rfl rfl ?_) | (refine wpN_0 rfl rfl ?_) | (refine wpN_2 rfl rfl rfl rfl ?_) | (refine wpL_stc M6 rfl rfl rfl rfl ?_; clear M6; intro w' M6) | (refine wpL_sti M6 rfl rfl rfl rfl ?_; clear M6; intro w' M6) | (refine wpL_sth M6 rfl rfl rfl rfl (wr_part _ _ _) ?_; clear M6; intro w' M6) | (refine wpL_sth M6 rfl rfl rfl rfl (wr_minus _ _ _) ?_; clear M6; intro w' M6) | (refine wpL_sth M6 rfl rfl rfl rfl (by assumption) ?_; clear M6; intro w' M6)))
        refine (C3 _).mono ?_
        rintro e w2 ⟨rfl, hBl⟩
        replace M6 := M6.call hBl
        clear hBl C3
        go_wp2_with ((with_reducible refine (?_ : Go.wpList _ _ _ (_ :: _) _ _)); (first | go_skip | (refine wpL_ldc M6 rfl rfl rfl ?_) | (refine wpL_lgc M6 rfl rfl rfl ?_) | (refine wpL_ldh M6 rfl rfl rfl (by assumption) ?_) | (refine wpN_1 rfl rfl rfl ?_) | (refine wpN_0 rfl rfl ?_) | (refine wpN_2 rfl rfl rfl rfl ?_) | (refine wpL_stc M6 rfl rfl rfl rfl ?_; clear M6; intro w' M6) | (refine wpL_sti M6 rfl rfl rfl rfl ?_; clear M6; intro w' M6) | (refine wpL_sth M6 rfl rfl rfl rfl (wr_part _ _ _) ?_; clear M6; intro w' M6) | (refine wpL_sth M6 rfl rfl rfl rfl (wr_minus _ _ _) ?_; clear M6; intro w' M6) | (refine wpL_sth M6 rfl rfl rfl rfl (by assumption) ?_; clear M6; intro w' M6)))
        go_roundw
        case rel => exact ⟨k + 1, by omega, by go_num, M6⟩
        case measure => simp [intOf] <;> omega
    · obtain rfl : k = 65 := by omega
      rw [Nat.mod_eq_of_lt (Nat.lt_of_le_of_lt hB2 (by decide))] at M6
      have b2 : A * B ≤ 2 ^ 126 := mul_bound2 _ _ hA2 hB2
      have C5 := zero_any false (A * B) (Nat.lt_of_le_of_lt b2 (by decide))
      obtain ⟨N, hN⟩ : ∃ N, N = A * B := ⟨_, rfl⟩
      rw [← hN] at C5 M6
      have HN := Lib.hid hN
      clear b1 b2 hN hlt hk
      by_cases hss : sa = sb
      · subst hss
        go_wp2_with ((with_reducible refine (?_ : Go.wpList _ _ _ (_ :: _) _ _)); (first | go_skip | (refine wpL_ldc M6 rfl rfl rfl ?_) | (refine wpL_lgc M6 rfl rfl rfl ?_) | (refine wpL_ldh M6 rfl rfl rfl (by assumption) ?_) | (refine wpN_1 rfl rfl rfl ?_) | (refine wpN_0 rfl rfl ?_) | (refine wpN_2 rfl rfl rfl rfl ?_) | (refine wpL_stc M6 rfl rfl rfl rfl ?_; clear M6; intro w' M6) | (refine wpL_sti M6 rfl rfl rfl rfl ?_; clear M6; intro w' M6) | (refine wpL_sth M6 rfl rfl rfl rfl (wr_part _ _ _) ?_; clear M6; intro w' M6) | (refine wpL_sth M6 rfl rfl rfl rfl (wr_minus _ _ _) ?_; clear M6; intro w' M6) | (refine wpL_sth M6 rfl rfl rfl rfl (by assumption) ?_; clear M6; intro w' M6)))
        ((try simp only [Exit.inBlock, Exit.then]); refine bodyPost_ret (res_cell rfl M6 rfl (by repeat (first | exact Has.head _ _ _ _ | apply Has.tail)) (by first | exact rd_num _ _ | exact rd_bits _ | exact rd_part _ _ | exact rd_minus _ _ | assumption)) rfl ?_)
        exact ⟨by rw [← HN.out]; simp, M6.below⟩
      · have hss2 : (sa == sb) = false := by simpa using hss
        go_wp2_with ((with_reducible refine (?_ : Go.wpList _ _ _ (_ :: _) _ _)); (first | go_skip | (refine wpL_ldc M6 rfl rfl rfl ?_) | (refine wpL_lgc M6 rfl rfl rfl ?_) | (refine wpL_ldh M6 rfl rfl rfl (by assumption) ?_) | (refine wpN_1 rfl rfl rfl ?_) | (refine wpN_0 rfl rfl ?_) | (refine wpN_2 rfl rfl rfl rfl ?_) | (refine wpL_stc M6 rfl rfl rfl rfl ?_; clear M6; intro w' M6) | (refine wpL_sti M6 rfl rfl rfl rfl ?_; clear M6; intro w' M6) | (refine wpL_sth M6 rfl rfl rfl rfl (wr_part _ _ _) ?_; clear M6; intro w' M6) | (refine wpL_sth M6 rfl rfl rfl rfl (wr_minus _ _ _) ?_; clear M6; intro w' M6) | (refine wpL_sth M6 rfl rfl rfl rfl (by assumption) ?_; clear M6; intro w' M6)))
        refine (C5 _).mono ?_
        rintro e w2 ⟨rfl, hBl⟩
        replace M6 := M6.call hBl
        clear hBl C5
        go_wp2_with ((with_reducible refine (?_ : Go.wpList _ _ _ (_ :: _) _ _)); (first | go_skip | (refine wpL_ldc M6 rfl rfl rfl ?_) | (refine wpL_lgc M6 rfl rfl rfl ?_) | (refine wpL_ldh M6 rfl rfl rfl (by assumption) ?_) | (refine wpN_1 rfl rfl rfl ?_) | (refine wpN_0 rfl rfl ?_) | (refine wpN_2 rfl rfl rfl rfl ?_) | (refine wpL_stc M6 rfl rfl rfl rfl ?_; clear M6; intro w' M6) | (refine wpL_sti M6 rfl rfl rfl rfl ?_; clear M6; intro w' M6) | (refine wpL_sth M6 rfl rfl rfl rfl (wr_part _ _ _) ?_; clear M6; intro w' M6) | (refine wpL_sth M6 rfl rfl rfl rfl (wr_minus _ _ _) ?_; clear M6; intro w' M6) | (refine wpL_sth M6 rfl rfl rfl rfl (by assumption) ?_; clear M6; intro w' M6)))
        ((try simp only [Exit.inBlock, Exit.then]); refine bodyPost_ret (res_cell rfl M6 rfl (by repeat (first | exact Has.head _ _ _ _ | apply Has.tail)) (by first | exact rd_num _ _ | exact rd_bits _ | exact rd_part _ _ | exact rd_minus _ _ | assumption)) rfl ?_)
        exact ⟨by rw [← HN.out]; simp [bne, hss2], M6.below⟩

theorem refMul_any (a b : Int) (ha : -9223372036854775808 ≤ a ∧ a ≤ 9223372036854775807) (hb : -9223372036854775808 ≤ b ∧ b ≤ 9223372036854775807) (w : World) :
    Calls Try.prog 26 #[.int .i64 a, .int .i64 b] w fun e w' => e = .returned (.agg (numC (decide (a * b < 0)) (a * b).natAbs).toArray) ∧ Below w.heap.size w w' := by
  have C := refMul_gen a b _ _ _ _ ha hb rfl rfl rfl rfl w
  have e : ((decide (a < 0) != decide (b < 0)) && !decide (a.natAbs * b.natAbs = 0)) = decide (a * b < 0) := by
    have h0 : a.natAbs * b.natAbs = 0 ↔ a * b = 0 := by rw [← Int.natAbs_mul]; exact Int.natAbs_eq_zero
    rcases Int.lt_trichotomy a 0 with h | h | h <;> rcases Int.lt_trichotomy b 0 with h' | h' | h'
    · have := Int.mul_pos_of_neg_of_neg h h'
      rw [decide_eq_true h, decide_eq_true h', decide_eq_false (p := a * b < 0) (by omega)]; rfl
    · subst h'; simp
    · have := Int.mul_neg_of_neg_of_pos h h'
      rw [decide_eq_true h, decide_eq_false (p := b < 0) (by omega), decide_eq_true this, decide_eq_false (p := _ = 0) (by rw [h0]; omega)]; rfl
    · subst h; simp
    · subst h; simp
    · subst h; simp
    · have := Int.mul_neg_of_pos_of_neg h h'
      rw [decide_eq_false (p := a < 0) (by omega), decide_eq_true h', decide_eq_true this, decide_eq_false (p := _ = 0) (by rw [h0]; omega)]; rfl
    · subst h'; simp
    · have := Int.mul_pos h h'
      rw [decide_eq_false (p := a < 0) (by omega), decide_eq_false (p := b < 0) (by omega), decide_eq_false (p := a * b < 0) (by omega)]; rfl
  rw [e, ← Int.natAbs_mul] at C
  exact C
end Go.Proofs.Ytbjhbbiahmhdeaa

/-
  The reference: the sum.
-/
namespace Go.Proofs.Ytbjhbbiahmhdeaa
open Go Go.RowKit Go.Th Go.Th.Wide

theorem fits_127 (m : Bool) (n : Nat) (hn : n < 2 ^ 129) (w : World) :
    Calls Try.prog 48 #[.agg (numC m n).toArray, .int .i64 127] w fun e w' => e = .returned (.bool (fitsS m n 127)) ∧ Below w.heap.size w w' := fits_any m n 127 hn (by decide) w
theorem fits_63 (m : Bool) (n : Nat) (hn : n < 2 ^ 129) (w : World) :
    Calls Try.prog 48 #[.agg (numC m n).toArray, .int .i64 63] w fun e w' => e = .returned (.bool (fitsS m n 63)) ∧ Below w.heap.size w w' := fits_any m n 63 hn (by decide) w

/-- The sum's sign and magnitude. -/
def sumM (m1 : Bool) (n1 : Nat) (m2 : Bool) (n2 : Nat) : Bool := decide (signed m1 n1 + signed m2 n2 < 0)
def sumN (m1 : Bool) (n1 : Nat) (m2 : Bool) (n2 : Nat) : Nat := (signed m1 n1 + signed m2 n2).natAbs

set_option maxRecDepth 20000 in
set_option maxHeartbeats 3200000 in
theorem refAdd_any (m1 m2 : Bool) (n1 n2 : Nat) (h1 : n1 < 2 ^ 128) (h2 : n2 < 2 ^ 128) (w : World) :
    Calls Try.prog 25 #[.agg (numC m1 n1).toArray, .agg (numC m2 n2).toArray] w fun e w' =>
      e = .returned (.tuple #[.agg (numC (sumM m1 n1 m2 n2) (sumN m1 n1 m2 n2)).toArray, .bool (fitsS (sumM m1 n1 m2 n2) (sumN m1 n1 m2 n2) 127)]) ∧ Below w.heap.size w w' := by
  obtain ⟨RM, hRM⟩ : ∃ RM, RM = sumM m1 n1 m2 n2 := ⟨_, rfl⟩
  obtain ⟨RN, hRN⟩ : ∃ RN, RN = sumN m1 n1 m2 n2 := ⟨_, rfl⟩
  rw [← hRM, ← hRN]
  have hRN2 : RN < 2 ^ 129 := by rw [hRN]; unfold sumN signed; split <;> split <;> omega
  have C5 := fits_127 RM RN hRN2
  have C2 := fun m => zero_any m RN hRN2
  unfold sumM signed at hRM
  unfold sumN signed at hRN
  by_cases hs : m1 = m2
  · subst hs
    have e : (n1 + n2) % 2 ^ 129 = RN := by rw [hRN]; split <;> omega
    have C1 := addBits_any n1 n2
    rw [e] at C1
    by_cases hz : RN = 0
    · have hm : RM = false := by rw [hRM, decide_eq_false_iff_not]; rw [hRN] at hz; split at hz <;> split <;> omega
      have hd : decide (RN = 0) = true := by simpa using hz
      subst hm
      rw [hd] at C2
      clear hRM hRN hz e h1 h2 hRN2
      have M0 := Mem.start w
      go_enter Try.func25, Try.ntmps25
      go_wp2_with ((with_reducible refine (?_ : Go.wpList _ _ _ (_ :: _) _ _)); (first | go_skip | (refine wpL_bx M0 rfl rfl rfl rfl ?_; clear M0; intro g1 w1 M1) | (refine wpL_alc M0 rfl rfl ?_; clear M0; intro g1 w1 M1) | (refine wpL_ldc M0 rfl rfl rfl ?_) | (refine wpL_lgc M0 rfl rfl rfl ?_) | (refine wpL_ldh M0 rfl rfl rfl (by assumption) ?_) | (refine wpN_1 rfl rfl rfl ?_) | (refine wpN_0 rfl rfl ?_) | (refine wpN_2 rfl rfl rfl rfl ?_) | (refine wpL_stc M0 rfl rfl rfl rfl ?_; clear M0; intro w' M0) | (refine wpL_sti M0 rfl rfl rfl rfl ?_; clear M0; intro w' M0) | (refine wpL_sth M0 rfl rfl rfl rfl (wr_part _ _ _) ?_; clear M0; intro w' M0) | (refine wpL_sth M0 rfl rfl rfl rfl (wr_minus _ _ _) ?_; clear M0; intro w' M0) | (refine wpL_sth M0 rfl rfl rfl rfl (by assumption) ?_; clear M0; intro w' M0) | (refine wpL_bx M1 rfl rfl rfl rfl ?_; clear M1; intro g2 w2 M2) | (refine wpL_alc M1 rfl rfl ?_; clear M1; intro g2 w2 M2) | (refine wpL_ldc M1 rfl rfl rfl ?_) | (refine wpL_lgc M1 rfl rfl rfl ?_) | (refine wpL_ldh M1 rfl rfl rfl (by assumption) ?_) | (refine wpL_stc M1 rfl rfl rfl rfl ?_; clear M1; intro w' M1) | (refine wpL_sti M1 rfl rfl rfl rfl ?_; clear M1; intro w' M1) | (refine wpL_sth M1 rfl rfl rfl rfl (wr_part _ _ _) ?_; clear M1; intro w' M1) | (refine wpL_sth M1 rfl rfl rfl rfl (wr_minus _ _ _) ?_; clear M1; intro w' M1) | (refine wpL_sth M1 rfl rfl rfl rfl (by assumption) ?_; clear M1; intro w' M1) | (refine wpL_bx M2 rfl rfl rfl rfl ?_; clear M2; intro g3 w3 M3) | (refine wpL_alc M2 rfl rfl ?_; clear M2; intro g3 w3 M3) | (refine wpL_ldc M2 rfl rfl rfl ?_) | (refine wpL_lgc M2 rfl rfl rfl ?_) | (refine wpL_ldh M2 rfl rfl rfl (by assumption) ?_) | (refine wpL_stc M2 rfl rfl rfl rfl ?_; clear M2; intro w' M2) | (refine wpL_sti M2 rfl rfl rfl rfl ?_; clear M2; intro w' M2) | (refine wpL_sth M2 rfl rfl rfl rfl (wr_part _ _ _) ?_; clear M2; intro w' M2) | (refine wpL_sth M2 rfl rfl rfl rfl (wr_minus _ _ _) ?_; clear M2; intro w' M2) | (refine wpL_sth M2 rfl rfl rfl rfl (by assumption) ?_; clear M2; intro w' M2) | (refine wpL_bx M3 rfl rfl rfl rfl ?_; clear M3; intro g4 w4 M4) | (refine wpL_alc M3 rfl rfl ?_; clear M3; intro g4 w4 M4) | (refine wpL_ldc M3 rfl rfl rfl ?_) | (refine wpL_lgc M3 rfl rfl rfl ?_) | (refine wpL_ldh M3 rfl rfl rfl (by assumption) ?_) | (refine wpL_stc M3 rfl rfl rfl rfl ?_; clear M3; intro w' M3) | (refine wpL_sti M3 rfl rfl rfl rfl ?_; clear M3; intro w' M3) | (refine wpL_sth M3 rfl rfl rfl rfl (wr_part _ _ _) ?_; clear M3; intro w' M3) | (refine wpL_sth M3 rfl rfl rfl rfl (wr_minus _ _ _) ?_; clear M3; intro w' M3) | (refine wpL_sth M3 rfl rfl rfl rfl (by assumption) ?_; clear M3; intro w' M3) | (refine wpL_ldc M4 rfl rfl rfl ?_) | (refine wpL_lgc M4 rfl rfl rfl ?_) | (refine wpL_ldh M4 rfl rfl rfl (by assumption) ?_) | (refine wpL_stc M4 rfl rfl rfl rfl ?_; clear M4; intro w' M4) | (refine wpL_sti M4 rfl rfl rfl rfl ?_; clear M4; intro w' M4) | (refine wpL_sth M4 rfl rfl rfl rfl (wr_part _ _ _) ?_; clear M4; intro w' M4) | (refine wpL_sth M4 rfl rfl rfl rfl (wr_minus _ _ _) ?_; clear M4; intro w' M4) | (refine wpL_sth M4 rfl rfl rfl rfl (by assumption) ?_; clear M4; intro w' M4)))
      refine (C1 _).mono ?_
      rintro e w2 ⟨rfl, hBl⟩
      replace M4 := M4.call hBl
      clear hBl C1
      go_wp2_with ((with_reducible refine (?_ : Go.wpList _ _ _ (_ :: _) _ _)); (first | go_skip | (refine wpL_ldc M4 rfl rfl rfl ?_) | (refine wpL_lgc M4 rfl rfl rfl ?_) | (refine wpL_ldh M4 rfl rfl rfl (by assumption) ?_) | (refine wpN_1 rfl rfl rfl ?_) | (refine wpN_0 rfl rfl ?_) | (refine wpN_2 rfl rfl rfl rfl ?_) | (refine wpL_stc M4 rfl rfl rfl rfl ?_; clear M4; intro w' M4) | (refine wpL_sti M4 rfl rfl rfl rfl ?_; clear M4; intro w' M4) | (refine wpL_sth M4 rfl rfl rfl rfl (wr_part _ _ _) ?_; clear M4; intro w' M4) | (refine wpL_sth M4 rfl rfl rfl rfl (wr_minus _ _ _) ?_; clear M4; intro w' M4) | (refine wpL_sth M4 rfl rfl rfl rfl (by assumption) ?_; clear M4; intro w' M4)))
      refine (C2 _ _).mono ?_
      rintro e w2 ⟨rfl, hBl⟩
      replace M4 := M4.call hBl
      clear hBl C2
      go_wp2_with ((with_reducible refine (?_ : Go.wpList _ _ _ (_ :: _) _ _)); (first | go_skip | (refine wpL_ldc M4 rfl rfl rfl ?_) | (refine wpL_lgc M4 rfl rfl rfl ?_) | (refine wpL_ldh M4 rfl rfl rfl (by assumption) ?_) | (refine wpN_1 rfl rfl rfl ?_) | (refine wpN_0 rfl rfl ?_) | (refine wpN_2 rfl rfl rfl rfl ?_) | (refine wpL_stc M4 rfl rfl rfl rfl ?_; clear M4; intro w' M4) | (refine wpL_sti M4 rfl rfl rfl rfl ?_; clear M4; intro w' M4) | (refine wpL_sth M4 rfl rfl rfl rfl (wr_part _ _ _) ?_; clear M4; intro w' M4) | (refine wpL_sth M4 rfl rfl rfl rfl (wr_minus _ _ _) ?_; clear M4; intro w' M4) | (refine wpL_sth M4 rfl rfl rfl rfl (by assumption) ?_; clear M4; intro w' M4)))
      have M5 := M4.drew
      clear M4
      try dsimp only [Act.put]
      refine wp_region_held_drew (S := (fun w' : World => Mem w w' [(g4, 47, numC false RN)])) (by kernel_rfl) ((M5.pick (by repeat (first | exact List.nil_sublist _ | apply List.Sublist.cons_cons | apply List.Sublist.cons)))) (fun hHeld => ?_)
      refine wpAnyH_take (i := 0) rfl (by kernel_rfl) (by kernel_rfl) (by kernel_rfl) (fun _ _ _ h => h) (yi_ld (fun _ h => ⟨_, h⟩) (by rfl) rfl rfl (by repeat (first | exact Has.head _ _ _ _ | apply Has.tail)) (by first | exact rd_num _ _ | exact rd_bits _ | exact rd_part _ _ | exact rd_minus _ _ | assumption)) hHeld ?_
      try simp only [Act.put, puts]
      refine wpAnyH_take (i := 1) rfl (by kernel_rfl) (by kernel_rfl) (by kernel_rfl) (fun _ _ _ h => h) (yi_ld (fun _ h => ⟨_, h⟩) (by rfl) rfl rfl (by repeat (first | exact Has.head _ _ _ _ | apply Has.tail)) (by first | exact rd_num _ _ | exact rd_bits _ | exact rd_part _ _ | exact rd_minus _ _ | assumption)) hHeld ?_
      try simp only [Act.put, puts]
      refine wpAnyH_ready (rs := [2]) (by kernel_rfl) (by simp) ?_
      refine AllReadyH.cons rfl (fun K hK => ?_) AllReadyH.nil
      go_simp
      refine (C5 _).mono ?_
      rintro e w2 ⟨rfl, hBl⟩
      replace M5 := M5.call hBl
      clear hBl C5
      try go_wp2_with fail
      refine hK.out _ _ (M5.pick (by repeat (first | exact List.nil_sublist _ | apply List.Sublist.cons_cons | apply List.Sublist.cons))) (fun hHeld => ?_)
      clear hK K
      try simp only [Act.put, puts]
      refine wpAnyH_ready (rs := [3]) (by kernel_rfl) (by simp) ?_
      refine AllReadyH.cons rfl (fun K hK => ?_) AllReadyH.nil
      rw [if_pos (by rfl)]
      refine wp_st M5 rfl rfl rfl (by repeat (first | exact Has.head _ _ _ _ | apply Has.tail)) (by first | exact wr_num _ (numC_len _ _) _ _ | exact wr_bits _ (bitsC_len _) _ | exact wr_part _ _ _ | exact wr_minus _ _ _ | assumption) (by repeat (first | exact Upd.head _ _ _ _ _ | apply Upd.tail)) ?_
      clear M5
      intro w2 M5
      refine hK.out _ _ (M5.pick (by repeat (first | exact List.nil_sublist _ | apply List.Sublist.cons_cons | apply List.Sublist.cons))) (fun hHeld => ?_)
      clear hK K
      try simp only [Act.put, puts]
      refine tkT 4 ?v5 ?hy5 hHeld ?rest5
      case hy5 => (intro w' hSw; (try dsimp only at hSw); go_simp; (try with_reducible rfl))
      try simp only [Act.put, puts]
      refine wpAnyH_done (by kernel_rfl) ?_ _
      go_wp2
      ((try simp only [Exit.inBlock, Exit.then]); refine bodyPost_ret (res_cell_tmp rfl M5 rfl (by repeat (first | exact Has.head _ _ _ _ | apply Has.tail)) (by first | exact rd_num _ _ | exact rd_bits _ | exact rd_part _ _ | exact rd_minus _ _ | assumption) rfl) rfl ?_)
      exact ⟨rfl, M5.below⟩
    · have hm : RM = m1 := by rw [hRM]; rw [hRN] at hz; cases m1 <;> simp at hz ⊢ <;> omega
      have hd : decide (RN = 0) = false := by simpa using hz
      subst hm
      rw [hd] at C2
      clear hRM hRN hz e h1 h2 hRN2
      have M0 := Mem.start w
      go_enter Try.func25, Try.ntmps25
      go_wp2_with ((with_reducible refine (?_ : Go.wpList _ _ _ (_ :: _) _ _)); (first | go_skip | (refine wpL_bx M0 rfl rfl rfl rfl ?_; clear M0; intro g1 w1 M1) | (refine wpL_alc M0 rfl rfl ?_; clear M0; intro g1 w1 M1) | (refine wpL_ldc M0 rfl rfl rfl ?_) | (refine wpL_lgc M0 rfl rfl rfl ?_) | (refine wpL_ldh M0 rfl rfl rfl (by assumption) ?_) | (refine wpN_1 rfl rfl rfl ?_) | (refine wpN_0 rfl rfl ?_) | (refine wpN_2 rfl rfl rfl rfl ?_) | (refine wpL_stc M0 rfl rfl rfl rfl ?_; clear M0; intro w' M0) | (refine wpL_sti M0 rfl rfl rfl rfl ?_; clear M0; intro w' M0) | (refine wpL_sth M0 rfl rfl rfl rfl (wr_part _ _ _) ?_; clear M0; intro w' M0) | (refine wpL_sth M0 rfl rfl rfl rfl (wr_minus _ _ _) ?_; clear M0; intro w' M0) | (refine wpL_sth M0 rfl rfl rfl rfl (by assumption) ?_; clear M0; intro w' M0) | (refine wpL_bx M1 rfl rfl rfl rfl ?_; clear M1; intro g2 w2 M2) | (refine wpL_alc M1 rfl rfl ?_; clear M1; intro g2 w2 M2) | (refine wpL_ldc M1 rfl rfl rfl ?_) | (refine wpL_lgc M1 rfl rfl rfl ?_) | (refine wpL_ldh M1 rfl rfl rfl (by assumption) ?_) | (refine wpL_stc M1 rfl rfl rfl rfl ?_; clear M1; intro w' M1) | (refine wpL_sti M1 rfl rfl rfl rfl ?_; clear M1; intro w' M1) | (refine wpL_sth M1 rfl rfl rfl rfl (wr_part _ _ _) ?_; clear M1; intro w' M1) | (refine wpL_sth M1 rfl rfl rfl rfl (wr_minus _ _ _) ?_; clear M1; intro w' M1) | (refine wpL_sth M1 rfl rfl rfl rfl (by assumption) ?_; clear M1; intro w' M1) | (refine wpL_bx M2 rfl rfl rfl rfl ?_; clear M2; intro g3 w3 M3) | (refine wpL_alc M2 rfl rfl ?_; clear M2; intro g3 w3 M3) | (refine wpL_ldc M2 rfl rfl rfl ?_) | (refine wpL_lgc M2 rfl rfl rfl ?_) | (refine wpL_ldh M2 rfl rfl rfl (by assumption) ?_) | (refine wpL_stc M2 rfl rfl rfl rfl ?_; clear M2; intro w' M2) | (refine wpL_sti M2 rfl rfl rfl rfl ?_; clear M2; intro w' M2) | (refine wpL_sth M2 rfl rfl rfl rfl (wr_part _ _ _) ?_; clear M2; intro w' M2) | (refine wpL_sth M2 rfl rfl rfl rfl (wr_minus _ _ _) ?_; clear M2; intro w' M2) | (refine wpL_sth M2 rfl rfl rfl rfl (by assumption) ?_; clear M2; intro w' M2) | (refine wpL_bx M3 rfl rfl rfl rfl ?_; clear M3; intro g4 w4 M4) | (refine wpL_alc M3 rfl rfl ?_; clear M3; intro g4 w4 M4) | (refine wpL_ldc M3 rfl rfl rfl ?_) | (refine wpL_lgc M3 rfl rfl rfl ?_) | (refine wpL_ldh M3 rfl rfl rfl (by assumption) ?_) | (refine wpL_stc M3 rfl rfl rfl rfl ?_; clear M3; intro w' M3) | (refine wpL_sti M3 rfl rfl rfl rfl ?_; clear M3; intro w' M3) | (refine wpL_sth M3 rfl rfl rfl rfl (wr_part _ _ _) ?_; clear M3; intro w' M3) | (refine wpL_sth M3 rfl rfl rfl rfl (wr_minus _ _ _) ?_; clear M3; intro w' M3) | (refine wpL_sth M3 rfl rfl rfl rfl (by assumption) ?_; clear M3; intro w' M3) | (refine wpL_ldc M4 rfl rfl rfl ?_) | (refine wpL_lgc M4 rfl rfl rfl ?_) | (refine wpL_ldh M4 rfl rfl rfl (by assumption) ?_) | (refine wpL_stc M4 rfl rfl rfl rfl ?_; clear M4; intro w' M4) | (refine wpL_sti M4 rfl rfl rfl rfl ?_; clear M4; intro w' M4) | (refine wpL_sth M4 rfl rfl rfl rfl (wr_part _ _ _) ?_; clear M4; intro w' M4) | (refine wpL_sth M4 rfl rfl rfl rfl (wr_minus _ _ _) ?_; clear M4; intro w' M4) | (refine wpL_sth M4 rfl rfl rfl rfl (by assumption) ?_; clear M4; intro w' M4)))
      refine (C1 _).mono ?_
      rintro e w2 ⟨rfl, hBl⟩
      replace M4 := M4.call hBl
      clear hBl C1
      go_wp2_with ((with_reducible refine (?_ : Go.wpList _ _ _ (_ :: _) _ _)); (first | go_skip | (refine wpL_ldc M4 rfl rfl rfl ?_) | (refine wpL_lgc M4 rfl rfl rfl ?_) | (refine wpL_ldh M4 rfl rfl rfl (by assumption) ?_) | (refine wpN_1 rfl rfl rfl ?_) | (refine wpN_0 rfl rfl ?_) | (refine wpN_2 rfl rfl rfl rfl ?_) | (refine wpL_stc M4 rfl rfl rfl rfl ?_; clear M4; intro w' M4) | (refine wpL_sti M4 rfl rfl rfl rfl ?_; clear M4; intro w' M4) | (refine wpL_sth M4 rfl rfl rfl rfl (wr_part _ _ _) ?_; clear M4; intro w' M4) | (refine wpL_sth M4 rfl rfl rfl rfl (wr_minus _ _ _) ?_; clear M4; intro w' M4) | (refine wpL_sth M4 rfl rfl rfl rfl (by assumption) ?_; clear M4; intro w' M4)))
      refine (C2 _ _).mono ?_
      rintro e w2 ⟨rfl, hBl⟩
      replace M4 := M4.call hBl
      clear hBl C2
      go_wp2_with ((with_reducible refine (?_ : Go.wpList _ _ _ (_ :: _) _ _)); (first | go_skip | (refine wpL_ldc M4 rfl rfl rfl ?_) | (refine wpL_lgc M4 rfl rfl rfl ?_) | (refine wpL_ldh M4 rfl rfl rfl (by assumption) ?_) | (refine wpN_1 rfl rfl rfl ?_) | (refine wpN_0 rfl rfl ?_) | (refine wpN_2 rfl rfl rfl rfl ?_) | (refine wpL_stc M4 rfl rfl rfl rfl ?_; clear M4; intro w' M4) | (refine wpL_sti M4 rfl rfl rfl rfl ?_; clear M4; intro w' M4) | (refine wpL_sth M4 rfl rfl rfl rfl (wr_part _ _ _) ?_; clear M4; intro w' M4) | (refine wpL_sth M4 rfl rfl rfl rfl (wr_minus _ _ _) ?_; clear M4; intro w' M4) | (refine wpL_sth M4 rfl rfl rfl rfl (by assumption) ?_; clear M4; intro w' M4)))
      have M5 := M4.drew
      clear M4
      try dsimp only [Act.put]
      refine wp_region_held_drew (S := (fun w' : World => Mem w w' [(g4, 47, numC RM RN)])) (by kernel_rfl) ((M5.pick (by repeat (first | exact List.nil_sublist _ | apply List.Sublist.cons_cons | apply List.Sublist.cons)))) (fun hHeld => ?_)
      refine wpAnyH_take (i := 0) rfl (by kernel_rfl) (by kernel_rfl) (by kernel_rfl) (fun _ _ _ h => h) (yi_ld (fun _ h => ⟨_, h⟩) (by rfl) rfl rfl (by repeat (first | exact Has.head _ _ _ _ | apply Has.tail)) (by first | exact rd_num _ _ | exact rd_bits _ | exact rd_part _ _ | exact rd_minus _ _ | assumption)) hHeld ?_
      try simp only [Act.put, puts]
      refine wpAnyH_take (i := 1) rfl (by kernel_rfl) (by kernel_rfl) (by kernel_rfl) (fun _ _ _ h => h) (yi_ld (fun _ h => ⟨_, h⟩) (by rfl) rfl rfl (by repeat (first | exact Has.head _ _ _ _ | apply Has.tail)) (by first | exact rd_num _ _ | exact rd_bits _ | exact rd_part _ _ | exact rd_minus _ _ | assumption)) hHeld ?_
      try simp only [Act.put, puts]
      refine wpAnyH_ready (rs := [2]) (by kernel_rfl) (by simp) ?_
      refine AllReadyH.cons rfl (fun K hK => ?_) AllReadyH.nil
      go_simp
      refine (C5 _).mono ?_
      rintro e w2 ⟨rfl, hBl⟩
      replace M5 := M5.call hBl
      clear hBl C5
      try go_wp2_with fail
      refine hK.out _ _ (M5.pick (by repeat (first | exact List.nil_sublist _ | apply List.Sublist.cons_cons | apply List.Sublist.cons))) (fun hHeld => ?_)
      clear hK K
      try simp only [Act.put, puts]
      refine wpAnyH_ready (rs := [3]) (by kernel_rfl) (by simp) ?_
      refine AllReadyH.cons rfl (fun K hK => ?_) AllReadyH.nil
      rw [if_pos (by rfl)]
      refine wp_st M5 rfl rfl rfl (by repeat (first | exact Has.head _ _ _ _ | apply Has.tail)) (by first | exact wr_num _ (numC_len _ _) _ _ | exact wr_bits _ (bitsC_len _) _ | exact wr_part _ _ _ | exact wr_minus _ _ _ | assumption) (by repeat (first | exact Upd.head _ _ _ _ _ | apply Upd.tail)) ?_
      clear M5
      intro w2 M5
      refine hK.out _ _ (M5.pick (by repeat (first | exact List.nil_sublist _ | apply List.Sublist.cons_cons | apply List.Sublist.cons))) (fun hHeld => ?_)
      clear hK K
      try simp only [Act.put, puts]
      refine tkT 4 ?v10 ?hy10 hHeld ?rest10
      case hy10 => (intro w' hSw; (try dsimp only at hSw); go_simp; (try with_reducible rfl))
      try simp only [Act.put, puts]
      refine wpAnyH_done (by kernel_rfl) ?_ _
      go_wp2
      ((try simp only [Exit.inBlock, Exit.then]); refine bodyPost_ret (res_cell_tmp rfl M5 rfl (by repeat (first | exact Has.head _ _ _ _ | apply Has.tail)) (by first | exact rd_num _ _ | exact rd_bits _ | exact rd_part _ _ | exact rd_minus _ _ | assumption) rfl) rfl ?_)
      exact ⟨rfl, M5.below⟩
  · have hss : (m1 == m2) = false := by simpa using hs
    have C6 := less_any n1 n2 (by omega) (by omega)
    by_cases hlt : n1 < n2
    · have hdl : decide (n1 < n2) = true := by simpa using hlt
      rw [hdl] at C6
      have e : (n2 - n1) % 2 ^ 129 = RN := by rw [hRN]; cases m1 <;> cases m2 <;> simp at hs ⊢ <;> omega
      have C1 := sub_any n2 n1 (by omega)
      rw [e] at C1
      have hm : RM = m2 := by rw [hRM]; cases m1 <;> cases m2 <;> simp at hs ⊢ <;> omega
      have hz : RN ≠ 0 := by omega
      have hd : decide (RN = 0) = false := by simpa using hz
      subst hm
      rw [hd] at C2
      clear hRM hRN hz e h1 h2 hRN2 hlt hdl hs
      have M0 := Mem.start w
      go_enter Try.func25, Try.ntmps25
      go_wp2_with ((with_reducible refine (?_ : Go.wpList _ _ _ (_ :: _) _ _)); (first | go_skip | (refine wpL_bx M0 rfl rfl rfl rfl ?_; clear M0; intro g1 w1 M1) | (refine wpL_alc M0 rfl rfl ?_; clear M0; intro g1 w1 M1) | (refine wpL_ldc M0 rfl rfl rfl ?_) | (refine wpL_lgc M0 rfl rfl rfl ?_) | (refine wpL_ldh M0 rfl rfl rfl (by assumption) ?_) | (refine wpN_1 rfl rfl rfl ?_) | (refine wpN_0 rfl rfl ?_) | (refine wpN_2 rfl rfl rfl rfl ?_) | (refine wpL_stc M0 rfl rfl rfl rfl ?_; clear M0; intro w' M0) | (refine wpL_sti M0 rfl rfl rfl rfl ?_; clear M0; intro w' M0) | (refine wpL_sth M0 rfl rfl rfl rfl (wr_part _ _ _) ?_; clear M0; intro w' M0) | (refine wpL_sth M0 rfl rfl rfl rfl (wr_minus _ _ _) ?_; clear M0; intro w' M0) | (refine wpL_sth M0 rfl rfl rfl rfl (by assumption) ?_; clear M0; intro w' M0) | (refine wpL_bx M1 rfl rfl rfl rfl ?_; clear M1; intro g2 w2 M2) | (refine wpL_alc M1 rfl rfl ?_; clear M1; intro g2 w2 M2) | (refine wpL_ldc M1 rfl rfl rfl ?_) | (refine wpL_lgc M1 rfl rfl rfl ?_) | (refine wpL_ldh M1 rfl rfl rfl (by assumption) ?_) | (refine wpL_stc M1 rfl rfl rfl rfl ?_; clear M1; intro w' M1) | (refine wpL_sti M1 rfl rfl rfl rfl ?_; clear M1; intro w' M1) | (refine wpL_sth M1 rfl rfl rfl rfl (wr_part _ _ _) ?_; clear M1; intro w' M1) | (refine wpL_sth M1 rfl rfl rfl rfl (wr_minus _ _ _) ?_; clear M1; intro w' M1) | (refine wpL_sth M1 rfl rfl rfl rfl (by assumption) ?_; clear M1; intro w' M1) | (refine wpL_bx M2 rfl rfl rfl rfl ?_; clear M2; intro g3 w3 M3) | (refine wpL_alc M2 rfl rfl ?_; clear M2; intro g3 w3 M3) | (refine wpL_ldc M2 rfl rfl rfl ?_) | (refine wpL_lgc M2 rfl rfl rfl ?_) | (refine wpL_ldh M2 rfl rfl rfl (by assumption) ?_) | (refine wpL_stc M2 rfl rfl rfl rfl ?_; clear M2; intro w' M2) | (refine wpL_sti M2 rfl rfl rfl rfl ?_; clear M2; intro w' M2) | (refine wpL_sth M2 rfl rfl rfl rfl (wr_part _ _ _) ?_; clear M2; intro w' M2) | (refine wpL_sth M2 rfl rfl rfl rfl (wr_minus _ _ _) ?_; clear M2; intro w' M2) | (refine wpL_sth M2 rfl rfl rfl rfl (by assumption) ?_; clear M2; intro w' M2) | (refine wpL_bx M3 rfl rfl rfl rfl ?_; clear M3; intro g4 w4 M4) | (refine wpL_alc M3 rfl rfl ?_; clear M3; intro g4 w4 M4) | (refine wpL_ldc M3 rfl rfl rfl ?_) | (refine wpL_lgc M3 rfl rfl rfl ?_) | (refine wpL_ldh M3 rfl rfl rfl (by assumption) ?_) | (refine wpL_stc M3 rfl rfl rfl rfl ?_; clear M3; intro w' M3) | (refine wpL_sti M3 rfl rfl rfl rfl ?_; clear M3; intro w' M3) | (refine wpL_sth M3 rfl rfl rfl rfl (wr_part _ _ _) ?_; clear M3; intro w' M3) | (refine wpL_sth M3 rfl rfl rfl rfl (wr_minus _ _ _) ?_; clear M3; intro w' M3) | (refine wpL_sth M3 rfl rfl rfl rfl (by assumption) ?_; clear M3; intro w' M3) | (refine wpL_ldc M4 rfl rfl rfl ?_) | (refine wpL_lgc M4 rfl rfl rfl ?_) | (refine wpL_ldh M4 rfl rfl rfl (by assumption) ?_) | (refine wpL_stc M4 rfl rfl rfl rfl ?_; clear M4; intro w' M4) | (refine wpL_sti M4 rfl rfl rfl rfl ?_; clear M4; intro w' M4) | (refine wpL_sth M4 rfl rfl rfl rfl (wr_part _ _ _) ?_; clear M4; intro w' M4) | (refine wpL_sth M4 rfl rfl rfl rfl (wr_minus _ _ _) ?_; clear M4; intro w' M4) | (refine wpL_sth M4 rfl rfl rfl rfl (by assumption) ?_; clear M4; intro w' M4)))
      refine (C6 _).mono ?_
      rintro e w2 ⟨rfl, hBl⟩
      replace M4 := M4.call hBl
      clear hBl C6
      go_wp2_with ((with_reducible refine (?_ : Go.wpList _ _ _ (_ :: _) _ _)); (first | go_skip | (refine wpL_ldc M4 rfl rfl rfl ?_) | (refine wpL_lgc M4 rfl rfl rfl ?_) | (refine wpL_ldh M4 rfl rfl rfl (by assumption) ?_) | (refine wpN_1 rfl rfl rfl ?_) | (refine wpN_0 rfl rfl ?_) | (refine wpN_2 rfl rfl rfl rfl ?_) | (refine wpL_stc M4 rfl rfl rfl rfl ?_; clear M4; intro w' M4) | (refine wpL_sti M4 rfl rfl rfl rfl ?_; clear M4; intro w' M4) | (refine wpL_sth M4 rfl rfl rfl rfl (wr_part _ _ _) ?_; clear M4; intro w' M4) | (refine wpL_sth M4 rfl rfl rfl rfl (wr_minus _ _ _) ?_; clear M4; intro w' M4) | (refine wpL_sth M4 rfl rfl rfl rfl (by assumption) ?_; clear M4; intro w' M4)))
      refine (C1 _).mono ?_
      rintro e w2 ⟨rfl, hBl⟩
      replace M4 := M4.call hBl
      clear hBl C1
      go_wp2_with ((with_reducible refine (?_ : Go.wpList _ _ _ (_ :: _) _ _)); (first | go_skip | (refine wpL_ldc M4 rfl rfl rfl ?_) | (refine wpL_lgc M4 rfl rfl rfl ?_) | (refine wpL_ldh M4 rfl rfl rfl (by assumption) ?_) | (refine wpN_1 rfl rfl rfl ?_) | (refine wpN_0 rfl rfl ?_) | (refine wpN_2 rfl rfl rfl rfl ?_) | (refine wpL_stc M4 rfl rfl rfl rfl ?_; clear M4; intro w' M4) | (refine wpL_sti M4 rfl rfl rfl rfl ?_; clear M4; intro w' M4) | (refine wpL_sth M4 rfl rfl rfl rfl (wr_part _ _ _) ?_; clear M4; intro w' M4) | (refine wpL_sth M4 rfl rfl rfl rfl (wr_minus _ _ _) ?_; clear M4; intro w' M4) | (refine wpL_sth M4 rfl rfl rfl rfl (by assumption) ?_; clear M4; intro w' M4)))
      refine (C2 _ _).mono ?_
      rintro e w2 ⟨rfl, hBl⟩
      replace M4 := M4.call hBl
      clear hBl C2
      go_wp2_with ((with_reducible refine (?_ : Go.wpList _ _ _ (_ :: _) _ _)); (first | go_skip | (refine wpL_ldc M4 rfl rfl rfl ?_) | (refine wpL_lgc M4 rfl rfl rfl ?_) | (refine wpL_ldh M4 rfl rfl rfl (by assumption) ?_) | (refine wpN_1 rfl rfl rfl ?_) | (refine wpN_0 rfl rfl ?_) | (refine wpN_2 rfl rfl rfl rfl ?_) | (refine wpL_stc M4 rfl rfl rfl rfl ?_; clear M4; intro w' M4) | (refine wpL_sti M4 rfl rfl rfl rfl ?_; clear M4; intro w' M4) | (refine wpL_sth M4 rfl rfl rfl rfl (wr_part _ _ _) ?_; clear M4; intro w' M4) | (refine wpL_sth M4 rfl rfl rfl rfl (wr_minus _ _ _) ?_; clear M4; intro w' M4) | (refine wpL_sth M4 rfl rfl rfl rfl (by assumption) ?_; clear M4; intro w' M4)))
      have M5 := M4.drew
      clear M4
      try dsimp only [Act.put]
      refine wp_region_held_drew (S := (fun w' : World => Mem w w' [(g4, 47, numC RM RN)])) (by kernel_rfl) ((M5.pick (by repeat (first | exact List.nil_sublist _ | apply List.Sublist.cons_cons | apply List.Sublist.cons)))) (fun hHeld => ?_)
      refine wpAnyH_take (i := 0) rfl (by kernel_rfl) (by kernel_rfl) (by kernel_rfl) (fun _ _ _ h => h) (yi_ld (fun _ h => ⟨_, h⟩) (by rfl) rfl rfl (by repeat (first | exact Has.head _ _ _ _ | apply Has.tail)) (by first | exact rd_num _ _ | exact rd_bits _ | exact rd_part _ _ | exact rd_minus _ _ | assumption)) hHeld ?_
      try simp only [Act.put, puts]
      refine wpAnyH_take (i := 1) rfl (by kernel_rfl) (by kernel_rfl) (by kernel_rfl) (fun _ _ _ h => h) (yi_ld (fun _ h => ⟨_, h⟩) (by rfl) rfl rfl (by repeat (first | exact Has.head _ _ _ _ | apply Has.tail)) (by first | exact rd_num _ _ | exact rd_bits _ | exact rd_part _ _ | exact rd_minus _ _ | assumption)) hHeld ?_
      try simp only [Act.put, puts]
      refine wpAnyH_ready (rs := [2]) (by kernel_rfl) (by simp) ?_
      refine AllReadyH.cons rfl (fun K hK => ?_) AllReadyH.nil
      go_simp
      refine (C5 _).mono ?_
      rintro e w2 ⟨rfl, hBl⟩
      replace M5 := M5.call hBl
      clear hBl C5
      try go_wp2_with fail
      refine hK.out _ _ (M5.pick (by repeat (first | exact List.nil_sublist _ | apply List.Sublist.cons_cons | apply List.Sublist.cons))) (fun hHeld => ?_)
      clear hK K
      try simp only [Act.put, puts]
      refine wpAnyH_ready (rs := [3]) (by kernel_rfl) (by simp) ?_
      refine AllReadyH.cons rfl (fun K hK => ?_) AllReadyH.nil
      rw [if_pos (by rfl)]
      refine wp_st M5 rfl rfl rfl (by repeat (first | exact Has.head _ _ _ _ | apply Has.tail)) (by first | exact wr_num _ (numC_len _ _) _ _ | exact wr_bits _ (bitsC_len _) _ | exact wr_part _ _ _ | exact wr_minus _ _ _ | assumption) (by repeat (first | exact Upd.head _ _ _ _ _ | apply Upd.tail)) ?_
      clear M5
      intro w2 M5
      refine hK.out _ _ (M5.pick (by repeat (first | exact List.nil_sublist _ | apply List.Sublist.cons_cons | apply List.Sublist.cons))) (fun hHeld => ?_)
      clear hK K
      try simp only [Act.put, puts]
      refine tkT 4 ?v15 ?hy15 hHeld ?rest15
      case hy15 => (intro w' hSw; (try dsimp only at hSw); go_simp; (try with_reducible rfl))
      try simp only [Act.put, puts]
      refine wpAnyH_done (by kernel_rfl) ?_ _
      go_wp2
      ((try simp only [Exit.inBlock, Exit.then]); refine bodyPost_ret (res_cell_tmp rfl M5 rfl (by repeat (first | exact Has.head _ _ _ _ | apply Has.tail)) (by first | exact rd_num _ _ | exact rd_bits _ | exact rd_part _ _ | exact rd_minus _ _ | assumption) rfl) rfl ?_)
      exact ⟨rfl, M5.below⟩
    · have hdl : decide (n1 < n2) = false := by simpa using hlt
      rw [hdl] at C6
      have e : (n1 - n2) % 2 ^ 129 = RN := by rw [hRN]; cases m1 <;> cases m2 <;> simp at hs ⊢ <;> omega
      have C1 := sub_any n1 n2 (by omega)
      rw [e] at C1
      by_cases hz : RN = 0
      · have hm : RM = false := by rw [hRM]; cases m1 <;> cases m2 <;> simp at hs ⊢ <;> omega
        have hd : decide (RN = 0) = true := by simpa using hz
        subst hm
        rw [hd] at C2
        clear hRM hRN hz e h1 h2 hRN2 hlt hdl hs
        have M0 := Mem.start w
        go_enter Try.func25, Try.ntmps25
        go_wp2_with ((with_reducible refine (?_ : Go.wpList _ _ _ (_ :: _) _ _)); (first | go_skip | (refine wpL_bx M0 rfl rfl rfl rfl ?_; clear M0; intro g1 w1 M1) | (refine wpL_alc M0 rfl rfl ?_; clear M0; intro g1 w1 M1) | (refine wpL_ldc M0 rfl rfl rfl ?_) | (refine wpL_lgc M0 rfl rfl rfl ?_) | (refine wpL_ldh M0 rfl rfl rfl (by assumption) ?_) | (refine wpN_1 rfl rfl rfl ?_) | (refine wpN_0 rfl rfl ?_) | (refine wpN_2 rfl rfl rfl rfl ?_) | (refine wpL_stc M0 rfl rfl rfl rfl ?_; clear M0; intro w' M0) | (refine wpL_sti M0 rfl rfl rfl rfl ?_; clear M0; intro w' M0) | (refine wpL_sth M0 rfl rfl rfl rfl (wr_part _ _ _) ?_; clear M0; intro w' M0) | (refine wpL_sth M0 rfl rfl rfl rfl (wr_minus _ _ _) ?_; clear M0; intro w' M0) | (refine wpL_sth M0 rfl rfl rfl rfl (by assumption) ?_; clear M0; intro w' M0) | (refine wpL_bx M1 rfl rfl rfl rfl ?_; clear M1; intro g2 w2 M2) | (refine wpL_alc M1 rfl rfl ?_; clear M1; intro g2 w2 M2) | (refine wpL_ldc M1 rfl rfl rfl ?_) | (refine wpL_lgc M1 rfl rfl rfl ?_) | (refine wpL_ldh M1 rfl rfl rfl (by assumption) ?_) | (refine wpL_stc M1 rfl rfl rfl rfl ?_; clear M1; intro w' M1) | (refine wpL_sti M1 rfl rfl rfl rfl ?_; clear M1; intro w' M1) | (refine wpL_sth M1 rfl rfl rfl rfl (wr_part _ _ _) ?_; clear M1; intro w' M1) | (refine wpL_sth M1 rfl rfl rfl rfl (wr_minus _ _ _) ?_; clear M1; intro w' M1) | (refine wpL_sth M1 rfl rfl rfl rfl (by assumption) ?_; clear M1; intro w' M1) | (refine wpL_bx M2 rfl rfl rfl rfl ?_; clear M2; intro g3 w3 M3) | (refine wpL_alc M2 rfl rfl ?_; clear M2; intro g3 w3 M3) | (refine wpL_ldc M2 rfl rfl rfl ?_) | (refine wpL_lgc M2 rfl rfl rfl ?_) | (refine wpL_ldh M2 rfl rfl rfl (by assumption) ?_) | (refine wpL_stc M2 rfl rfl rfl rfl ?_; clear M2; intro w' M2) | (refine wpL_sti M2 rfl rfl rfl rfl ?_; clear M2; intro w' M2) | (refine wpL_sth M2 rfl rfl rfl rfl (wr_part _ _ _) ?_; clear M2; intro w' M2) | (refine wpL_sth M2 rfl rfl rfl rfl (wr_minus _ _ _) ?_; clear M2; intro w' M2) | (refine wpL_sth M2 rfl rfl rfl rfl (by assumption) ?_; clear M2; intro w' M2) | (refine wpL_bx M3 rfl rfl rfl rfl ?_; clear M3; intro g4 w4 M4) | (refine wpL_alc M3 rfl rfl ?_; clear M3; intro g4 w4 M4) | (refine wpL_ldc M3 rfl rfl rfl ?_) | (refine wpL_lgc M3 rfl rfl rfl ?_) | (refine wpL_ldh M3 rfl rfl rfl (by assumption) ?_) | (refine wpL_stc M3 rfl rfl rfl rfl ?_; clear M3; intro w' M3) | (refine wpL_sti M3 rfl rfl rfl rfl ?_; clear M3; intro w' M3) | (refine wpL_sth M3 rfl rfl rfl rfl (wr_part _ _ _) ?_; clear M3; intro w' M3) | (refine wpL_sth M3 rfl rfl rfl rfl (wr_minus _ _ _) ?_; clear M3; intro w' M3) | (refine wpL_sth M3 rfl rfl rfl rfl (by assumption) ?_; clear M3; intro w' M3) | (refine wpL_ldc M4 rfl rfl rfl ?_) | (refine wpL_lgc M4 rfl rfl rfl ?_) | (refine wpL_ldh M4 rfl rfl rfl (by assumption) ?_) | (refine wpL_stc M4 rfl rfl rfl rfl ?_; clear M4; intro w' M4) | (refine wpL_sti M4 rfl rfl rfl rfl ?_; clear M4; intro w' M4) | (refine wpL_sth M4 rfl rfl rfl rfl (wr_part _ _ _) ?_; clear M4; intro w' M4) | (refine wpL_sth M4 rfl rfl rfl rfl (wr_minus _ _ _) ?_; clear M4; intro w' M4) | (refine wpL_sth M4 rfl rfl rfl rfl (by assumption) ?_; clear M4; intro w' M4)))
        refine (C6 _).mono ?_
        rintro e w2 ⟨rfl, hBl⟩
        replace M4 := M4.call hBl
        clear hBl C6
        go_wp2_with ((with_reducible refine (?_ : Go.wpList _ _ _ (_ :: _) _ _)); (first | go_skip | (refine wpL_ldc M4 rfl rfl rfl ?_) | (refine wpL_lgc M4 rfl rfl rfl ?_) | (refine wpL_ldh M4 rfl rfl rfl (by assumption) ?_) | (refine wpN_1 rfl rfl rfl ?_) | (refine wpN_0 rfl rfl ?_) | (refine wpN_2 rfl rfl rfl rfl ?_) | (refine wpL_stc M4 rfl rfl rfl rfl ?_; clear M4; intro w' M4) | (refine wpL_sti M4 rfl rfl rfl rfl ?_; clear M4; intro w' M4) | (refine wpL_sth M4 rfl rfl rfl rfl (wr_part _ _ _) ?_; clear M4; intro w' M4) | (refine wpL_sth M4 rfl rfl rfl rfl (wr_minus _ _ _) ?_; clear M4; intro w' M4) | (refine wpL_sth M4 rfl rfl rfl rfl (by assumption) ?_; clear M4; intro w' M4)))
        refine (C1 _).mono ?_
        rintro e w2 ⟨rfl, hBl⟩
        replace M4 := M4.call hBl
        clear hBl C1
        go_wp2_with ((with_reducible refine (?_ : Go.wpList _ _ _ (_ :: _) _ _)); (first | go_skip | (refine wpL_ldc M4 rfl rfl rfl ?_) | (refine wpL_lgc M4 rfl rfl rfl ?_) | (refine wpL_ldh M4 rfl rfl rfl (by assumption) ?_) | (refine wpN_1 rfl rfl rfl ?_) | (refine wpN_0 rfl rfl ?_) | (refine wpN_2 rfl rfl rfl rfl ?_) | (refine wpL_stc M4 rfl rfl rfl rfl ?_; clear M4; intro w' M4) | (refine wpL_sti M4 rfl rfl rfl rfl ?_; clear M4; intro w' M4) | (refine wpL_sth M4 rfl rfl rfl rfl (wr_part _ _ _) ?_; clear M4; intro w' M4) | (refine wpL_sth M4 rfl rfl rfl rfl (wr_minus _ _ _) ?_; clear M4; intro w' M4) | (refine wpL_sth M4 rfl rfl rfl rfl (by assumption) ?_; clear M4; intro w' M4)))
        refine (C2 _ _).mono ?_
        rintro e w2 ⟨rfl, hBl⟩
        replace M4 := M4.call hBl
        clear hBl C2
        go_wp2_with ((with_reducible refine (?_ : Go.wpList _ _ _ (_ :: _) _ _)); (first | go_skip | (refine wpL_ldc M4 rfl rfl rfl ?_) | (refine wpL_lgc M4 rfl rfl rfl ?_) | (refine wpL_ldh M4 rfl rfl rfl (by assumption) ?_) | (refine wpN_1 rfl rfl rfl ?_) | (refine wpN_0 rfl rfl ?_) | (refine wpN_2 rfl rfl rfl rfl ?_) | (refine wpL_stc M4 rfl rfl rfl rfl ?_; clear M4; intro w' M4) | (refine wpL_sti M4 rfl rfl rfl rfl ?_; clear M4; intro w' M4) | (refine wpL_sth M4 rfl rfl rfl rfl (wr_part _ _ _) ?_; clear M4; intro w' M4) | (refine wpL_sth M4 rfl rfl rfl rfl (wr_minus _ _ _) ?_; clear M4; intro w' M4) | (refine wpL_sth M4 rfl rfl rfl rfl (by assumption) ?_; clear M4; intro w' M4)))
        have M5 := M4.drew
        clear M4
        try dsimp only [Act.put]
        refine wp_region_held_drew (S := (fun w' : World => Mem w w' [(g4, 47, numC false RN)])) (by kernel_rfl) ((M5.pick (by repeat (first | exact List.nil_sublist _ | apply List.Sublist.cons_cons | apply List.Sublist.cons)))) (fun hHeld => ?_)
        refine wpAnyH_take (i := 0) rfl (by kernel_rfl) (by kernel_rfl) (by kernel_rfl) (fun _ _ _ h => h) (yi_ld (fun _ h => ⟨_, h⟩) (by rfl) rfl rfl (by repeat (first | exact Has.head _ _ _ _ | apply Has.tail)) (by first | exact rd_num _ _ | exact rd_bits _ | exact rd_part _ _ | exact rd_minus _ _ | assumption)) hHeld ?_
        try simp only [Act.put, puts]
        refine wpAnyH_take (i := 1) rfl (by kernel_rfl) (by kernel_rfl) (by kernel_rfl) (fun _ _ _ h => h) (yi_ld (fun _ h => ⟨_, h⟩) (by rfl) rfl rfl (by repeat (first | exact Has.head _ _ _ _ | apply Has.tail)) (by first | exact rd_num _ _ | exact rd_bits _ | exact rd_part _ _ | exact rd_minus _ _ | assumption)) hHeld ?_
        try simp only [Act.put, puts]
        refine wpAnyH_ready (rs := [2]) (by kernel_rfl) (by simp) ?_
        refine AllReadyH.cons rfl (fun K hK => ?_) AllReadyH.nil
        go_simp
        refine (C5 _).mono ?_
        rintro e w2 ⟨rfl, hBl⟩
        replace M5 := M5.call hBl
        clear hBl C5
        try go_wp2_with fail
        refine hK.out _ _ (M5.pick (by repeat (first | exact List.nil_sublist _ | apply List.Sublist.cons_cons | apply List.Sublist.cons))) (fun hHeld => ?_)
        clear hK K
        try simp only [Act.put, puts]
        refine wpAnyH_ready (rs := [3]) (by kernel_rfl) (by simp) ?_
        refine AllReadyH.cons rfl (fun K hK => ?_) AllReadyH.nil
        rw [if_pos (by rfl)]
        refine wp_st M5 rfl rfl rfl (by repeat (first | exact Has.head _ _ _ _ | apply Has.tail)) (by first | exact wr_num _ (numC_len _ _) _ _ | exact wr_bits _ (bitsC_len _) _ | exact wr_part _ _ _ | exact wr_minus _ _ _ | assumption) (by repeat (first | exact Upd.head _ _ _ _ _ | apply Upd.tail)) ?_
        clear M5
        intro w2 M5
        refine hK.out _ _ (M5.pick (by repeat (first | exact List.nil_sublist _ | apply List.Sublist.cons_cons | apply List.Sublist.cons))) (fun hHeld => ?_)
        clear hK K
        try simp only [Act.put, puts]
        refine tkT 4 ?v20 ?hy20 hHeld ?rest20
        case hy20 => (intro w' hSw; (try dsimp only at hSw); go_simp; (try with_reducible rfl))
        try simp only [Act.put, puts]
        refine wpAnyH_done (by kernel_rfl) ?_ _
        go_wp2
        ((try simp only [Exit.inBlock, Exit.then]); refine bodyPost_ret (res_cell_tmp rfl M5 rfl (by repeat (first | exact Has.head _ _ _ _ | apply Has.tail)) (by first | exact rd_num _ _ | exact rd_bits _ | exact rd_part _ _ | exact rd_minus _ _ | assumption) rfl) rfl ?_)
        exact ⟨rfl, M5.below⟩
      · have hm : RM = m1 := by rw [hRM]; cases m1 <;> cases m2 <;> simp at hs ⊢ <;> omega
        have hd : decide (RN = 0) = false := by simpa using hz
        subst hm
        rw [hd] at C2
        clear hRM hRN hz e h1 h2 hRN2 hlt hdl hs
        have M0 := Mem.start w
        go_enter Try.func25, Try.ntmps25
        go_wp2_with ((with_reducible refine (?_ : Go.wpList _ _ _ (_ :: _) _ _)); (first | go_skip | (refine wpL_bx M0 rfl rfl rfl rfl ?_; clear M0; intro g1 w1 M1) | (refine wpL_alc M0 rfl rfl ?_; clear M0; intro g1 w1 M1) | (refine wpL_ldc M0 rfl rfl rfl ?_) | (refine wpL_lgc M0 rfl rfl rfl ?_) | (refine wpL_ldh M0 rfl rfl rfl (by assumption) ?_) | (refine wpN_1 rfl rfl rfl ?_) | (refine wpN_0 rfl rfl ?_) | (refine wpN_2 rfl rfl rfl rfl ?_) | (refine wpL_stc M0 rfl rfl rfl rfl ?_; clear M0; intro w' M0) | (refine wpL_sti M0 rfl rfl rfl rfl ?_; clear M0; intro w' M0) | (refine wpL_sth M0 rfl rfl rfl rfl (wr_part _ _ _) ?_; clear M0; intro w' M0) | (refine wpL_sth M0 rfl rfl rfl rfl (wr_minus _ _ _) ?_; clear M0; intro w' M0) | (refine wpL_sth M0 rfl rfl rfl rfl (by assumption) ?_; clear M0; intro w' M0) | (refine wpL_bx M1 rfl rfl rfl rfl ?_; clear M1; intro g2 w2 M2) | (refine wpL_alc M1 rfl rfl ?_; clear M1; intro g2 w2 M2) | (refine wpL_ldc M1 rfl rfl rfl ?_) | (refine wpL_lgc M1 rfl rfl rfl ?_) | (refine wpL_ldh M1 rfl rfl rfl (by assumption) ?_) | (refine wpL_stc M1 rfl rfl rfl rfl ?_; clear M1; intro w' M1) | (refine wpL_sti M1 rfl rfl rfl rfl ?_; clear M1; intro w' M1) | (refine wpL_sth M1 rfl rfl rfl rfl (wr_part _ _ _) ?_; clear M1; intro w' M1) | (refine wpL_sth M1 rfl rfl rfl rfl (wr_minus _ _ _) ?_; clear M1; intro w' M1) | (refine wpL_sth M1 rfl rfl rfl rfl (by assumption) ?_; clear M1; intro w' M1) | (refine wpL_bx M2 rfl rfl rfl rfl ?_; clear M2; intro g3 w3 M3) | (refine wpL_alc M2 rfl rfl ?_; clear M2; intro g3 w3 M3) | (refine wpL_ldc M2 rfl rfl rfl ?_) | (refine wpL_lgc M2 rfl rfl rfl ?_) | (refine wpL_ldh M2 rfl rfl rfl (by assumption) ?_) | (refine wpL_stc M2 rfl rfl rfl rfl ?_; clear M2; intro w' M2) | (refine wpL_sti M2 rfl rfl rfl rfl ?_; clear M2; intro w' M2) | (refine wpL_sth M2 rfl rfl rfl rfl (wr_part _ _ _) ?_; clear M2; intro w' M2) | (refine wpL_sth M2 rfl rfl rfl rfl (wr_minus _ _ _) ?_; clear M2; intro w' M2) | (refine wpL_sth M2 rfl rfl rfl rfl (by assumption) ?_; clear M2; intro w' M2) | (refine wpL_bx M3 rfl rfl rfl rfl ?_; clear M3; intro g4 w4 M4) | (refine wpL_alc M3 rfl rfl ?_; clear M3; intro g4 w4 M4) | (refine wpL_ldc M3 rfl rfl rfl ?_) | (refine wpL_lgc M3 rfl rfl rfl ?_) | (refine wpL_ldh M3 rfl rfl rfl (by assumption) ?_) | (refine wpL_stc M3 rfl rfl rfl rfl ?_; clear M3; intro w' M3) | (refine wpL_sti M3 rfl rfl rfl rfl ?_; clear M3; intro w' M3) | (refine wpL_sth M3 rfl rfl rfl rfl (wr_part _ _ _) ?_; clear M3; intro w' M3) | (refine wpL_sth M3 rfl rfl rfl rfl (wr_minus _ _ _) ?_; clear M3; intro w' M3) | (refine wpL_sth M3 rfl rfl rfl rfl (by assumption) ?_; clear M3; intro w' M3) | (refine wpL_ldc M4 rfl rfl rfl ?_) | (refine wpL_lgc M4 rfl rfl rfl ?_) | (refine wpL_ldh M4 rfl rfl rfl (by assumption) ?_) | (refine wpL_stc M4 rfl rfl rfl rfl ?_; clear M4; intro w' M4) | (refine wpL_sti M4 rfl rfl rfl rfl ?_; clear M4; intro w' M4) | (refine wpL_sth M4 rfl rfl rfl rfl (wr_part _ _ _) ?_; clear M4; intro w' M4) | (refine wpL_sth M4 rfl rfl rfl rfl (wr_minus _ _ _) ?_; clear M4; intro w' M4) | (refine wpL_sth M4 rfl rfl rfl rfl (by assumption) ?_; clear M4; intro w' M4)))
        refine (C6 _).mono ?_
        rintro e w2 ⟨rfl, hBl⟩
        replace M4 := M4.call hBl
        clear hBl C6
        go_wp2_with ((with_reducible refine (?_ : Go.wpList _ _ _ (_ :: _) _ _)); (first | go_skip | (refine wpL_ldc M4 rfl rfl rfl ?_) | (refine wpL_lgc M4 rfl rfl rfl ?_) | (refine wpL_ldh M4 rfl rfl rfl (by assumption) ?_) | (refine wpN_1 rfl rfl rfl ?_) | (refine wpN_0 rfl rfl ?_) | (refine wpN_2 rfl rfl rfl rfl ?_) | (refine wpL_stc M4 rfl rfl rfl rfl ?_; clear M4; intro w' M4) | (refine wpL_sti M4 rfl rfl rfl rfl ?_; clear M4; intro w' M4) | (refine wpL_sth M4 rfl rfl rfl rfl (wr_part _ _ _) ?_; clear M4; intro w' M4) | (refine wpL_sth M4 rfl rfl rfl rfl (wr_minus _ _ _) ?_; clear M4; intro w' M4) | (refine wpL_sth M4 rfl rfl rfl rfl (by assumption) ?_; clear M4; intro w' M4)))
        refine (C1 _).mono ?_
        rintro e w2 ⟨rfl, hBl⟩
        replace M4 := M4.call hBl
        clear hBl C1
        go_wp2_with ((with_reducible refine (?_ : Go.wpList _ _ _ (_ :: _) _ _)); (first | go_skip | (refine wpL_ldc M4 rfl rfl rfl ?_) | (refine wpL_lgc M4 rfl rfl rfl ?_) | (refine wpL_ldh M4 rfl rfl rfl (by assumption) ?_) | (refine wpN_1 rfl rfl rfl ?_) | (refine wpN_0 rfl rfl ?_) | (refine wpN_2 rfl rfl rfl rfl ?_) | (refine wpL_stc M4 rfl rfl rfl rfl ?_; clear M4; intro w' M4) | (refine wpL_sti M4 rfl rfl rfl rfl ?_; clear M4; intro w' M4) | (refine wpL_sth M4 rfl rfl rfl rfl (wr_part _ _ _) ?_; clear M4; intro w' M4) | (refine wpL_sth M4 rfl rfl rfl rfl (wr_minus _ _ _) ?_; clear M4; intro w' M4) | (refine wpL_sth M4 rfl rfl rfl rfl (by assumption) ?_; clear M4; intro w' M4)))
        refine (C2 _ _).mono ?_
        rintro e w2 ⟨rfl, hBl⟩
        replace M4 := M4.call hBl
        clear hBl C2
        go_wp2_with ((with_reducible refine (?_ : Go.wpList _ _ _ (_ :: _) _ _)); (first | go_skip | (refine wpL_ldc M4 rfl rfl rfl ?_) | (refine wpL_lgc M4 rfl rfl rfl ?_) | (refine wpL_ldh M4 rfl rfl rfl (by assumption) ?_) | (refine wpN_1 rfl rfl rfl ?_) | (refine wpN_0 rfl rfl ?_) | (refine wpN_2 rfl rfl rfl rfl ?_) | (refine wpL_stc M4 rfl rfl rfl rfl ?_; clear M4; intro w' M4) | (refine wpL_sti M4 rfl rfl rfl rfl ?_; clear M4; intro w' M4) | (refine wpL_sth M4 rfl rfl rfl rfl (wr_part _ _ _) ?_; clear M4; intro w' M4) | (refine wpL_sth M4 rfl rfl rfl rfl (wr_minus _ _ _) ?_; clear M4; intro w' M4) | (refine wpL_sth M4 rfl rfl rfl rfl (by assumption) ?_; clear M4; intro w' M4)))
        have M5 := M4.drew
        clear M4
        try dsimp only [Act.put]
        refine wp_region_held_drew (S := (fun w' : World => Mem w w' [(g4, 47, numC RM RN)])) (by kernel_rfl) ((M5.pick (by repeat (first | exact List.nil_sublist _ | apply List.Sublist.cons_cons | apply List.Sublist.cons)))) (fun hHeld => ?_)
        refine wpAnyH_take (i := 0) rfl (by kernel_rfl) (by kernel_rfl) (by kernel_rfl) (fun _ _ _ h => h) (yi_ld (fun _ h => ⟨_, h⟩) (by rfl) rfl rfl (by repeat (first | exact Has.head _ _ _ _ | apply Has.tail)) (by first | exact rd_num _ _ | exact rd_bits _ | exact rd_part _ _ | exact rd_minus _ _ | assumption)) hHeld ?_
        try simp only [Act.put, puts]
        refine wpAnyH_take (i := 1) rfl (by kernel_rfl) (by kernel_rfl) (by kernel_rfl) (fun _ _ _ h => h) (yi_ld (fun _ h => ⟨_, h⟩) (by rfl) rfl rfl (by repeat (first | exact Has.head _ _ _ _ | apply Has.tail)) (by first | exact rd_num _ _ | exact rd_bits _ | exact rd_part _ _ | exact rd_minus _ _ | assumption)) hHeld ?_
        try simp only [Act.put, puts]
        refine wpAnyH_ready (rs := [2]) (by kernel_rfl) (by simp) ?_
        refine AllReadyH.cons rfl (fun K hK => ?_) AllReadyH.nil
        go_simp
        refine (C5 _).mono ?_
        rintro e w2 ⟨rfl, hBl⟩
        replace M5 := M5.call hBl
        clear hBl C5
        try go_wp2_with fail
        refine hK.out _ _ (M5.pick (by repeat (first | exact List.nil_sublist _ | apply List.Sublist.cons_cons | apply List.Sublist.cons))) (fun hHeld => ?_)
        clear hK K
        try simp only [Act.put, puts]
        refine wpAnyH_ready (rs := [3]) (by kernel_rfl) (by simp) ?_
        refine AllReadyH.cons rfl (fun K hK => ?_) AllReadyH.nil
        rw [if_pos (by rfl)]
        refine wp_st M5 rfl rfl rfl (by repeat (first | exact Has.head _ _ _ _ | apply Has.tail)) (by first | exact wr_num _ (numC_len _ _) _ _ | exact wr_bits _ (bitsC_len _) _ | exact wr_part _ _ _ | exact wr_minus _ _ _ | assumption) (by repeat (first | exact Upd.head _ _ _ _ _ | apply Upd.tail)) ?_
        clear M5
        intro w2 M5
        refine hK.out _ _ (M5.pick (by repeat (first | exact List.nil_sublist _ | apply List.Sublist.cons_cons | apply List.Sublist.cons))) (fun hHeld => ?_)
        clear hK K
        try simp only [Act.put, puts]
        refine tkT 4 ?v25 ?hy25 hHeld ?rest25
        case hy25 => (intro w' hSw; (try dsimp only at hSw); go_simp; (try with_reducible rfl))
        try simp only [Act.put, puts]
        refine wpAnyH_done (by kernel_rfl) ?_ _
        go_wp2
        ((try simp only [Exit.inBlock, Exit.then]); refine bodyPost_ret (res_cell_tmp rfl M5 rfl (by repeat (first | exact Has.head _ _ _ _ | apply Has.tail)) (by first | exact rd_num _ _ | exact rd_bits _ | exact rd_part _ _ | exact rd_minus _ _ | assumption) rfl) rfl ?_)
        exact ⟨rfl, M5.below⟩
end Go.Proofs.Ytbjhbbiahmhdeaa

/-
  The reference: which is greater.
-/
namespace Go.Proofs.Ytbjhbbiahmhdeaa
open Go Go.RowKit Go.Th Go.Th.Wide

def cmpS (a b : Int) : Int := if a < b then -1 else if a = b then 0 else 1

set_option maxRecDepth 20000 in
set_option maxHeartbeats 3200000 in
theorem refCmp_zero (m1 m2 : Bool) (n1 n2 : Nat) (h1 : n1 < 2 ^ 129) (h2 : n2 < 2 ^ 129) (hn1 : n1 = 0) (hn2 : n2 = 0) (w : World) :
    Calls Try.prog 27 #[.agg (numC m1 n1).toArray, .agg (numC m2 n2).toArray] w fun e w' =>
      e = .returned (.int .i64 0) ∧ Below w.heap.size w w' := by
  have C1 := zero_any m1 n1 h1
  have C2 := zero_any m2 n2 h2
  rw [decide_eq_true hn1] at C1
  rw [decide_eq_true hn2] at C2
  clear hn1 hn2
  clear h1 h2
  have M0 := Mem.start w
  go_enter Try.func27, Try.ntmps27
  go_wp2_with ((with_reducible refine (?_ : Go.wpList _ _ _ (_ :: _) _ _)); (first | go_skip | (refine wpL_bx M0 rfl rfl rfl rfl ?_; clear M0; intro g1 w1 M1) | (refine wpL_alc M0 rfl rfl ?_; clear M0; intro g1 w1 M1) | (refine wpL_ldc M0 rfl rfl rfl ?_) | (refine wpL_lgc M0 rfl rfl rfl ?_) | (refine wpL_ldh M0 rfl rfl rfl (by assumption) ?_) | (refine wpN_1 rfl rfl rfl ?_) | (refine wpN_0 rfl rfl ?_) | (refine wpN_2 rfl rfl rfl rfl ?_) | (refine wpL_stc M0 rfl rfl rfl rfl ?_; clear M0; intro w' M0) | (refine wpL_sti M0 rfl rfl rfl rfl ?_; clear M0; intro w' M0) | (refine wpL_sth M0 rfl rfl rfl rfl (wr_part _ _ _) ?_; clear M0; intro w' M0) | (refine wpL_sth M0 rfl rfl rfl rfl (wr_minus _ _ _) ?_; clear M0; intro w' M0) | (refine wpL_sth M0 rfl rfl rfl rfl (by assumption) ?_; clear M0; intro w' M0) | (refine wpL_bx M1 rfl rfl rfl rfl ?_; clear M1; intro g2 w2 M2) | (refine wpL_alc M1 rfl rfl ?_; clear M1; intro g2 w2 M2) | (refine wpL_ldc M1 rfl rfl rfl ?_) | (refine wpL_lgc M1 rfl rfl rfl ?_) | (refine wpL_ldh M1 rfl rfl rfl (by assumption) ?_) | (refine wpL_stc M1 rfl rfl rfl rfl ?_; clear M1; intro w' M1) | (refine wpL_sti M1 rfl rfl rfl rfl ?_; clear M1; intro w' M1) | (refine wpL_sth M1 rfl rfl rfl rfl (wr_part _ _ _) ?_; clear M1; intro w' M1) | (refine wpL_sth M1 rfl rfl rfl rfl (wr_minus _ _ _) ?_; clear M1; intro w' M1) | (refine wpL_sth M1 rfl rfl rfl rfl (by assumption) ?_; clear M1; intro w' M1) | (refine wpL_ldc M2 rfl rfl rfl ?_) | (refine wpL_lgc M2 rfl rfl rfl ?_) | (refine wpL_ldh M2 rfl rfl rfl (by assumption) ?_) | (refine wpL_stc M2 rfl rfl rfl rfl ?_; clear M2; intro w' M2) | (refine wpL_sti M2 rfl rfl rfl rfl ?_; clear M2; intro w' M2) | (refine wpL_sth M2 rfl rfl rfl rfl (wr_part _ _ _) ?_; clear M2; intro w' M2) | (refine wpL_sth M2 rfl rfl rfl rfl (wr_minus _ _ _) ?_; clear M2; intro w' M2) | (refine wpL_sth M2 rfl rfl rfl rfl (by assumption) ?_; clear M2; intro w' M2)))
  refine (C1 _).mono ?_
  rintro e w2 ⟨rfl, hBl⟩
  replace M2 := M2.call hBl
  clear hBl C1
  go_wp2_with ((with_reducible refine (?_ : Go.wpList _ _ _ (_ :: _) _ _)); (first | go_skip | (refine wpL_ldc M2 rfl rfl rfl ?_) | (refine wpL_lgc M2 rfl rfl rfl ?_) | (refine wpL_ldh M2 rfl rfl rfl (by assumption) ?_) | (refine wpN_1 rfl rfl rfl ?_) | (refine wpN_0 rfl rfl ?_) | (refine wpN_2 rfl rfl rfl rfl ?_) | (refine wpL_stc M2 rfl rfl rfl rfl ?_; clear M2; intro w' M2) | (refine wpL_sti M2 rfl rfl rfl rfl ?_; clear M2; intro w' M2) | (refine wpL_sth M2 rfl rfl rfl rfl (wr_part _ _ _) ?_; clear M2; intro w' M2) | (refine wpL_sth M2 rfl rfl rfl rfl (wr_minus _ _ _) ?_; clear M2; intro w' M2) | (refine wpL_sth M2 rfl rfl rfl rfl (by assumption) ?_; clear M2; intro w' M2)))
  refine (C2 _).mono ?_
  rintro e w2 ⟨rfl, hBl⟩
  replace M2 := M2.call hBl
  clear hBl C2
  go_wp2_with ((with_reducible refine (?_ : Go.wpList _ _ _ (_ :: _) _ _)); (first | go_skip | (refine wpL_ldc M2 rfl rfl rfl ?_) | (refine wpL_lgc M2 rfl rfl rfl ?_) | (refine wpL_ldh M2 rfl rfl rfl (by assumption) ?_) | (refine wpN_1 rfl rfl rfl ?_) | (refine wpN_0 rfl rfl ?_) | (refine wpN_2 rfl rfl rfl rfl ?_) | (refine wpL_stc M2 rfl rfl rfl rfl ?_; clear M2; intro w' M2) | (refine wpL_sti M2 rfl rfl rfl rfl ?_; clear M2; intro w' M2) | (refine wpL_sth M2 rfl rfl rfl rfl (wr_part _ _ _) ?_; clear M2; intro w' M2) | (refine wpL_sth M2 rfl rfl rfl rfl (wr_minus _ _ _) ?_; clear M2; intro w' M2) | (refine wpL_sth M2 rfl rfl rfl rfl (by assumption) ?_; clear M2; intro w' M2)))
  go_ret
  exact ⟨rfl, M2.below⟩

set_option maxRecDepth 20000 in
set_option maxHeartbeats 3200000 in
theorem refCmp_signs (m1 m2 : Bool) (n1 n2 : Nat) (h1 : n1 < 2 ^ 129) (h2 : n2 < 2 ^ 129) (hn : ¬ (n1 = 0 ∧ n2 = 0)) (hs : m1 ≠ m2) (b : Int) (hb : b = if m1 then -1 else 1) (w : World) :
    Calls Try.prog 27 #[.agg (numC m1 n1).toArray, .agg (numC m2 n2).toArray] w fun e w' =>
      e = .returned (.int .i64 b) ∧ Below w.heap.size w w' := by
  have C1 := zero_any m1 n1 h1
  have C2 := zero_any m2 n2 h2
  have hss : (m1 == m2) = false := by simpa using hs
  clear hs
  cases m1
  · simp at hb
    subst hb
    by_cases hz : n1 = 0
    · rw [decide_eq_true hz] at C1
      have hz2 : n2 ≠ 0 := fun h => hn ⟨hz, h⟩
      rw [decide_eq_false hz2] at C2
      clear hz hz2 hn
      clear h1 h2
      have M0 := Mem.start w
      go_enter Try.func27, Try.ntmps27
      go_wp2_with ((with_reducible refine (?_ : Go.wpList _ _ _ (_ :: _) _ _)); (first | go_skip | (refine wpL_bx M0 rfl rfl rfl rfl ?_; clear M0; intro g1 w1 M1) | (refine wpL_alc M0 rfl rfl ?_; clear M0; intro g1 w1 M1) | (refine wpL_ldc M0 rfl rfl rfl ?_) | (refine wpL_lgc M0 rfl rfl rfl ?_) | (refine wpL_ldh M0 rfl rfl rfl (by assumption) ?_) | (refine wpN_1 rfl rfl rfl ?_) | (refine wpN_0 rfl rfl ?_) | (refine wpN_2 rfl rfl rfl rfl ?_) | (refine wpL_stc M0 rfl rfl rfl rfl ?_; clear M0; intro w' M0) | (refine wpL_sti M0 rfl rfl rfl rfl ?_; clear M0; intro w' M0) | (refine wpL_sth M0 rfl rfl rfl rfl (wr_part _ _ _) ?_; clear M0; intro w' M0) | (refine wpL_sth M0 rfl rfl rfl rfl (wr_minus _ _ _) ?_; clear M0; intro w' M0) | (refine wpL_sth M0 rfl rfl rfl rfl (by assumption) ?_; clear M0; intro w' M0) | (refine wpL_bx M1 rfl rfl rfl rfl ?_; clear M1; intro g2 w2 M2) | (refine wpL_alc M1 rfl rfl ?_; clear M1; intro g2 w2 M2) | (refine wpL_ldc M1 rfl rfl rfl ?_) | (refine wpL_lgc M1 rfl rfl rfl ?_) | (refine wpL_ldh M1 rfl rfl rfl (by assumption) ?_) | (refine wpL_stc M1 rfl rfl rfl rfl ?_; clear M1; intro w' M1) | (refine wpL_sti M1 rfl rfl rfl rfl ?_; clear M1; intro w' M1) | (refine wpL_sth M1 rfl rfl rfl rfl (wr_part _ _ _) ?_; clear M1; intro w' M1) | (refine wpL_sth M1 rfl rfl rfl rfl (wr_minus _ _ _) ?_; clear M1; intro w' M1) | (refine wpL_sth M1 rfl rfl rfl rfl (by assumption) ?_; clear M1; intro w' M1) | (refine wpL_ldc M2 rfl rfl rfl ?_) | (refine wpL_lgc M2 rfl rfl rfl ?_) | (refine wpL_ldh M2 rfl rfl rfl (by assumption) ?_) | (refine wpL_stc M2 rfl rfl rfl rfl ?_; clear M2; intro w' M2) | (refine wpL_sti M2 rfl rfl rfl rfl ?_; clear M2; intro w' M2) | (refine wpL_sth M2 rfl rfl rfl rfl (wr_part _ _ _) ?_; clear M2; intro w' M2) | (refine wpL_sth M2 rfl rfl rfl rfl (wr_minus _ _ _) ?_; clear M2; intro w' M2) | (refine wpL_sth M2 rfl rfl rfl rfl (by assumption) ?_; clear M2; intro w' M2)))
      refine (C1 _).mono ?_
      rintro e w2 ⟨rfl, hBl⟩
      replace M2 := M2.call hBl
      clear hBl C1
      go_wp2_with ((with_reducible refine (?_ : Go.wpList _ _ _ (_ :: _) _ _)); (first | go_skip | (refine wpL_ldc M2 rfl rfl rfl ?_) | (refine wpL_lgc M2 rfl rfl rfl ?_) | (refine wpL_ldh M2 rfl rfl rfl (by assumption) ?_) | (refine wpN_1 rfl rfl rfl ?_) | (refine wpN_0 rfl rfl ?_) | (refine wpN_2 rfl rfl rfl rfl ?_) | (refine wpL_stc M2 rfl rfl rfl rfl ?_; clear M2; intro w' M2) | (refine wpL_sti M2 rfl rfl rfl rfl ?_; clear M2; intro w' M2) | (refine wpL_sth M2 rfl rfl rfl rfl (wr_part _ _ _) ?_; clear M2; intro w' M2) | (refine wpL_sth M2 rfl rfl rfl rfl (wr_minus _ _ _) ?_; clear M2; intro w' M2) | (refine wpL_sth M2 rfl rfl rfl rfl (by assumption) ?_; clear M2; intro w' M2)))
      refine (C2 _).mono ?_
      rintro e w2 ⟨rfl, hBl⟩
      replace M2 := M2.call hBl
      clear hBl C2
      go_wp2_with ((with_reducible refine (?_ : Go.wpList _ _ _ (_ :: _) _ _)); (first | go_skip | (refine wpL_ldc M2 rfl rfl rfl ?_) | (refine wpL_lgc M2 rfl rfl rfl ?_) | (refine wpL_ldh M2 rfl rfl rfl (by assumption) ?_) | (refine wpN_1 rfl rfl rfl ?_) | (refine wpN_0 rfl rfl ?_) | (refine wpN_2 rfl rfl rfl rfl ?_) | (refine wpL_stc M2 rfl rfl rfl rfl ?_; clear M2; intro w' M2) | (refine wpL_sti M2 rfl rfl rfl rfl ?_; clear M2; intro w' M2) | (refine wpL_sth M2 rfl rfl rfl rfl (wr_part _ _ _) ?_; clear M2; intro w' M2) | (refine wpL_sth M2 rfl rfl rfl rfl (wr_minus _ _ _) ?_; clear M2; intro w' M2) | (refine wpL_sth M2 rfl rfl rfl rfl (by assumption) ?_; clear M2; intro w' M2)))
      go_ret
      exact ⟨rfl, M2.below⟩
    · rw [decide_eq_false hz] at C1
      clear hz hn
      clear h1 h2
      have M0 := Mem.start w
      go_enter Try.func27, Try.ntmps27
      go_wp2_with ((with_reducible refine (?_ : Go.wpList _ _ _ (_ :: _) _ _)); (first | go_skip | (refine wpL_bx M0 rfl rfl rfl rfl ?_; clear M0; intro g1 w1 M1) | (refine wpL_alc M0 rfl rfl ?_; clear M0; intro g1 w1 M1) | (refine wpL_ldc M0 rfl rfl rfl ?_) | (refine wpL_lgc M0 rfl rfl rfl ?_) | (refine wpL_ldh M0 rfl rfl rfl (by assumption) ?_) | (refine wpN_1 rfl rfl rfl ?_) | (refine wpN_0 rfl rfl ?_) | (refine wpN_2 rfl rfl rfl rfl ?_) | (refine wpL_stc M0 rfl rfl rfl rfl ?_; clear M0; intro w' M0) | (refine wpL_sti M0 rfl rfl rfl rfl ?_; clear M0; intro w' M0) | (refine wpL_sth M0 rfl rfl rfl rfl (wr_part _ _ _) ?_; clear M0; intro w' M0) | (refine wpL_sth M0 rfl rfl rfl rfl (wr_minus _ _ _) ?_; clear M0; intro w' M0) | (refine wpL_sth M0 rfl rfl rfl rfl (by assumption) ?_; clear M0; intro w' M0) | (refine wpL_bx M1 rfl rfl rfl rfl ?_; clear M1; intro g2 w2 M2) | (refine wpL_alc M1 rfl rfl ?_; clear M1; intro g2 w2 M2) | (refine wpL_ldc M1 rfl rfl rfl ?_) | (refine wpL_lgc M1 rfl rfl rfl ?_) | (refine wpL_ldh M1 rfl rfl rfl (by assumption) ?_) | (refine wpL_stc M1 rfl rfl rfl rfl ?_; clear M1; intro w' M1) | (refine wpL_sti M1 rfl rfl rfl rfl ?_; clear M1; intro w' M1) | (refine wpL_sth M1 rfl rfl rfl rfl (wr_part _ _ _) ?_; clear M1; intro w' M1) | (refine wpL_sth M1 rfl rfl rfl rfl (wr_minus _ _ _) ?_; clear M1; intro w' M1) | (refine wpL_sth M1 rfl rfl rfl rfl (by assumption) ?_; clear M1; intro w' M1) | (refine wpL_ldc M2 rfl rfl rfl ?_) | (refine wpL_lgc M2 rfl rfl rfl ?_) | (refine wpL_ldh M2 rfl rfl rfl (by assumption) ?_) | (refine wpL_stc M2 rfl rfl rfl rfl ?_; clear M2; intro w' M2) | (refine wpL_sti M2 rfl rfl rfl rfl ?_; clear M2; intro w' M2) | (refine wpL_sth M2 rfl rfl rfl rfl (wr_part _ _ _) ?_; clear M2; intro w' M2) | (refine wpL_sth M2 rfl rfl rfl rfl (wr_minus _ _ _) ?_; clear M2; intro w' M2) | (refine wpL_sth M2 rfl rfl rfl rfl (by assumption) ?_; clear M2; intro w' M2)))
      refine (C1 _).mono ?_
      rintro e w2 ⟨rfl, hBl⟩
      replace M2 := M2.call hBl
      clear hBl C1
      go_wp2_with ((with_reducible refine (?_ : Go.wpList _ _ _ (_ :: _) _ _)); (first | go_skip | (refine wpL_ldc M2 rfl rfl rfl ?_) | (refine wpL_lgc M2 rfl rfl rfl ?_) | (refine wpL_ldh M2 rfl rfl rfl (by assumption) ?_) | (refine wpN_1 rfl rfl rfl ?_) | (refine wpN_0 rfl rfl ?_) | (refine wpN_2 rfl rfl rfl rfl ?_) | (refine wpL_stc M2 rfl rfl rfl rfl ?_; clear M2; intro w' M2) | (refine wpL_sti M2 rfl rfl rfl rfl ?_; clear M2; intro w' M2) | (refine wpL_sth M2 rfl rfl rfl rfl (wr_part _ _ _) ?_; clear M2; intro w' M2) | (refine wpL_sth M2 rfl rfl rfl rfl (wr_minus _ _ _) ?_; clear M2; intro w' M2) | (refine wpL_sth M2 rfl rfl rfl rfl (by assumption) ?_; clear M2; intro w' M2)))
      go_ret
      exact ⟨rfl, M2.below⟩
  · simp at hb
    subst hb
    by_cases hz : n1 = 0
    · rw [decide_eq_true hz] at C1
      have hz2 : n2 ≠ 0 := fun h => hn ⟨hz, h⟩
      rw [decide_eq_false hz2] at C2
      clear hz hz2 hn
      clear h1 h2
      have M0 := Mem.start w
      go_enter Try.func27, Try.ntmps27
      go_wp2_with ((with_reducible refine (?_ : Go.wpList _ _ _ (_ :: _) _ _)); (first | go_skip | (refine wpL_bx M0 rfl rfl rfl rfl ?_; clear M0; intro g1 w1 M1) | (refine wpL_alc M0 rfl rfl ?_; clear M0; intro g1 w1 M1) | (refine wpL_ldc M0 rfl rfl rfl ?_) | (refine wpL_lgc M0 rfl rfl rfl ?_) | (refine wpL_ldh M0 rfl rfl rfl (by assumption) ?_) | (refine wpN_1 rfl rfl rfl ?_) | (refine wpN_0 rfl rfl ?_) | (refine wpN_2 rfl rfl rfl rfl ?_) | (refine wpL_stc M0 rfl rfl rfl rfl ?_; clear M0; intro w' M0) | (refine wpL_sti M0 rfl rfl rfl rfl ?_; clear M0; intro w' M0) | (refine wpL_sth M0 rfl rfl rfl rfl (wr_part _ _ _) ?_; clear M0; intro w' M0) | (refine wpL_sth M0 rfl rfl rfl rfl (wr_minus _ _ _) ?_; clear M0; intro w' M0) | (refine wpL_sth M0 rfl rfl rfl rfl (by assumption) ?_; clear M0; intro w' M0) | (refine wpL_bx M1 rfl rfl rfl rfl ?_; clear M1; intro g2 w2 M2) | (refine wpL_alc M1 rfl rfl ?_; clear M1; intro g2 w2 M2) | (refine wpL_ldc M1 rfl rfl rfl ?_) | (refine wpL_lgc M1 rfl rfl rfl ?_) | (refine wpL_ldh M1 rfl rfl rfl (by assumption) ?_) | (refine wpL_stc M1 rfl rfl rfl rfl ?_; clear M1; intro w' M1) | (refine wpL_sti M1 rfl rfl rfl rfl ?_; clear M1; intro w' M1) | (refine wpL_sth M1 rfl rfl rfl rfl (wr_part _ _ _) ?_; clear M1; intro w' M1) | (refine wpL_sth M1 rfl rfl rfl rfl (wr_minus _ _ _) ?_; clear M1; intro w' M1) | (refine wpL_sth M1 rfl rfl rfl rfl (by assumption) ?_; clear M1; intro w' M1) | (refine wpL_ldc M2 rfl rfl rfl ?_) | (refine wpL_lgc M2 rfl rfl rfl ?_) | (refine wpL_ldh M2 rfl rfl rfl (by assumption) ?_) | (refine wpL_stc M2 rfl rfl rfl rfl ?_; clear M2; intro w' M2) | (refine wpL_sti M2 rfl rfl rfl rfl ?_; clear M2; intro w' M2) | (refine wpL_sth M2 rfl rfl rfl rfl (wr_part _ _ _) ?_; clear M2; intro w' M2) | (refine wpL_sth M2 rfl rfl rfl rfl (wr_minus _ _ _) ?_; clear M2; intro w' M2) | (refine wpL_sth M2 rfl rfl rfl rfl (by assumption) ?_; clear M2; intro w' M2)))
      refine (C1 _).mono ?_
      rintro e w2 ⟨rfl, hBl⟩
      replace M2 := M2.call hBl
      clear hBl C1
      go_wp2_with ((with_reducible refine (?_ : Go.wpList _ _ _ (_ :: _) _ _)); (first | go_skip | (refine wpL_ldc M2 rfl rfl rfl ?_) | (refine wpL_lgc M2 rfl rfl rfl ?_) | (refine wpL_ldh M2 rfl rfl rfl (by assumption) ?_) | (refine wpN_1 rfl rfl rfl ?_) | (refine wpN_0 rfl rfl ?_) | (refine wpN_2 rfl rfl rfl rfl ?_) | (refine wpL_stc M2 rfl rfl rfl rfl ?_; clear M2; intro w' M2) | (refine wpL_sti M2 rfl rfl rfl rfl ?_; clear M2; intro w' M2) | (refine wpL_sth M2 rfl rfl rfl rfl (wr_part _ _ _) ?_; clear M2; intro w' M2) | (refine wpL_sth M2 rfl rfl rfl rfl (wr_minus _ _ _) ?_; clear M2; intro w' M2) | (refine wpL_sth M2 rfl rfl rfl rfl (by assumption) ?_; clear M2; intro w' M2)))
      refine (C2 _).mono ?_
      rintro e w2 ⟨rfl, hBl⟩
      replace M2 := M2.call hBl
      clear hBl C2
      go_wp2_with ((with_reducible refine (?_ : Go.wpList _ _ _ (_ :: _) _ _)); (first | go_skip | (refine wpL_ldc M2 rfl rfl rfl ?_) | (refine wpL_lgc M2 rfl rfl rfl ?_) | (refine wpL_ldh M2 rfl rfl rfl (by assumption) ?_) | (refine wpN_1 rfl rfl rfl ?_) | (refine wpN_0 rfl rfl ?_) | (refine wpN_2 rfl rfl rfl rfl ?_) | (refine wpL_stc M2 rfl rfl rfl rfl ?_; clear M2; intro w' M2) | (refine wpL_sti M2 rfl rfl rfl rfl ?_; clear M2; intro w' M2) | (refine wpL_sth M2 rfl rfl rfl rfl (wr_part _ _ _) ?_; clear M2; intro w' M2) | (refine wpL_sth M2 rfl rfl rfl rfl (wr_minus _ _ _) ?_; clear M2; intro w' M2) | (refine wpL_sth M2 rfl rfl rfl rfl (by assumption) ?_; clear M2; intro w' M2)))
      go_ret
      exact ⟨rfl, M2.below⟩
    · rw [decide_eq_false hz] at C1
      clear hz hn
      clear h1 h2
      have M0 := Mem.start w
      go_enter Try.func27, Try.ntmps27
      go_wp2_with ((with_reducible refine (?_ : Go.wpList _ _ _ (_ :: _) _ _)); (first | go_skip | (refine wpL_bx M0 rfl rfl rfl rfl ?_; clear M0; intro g1 w1 M1) | (refine wpL_alc M0 rfl rfl ?_; clear M0; intro g1 w1 M1) | (refine wpL_ldc M0 rfl rfl rfl ?_) | (refine wpL_lgc M0 rfl rfl rfl ?_) | (refine wpL_ldh M0 rfl rfl rfl (by assumption) ?_) | (refine wpN_1 rfl rfl rfl ?_) | (refine wpN_0 rfl rfl ?_) | (refine wpN_2 rfl rfl rfl rfl ?_) | (refine wpL_stc M0 rfl rfl rfl rfl ?_; clear M0; intro w' M0) | (refine wpL_sti M0 rfl rfl rfl rfl ?_; clear M0; intro w' M0) | (refine wpL_sth M0 rfl rfl rfl rfl (wr_part _ _ _) ?_; clear M0; intro w' M0) | (refine wpL_sth M0 rfl rfl rfl rfl (wr_minus _ _ _) ?_; clear M0; intro w' M0) | (refine wpL_sth M0 rfl rfl rfl rfl (by assumption) ?_; clear M0; intro w' M0) | (refine wpL_bx M1 rfl rfl rfl rfl ?_; clear M1; intro g2 w2 M2) | (refine wpL_alc M1 rfl rfl ?_; clear M1; intro g2 w2 M2) | (refine wpL_ldc M1 rfl rfl rfl ?_) | (refine wpL_lgc M1 rfl rfl rfl ?_) | (refine wpL_ldh M1 rfl rfl rfl (by assumption) ?_) | (refine wpL_stc M1 rfl rfl rfl rfl ?_; clear M1; intro w' M1) | (refine wpL_sti M1 rfl rfl rfl rfl ?_; clear M1; intro w' M1) | (refine wpL_sth M1 rfl rfl rfl rfl (wr_part _ _ _) ?_; clear M1; intro w' M1) | (refine wpL_sth M1 rfl rfl rfl rfl (wr_minus _ _ _) ?_; clear M1; intro w' M1) | (refine wpL_sth M1 rfl rfl rfl rfl (by assumption) ?_; clear M1; intro w' M1) | (refine wpL_ldc M2 rfl rfl rfl ?_) | (refine wpL_lgc M2 rfl rfl rfl ?_) | (refine wpL_ldh M2 rfl rfl rfl (by assumption) ?_) | (refine wpL_stc M2 rfl rfl rfl rfl ?_; clear M2; intro w' M2) | (refine wpL_sti M2 rfl rfl rfl rfl ?_; clear M2; intro w' M2) | (refine wpL_sth M2 rfl rfl rfl rfl (wr_part _ _ _) ?_; clear M2; intro w' M2) | (refine wpL_sth M2 rfl rfl rfl rfl (wr_minus _ _ _) ?_; clear M2; intro w' M2) | (refine wpL_sth M2 rfl rfl rfl rfl (by assumption) ?_; clear M2; intro w' M2)))
      refine (C1 _).mono ?_
      rintro e w2 ⟨rfl, hBl⟩
      replace M2 := M2.call hBl
      clear hBl C1
      go_wp2_with ((with_reducible refine (?_ : Go.wpList _ _ _ (_ :: _) _ _)); (first | go_skip | (refine wpL_ldc M2 rfl rfl rfl ?_) | (refine wpL_lgc M2 rfl rfl rfl ?_) | (refine wpL_ldh M2 rfl rfl rfl (by assumption) ?_) | (refine wpN_1 rfl rfl rfl ?_) | (refine wpN_0 rfl rfl ?_) | (refine wpN_2 rfl rfl rfl rfl ?_) | (refine wpL_stc M2 rfl rfl rfl rfl ?_; clear M2; intro w' M2) | (refine wpL_sti M2 rfl rfl rfl rfl ?_; clear M2; intro w' M2) | (refine wpL_sth M2 rfl rfl rfl rfl (wr_part _ _ _) ?_; clear M2; intro w' M2) | (refine wpL_sth M2 rfl rfl rfl rfl (wr_minus _ _ _) ?_; clear M2; intro w' M2) | (refine wpL_sth M2 rfl rfl rfl rfl (by assumption) ?_; clear M2; intro w' M2)))
      go_ret
      exact ⟨rfl, M2.below⟩


set_option maxRecDepth 20000 in
set_option maxHeartbeats 3200000 in
theorem refCmp_same (m1 m2 : Bool) (n1 n2 : Nat) (h1 : n1 < 2 ^ 129) (h2 : n2 < 2 ^ 129) (hn : ¬ (n1 = 0 ∧ n2 = 0)) (hs : m2 = m1) (he : n1 = n2) (w : World) :
    Calls Try.prog 27 #[.agg (numC m1 n1).toArray, .agg (numC m2 n2).toArray] w fun e w' =>
      e = .returned (.int .i64 0) ∧ Below w.heap.size w w' := by
  have C1 := zero_any m1 n1 h1
  have C2 := zero_any m2 n2 h2
  have E1 := eq27 n1 n2 h1 h2
  rw [decide_eq_true he] at E1
  subst he
  subst hs
  by_cases hz : n1 = 0
  · rw [decide_eq_true hz] at C1
    have hz2 : n1 ≠ 0 := fun h => hn ⟨hz, h⟩
    rw [decide_eq_false hz2] at C2
    clear hz hz2 hn
    clear h1 h2
    have M0 := Mem.start w
    go_enter Try.func27, Try.ntmps27
    go_wp2_with ((with_reducible refine (?_ : Go.wpList _ _ _ (_ :: _) _ _)); (first | go_skip | (refine wpL_bx M0 rfl rfl rfl rfl ?_; clear M0; intro g1 w1 M1) | (refine wpL_alc M0 rfl rfl ?_; clear M0; intro g1 w1 M1) | (refine wpL_ldc M0 rfl rfl rfl ?_) | (refine wpL_lgc M0 rfl rfl rfl ?_) | (refine wpL_ldh M0 rfl rfl rfl (by assumption) ?_) | (refine wpN_1 rfl rfl rfl ?_) | (refine wpN_0 rfl rfl ?_) | (refine wpN_2 rfl rfl rfl rfl ?_) | (refine wpL_stc M0 rfl rfl rfl rfl ?_; clear M0; intro w' M0) | (refine wpL_sti M0 rfl rfl rfl rfl ?_; clear M0; intro w' M0) | (refine wpL_sth M0 rfl rfl rfl rfl (wr_part _ _ _) ?_; clear M0; intro w' M0) | (refine wpL_sth M0 rfl rfl rfl rfl (wr_minus _ _ _) ?_; clear M0; intro w' M0) | (refine wpL_sth M0 rfl rfl rfl rfl (by assumption) ?_; clear M0; intro w' M0) | (refine wpL_bx M1 rfl rfl rfl rfl ?_; clear M1; intro g2 w2 M2) | (refine wpL_alc M1 rfl rfl ?_; clear M1; intro g2 w2 M2) | (refine wpL_ldc M1 rfl rfl rfl ?_) | (refine wpL_lgc M1 rfl rfl rfl ?_) | (refine wpL_ldh M1 rfl rfl rfl (by assumption) ?_) | (refine wpL_stc M1 rfl rfl rfl rfl ?_; clear M1; intro w' M1) | (refine wpL_sti M1 rfl rfl rfl rfl ?_; clear M1; intro w' M1) | (refine wpL_sth M1 rfl rfl rfl rfl (wr_part _ _ _) ?_; clear M1; intro w' M1) | (refine wpL_sth M1 rfl rfl rfl rfl (wr_minus _ _ _) ?_; clear M1; intro w' M1) | (refine wpL_sth M1 rfl rfl rfl rfl (by assumption) ?_; clear M1; intro w' M1) | (refine wpL_ldc M2 rfl rfl rfl ?_) | (refine wpL_lgc M2 rfl rfl rfl ?_) | (refine wpL_ldh M2 rfl rfl rfl (by assumption) ?_) | (refine wpL_stc M2 rfl rfl rfl rfl ?_; clear M2; intro w' M2) | (refine wpL_sti M2 rfl rfl rfl rfl ?_; clear M2; intro w' M2) | (refine wpL_sth M2 rfl rfl rfl rfl (wr_part _ _ _) ?_; clear M2; intro w' M2) | (refine wpL_sth M2 rfl rfl rfl rfl (wr_minus _ _ _) ?_; clear M2; intro w' M2) | (refine wpL_sth M2 rfl rfl rfl rfl (by assumption) ?_; clear M2; intro w' M2)))
    refine (C1 _).mono ?_
    rintro e w2 ⟨rfl, hBl⟩
    replace M2 := M2.call hBl
    clear hBl C1
    go_wp2_with ((with_reducible refine (?_ : Go.wpList _ _ _ (_ :: _) _ _)); (first | go_skip | (refine wpL_ldc M2 rfl rfl rfl ?_) | (refine wpL_lgc M2 rfl rfl rfl ?_) | (refine wpL_ldh M2 rfl rfl rfl (by assumption) ?_) | (refine wpN_1 rfl rfl rfl ?_) | (refine wpN_0 rfl rfl ?_) | (refine wpN_2 rfl rfl rfl rfl ?_) | (refine wpL_stc M2 rfl rfl rfl rfl ?_; clear M2; intro w' M2) | (refine wpL_sti M2 rfl rfl rfl rfl ?_; clear M2; intro w' M2) | (refine wpL_sth M2 rfl rfl rfl rfl (wr_part _ _ _) ?_; clear M2; intro w' M2) | (refine wpL_sth M2 rfl rfl rfl rfl (wr_minus _ _ _) ?_; clear M2; intro w' M2) | (refine wpL_sth M2 rfl rfl rfl rfl (by assumption) ?_; clear M2; intro w' M2)))
    refine (C2 _).mono ?_
    rintro e w2 ⟨rfl, hBl⟩
    replace M2 := M2.call hBl
    clear hBl C2
    go_wp2_with (first | ((with_reducible refine (?_ : Go.wpList _ _ _ (_ :: _) _ _)); (first | go_skip | (refine wpL_ldc M2 rfl rfl rfl ?_) | (refine wpL_lgc M2 rfl rfl rfl ?_) | (refine wpL_ldh M2 rfl rfl rfl (by assumption) ?_) | (refine wpN_1 rfl rfl rfl ?_) | (refine wpN_0 rfl rfl ?_) | (refine wpN_2 rfl rfl rfl rfl ?_) | (refine wpL_stc M2 rfl rfl rfl rfl ?_; clear M2; intro w' M2) | (refine wpL_sti M2 rfl rfl rfl rfl ?_; clear M2; intro w' M2) | (refine wpL_sth M2 rfl rfl rfl rfl (wr_part _ _ _) ?_; clear M2; intro w' M2) | (refine wpL_sth M2 rfl rfl rfl rfl (wr_minus _ _ _) ?_; clear M2; intro w' M2) | (refine wpL_sth M2 rfl rfl rfl rfl (by assumption) ?_; clear M2; intro w' M2))) | (refine wpN_eq E1 rfl rfl rfl rfl ?_))
    go_ret
    exact ⟨rfl, M2.below⟩
  · rw [decide_eq_false hz] at C1
    clear hz hn
    clear h1 h2
    have M0 := Mem.start w
    go_enter Try.func27, Try.ntmps27
    go_wp2_with ((with_reducible refine (?_ : Go.wpList _ _ _ (_ :: _) _ _)); (first | go_skip | (refine wpL_bx M0 rfl rfl rfl rfl ?_; clear M0; intro g1 w1 M1) | (refine wpL_alc M0 rfl rfl ?_; clear M0; intro g1 w1 M1) | (refine wpL_ldc M0 rfl rfl rfl ?_) | (refine wpL_lgc M0 rfl rfl rfl ?_) | (refine wpL_ldh M0 rfl rfl rfl (by assumption) ?_) | (refine wpN_1 rfl rfl rfl ?_) | (refine wpN_0 rfl rfl ?_) | (refine wpN_2 rfl rfl rfl rfl ?_) | (refine wpL_stc M0 rfl rfl rfl rfl ?_; clear M0; intro w' M0) | (refine wpL_sti M0 rfl rfl rfl rfl ?_; clear M0; intro w' M0) | (refine wpL_sth M0 rfl rfl rfl rfl (wr_part _ _ _) ?_; clear M0; intro w' M0) | (refine wpL_sth M0 rfl rfl rfl rfl (wr_minus _ _ _) ?_; clear M0; intro w' M0) | (refine wpL_sth M0 rfl rfl rfl rfl (by assumption) ?_; clear M0; intro w' M0) | (refine wpL_bx M1 rfl rfl rfl rfl ?_; clear M1; intro g2 w2 M2) | (refine wpL_alc M1 rfl rfl ?_; clear M1; intro g2 w2 M2) | (refine wpL_ldc M1 rfl rfl rfl ?_) | (refine wpL_lgc M1 rfl rfl rfl ?_) | (refine wpL_ldh M1 rfl rfl rfl (by assumption) ?_) | (refine wpL_stc M1 rfl rfl rfl rfl ?_; clear M1; intro w' M1) | (refine wpL_sti M1 rfl rfl rfl rfl ?_; clear M1; intro w' M1) | (refine wpL_sth M1 rfl rfl rfl rfl (wr_part _ _ _) ?_; clear M1; intro w' M1) | (refine wpL_sth M1 rfl rfl rfl rfl (wr_minus _ _ _) ?_; clear M1; intro w' M1) | (refine wpL_sth M1 rfl rfl rfl rfl (by assumption) ?_; clear M1; intro w' M1) | (refine wpL_ldc M2 rfl rfl rfl ?_) | (refine wpL_lgc M2 rfl rfl rfl ?_) | (refine wpL_ldh M2 rfl rfl rfl (by assumption) ?_) | (refine wpL_stc M2 rfl rfl rfl rfl ?_; clear M2; intro w' M2) | (refine wpL_sti M2 rfl rfl rfl rfl ?_; clear M2; intro w' M2) | (refine wpL_sth M2 rfl rfl rfl rfl (wr_part _ _ _) ?_; clear M2; intro w' M2) | (refine wpL_sth M2 rfl rfl rfl rfl (wr_minus _ _ _) ?_; clear M2; intro w' M2) | (refine wpL_sth M2 rfl rfl rfl rfl (by assumption) ?_; clear M2; intro w' M2)))
    refine (C1 _).mono ?_
    rintro e w2 ⟨rfl, hBl⟩
    replace M2 := M2.call hBl
    clear hBl C1
    go_wp2_with (first | ((with_reducible refine (?_ : Go.wpList _ _ _ (_ :: _) _ _)); (first | go_skip | (refine wpL_ldc M2 rfl rfl rfl ?_) | (refine wpL_lgc M2 rfl rfl rfl ?_) | (refine wpL_ldh M2 rfl rfl rfl (by assumption) ?_) | (refine wpN_1 rfl rfl rfl ?_) | (refine wpN_0 rfl rfl ?_) | (refine wpN_2 rfl rfl rfl rfl ?_) | (refine wpL_stc M2 rfl rfl rfl rfl ?_; clear M2; intro w' M2) | (refine wpL_sti M2 rfl rfl rfl rfl ?_; clear M2; intro w' M2) | (refine wpL_sth M2 rfl rfl rfl rfl (wr_part _ _ _) ?_; clear M2; intro w' M2) | (refine wpL_sth M2 rfl rfl rfl rfl (wr_minus _ _ _) ?_; clear M2; intro w' M2) | (refine wpL_sth M2 rfl rfl rfl rfl (by assumption) ?_; clear M2; intro w' M2))) | (refine wpN_eq E1 rfl rfl rfl rfl ?_))
    go_ret
    exact ⟨rfl, M2.below⟩

set_option maxRecDepth 20000 in
set_option maxHeartbeats 3200000 in
theorem refCmp_less (m1 m2 : Bool) (n1 n2 : Nat) (h1 : n1 < 2 ^ 129) (h2 : n2 < 2 ^ 129) (hn : ¬ (n1 = 0 ∧ n2 = 0)) (hs : m2 = m1) (he : n1 ≠ n2) (hx : (decide (n1 < n2) == m1) = false) (w : World) :
    Calls Try.prog 27 #[.agg (numC m1 n1).toArray, .agg (numC m2 n2).toArray] w fun e w' =>
      e = .returned (.int .i64 (-1)) ∧ Below w.heap.size w w' := by
  have C1 := zero_any m1 n1 h1
  have C2 := zero_any m2 n2 h2
  have E1 := eq27 n1 n2 h1 h2
  rw [decide_eq_false he] at E1
  have C3 := less_any n1 n2 h1 h2
  obtain ⟨x, hx0⟩ : ∃ x, x = decide (n1 < n2) := ⟨_, rfl⟩
  rw [← hx0] at hx C3
  clear hx0 he
  subst hs
  by_cases hz : n1 = 0
  · rw [decide_eq_true hz] at C1
    have hz2 : n2 ≠ 0 := fun h => hn ⟨hz, h⟩
    rw [decide_eq_false hz2] at C2
    clear hz hz2 hn
    clear h1 h2
    have M0 := Mem.start w
    go_enter Try.func27, Try.ntmps27
    go_wp2_with ((with_reducible refine (?_ : Go.wpList _ _ _ (_ :: _) _ _)); (first | go_skip | (refine wpL_bx M0 rfl rfl rfl rfl ?_; clear M0; intro g1 w1 M1) | (refine wpL_alc M0 rfl rfl ?_; clear M0; intro g1 w1 M1) | (refine wpL_ldc M0 rfl rfl rfl ?_) | (refine wpL_lgc M0 rfl rfl rfl ?_) | (refine wpL_ldh M0 rfl rfl rfl (by assumption) ?_) | (refine wpN_1 rfl rfl rfl ?_) | (refine wpN_0 rfl rfl ?_) | (refine wpN_2 rfl rfl rfl rfl ?_) | (refine wpL_stc M0 rfl rfl rfl rfl ?_; clear M0; intro w' M0) | (refine wpL_sti M0 rfl rfl rfl rfl ?_; clear M0; intro w' M0) | (refine wpL_sth M0 rfl rfl rfl rfl (wr_part _ _ _) ?_; clear M0; intro w' M0) | (refine wpL_sth M0 rfl rfl rfl rfl (wr_minus _ _ _) ?_; clear M0; intro w' M0) | (refine wpL_sth M0 rfl rfl rfl rfl (by assumption) ?_; clear M0; intro w' M0) | (refine wpL_bx M1 rfl rfl rfl rfl ?_; clear M1; intro g2 w2 M2) | (refine wpL_alc M1 rfl rfl ?_; clear M1; intro g2 w2 M2) | (refine wpL_ldc M1 rfl rfl rfl ?_) | (refine wpL_lgc M1 rfl rfl rfl ?_) | (refine wpL_ldh M1 rfl rfl rfl (by assumption) ?_) | (refine wpL_stc M1 rfl rfl rfl rfl ?_; clear M1; intro w' M1) | (refine wpL_sti M1 rfl rfl rfl rfl ?_; clear M1; intro w' M1) | (refine wpL_sth M1 rfl rfl rfl rfl (wr_part _ _ _) ?_; clear M1; intro w' M1) | (refine wpL_sth M1 rfl rfl rfl rfl (wr_minus _ _ _) ?_; clear M1; intro w' M1) | (refine wpL_sth M1 rfl rfl rfl rfl (by assumption) ?_; clear M1; intro w' M1) | (refine wpL_ldc M2 rfl rfl rfl ?_) | (refine wpL_lgc M2 rfl rfl rfl ?_) | (refine wpL_ldh M2 rfl rfl rfl (by assumption) ?_) | (refine wpL_stc M2 rfl rfl rfl rfl ?_; clear M2; intro w' M2) | (refine wpL_sti M2 rfl rfl rfl rfl ?_; clear M2; intro w' M2) | (refine wpL_sth M2 rfl rfl rfl rfl (wr_part _ _ _) ?_; clear M2; intro w' M2) | (refine wpL_sth M2 rfl rfl rfl rfl (wr_minus _ _ _) ?_; clear M2; intro w' M2) | (refine wpL_sth M2 rfl rfl rfl rfl (by assumption) ?_; clear M2; intro w' M2)))
    refine (C1 _).mono ?_
    rintro e w2 ⟨rfl, hBl⟩
    replace M2 := M2.call hBl
    clear hBl C1
    go_wp2_with ((with_reducible refine (?_ : Go.wpList _ _ _ (_ :: _) _ _)); (first | go_skip | (refine wpL_ldc M2 rfl rfl rfl ?_) | (refine wpL_lgc M2 rfl rfl rfl ?_) | (refine wpL_ldh M2 rfl rfl rfl (by assumption) ?_) | (refine wpN_1 rfl rfl rfl ?_) | (refine wpN_0 rfl rfl ?_) | (refine wpN_2 rfl rfl rfl rfl ?_) | (refine wpL_stc M2 rfl rfl rfl rfl ?_; clear M2; intro w' M2) | (refine wpL_sti M2 rfl rfl rfl rfl ?_; clear M2; intro w' M2) | (refine wpL_sth M2 rfl rfl rfl rfl (wr_part _ _ _) ?_; clear M2; intro w' M2) | (refine wpL_sth M2 rfl rfl rfl rfl (wr_minus _ _ _) ?_; clear M2; intro w' M2) | (refine wpL_sth M2 rfl rfl rfl rfl (by assumption) ?_; clear M2; intro w' M2)))
    refine (C2 _).mono ?_
    rintro e w2 ⟨rfl, hBl⟩
    replace M2 := M2.call hBl
    clear hBl C2
    go_wp2_with (first | ((with_reducible refine (?_ : Go.wpList _ _ _ (_ :: _) _ _)); (first | go_skip | (refine wpL_ldc M2 rfl rfl rfl ?_) | (refine wpL_lgc M2 rfl rfl rfl ?_) | (refine wpL_ldh M2 rfl rfl rfl (by assumption) ?_) | (refine wpN_1 rfl rfl rfl ?_) | (refine wpN_0 rfl rfl ?_) | (refine wpN_2 rfl rfl rfl rfl ?_) | (refine wpL_stc M2 rfl rfl rfl rfl ?_; clear M2; intro w' M2) | (refine wpL_sti M2 rfl rfl rfl rfl ?_; clear M2; intro w' M2) | (refine wpL_sth M2 rfl rfl rfl rfl (wr_part _ _ _) ?_; clear M2; intro w' M2) | (refine wpL_sth M2 rfl rfl rfl rfl (wr_minus _ _ _) ?_; clear M2; intro w' M2) | (refine wpL_sth M2 rfl rfl rfl rfl (by assumption) ?_; clear M2; intro w' M2))) | (refine wpN_eq E1 rfl rfl rfl rfl ?_))
    have M5 := M2.drew
    clear M2
    try dsimp only [Act.put]
    refine wp_region_held_drew (S := (fun w' : World => Mem w w' [(g2, 47, numC m2 n2), (g1, 47, numC m2 n1)])) (by kernel_rfl) ((M5)) (fun hHeld => ?_)
    refine tkT 0 ?v26 ?hy26 hHeld ?rest26
    case hy26 => (intro w' hSw; (try dsimp only at hSw); go_simp; (try with_reducible rfl))
    try simp only [Act.put, puts]
    refine wpAnyH_take (i := 1) rfl (by kernel_rfl) (by kernel_rfl) (by kernel_rfl) (fun _ _ _ h => h) (yi_ld (fun _ h => ⟨_, h⟩) (by rfl) rfl rfl (by repeat (first | exact Has.head _ _ _ _ | apply Has.tail)) (by first | exact rd_num _ _ | exact rd_bits _ | exact rd_part _ _ | exact rd_minus _ _ | assumption)) hHeld ?_
    try simp only [Act.put, puts]
    refine tkT 2 ?v28 ?hy28 hHeld ?rest28
    case hy28 => (intro w' hSw; (try dsimp only at hSw); go_simp; (try with_reducible rfl))
    try simp only [Act.put, puts]
    refine wpAnyH_take (i := 3) rfl (by kernel_rfl) (by kernel_rfl) (by kernel_rfl) (fun _ _ _ h => h) (yi_ld (fun _ h => ⟨_, h⟩) (by rfl) rfl rfl (by repeat (first | exact Has.head _ _ _ _ | apply Has.tail)) (by first | exact rd_num _ _ | exact rd_bits _ | exact rd_part _ _ | exact rd_minus _ _ | assumption)) hHeld ?_
    try simp only [Act.put, puts]
    refine tkT 5 ?v30 ?hy30 hHeld ?rest30
    case hy30 => (intro w' hSw; (try dsimp only at hSw); go_simp; (try with_reducible rfl))
    try simp only [Act.put, puts]
    refine wpAnyH_take (i := 6) rfl (by kernel_rfl) (by kernel_rfl) (by kernel_rfl) (fun _ _ _ h => h) (yi_ld (fun _ h => ⟨_, h⟩) (by rfl) rfl rfl (by repeat (first | exact Has.head _ _ _ _ | apply Has.tail)) (by first | exact rd_num _ _ | exact rd_bits _ | exact rd_part _ _ | exact rd_minus _ _ | assumption)) hHeld ?_
    try simp only [Act.put, puts]
    refine wpAnyH_ready (rs := [4]) (by kernel_rfl) (by simp) ?_
    refine AllReadyH.cons rfl (fun K hK => ?_) AllReadyH.nil
    go_simp
    refine (C3 _).mono ?_
    rintro e w2 ⟨rfl, hBl⟩
    replace M5 := M5.call hBl
    clear hBl C3
    try go_wp2_with fail
    refine hK.out _ _ (M5) (fun hHeld => ?_)
    clear hK K
    try simp only [Act.put, puts]
    refine tkT 7 ?v33 ?hy33 hHeld ?rest33
    case hy33 => (intro w' hSw; (try dsimp only at hSw); go_simp; (try with_reducible rfl))
    try simp only [Act.put, puts]
    refine wpAnyH_done (by kernel_rfl) ?_ _
    go_wp2
    go_ret
    exact ⟨rfl, M5.below⟩
  · rw [decide_eq_false hz] at C1
    clear hz hn
    clear h1 h2
    have M0 := Mem.start w
    go_enter Try.func27, Try.ntmps27
    go_wp2_with ((with_reducible refine (?_ : Go.wpList _ _ _ (_ :: _) _ _)); (first | go_skip | (refine wpL_bx M0 rfl rfl rfl rfl ?_; clear M0; intro g1 w1 M1) | (refine wpL_alc M0 rfl rfl ?_; clear M0; intro g1 w1 M1) | (refine wpL_ldc M0 rfl rfl rfl ?_) | (refine wpL_lgc M0 rfl rfl rfl ?_) | (refine wpL_ldh M0 rfl rfl rfl (by assumption) ?_) | (refine wpN_1 rfl rfl rfl ?_) | (refine wpN_0 rfl rfl ?_) | (refine wpN_2 rfl rfl rfl rfl ?_) | (refine wpL_stc M0 rfl rfl rfl rfl ?_; clear M0; intro w' M0) | (refine wpL_sti M0 rfl rfl rfl rfl ?_; clear M0; intro w' M0) | (refine wpL_sth M0 rfl rfl rfl rfl (wr_part _ _ _) ?_; clear M0; intro w' M0) | (refine wpL_sth M0 rfl rfl rfl rfl (wr_minus _ _ _) ?_; clear M0; intro w' M0) | (refine wpL_sth M0 rfl rfl rfl rfl (by assumption) ?_; clear M0; intro w' M0) | (refine wpL_bx M1 rfl rfl rfl rfl ?_; clear M1; intro g2 w2 M2) | (refine wpL_alc M1 rfl rfl ?_; clear M1; intro g2 w2 M2) | (refine wpL_ldc M1 rfl rfl rfl ?_) | (refine wpL_lgc M1 rfl rfl rfl ?_) | (refine wpL_ldh M1 rfl rfl rfl (by assumption) ?_) | (refine wpL_stc M1 rfl rfl rfl rfl ?_; clear M1; intro w' M1) | (refine wpL_sti M1 rfl rfl rfl rfl ?_; clear M1; intro w' M1) | (refine wpL_sth M1 rfl rfl rfl rfl (wr_part _ _ _) ?_; clear M1; intro w' M1) | (refine wpL_sth M1 rfl rfl rfl rfl (wr_minus _ _ _) ?_; clear M1; intro w' M1) | (refine wpL_sth M1 rfl rfl rfl rfl (by assumption) ?_; clear M1; intro w' M1) | (refine wpL_ldc M2 rfl rfl rfl ?_) | (refine wpL_lgc M2 rfl rfl rfl ?_) | (refine wpL_ldh M2 rfl rfl rfl (by assumption) ?_) | (refine wpL_stc M2 rfl rfl rfl rfl ?_; clear M2; intro w' M2) | (refine wpL_sti M2 rfl rfl rfl rfl ?_; clear M2; intro w' M2) | (refine wpL_sth M2 rfl rfl rfl rfl (wr_part _ _ _) ?_; clear M2; intro w' M2) | (refine wpL_sth M2 rfl rfl rfl rfl (wr_minus _ _ _) ?_; clear M2; intro w' M2) | (refine wpL_sth M2 rfl rfl rfl rfl (by assumption) ?_; clear M2; intro w' M2)))
    refine (C1 _).mono ?_
    rintro e w2 ⟨rfl, hBl⟩
    replace M2 := M2.call hBl
    clear hBl C1
    go_wp2_with (first | ((with_reducible refine (?_ : Go.wpList _ _ _ (_ :: _) _ _)); (first | go_skip | (refine wpL_ldc M2 rfl rfl rfl ?_) | (refine wpL_lgc M2 rfl rfl rfl ?_) | (refine wpL_ldh M2 rfl rfl rfl (by assumption) ?_) | (refine wpN_1 rfl rfl rfl ?_) | (refine wpN_0 rfl rfl ?_) | (refine wpN_2 rfl rfl rfl rfl ?_) | (refine wpL_stc M2 rfl rfl rfl rfl ?_; clear M2; intro w' M2) | (refine wpL_sti M2 rfl rfl rfl rfl ?_; clear M2; intro w' M2) | (refine wpL_sth M2 rfl rfl rfl rfl (wr_part _ _ _) ?_; clear M2; intro w' M2) | (refine wpL_sth M2 rfl rfl rfl rfl (wr_minus _ _ _) ?_; clear M2; intro w' M2) | (refine wpL_sth M2 rfl rfl rfl rfl (by assumption) ?_; clear M2; intro w' M2))) | (refine wpN_eq E1 rfl rfl rfl rfl ?_))
    have M5 := M2.drew
    clear M2
    try dsimp only [Act.put]
    refine wp_region_held_drew (S := (fun w' : World => Mem w w' [(g2, 47, numC m2 n2), (g1, 47, numC m2 n1)])) (by kernel_rfl) ((M5)) (fun hHeld => ?_)
    refine tkT 0 ?v34 ?hy34 hHeld ?rest34
    case hy34 => (intro w' hSw; (try dsimp only at hSw); go_simp; (try with_reducible rfl))
    try simp only [Act.put, puts]
    refine wpAnyH_take (i := 1) rfl (by kernel_rfl) (by kernel_rfl) (by kernel_rfl) (fun _ _ _ h => h) (yi_ld (fun _ h => ⟨_, h⟩) (by rfl) rfl rfl (by repeat (first | exact Has.head _ _ _ _ | apply Has.tail)) (by first | exact rd_num _ _ | exact rd_bits _ | exact rd_part _ _ | exact rd_minus _ _ | assumption)) hHeld ?_
    try simp only [Act.put, puts]
    refine tkT 2 ?v36 ?hy36 hHeld ?rest36
    case hy36 => (intro w' hSw; (try dsimp only at hSw); go_simp; (try with_reducible rfl))
    try simp only [Act.put, puts]
    refine wpAnyH_take (i := 3) rfl (by kernel_rfl) (by kernel_rfl) (by kernel_rfl) (fun _ _ _ h => h) (yi_ld (fun _ h => ⟨_, h⟩) (by rfl) rfl rfl (by repeat (first | exact Has.head _ _ _ _ | apply Has.tail)) (by first | exact rd_num _ _ | exact rd_bits _ | exact rd_part _ _ | exact rd_minus _ _ | assumption)) hHeld ?_
    try simp only [Act.put, puts]
    refine tkT 5 ?v38 ?hy38 hHeld ?rest38
    case hy38 => (intro w' hSw; (try dsimp only at hSw); go_simp; (try with_reducible rfl))
    try simp only [Act.put, puts]
    refine wpAnyH_take (i := 6) rfl (by kernel_rfl) (by kernel_rfl) (by kernel_rfl) (fun _ _ _ h => h) (yi_ld (fun _ h => ⟨_, h⟩) (by rfl) rfl rfl (by repeat (first | exact Has.head _ _ _ _ | apply Has.tail)) (by first | exact rd_num _ _ | exact rd_bits _ | exact rd_part _ _ | exact rd_minus _ _ | assumption)) hHeld ?_
    try simp only [Act.put, puts]
    refine wpAnyH_ready (rs := [4]) (by kernel_rfl) (by simp) ?_
    refine AllReadyH.cons rfl (fun K hK => ?_) AllReadyH.nil
    go_simp
    refine (C3 _).mono ?_
    rintro e w2 ⟨rfl, hBl⟩
    replace M5 := M5.call hBl
    clear hBl C3
    try go_wp2_with fail
    refine hK.out _ _ (M5) (fun hHeld => ?_)
    clear hK K
    try simp only [Act.put, puts]
    refine tkT 7 ?v41 ?hy41 hHeld ?rest41
    case hy41 => (intro w' hSw; (try dsimp only at hSw); go_simp; (try with_reducible rfl))
    try simp only [Act.put, puts]
    refine wpAnyH_done (by kernel_rfl) ?_ _
    go_wp2
    go_ret
    exact ⟨rfl, M5.below⟩

set_option maxRecDepth 20000 in
set_option maxHeartbeats 3200000 in
theorem refCmp_more (m1 m2 : Bool) (n1 n2 : Nat) (h1 : n1 < 2 ^ 129) (h2 : n2 < 2 ^ 129) (hn : ¬ (n1 = 0 ∧ n2 = 0)) (hs : m2 = m1) (he : n1 ≠ n2) (hx : (decide (n1 < n2) == m1) = true) (w : World) :
    Calls Try.prog 27 #[.agg (numC m1 n1).toArray, .agg (numC m2 n2).toArray] w fun e w' =>
      e = .returned (.int .i64 1) ∧ Below w.heap.size w w' := by
  have C1 := zero_any m1 n1 h1
  have C2 := zero_any m2 n2 h2
  have E1 := eq27 n1 n2 h1 h2
  rw [decide_eq_false he] at E1
  have C3 := less_any n1 n2 h1 h2
  obtain ⟨x, hx0⟩ : ∃ x, x = decide (n1 < n2) := ⟨_, rfl⟩
  rw [← hx0] at hx C3
  clear hx0 he
  subst hs
  by_cases hz : n1 = 0
  · rw [decide_eq_true hz] at C1
    have hz2 : n2 ≠ 0 := fun h => hn ⟨hz, h⟩
    rw [decide_eq_false hz2] at C2
    clear hz hz2 hn
    clear h1 h2
    have M0 := Mem.start w
    go_enter Try.func27, Try.ntmps27
    go_wp2_with ((with_reducible refine (?_ : Go.wpList _ _ _ (_ :: _) _ _)); (first | go_skip | (refine wpL_bx M0 rfl rfl rfl rfl ?_; clear M0; intro g1 w1 M1) | (refine wpL_alc M0 rfl rfl ?_; clear M0; intro g1 w1 M1) | (refine wpL_ldc M0 rfl rfl rfl ?_) | (refine wpL_lgc M0 rfl rfl rfl ?_) | (refine wpL_ldh M0 rfl rfl rfl (by assumption) ?_) | (refine wpN_1 rfl rfl rfl ?_) | (refine wpN_0 rfl rfl ?_) | (refine wpN_2 rfl rfl rfl rfl ?_) | (refine wpL_stc M0 rfl rfl rfl rfl ?_; clear M0; intro w' M0) | (refine wpL_sti M0 rfl rfl rfl rfl ?_; clear M0; intro w' M0) | (refine wpL_sth M0 rfl rfl rfl rfl (wr_part _ _ _) ?_; clear M0; intro w' M0) | (refine wpL_sth M0 rfl rfl rfl rfl (wr_minus _ _ _) ?_; clear M0; intro w' M0) | (refine wpL_sth M0 rfl rfl rfl rfl (by assumption) ?_; clear M0; intro w' M0) | (refine wpL_bx M1 rfl rfl rfl rfl ?_; clear M1; intro g2 w2 M2) | (refine wpL_alc M1 rfl rfl ?_; clear M1; intro g2 w2 M2) | (refine wpL_ldc M1 rfl rfl rfl ?_) | (refine wpL_lgc M1 rfl rfl rfl ?_) | (refine wpL_ldh M1 rfl rfl rfl (by assumption) ?_) | (refine wpL_stc M1 rfl rfl rfl rfl ?_; clear M1; intro w' M1) | (refine wpL_sti M1 rfl rfl rfl rfl ?_; clear M1; intro w' M1) | (refine wpL_sth M1 rfl rfl rfl rfl (wr_part _ _ _) ?_; clear M1; intro w' M1) | (refine wpL_sth M1 rfl rfl rfl rfl (wr_minus _ _ _) ?_; clear M1; intro w' M1) | (refine wpL_sth M1 rfl rfl rfl rfl (by assumption) ?_; clear M1; intro w' M1) | (refine wpL_ldc M2 rfl rfl rfl ?_) | (refine wpL_lgc M2 rfl rfl rfl ?_) | (refine wpL_ldh M2 rfl rfl rfl (by assumption) ?_) | (refine wpL_stc M2 rfl rfl rfl rfl ?_; clear M2; intro w' M2) | (refine wpL_sti M2 rfl rfl rfl rfl ?_; clear M2; intro w' M2) | (refine wpL_sth M2 rfl rfl rfl rfl (wr_part _ _ _) ?_; clear M2; intro w' M2) | (refine wpL_sth M2 rfl rfl rfl rfl (wr_minus _ _ _) ?_; clear M2; intro w' M2) | (refine wpL_sth M2 rfl rfl rfl rfl (by assumption) ?_; clear M2; intro w' M2)))
    refine (C1 _).mono ?_
    rintro e w2 ⟨rfl, hBl⟩
    replace M2 := M2.call hBl
    clear hBl C1
    go_wp2_with ((with_reducible refine (?_ : Go.wpList _ _ _ (_ :: _) _ _)); (first | go_skip | (refine wpL_ldc M2 rfl rfl rfl ?_) | (refine wpL_lgc M2 rfl rfl rfl ?_) | (refine wpL_ldh M2 rfl rfl rfl (by assumption) ?_) | (refine wpN_1 rfl rfl rfl ?_) | (refine wpN_0 rfl rfl ?_) | (refine wpN_2 rfl rfl rfl rfl ?_) | (refine wpL_stc M2 rfl rfl rfl rfl ?_; clear M2; intro w' M2) | (refine wpL_sti M2 rfl rfl rfl rfl ?_; clear M2; intro w' M2) | (refine wpL_sth M2 rfl rfl rfl rfl (wr_part _ _ _) ?_; clear M2; intro w' M2) | (refine wpL_sth M2 rfl rfl rfl rfl (wr_minus _ _ _) ?_; clear M2; intro w' M2) | (refine wpL_sth M2 rfl rfl rfl rfl (by assumption) ?_; clear M2; intro w' M2)))
    refine (C2 _).mono ?_
    rintro e w2 ⟨rfl, hBl⟩
    replace M2 := M2.call hBl
    clear hBl C2
    go_wp2_with (first | ((with_reducible refine (?_ : Go.wpList _ _ _ (_ :: _) _ _)); (first | go_skip | (refine wpL_ldc M2 rfl rfl rfl ?_) | (refine wpL_lgc M2 rfl rfl rfl ?_) | (refine wpL_ldh M2 rfl rfl rfl (by assumption) ?_) | (refine wpN_1 rfl rfl rfl ?_) | (refine wpN_0 rfl rfl ?_) | (refine wpN_2 rfl rfl rfl rfl ?_) | (refine wpL_stc M2 rfl rfl rfl rfl ?_; clear M2; intro w' M2) | (refine wpL_sti M2 rfl rfl rfl rfl ?_; clear M2; intro w' M2) | (refine wpL_sth M2 rfl rfl rfl rfl (wr_part _ _ _) ?_; clear M2; intro w' M2) | (refine wpL_sth M2 rfl rfl rfl rfl (wr_minus _ _ _) ?_; clear M2; intro w' M2) | (refine wpL_sth M2 rfl rfl rfl rfl (by assumption) ?_; clear M2; intro w' M2))) | (refine wpN_eq E1 rfl rfl rfl rfl ?_))
    have M5 := M2.drew
    clear M2
    try dsimp only [Act.put]
    refine wp_region_held_drew (S := (fun w' : World => Mem w w' [(g2, 47, numC m2 n2), (g1, 47, numC m2 n1)])) (by kernel_rfl) ((M5)) (fun hHeld => ?_)
    refine tkT 0 ?v42 ?hy42 hHeld ?rest42
    case hy42 => (intro w' hSw; (try dsimp only at hSw); go_simp; (try with_reducible rfl))
    try simp only [Act.put, puts]
    refine wpAnyH_take (i := 1) rfl (by kernel_rfl) (by kernel_rfl) (by kernel_rfl) (fun _ _ _ h => h) (yi_ld (fun _ h => ⟨_, h⟩) (by rfl) rfl rfl (by repeat (first | exact Has.head _ _ _ _ | apply Has.tail)) (by first | exact rd_num _ _ | exact rd_bits _ | exact rd_part _ _ | exact rd_minus _ _ | assumption)) hHeld ?_
    try simp only [Act.put, puts]
    refine tkT 2 ?v44 ?hy44 hHeld ?rest44
    case hy44 => (intro w' hSw; (try dsimp only at hSw); go_simp; (try with_reducible rfl))
    try simp only [Act.put, puts]
    refine wpAnyH_take (i := 3) rfl (by kernel_rfl) (by kernel_rfl) (by kernel_rfl) (fun _ _ _ h => h) (yi_ld (fun _ h => ⟨_, h⟩) (by rfl) rfl rfl (by repeat (first | exact Has.head _ _ _ _ | apply Has.tail)) (by first | exact rd_num _ _ | exact rd_bits _ | exact rd_part _ _ | exact rd_minus _ _ | assumption)) hHeld ?_
    try simp only [Act.put, puts]
    refine tkT 5 ?v46 ?hy46 hHeld ?rest46
    case hy46 => (intro w' hSw; (try dsimp only at hSw); go_simp; (try with_reducible rfl))
    try simp only [Act.put, puts]
    refine wpAnyH_take (i := 6) rfl (by kernel_rfl) (by kernel_rfl) (by kernel_rfl) (fun _ _ _ h => h) (yi_ld (fun _ h => ⟨_, h⟩) (by rfl) rfl rfl (by repeat (first | exact Has.head _ _ _ _ | apply Has.tail)) (by first | exact rd_num _ _ | exact rd_bits _ | exact rd_part _ _ | exact rd_minus _ _ | assumption)) hHeld ?_
    try simp only [Act.put, puts]
    refine wpAnyH_ready (rs := [4]) (by kernel_rfl) (by simp) ?_
    refine AllReadyH.cons rfl (fun K hK => ?_) AllReadyH.nil
    go_simp
    refine (C3 _).mono ?_
    rintro e w2 ⟨rfl, hBl⟩
    replace M5 := M5.call hBl
    clear hBl C3
    try go_wp2_with fail
    refine hK.out _ _ (M5) (fun hHeld => ?_)
    clear hK K
    try simp only [Act.put, puts]
    refine tkT 7 ?v49 ?hy49 hHeld ?rest49
    case hy49 => (intro w' hSw; (try dsimp only at hSw); go_simp; (try with_reducible rfl))
    try simp only [Act.put, puts]
    refine wpAnyH_done (by kernel_rfl) ?_ _
    go_wp2
    go_ret
    exact ⟨rfl, M5.below⟩
  · rw [decide_eq_false hz] at C1
    clear hz hn
    clear h1 h2
    have M0 := Mem.start w
    go_enter Try.func27, Try.ntmps27
    go_wp2_with ((with_reducible refine (?_ : Go.wpList _ _ _ (_ :: _) _ _)); (first | go_skip | (refine wpL_bx M0 rfl rfl rfl rfl ?_; clear M0; intro g1 w1 M1) | (refine wpL_alc M0 rfl rfl ?_; clear M0; intro g1 w1 M1) | (refine wpL_ldc M0 rfl rfl rfl ?_) | (refine wpL_lgc M0 rfl rfl rfl ?_) | (refine wpL_ldh M0 rfl rfl rfl (by assumption) ?_) | (refine wpN_1 rfl rfl rfl ?_) | (refine wpN_0 rfl rfl ?_) | (refine wpN_2 rfl rfl rfl rfl ?_) | (refine wpL_stc M0 rfl rfl rfl rfl ?_; clear M0; intro w' M0) | (refine wpL_sti M0 rfl rfl rfl rfl ?_; clear M0; intro w' M0) | (refine wpL_sth M0 rfl rfl rfl rfl (wr_part _ _ _) ?_; clear M0; intro w' M0) | (refine wpL_sth M0 rfl rfl rfl rfl (wr_minus _ _ _) ?_; clear M0; intro w' M0) | (refine wpL_sth M0 rfl rfl rfl rfl (by assumption) ?_; clear M0; intro w' M0) | (refine wpL_bx M1 rfl rfl rfl rfl ?_; clear M1; intro g2 w2 M2) | (refine wpL_alc M1 rfl rfl ?_; clear M1; intro g2 w2 M2) | (refine wpL_ldc M1 rfl rfl rfl ?_) | (refine wpL_lgc M1 rfl rfl rfl ?_) | (refine wpL_ldh M1 rfl rfl rfl (by assumption) ?_) | (refine wpL_stc M1 rfl rfl rfl rfl ?_; clear M1; intro w' M1) | (refine wpL_sti M1 rfl rfl rfl rfl ?_; clear M1; intro w' M1) | (refine wpL_sth M1 rfl rfl rfl rfl (wr_part _ _ _) ?_; clear M1; intro w' M1) | (refine wpL_sth M1 rfl rfl rfl rfl (wr_minus _ _ _) ?_; clear M1; intro w' M1) | (refine wpL_sth M1 rfl rfl rfl rfl (by assumption) ?_; clear M1; intro w' M1) | (refine wpL_ldc M2 rfl rfl rfl ?_) | (refine wpL_lgc M2 rfl rfl rfl ?_) | (refine wpL_ldh M2 rfl rfl rfl (by assumption) ?_) | (refine wpL_stc M2 rfl rfl rfl rfl ?_; clear M2; intro w' M2) | (refine wpL_sti M2 rfl rfl rfl rfl ?_; clear M2; intro w' M2) | (refine wpL_sth M2 rfl rfl rfl rfl (wr_part _ _ _) ?_; clear M2; intro w' M2) | (refine wpL_sth M2 rfl rfl rfl rfl (wr_minus _ _ _) ?_; clear M2; intro w' M2) | (refine wpL_sth M2 rfl rfl rfl rfl (by assumption) ?_; clear M2; intro w' M2)))
    refine (C1 _).mono ?_
    rintro e w2 ⟨rfl, hBl⟩
    replace M2 := M2.call hBl
    clear hBl C1
    go_wp2_with (first | ((with_reducible refine (?_ : Go.wpList _ _ _ (_ :: _) _ _)); (first | go_skip | (refine wpL_ldc M2 rfl rfl rfl ?_) | (refine wpL_lgc M2 rfl rfl rfl ?_) | (refine wpL_ldh M2 rfl rfl rfl (by assumption) ?_) | (refine wpN_1 rfl rfl rfl ?_) | (refine wpN_0 rfl rfl ?_) | (refine wpN_2 rfl rfl rfl rfl ?_) | (refine wpL_stc M2 rfl rfl rfl rfl ?_; clear M2; intro w' M2) | (refine wpL_sti M2 rfl rfl rfl rfl ?_; clear M2; intro w' M2) | (refine wpL_sth M2 rfl rfl rfl rfl (wr_part _ _ _) ?_; clear M2; intro w' M2) | (refine wpL_sth M2 rfl rfl rfl rfl (wr_minus _ _ _) ?_; clear M2; intro w' M2) | (refine wpL_sth M2 rfl rfl rfl rfl (by assumption) ?_; clear M2; intro w' M2))) | (refine wpN_eq E1 rfl rfl rfl rfl ?_))
    have M5 := M2.drew
    clear M2
    try dsimp only [Act.put]
    refine wp_region_held_drew (S := (fun w' : World => Mem w w' [(g2, 47, numC m2 n2), (g1, 47, numC m2 n1)])) (by kernel_rfl) ((M5)) (fun hHeld => ?_)
    refine tkT 0 ?v50 ?hy50 hHeld ?rest50
    case hy50 => (intro w' hSw; (try dsimp only at hSw); go_simp; (try with_reducible rfl))
    try simp only [Act.put, puts]
    refine wpAnyH_take (i := 1) rfl (by kernel_rfl) (by kernel_rfl) (by kernel_rfl) (fun _ _ _ h => h) (yi_ld (fun _ h => ⟨_, h⟩) (by rfl) rfl rfl (by repeat (first | exact Has.head _ _ _ _ | apply Has.tail)) (by first | exact rd_num _ _ | exact rd_bits _ | exact rd_part _ _ | exact rd_minus _ _ | assumption)) hHeld ?_
    try simp only [Act.put, puts]
    refine tkT 2 ?v52 ?hy52 hHeld ?rest52
    case hy52 => (intro w' hSw; (try dsimp only at hSw); go_simp; (try with_reducible rfl))
    try simp only [Act.put, puts]
    refine wpAnyH_take (i := 3) rfl (by kernel_rfl) (by kernel_rfl) (by kernel_rfl) (fun _ _ _ h => h) (yi_ld (fun _ h => ⟨_, h⟩) (by rfl) rfl rfl (by repeat (first | exact Has.head _ _ _ _ | apply Has.tail)) (by first | exact rd_num _ _ | exact rd_bits _ | exact rd_part _ _ | exact rd_minus _ _ | assumption)) hHeld ?_
    try simp only [Act.put, puts]
    refine tkT 5 ?v54 ?hy54 hHeld ?rest54
    case hy54 => (intro w' hSw; (try dsimp only at hSw); go_simp; (try with_reducible rfl))
    try simp only [Act.put, puts]
    refine wpAnyH_take (i := 6) rfl (by kernel_rfl) (by kernel_rfl) (by kernel_rfl) (fun _ _ _ h => h) (yi_ld (fun _ h => ⟨_, h⟩) (by rfl) rfl rfl (by repeat (first | exact Has.head _ _ _ _ | apply Has.tail)) (by first | exact rd_num _ _ | exact rd_bits _ | exact rd_part _ _ | exact rd_minus _ _ | assumption)) hHeld ?_
    try simp only [Act.put, puts]
    refine wpAnyH_ready (rs := [4]) (by kernel_rfl) (by simp) ?_
    refine AllReadyH.cons rfl (fun K hK => ?_) AllReadyH.nil
    go_simp
    refine (C3 _).mono ?_
    rintro e w2 ⟨rfl, hBl⟩
    replace M5 := M5.call hBl
    clear hBl C3
    try go_wp2_with fail
    refine hK.out _ _ (M5) (fun hHeld => ?_)
    clear hK K
    try simp only [Act.put, puts]
    refine tkT 7 ?v57 ?hy57 hHeld ?rest57
    case hy57 => (intro w' hSw; (try dsimp only at hSw); go_simp; (try with_reducible rfl))
    try simp only [Act.put, puts]
    refine wpAnyH_done (by kernel_rfl) ?_ _
    go_wp2
    go_ret
    exact ⟨rfl, M5.below⟩

theorem refCmp_any (m1 m2 : Bool) (n1 n2 : Nat) (h1 : n1 < 2 ^ 129) (h2 : n2 < 2 ^ 129) (w : World) :
    Calls Try.prog 27 #[.agg (numC m1 n1).toArray, .agg (numC m2 n2).toArray] w fun e w' =>
      e = .returned (.int .i64 (cmpS (signed m1 n1) (signed m2 n2))) ∧ Below w.heap.size w w' := by
  by_cases h0 : n1 = 0 ∧ n2 = 0
  · have e : cmpS (signed m1 n1) (signed m2 n2) = 0 := by rw [h0.1, h0.2]; unfold cmpS signed; cases m1 <;> cases m2 <;> simp
    rw [e]
    exact refCmp_zero m1 m2 n1 n2 h1 h2 h0.1 h0.2 w
  by_cases hs : m1 = m2
  · by_cases he : n1 = n2
    · have e : cmpS (signed m1 n1) (signed m2 n2) = 0 := by rw [hs, he]; unfold cmpS; simp
      rw [e]
      exact refCmp_same m1 m2 n1 n2 h1 h2 h0 hs.symm he w
    · by_cases hx : (decide (n1 < n2) == m1) = true
      · have e : cmpS (signed m1 n1) (signed m2 n2) = 1 := by
          subst hs
          unfold cmpS signed
          cases m1 <;> simp at hx ⊢ <;> omega
        rw [e]
        exact refCmp_more m1 m2 n1 n2 h1 h2 h0 hs.symm he hx w
      · have e : cmpS (signed m1 n1) (signed m2 n2) = -1 := by
          subst hs
          unfold cmpS signed
          cases m1 <;> simp at hx ⊢ <;> omega
        rw [e]
        exact refCmp_less m1 m2 n1 n2 h1 h2 h0 hs.symm he (by simpa using hx) w
  · refine refCmp_signs m1 m2 n1 n2 h1 h2 h0 hs _ ?_ w
    unfold cmpS signed
    cases m1 <;> cases m2 <;> simp at hs ⊢ <;> omega
end Go.Proofs.Ytbjhbbiahmhdeaa
