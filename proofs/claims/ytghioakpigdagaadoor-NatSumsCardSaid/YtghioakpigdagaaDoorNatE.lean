/-
  Numbers as digits of 256: the product: the reference's.
-/
import Derived.Test.YtghioakpigdagaaDoorNatD
import Derived.Test.YtghioakpigdagaaDoorPackBits
import Derived.Laws.OwnMore
set_option linter.unusedVariables false
set_option linter.unusedSimpArgs false
namespace Go.Th.Dig
theorem val_set (B : Nat) (l : List Nat) (j t : Nat) (h : j < l.length) : val B (l.set j (l.getD j 0 + t)) = val B l + B ^ j * t := by
  have a := val_take B l j
  have b := val_take B (l.set j (l.getD j 0 + t)) j
  have e1 : (l.set j (l.getD j 0 + t)).take j = l.take j := by rw [List.take_set_of_le (Nat.le_refl _)]
  have e2 : (l.set j (l.getD j 0 + t)).drop j = (l.getD j 0 + t) :: l.drop (j + 1) := by
    rw [List.drop_set, if_neg (by omega), Nat.sub_self, drop_step h, List.set_cons_zero]
  rw [List.length_set, Nat.min_eq_left (by omega), e1, e2, val] at b
  rw [Nat.min_eq_left (by omega), drop_step h, val] at a
  rw [a, b, Nat.add_right_comm (l.getD j 0) t, Nat.mul_add]
  omega
theorem getD_set (l : List Nat) (j k v : Nat) (h : j < l.length) : (l.set j v).getD k 0 = if k = j then v else l.getD k 0 := by
  rw [List.getD_eq_getElem?_getD, List.getD_eq_getElem?_getD, List.getElem?_set]
  by_cases e : j = k
  · subst e; simp [h]
  · rw [if_neg e, if_neg (fun x => e x.symm)]
theorem set_self (l : List Nat) (i : Nat) (h : i < l.length) : l.set i (l.getD i 0) = l := by
  refine List.ext_getElem (by simp) fun j a b => ?_
  rw [List.getElem_set]
  split
  · rename_i e; subst e; rw [List.getD_eq_getElem?_getD, List.getElem?_eq_getElem h]; rfl
  · rfl
/-- A product, so many digits by so many; nothing is carried yet. -/
structure Mul16 (x y : List Nat) (i k : Nat) (O : List Nat) : Prop where
  len : O.length = x.length + y.length + 1
  sum : val 256 O = val 256 (x.take i) * val 256 y + 256 ^ i * (x.getD i 0 * val 256 (y.take k))
  low : ∀ j, O.getD j 0 ≤ i * 65025 + 65025
  top : ∀ j, i + k ≤ j → O.getD j 0 ≤ i * 65025
theorem getD_rep (n j : Nat) : (List.replicate n 0).getD j 0 = 0 := by
  rw [List.getD_eq_getElem?_getD, List.getElem?_replicate]
  split <;> rfl
theorem Mul16.start (x y : List Nat) : Mul16 x y 0 0 (List.replicate (x.length + y.length + 1) 0) :=
  ⟨by simp, by rw [val_zeros]; simp [val], fun j => by rw [getD_rep]; exact Nat.zero_le _, fun j _ => by rw [getD_rep]; exact Nat.zero_le _⟩
theorem Mul16.step {x y : List Nat} {i k : Nat} {O : List Nat} (h : Mul16 x y i k O) (hi : i < x.length) (hk : k < y.length) (hu : x.getD i 0 < 256) (hv : y.getD k 0 < 256) :
    Mul16 x y i (k + 1) (O.set (i + k) (O.getD (i + k) 0 + x.getD i 0 * y.getD k 0)) := by
  obtain ⟨h1, h2, h3, h4⟩ := h
  have hm : x.getD i 0 * y.getD k 0 ≤ 255 * 255 := Nat.mul_le_mul (by omega) (by omega)
  refine ⟨by simpa using h1, ?_, fun j => ?_, fun j hj => ?_⟩
  · rw [val_set _ _ _ _ (by omega), h2, take_val hk, Nat.mul_add, Nat.mul_add, Nat.pow_add, Nat.add_assoc, Nat.mul_assoc (256 ^ i) (256 ^ k), Nat.mul_left_comm (256 ^ k)]
  · rw [getD_set _ _ _ _ (by omega)]
    have := h4 (i + k) (Nat.le_refl _)
    have := h3 j
    split <;> omega
  · rw [getD_set _ _ _ _ (by omega), if_neg (by omega)]
    exact h4 j (by omega)
theorem Mul16.next {x y : List Nat} {i : Nat} {O : List Nat} (h : Mul16 x y i y.length O) (hi : i < x.length) : Mul16 x y (i + 1) 0 O := by
  obtain ⟨h1, h2, h3, h4⟩ := h
  refine ⟨h1, ?_, fun j => ?_, fun j _ => ?_⟩
  · rw [h2, take_val hi, List.take_length, Nat.add_mul, Nat.mul_assoc]; simp [val]
  · exact Nat.le_trans (h3 j) (by rw [Nat.add_mul, Nat.one_mul]; exact Nat.le_add_right _ _)
  · exact Nat.le_trans (h3 j) (by rw [Nat.add_mul, Nat.one_mul]; exact Nat.le_refl _)
/-- What is carried: so far. -/
structure Car16 (c s i : Nat) (n : Nat) (O : List Nat) : Prop where
  len : O.length = n
  sum : val 256 O = s
  dig : ∀ j, j < i → O.getD j 0 < 256
  cur : O.getD i 0 ≤ 2 * c
  top : ∀ j, i < j → O.getD j 0 ≤ c
theorem Car16.step {c s i n : Nat} {O : List Nat} (h : Car16 c s i n O) (hi : i + 1 < n) :
    Car16 c s (i + 1) n ((O.set (i + 1) (O.getD (i + 1) 0 + O.getD i 0 / 256)).set i (O.getD i 0 % 256)) := by
  obtain ⟨h1, h2, h3, h4, h5⟩ := h
  have g := h5 (i + 1) (by omega)
  refine ⟨by simpa using h1, ?_, fun j hj => ?_, ?_, fun j hj => ?_⟩
  · have e := val_set 256 O (i + 1) (O.getD i 0 / 256) (by omega)
    have hd : (O.set (i + 1) (O.getD (i + 1) 0 + O.getD i 0 / 256)).getD i 0 = O.getD i 0 := by rw [getD_set _ _ _ _ (by omega), if_neg (by omega)]
    have f := val_set 256 ((O.set (i + 1) (O.getD (i + 1) 0 + O.getD i 0 / 256)).set i (O.getD i 0 % 256)) i (256 * (O.getD i 0 / 256)) (by simp; omega)
    rw [getD_set _ i i _ (by simp; omega), if_pos rfl, Nat.mod_add_div, List.set_set] at f
    have hself := set_self (O.set (i + 1) (O.getD (i + 1) 0 + O.getD i 0 / 256)) i (by simp; omega)
    rw [hd] at hself
    rw [hself, e, h2, Nat.pow_succ, Nat.mul_assoc] at f
    omega
  · rw [getD_set _ _ _ _ (by simp; omega)]
    split
    · omega
    · rw [getD_set _ _ _ _ (by omega), if_neg (by omega)]; exact h3 j (by omega)
  · rw [getD_set _ _ _ _ (by simp; omega), if_neg (by omega), getD_set _ _ _ _ (by omega), if_pos rfl]
    omega
  · rw [getD_set _ _ _ _ (by simp; omega), if_neg (by omega), getD_set _ _ _ _ (by omega), if_neg (by omega)]
    exact h5 j (by omega)
/-- Nothing is left for the last one. -/
theorem Car16.done {c s n : Nat} {O : List Nat} (h : Car16 c s n (n + 1) O) (hs : s < 256 ^ n) : ∀ d ∈ O, d < 256 := by
  intro d hd
  obtain ⟨j, hj, rfl⟩ := List.mem_iff_getElem.1 hd
  have hl := h.len
  have e : O.getD j 0 = O[j] := by rw [List.getD_eq_getElem?_getD, List.getElem?_eq_getElem hj]; rfl
  by_cases hjn : j < n
  · rw [← e]; exact h.dig j hjn
  · obtain rfl : j = n := by omega
    have a := val_take 256 O j
    rw [Nat.min_eq_left (by omega), drop_step hj, val, h.sum, e] at a
    by_cases h0 : O[j] = 0
    · omega
    · have : 256 ^ j * 1 ≤ 256 ^ j * (O[j] + 256 * val 256 (O.drop (j + 1))) := Nat.mul_le_mul_left _ (by omega)
      omega
end Go.Th.Dig
namespace Go.Proofs.YtghioakpigdagaaDoor
open Go Go.RowKit Go.Th Go.Th.Dig

set_option maxRecDepth 20000 in
theorem run_mkint (m : Nat) (hm : m ≤ 1000000) (wx : World) : (Instr.makeSlice 28 (.int .i64 (m : Int)) (.int .i64 (m : Int))).run Tryd.prog wx = .ok (.slice (some ⟨wx.heap.size, 0, none⟩) m m) (wx.alloc (.cells (List.replicate m (Value.int .i64 0)).toArray 3)) := by
  obtain ⟨i, hi, h1, h2, h3⟩ := info_parts (P := Tryd.prog) (e := 3) (z := .int .i64 0) (size := 1) (bytes := 8) (by kernel_rfl)
  have hr := run_make (P := Tryd.prog) wx 28 3 i (.int .i64 0) Tryd.underlying28 hi h1 .i64 .i64 (m : Int) (m : Int) (by omega) (Int.le_refl _) (by rw [h3]; omega) (by omega)
  rw [hr, h2, Nat.mul_one]
  simp only [Int.toNat_natCast]
  congr 4
  apply Array.ext'
  exact toList_madeCells_one _ _
theorem digs_rep (m : Nat) : List.replicate m (Value.int .i64 0) = digs (List.replicate m 0) := by simp [digs]
theorem digs_at (l : List Nat) (i : Nat) (h : i < l.length) : (digs l)[i]? = some (.int .i64 ((l.getD i 0 : Nat) : Int)) := by simp [digs, List.getElem?_eq_getElem h]
theorem digs_set (l : List Nat) (i v : Nat) : (digs l).set i (.int .i64 (v : Int)) = digs (l.set i v) := by simp [digs, List.map_set]
theorem sl_mem {w0 w : World} {bs : List (Nat × TypeId × List Value)} {g : Nat} {t : TypeId} {l : List Nat} (M : Mem w0 w bs) (h : Has bs g t (digs l)) (n : Nat) (hn : l.length = n) (hm : n ≤ 1000000) : Sl w 1 (.slice (some ⟨g, 0, none⟩) n n) n (digs l) := by
  subst hn
  refine ⟨_, _, rfl, by rw [digs_length, Nat.mul_one], Nat.le_refl _, by unfold maxLen; omega, fun h => (by cases h), ?_⟩
  intro j u hu
  exact ⟨_, _, rfl, by have := M.cell h hu; simpa using this⟩

set_option maxRecDepth 20000 in
set_option maxHeartbeats 3200000 in
theorem mul_go (a b : Option Addr) (n m ca cb : Nat) (x y : List Nat) (s : Nat) (w : World) (ha : Sl w 1 (.slice a n ca) n (digs x)) (hb : Sl w 1 (.slice b m cb) m (digs y)) (hn : n ≤ 10000) (hm : m ≤ 10000) (hx : ∀ d ∈ x, d < 256) (hy : ∀ d ∈ y, d < 256) (hs : s = val 256 x * val 256 y) :
    Calls Tryd.prog 22 #[.slice a n ca, .slice b m cb] w fun e w' => ∃ v, e = .returned v ∧ Is16 w' v s ∧ Below w.heap.size w w' := by
  have lx := sl_len ha
  have ly := sl_len hb
  have hlt : s < 256 ^ (n + m) := by
    rw [hs, Nat.pow_add, ← lx, ← ly]
    exact Nat.mul_lt_mul_of_lt_of_lt (val_lt (by decide) hx) (val_lt (by decide) hy)
  have HLT := Lib.hid hlt
  have HA := Lib.hid ha
  have HB := Lib.hid hb
  have HX := Lib.hid (getD_lt hx)
  have HY := Lib.hid (getD_lt hy)
  have HS := Lib.hid hs
  have LX := Lib.hid lx
  have LY := Lib.hid ly
  have MK : ∀ wx, (Instr.makeSlice 28 (.int .i64 ((n : Int) + (m : Int) + 1)) (.int .i64 ((n : Int) + (m : Int) + 1))).run Tryd.prog wx = .ok (.slice (some ⟨wx.heap.size, 0, none⟩) (n + m + 1) (n + m + 1)) (wx.alloc (.cells (List.replicate (n + m + 1) (Value.int .i64 0)).toArray 3)) := fun wx => run_mkint (n + m + 1) (by omega) wx
  clear ha hb hx hy hs hlt lx ly
  have M1 : Mem w (w.alloc (.cells (digs (List.replicate (n + m + 1) 0)).toArray 3)) [(w.heap.size, 3, digs (List.replicate (n + m + 1) 0))] := (Mem.start w).alloc _ _
  rw [digs_rep] at MK
  obtain ⟨w1, hw1⟩ : ∃ w1, w.alloc (.cells (digs (List.replicate (n + m + 1) 0)).toArray 3) = w1 := ⟨_, rfl⟩
  have MK1 : (Instr.makeSlice 28 (.int .i64 ((n : Int) + (m : Int) + 1)) (.int .i64 ((n : Int) + (m : Int) + 1))).run Tryd.prog w = .ok (.slice (some ⟨w.heap.size, 0, none⟩) (n + m + 1) (n + m + 1)) w1 := by rw [MK w, hw1]
  rw [hw1] at M1
  clear MK hw1
  go_enter Tryd.func22, Tryd.ntmps22
  obtain ⟨G, hG⟩ : ∃ G, G = w.heap.size := ⟨_, rfl⟩
  rw [← hG] at MK1 M1
  clear hG
  go_wp2_with fail
  go_loopw [6] (fun c wr => ∃ (i : Nat) (O : List Nat), i ≤ n ∧ c = .int .i64 i ∧ Hid (Mul16 x y i 0 O) ∧ Mem w wr [(G, 3, digs O)]) (fun c _ => n - (intOf c).toNat)
  case atStart => exact ⟨0, _, Nat.zero_le _, rfl, Lib.hid (by have := Mul16.start x y; rwa [LX.out, LY.out] at this), M1⟩
  case round =>
    clear M1 MK1
    obtain ⟨i, O, hi, rfl, HI, M⟩ := hrel
    by_cases hlt : i < n
    · go_wp2_with fail
      go_loopw [7] (fun c wr => ∃ (k : Nat) (O : List Nat), k ≤ m ∧ c = .int .i64 k ∧ Hid (Mul16 x y i k O) ∧ Mem w wr [(G, 3, digs O)]) (fun c _ => m - (intOf c).toNat)
      case atStart => exact ⟨0, O, Nat.zero_le _, rfl, HI, M⟩
      case round =>
        clear HI M
        obtain ⟨k, O, hk, rfl, HI, M⟩ := hrel
        by_cases hlk : k < m
        · have hol : O.length = n + m + 1 := by rw [HI.out.len, LX.out, LY.out]
          obtain ⟨b1, o1, rfl, hb1, hc1⟩ := cell_dig (HA.out.below M.below) i (by rw [LX.out]; omega)
          obtain ⟨b2, o2, rfl, hb2, hc2⟩ := cell_dig (HB.out.below M.below) k (by rw [LY.out]; omega)
          have hc0 := M.cell (Has.head _ _ _ _) (digs_at O (i + k) (by omega))
          have hu := HX.out i
          have hv := HY.out k
          have hz := HI.out.top (i + k) (Nat.le_refl _)
          have hst := HI.out.step (by rw [LX.out]; omega) (by rw [LY.out]; omega) hu hv
          have hf0 := M.drew.free (Has.head _ _ _ _) (i + k)
          obtain ⟨p, hp⟩ : ∃ p, p = i + k := ⟨_, rfl⟩
          rw [← hp] at hc0 hz hst hf0
          have hwp : IntKind.i64.wrap ((i : Int) + (k : Int)) = (p : Int) := by
            rw [IntWalk.i64_in _ (by omega)]; omega
          have hpn : (p : Int) < (n : Int) + (m : Int) + 1 := by omega
          obtain ⟨u, eu⟩ : ∃ u, u = x.getD i 0 := ⟨_, rfl⟩
          obtain ⟨v, ev⟩ : ∃ v, v = y.getD k 0 := ⟨_, rfl⟩
          obtain ⟨z, ez⟩ : ∃ z, z = O.getD p 0 := ⟨_, rfl⟩
          rw [← eu] at hc1 hu hst
          rw [← ev] at hc2 hv hst
          rw [← ez] at hc0 hz hst
          obtain ⟨t, ht⟩ : ∃ t, t = u * v := ⟨_, rfl⟩
          have ht2 : t ≤ 65025 := by rw [ht]; exact Nat.mul_le_mul (show u ≤ 255 by omega) (show v ≤ 255 by omega)
          have huv : (u : Int) * (v : Int) = (t : Int) := by rw [ht]; simp
          rw [← ht] at hst
          have hz2 : z ≤ 650250000 := by omega
          obtain ⟨q, hq⟩ : ∃ q, q = z + t := ⟨_, rfl⟩
          rw [← hq] at hst
          have hzt : IntKind.i64.wrap ((z : Int) + (t : Int)) = (q : Int) := by
            rw [IntWalk.i64_in _ (by omega)]; omega
          have HST := Lib.hid hst
          have hw : IntKind.i64.wrap (t : Int) = (t : Int) := IntWalk.i64_in _ (by omega)
          clear eu ev ez ht hst hz HI hp hq
          go_wp2_with fail
          refine wp_region_N_drew (S := (fun w' : World => w'.cell? ⟨G, p, none⟩ = some (.int .i64 (z : Int)) ∧ w'.cell? ⟨b1, o1 + i, none⟩ = some (.int .i64 (u : Int)) ∧ w'.cell? ⟨b2, o2 + k, none⟩ = some (.int .i64 (v : Int)))) 21 (by kernel_rfl) ?_
          have hHeld : (fun w' : World => w'.cell? ⟨G, p, none⟩ = some (.int .i64 (z : Int)) ∧ w'.cell? ⟨b1, o1 + i, none⟩ = some (.int .i64 (u : Int)) ∧ w'.cell? ⟨b2, o2 + k, none⟩ = some (.int .i64 (v : Int))) wr.drew := ⟨hc0, hc1, hc2⟩
          refine wpAnyN_takeY (i := 0) (v := ?v1) rfl (by kernel_rfl) (by kernel_rfl) (by kernel_rfl) (fun _ _ _ h => h) rfl (Or.inl ⟨by rfl, ?hy1⟩) (fun _ => hHeld) ?rest1
          case hy1 => (intro w' _; go_simp; (try with_reducible rfl))
          try simp only [Act.put, puts]
          refine wpAnyN_takeY (i := 1) (v := ?v2) rfl (by kernel_rfl) (by kernel_rfl) (by kernel_rfl) (fun _ _ _ h => h) rfl (Or.inl ⟨by rfl, ?hy2⟩) (fun _ => hHeld) ?rest2
          case hy2 => (intro w' _; go_simp; (try with_reducible rfl))
          try simp only [Act.put, puts]
          refine wpAnyN_takeY (i := 2) (v := ?v3) rfl (by kernel_rfl) (by kernel_rfl) (by kernel_rfl) (fun _ _ _ h => h) rfl (Or.inl ⟨by rfl, ?hy3⟩) (fun _ => hHeld) ?rest3
          case hy3 => (intro w' _; go_simp; (try with_reducible rfl))
          try simp only [Act.put, puts]
          refine wpAnyN_takeY (i := 3) (v := ?v4) rfl (by kernel_rfl) (by kernel_rfl) (by kernel_rfl) (fun _ _ _ h => h) rfl (Or.inl ⟨by rfl, ?hy4⟩) (fun _ => hHeld) ?rest4
          case hy4 => (intro w' _; go_simp; (try with_reducible rfl))
          try simp only [Act.put, puts]
          refine wpAnyN_takeY (i := 4) (v := ?v5) rfl (by kernel_rfl) (by kernel_rfl) (by kernel_rfl) (fun _ _ _ h => h) rfl (Or.inl ⟨by rfl, ?hy5⟩) (fun _ => hHeld) ?rest5
          case hy5 => (intro w' _; go_simp; (try with_reducible rfl))
          try simp only [Act.put, puts]
          refine wpAnyN_takeY (i := 5) (v := ?v6) rfl (by kernel_rfl) (by kernel_rfl) (by kernel_rfl) (fun _ _ _ h => h) rfl (Or.inl ⟨by rfl, ?hy6⟩) (fun _ => hHeld) ?rest6
          case hy6 => (intro w' _; go_simp; (try with_reducible rfl))
          try simp only [Act.put, puts]
          refine wpAnyN_takeY (i := 6) (v := ?v7) rfl (by kernel_rfl) (by kernel_rfl) (by kernel_rfl) (fun _ _ _ h => h) rfl (Or.inl ⟨by rfl, ?hy7⟩) (fun _ => hHeld) ?rest7
          case hy7 => (intro w' _; go_simp; (try with_reducible rfl))
          try simp only [Act.put, puts]
          refine wpAnyN_takeY (i := 7) (v := ?v8) rfl (by kernel_rfl) (by kernel_rfl) (by kernel_rfl) (fun _ _ _ h => h) rfl (Or.inl ⟨by rfl, ?hy8⟩) (fun _ => hHeld) ?rest8
          case hy8 => (intro w' _; go_simp; (try with_reducible rfl))
          try simp only [Act.put, puts]
          refine wpAnyN_takeY (i := 8) (v := ?v9) rfl (by kernel_rfl) (by kernel_rfl) (by kernel_rfl) (fun _ _ _ h => h) rfl (Or.inl ⟨by rfl, ?hy9⟩) (fun _ => hHeld) ?rest9
          case hy9 => (intro w' _; go_simp; (try with_reducible rfl))
          try simp only [Act.put, puts]
          refine wpAnyN_take (i := 9) (v := ?v10) rfl (by kernel_rfl) (by kernel_rfl) (by kernel_rfl) (fun _ _ _ h => h) rfl (by kernel_rfl) (by kernel_rfl) (Or.inl ⟨by rfl, ?hy10⟩) hHeld ?rest10
          case hy10 => (intro w' hSw; (try dsimp only at hSw); go_simp; (try with_reducible rfl))
          try simp only [Act.put, puts]
          refine wpAnyN_takeY (i := 10) (v := ?v11) rfl (by kernel_rfl) (by kernel_rfl) (by kernel_rfl) (fun _ _ _ h => h) rfl (Or.inl ⟨by rfl, ?hy11⟩) (fun _ => hHeld) ?rest11
          case hy11 => (intro w' _; go_simp; (try with_reducible rfl))
          try simp only [Act.put, puts]
          refine wpAnyN_takeY (i := 11) (v := ?v12) rfl (by kernel_rfl) (by kernel_rfl) (by kernel_rfl) (fun _ _ _ h => h) rfl (Or.inl ⟨by rfl, ?hy12⟩) (fun _ => hHeld) ?rest12
          case hy12 => (intro w' _; go_simp; (try with_reducible rfl))
          try simp only [Act.put, puts]
          refine wpAnyN_takeY (i := 12) (v := ?v13) rfl (by kernel_rfl) (by kernel_rfl) (by kernel_rfl) (fun _ _ _ h => h) rfl (Or.inl ⟨by rfl, ?hy13⟩) (fun _ => hHeld) ?rest13
          case hy13 => (intro w' _; go_simp; (try with_reducible rfl))
          try simp only [Act.put, puts]
          refine wpAnyN_take (i := 13) (v := ?v14) rfl (by kernel_rfl) (by kernel_rfl) (by kernel_rfl) (fun _ _ _ h => h) rfl (by kernel_rfl) (by kernel_rfl) (Or.inl ⟨by rfl, ?hy14⟩) hHeld ?rest14
          case hy14 => (intro w' hSw; (try dsimp only at hSw); go_simp; (try with_reducible rfl))
          try simp only [Act.put, puts]
          refine wpAnyN_takeY (i := 14) (v := ?v15) rfl (by kernel_rfl) (by kernel_rfl) (by kernel_rfl) (fun _ _ _ h => h) rfl (Or.inl ⟨by rfl, ?hy15⟩) (fun _ => hHeld) ?rest15
          case hy15 => (intro w' _; go_simp; (try with_reducible rfl))
          try simp only [Act.put, puts]
          refine wpAnyN_takeY (i := 15) (v := ?v16) rfl (by kernel_rfl) (by kernel_rfl) (by kernel_rfl) (fun _ _ _ h => h) rfl (Or.inl ⟨by rfl, ?hy16⟩) (fun _ => hHeld) ?rest16
          case hy16 => (intro w' _; go_simp; (try with_reducible rfl))
          try simp only [Act.put, puts]
          refine wpAnyN_takeY (i := 16) (v := ?v17) rfl (by kernel_rfl) (by kernel_rfl) (by kernel_rfl) (fun _ _ _ h => h) rfl (Or.inl ⟨by rfl, ?hy17⟩) (fun _ => hHeld) ?rest17
          case hy17 => (intro w' _; go_simp; (try with_reducible rfl))
          try simp only [Act.put, puts]
          refine wpAnyN_take (i := 17) (v := ?v18) rfl (by kernel_rfl) (by kernel_rfl) (by kernel_rfl) (fun _ _ _ h => h) rfl (by kernel_rfl) (by kernel_rfl) (Or.inl ⟨by rfl, ?hy18⟩) hHeld ?rest18
          case hy18 => (intro w' hSw; (try dsimp only at hSw); go_simp; (try with_reducible rfl))
          try simp only [Act.put, puts]
          refine wpAnyN_takeY (i := 18) (v := ?v19) rfl (by kernel_rfl) (by kernel_rfl) (by kernel_rfl) (fun _ _ _ h => h) rfl (Or.inl ⟨by rfl, ?hy19⟩) (fun _ => hHeld) ?rest19
          case hy19 => (intro w' _; go_simp; (try with_reducible rfl))
          try simp only [Act.put, puts]
          refine wpAnyN_takeY (i := 19) (v := ?v20) rfl (by kernel_rfl) (by kernel_rfl) (by kernel_rfl) (fun _ _ _ h => h) rfl (Or.inl ⟨by rfl, ?hy20⟩) (fun _ => hHeld) ?rest20
          case hy20 => (intro w' _; go_simp; (try with_reducible rfl))
          try simp only [Act.put, puts]
          refine wpAnyN_takeY (i := 20) (v := ?v21) rfl (by kernel_rfl) (by kernel_rfl) (by kernel_rfl) (fun _ _ _ h => h) rfl (Or.inl ⟨by rfl, ?hy21⟩) (fun _ => hHeld) ?rest21
          case hy21 => (intro w' _; go_simp; (try with_reducible rfl))
          try simp only [Act.put, puts]
          refine wpAnyN_ready (rs := [21]) (by kernel_rfl) (by simp) ?_
          refine AllReadyN.cons rfl (fun K hK => ?_) AllReadyN.nil
          go_simp
          have M7 := M.drew.set p (.int .i64 (q : Int)) (Upd.head _ _ _ _ _) (by rw [digs_length]; omega)
          try go_wp2_with fail
          refine hK.out _ _ (fun h => by have h' : (true : Bool) = false := h; cases h') ?_
          clear hK K
          try simp only [Act.put, puts]
          refine wpAnyN_done (by kernel_rfl) ?_ _
          rw [digs_set] at M7
          clear hc0 hc1 hc2 hf0 M
          go_wp2_with fail
          go_roundw
          case rel => exact ⟨k + 1, _, by omega, by go_num, HST, M7⟩
          case measure => simp [intOf]; omega
        · obtain rfl : k = m := by omega
          have HN := Lib.hid (Mul16.next (x := x) (y := y) (i := i) (O := O) (by have := HI.out; rwa [← LY.out] at this) (by rw [LX.out]; omega))
          clear HI
          go_wp2_with fail
          go_roundw
          case rel => exact ⟨i + 1, _, by omega, by go_num, HN, M⟩
          case measure => simp [intOf]; omega
    · obtain rfl : i = n := by omega
      have HC : Hid (Car16 (i * 65025 + 65025) s 0 (i + m + 1) O) := Lib.hid (by
        obtain ⟨h1, h2, h3, h4⟩ := HI.out
        refine ⟨by rw [h1, LX.out, LY.out], ?_, fun j h => absurd h (Nat.not_lt_zero _), Nat.le_trans (h3 0) (by omega), fun j _ => h3 j⟩
        rw [h2, List.take_of_length_le (by rw [LX.out]; exact Nat.le_refl _), HS.out]
        simp [val])
      obtain ⟨C, hC⟩ : ∃ C, C = i * 65025 + 65025 := ⟨_, rfl⟩
      have hC2 : C ≤ 650315025 := by omega
      rw [← hC] at HC
      clear HI HX HY HS HA HB hC
      go_wp2_with fail
      go_loopw [8] (fun c wr => ∃ (j : Nat) (O : List Nat), j ≤ i + m ∧ c = .int .i64 j ∧ Hid (Car16 C s j (i + m + 1) O) ∧ Mem w wr [(G, 3, digs O)]) (fun c _ => i + m - (intOf c).toNat)
      case atStart => exact ⟨0, O, Nat.zero_le _, rfl, HC, M⟩
      case round =>
        clear HC M
        obtain ⟨j, O, hj, rfl, HC, M⟩ := hrel
        by_cases hlj : j < i + m
        · have hol := HC.out.len
          have hst := HC.out.step (by omega)
          have h0 := HC.out.cur
          have h1 := HC.out.top (j + 1) (by omega)
          have hc0 := M.cell (Has.head _ _ _ _) (digs_at O j (by omega))
          have hc1 := M.cell (Has.head _ _ _ _) (digs_at O (j + 1) (by omega))
          have hf1 := M.drew.free (Has.head _ _ _ _) (j + 1)
          have hne : (O.set (j + 1) (O.getD (j + 1) 0 + O.getD j 0 / 256)).getD j 0 = O.getD j 0 := by rw [getD_set _ _ _ _ (by omega), if_neg (by omega)]
          obtain ⟨p, hp⟩ : ∃ p, p = j + 1 := ⟨_, rfl⟩
          have hwp : IntKind.i64.wrap ((j : Int) + 1) = (p : Int) := by
            rw [IntWalk.i64_in _ (by omega)]; omega
          have HP := Lib.hid hp
          rw [← hp] at h1 hc1 hf1 hne hst
          obtain ⟨z, ez⟩ : ∃ z, z = O.getD j 0 := ⟨_, rfl⟩
          obtain ⟨y1, ey⟩ : ∃ y1, y1 = O.getD p 0 := ⟨_, rfl⟩
          rw [← ez] at h0 hc0 hst hne
          rw [← ey] at h1 hc1 hst hne
          obtain ⟨q, hq⟩ : ∃ q, q = y1 + z / 256 := ⟨_, rfl⟩
          rw [← hq] at hst hne
          have hlt1 : (p : Int) < (i : Int) + (m : Int) + 1 := by omega
          have hlt0 : (j : Int) < (i : Int) + (m : Int) + 1 := by omega
          obtain ⟨d, hd⟩ : ∃ d, d = z / 256 := ⟨_, rfl⟩
          have hzd : IntKind.i64.wrap ((z : Int) / 256) = (d : Int) := by
            rw [IntWalk.i64_in _ (by omega)]; omega
          have hyd : IntKind.i64.wrap ((y1 : Int) + (d : Int)) = (q : Int) := by
            rw [IntWalk.i64_in _ (by omega)]; omega
          have HST := Lib.hid hst
          have HNE := Lib.hid hne
          clear ez ey hst hne HC hq hp hd
          go_wp2_with fail
          refine wp_region_N_drew (S := (fun w' : World => w'.cell? ⟨G, p, none⟩ = some (.int .i64 (y1 : Int)) ∧ w'.cell? ⟨G, j, none⟩ = some (.int .i64 (z : Int)))) 15 (by kernel_rfl) ?_
          have hHeld : (fun w' : World => w'.cell? ⟨G, p, none⟩ = some (.int .i64 (y1 : Int)) ∧ w'.cell? ⟨G, j, none⟩ = some (.int .i64 (z : Int))) wr.drew := ⟨hc1, hc0⟩
          refine wpAnyN_takeY (i := 0) (v := ?v23) rfl (by kernel_rfl) (by kernel_rfl) (by kernel_rfl) (fun _ _ _ h => h) rfl (Or.inl ⟨by rfl, ?hy23⟩) (fun _ => hHeld) ?rest23
          case hy23 => (intro w' _; go_simp; (try with_reducible rfl))
          try simp only [Act.put, puts]
          refine wpAnyN_takeY (i := 1) (v := ?v24) rfl (by kernel_rfl) (by kernel_rfl) (by kernel_rfl) (fun _ _ _ h => h) rfl (Or.inl ⟨by rfl, ?hy24⟩) (fun _ => hHeld) ?rest24
          case hy24 => (intro w' _; go_simp; (try with_reducible rfl))
          try simp only [Act.put, puts]
          refine wpAnyN_takeY (i := 2) (v := ?v25) rfl (by kernel_rfl) (by kernel_rfl) (by kernel_rfl) (fun _ _ _ h => h) rfl (Or.inl ⟨by rfl, ?hy25⟩) (fun _ => hHeld) ?rest25
          case hy25 => (intro w' _; go_simp; (try with_reducible rfl))
          try simp only [Act.put, puts]
          refine wpAnyN_takeY (i := 3) (v := ?v26) rfl (by kernel_rfl) (by kernel_rfl) (by kernel_rfl) (fun _ _ _ h => h) rfl (Or.inl ⟨by rfl, ?hy26⟩) (fun _ => hHeld) ?rest26
          case hy26 => (intro w' _; go_simp; (try with_reducible rfl))
          try simp only [Act.put, puts]
          refine wpAnyN_takeY (i := 4) (v := ?v27) rfl (by kernel_rfl) (by kernel_rfl) (by kernel_rfl) (fun _ _ _ h => h) rfl (Or.inl ⟨by rfl, ?hy27⟩) (fun _ => hHeld) ?rest27
          case hy27 => (intro w' _; go_simp; (try with_reducible rfl))
          try simp only [Act.put, puts]
          refine wpAnyN_takeY (i := 5) (v := ?v28) rfl (by kernel_rfl) (by kernel_rfl) (by kernel_rfl) (fun _ _ _ h => h) rfl (Or.inl ⟨by rfl, ?hy28⟩) (fun _ => hHeld) ?rest28
          case hy28 => (intro w' _; go_simp; (try with_reducible rfl))
          try simp only [Act.put, puts]
          refine wpAnyN_takeY (i := 6) (v := ?v29) rfl (by kernel_rfl) (by kernel_rfl) (by kernel_rfl) (fun _ _ _ h => h) rfl (Or.inl ⟨by rfl, ?hy29⟩) (fun _ => hHeld) ?rest29
          case hy29 => (intro w' _; go_simp; (try with_reducible rfl))
          try simp only [Act.put, puts]
          refine wpAnyN_take (i := 7) (v := ?v30) rfl (by kernel_rfl) (by kernel_rfl) (by kernel_rfl) (fun _ _ _ h => h) rfl (by kernel_rfl) (by kernel_rfl) (Or.inl ⟨by rfl, ?hy30⟩) hHeld ?rest30
          case hy30 => (intro w' hSw; (try dsimp only at hSw); go_simp; (try with_reducible rfl))
          try simp only [Act.put, puts]
          refine wpAnyN_takeY (i := 8) (v := ?v31) rfl (by kernel_rfl) (by kernel_rfl) (by kernel_rfl) (fun _ _ _ h => h) rfl (Or.inl ⟨by rfl, ?hy31⟩) (fun _ => hHeld) ?rest31
          case hy31 => (intro w' _; go_simp; (try with_reducible rfl))
          try simp only [Act.put, puts]
          refine wpAnyN_takeY (i := 9) (v := ?v32) rfl (by kernel_rfl) (by kernel_rfl) (by kernel_rfl) (fun _ _ _ h => h) rfl (Or.inl ⟨by rfl, ?hy32⟩) (fun _ => hHeld) ?rest32
          case hy32 => (intro w' _; go_simp; (try with_reducible rfl))
          try simp only [Act.put, puts]
          refine wpAnyN_takeY (i := 10) (v := ?v33) rfl (by kernel_rfl) (by kernel_rfl) (by kernel_rfl) (fun _ _ _ h => h) rfl (Or.inl ⟨by rfl, ?hy33⟩) (fun _ => hHeld) ?rest33
          case hy33 => (intro w' _; go_simp; (try with_reducible rfl))
          try simp only [Act.put, puts]
          refine wpAnyN_take (i := 11) (v := ?v34) rfl (by kernel_rfl) (by kernel_rfl) (by kernel_rfl) (fun _ _ _ h => h) rfl (by kernel_rfl) (by kernel_rfl) (Or.inl ⟨by rfl, ?hy34⟩) hHeld ?rest34
          case hy34 => (intro w' hSw; (try dsimp only at hSw); go_simp; (try with_reducible rfl))
          try simp only [Act.put, puts]
          refine wpAnyN_takeY (i := 12) (v := ?v35) rfl (by kernel_rfl) (by kernel_rfl) (by kernel_rfl) (fun _ _ _ h => h) rfl (Or.inl ⟨by rfl, ?hy35⟩) (fun _ => hHeld) ?rest35
          case hy35 => (intro w' _; go_simp; (try with_reducible rfl))
          try simp only [Act.put, puts]
          refine wpAnyN_takeY (i := 13) (v := ?v36) rfl (by kernel_rfl) (by kernel_rfl) (by kernel_rfl) (fun _ _ _ h => h) rfl (Or.inl ⟨by rfl, ?hy36⟩) (fun _ => hHeld) ?rest36
          case hy36 => (intro w' _; go_simp; (try with_reducible rfl))
          try simp only [Act.put, puts]
          refine wpAnyN_takeY (i := 14) (v := ?v37) rfl (by kernel_rfl) (by kernel_rfl) (by kernel_rfl) (fun _ _ _ h => h) rfl (Or.inl ⟨by rfl, ?hy37⟩) (fun _ => hHeld) ?rest37
          case hy37 => (intro w' _; go_simp; (try with_reducible rfl))
          try simp only [Act.put, puts]
          refine wpAnyN_ready (rs := [15]) (by kernel_rfl) (by simp) ?_
          refine AllReadyN.cons rfl (fun K hK => ?_) AllReadyN.nil
          go_simp
          have M7 := M.drew.set p (.int .i64 (q : Int)) (Upd.head _ _ _ _ _) (by rw [digs_length]; omega)
          try go_wp2_with fail
          refine hK.out _ _ (fun h => by have h' : (true : Bool) = false := h; cases h') ?_
          clear hK K
          try simp only [Act.put, puts]
          refine wpAnyN_done (by kernel_rfl) ?_ _
          rw [digs_set] at M7
          obtain ⟨w7, hw7⟩ : ∃ w7, (wr.setCell ⟨G, p, none⟩ (.int .i64 (q : Int))).drew = w7 := ⟨_, rfl⟩
          have M7 : Mem w (wr.setCell ⟨G, p, none⟩ (.int .i64 (q : Int))).drew [(G, 3, digs (O.set p q))] := M7
          rw [hw7] at M7
          rw [hw7]
          have hc7 := M7.cell (Has.head _ _ _ _) (digs_at (O.set p q) j (by rw [List.length_set]; omega))
          rw [HNE.out] at hc7
          have hf7 := M7.free (Has.head _ _ _ _) j
          have HM7 := Lib.hid M7
          clear hc0 hc1 hf1 M M7
          clear HNE
          go_wp2_with fail
          have M8 := HM7.out.set j (.int .i64 ((z % 256 : Nat) : Int)) (Upd.head _ _ _ _ _) (by rw [digs_length, List.length_set]; omega)
          rw [digs_set] at M8
          go_roundw
          case rel => exact ⟨p, _, by rw [HP.out]; omega, by rw [HP.out], HST, by exact_mod_cast M8⟩
          case measure => have := HP.out; simp [intOf]; omega
        · obtain rfl : j = i + m := by omega
          have hdg := HC.out.done HLT.out
          have S0 := sl_mem M (Has.head _ _ _ _) (i + m + 1) HC.out.len (by omega)
          have CT := Lib.hid (trim_any _ _ _ O wr S0 hdg (by omega))
          rw [HC.out.sum] at CT
          clear hdg S0 HC
          go_wp2_with fail
          refine CT.out.mono ?_
          rintro e w1 ⟨rfl, rfl, S1⟩
          have S2 : Is16 wr (.slice (some ⟨G, 0, none⟩) (dg 256 s).length (i + m + 1)) s := S1
          have HS2 := Lib.hid S2
          clear S1 S2 CT
          go_wp2_with fail
          go_ret
          exact ⟨_, rfl, HS2.out, M.below⟩
theorem refMul16_any (v u : Value) (p q : Nat) (w : World) (hp : Is16 w v p) (hq : Is16 w u q) (h1 : (dg 256 p).length ≤ 10000) (h2 : (dg 256 q).length ≤ 10000) :
    Calls Tryd.prog 22 #[v, u] w fun e w' => ∃ t, e = .returned t ∧ Is16 w' t (p * q) ∧ Below w.heap.size w w' := by
  obtain ⟨a, ca, rfl, _⟩ := id hp
  obtain ⟨b, cb, rfl, _⟩ := id hq
  exact mul_go a b _ _ ca cb _ _ _ w hp hq h1 h2 (dg_lt (by decide) p) (dg_lt (by decide) q) (by rw [dg_val (by decide), dg_val (by decide)])
end Go.Proofs.YtghioakpigdagaaDoor
