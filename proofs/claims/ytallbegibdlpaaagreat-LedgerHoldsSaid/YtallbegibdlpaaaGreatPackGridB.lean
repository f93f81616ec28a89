/-
  Texts in one: GridSpecB, GridG, GridH, GridI, GridJ, GridK, GridM.
-/
import Derived.Test.YtallbegibdlpaaaGreatPackGridA
import Derived.BigRegion
import Derived.Test.YtallbegibdlpaaaGreatPackWide
set_option linter.unusedVariables false
set_option linter.unusedSimpArgs false

/-
  Grids: places cut out, split and joined; weighed; a part of the whole bit by bit; plain.
-/
namespace Go.Th.Grid

/-! ### Cut -/
def bel (p : List Int) (w h : Nat) (a b : Int) : Int := if (0 ≤ a ∧ a < w) ∧ 0 ≤ b ∧ b < h then p.getD (b.toNat * w + a.toNat) 0 else 0
def cutAt (p : List Int) (w h : Nat) (X Y : Int) (cw k : Nat) : Int := bel p w h (X + (k % cw : Nat)) (Y + (k / cw : Nat))
theorem bel_in (p : List Int) {w h a b : Nat} (ha : a < w) (hb : b < h) : bel p w h a b = p.getD (b * w + a) 0 := by
  unfold bel
  rw [if_pos ⟨⟨by omega, by omega⟩, by omega, by omega⟩, Int.toNat_natCast, Int.toNat_natCast]
theorem bel_rng {p : List Int} {w h : Nat} {M : Int} (hl : p.length = h * w) (hM : 0 ≤ M) (hp : ∀ x ∈ p, 0 ≤ x ∧ x ≤ M) (a b : Int) : 0 ≤ bel p w h a b ∧ bel p w h a b ≤ M := by
  unfold bel
  split
  · rename_i c
    exact getD_mem hp (by rw [hl]; exact at_lt (by omega) (by omega))
  · exact ⟨Int.le_refl _, hM⟩

/-! ### Split -/
def splitAt4 (p : List Int) (w k : Nat) : Int := p.getD (k / (2 * w) / 2 * w + k % (2 * w) / 2) 0 / 4
theorem splitAt4_at (p : List Int) {w x : Nat} (y : Nat) (hx : x < 2 * w) : splitAt4 p w (y * (2 * w) + x) = p.getD (y / 2 * w + x / 2) 0 / 4 := by
  unfold splitAt4; rw [div_at y hx, mod_at y hx]

/-! ### Join -/
def joinAt (p : List Int) (w k : Nat) : Int :=
  p.getD (2 * (k / (w / 2)) * w + 2 * (k % (w / 2))) 0 + p.getD (2 * (k / (w / 2)) * w + 2 * (k % (w / 2)) + 1) 0 + p.getD ((2 * (k / (w / 2)) + 1) * w + 2 * (k % (w / 2))) 0 + p.getD ((2 * (k / (w / 2)) + 1) * w + 2 * (k % (w / 2)) + 1) 0
def cellJ (w j : Nat) : Nat := j / w / 2 * (w / 2) + j % w / 2
/-- What has been joined of so many places. -/
def acc (p : List Int) (w t k : Nat) : Int := su (fun j => if cellJ w j = k then p.getD j 0 else 0) t
theorem acc_next (p : List Int) (w t k : Nat) : acc p w (t + 1) k = acc p w t k + if cellJ w t = k then p.getD t 0 else 0 := rfl
theorem tab_set (f : Nat → Int) (i : Nat) (v : Int) : ∀ m, (tab f m).set i v = tab (fun k => if k = i then v else f k) m
  | 0 => rfl
  | m + 1 => by
    rw [tab, tab]
    by_cases h : i < m
    · rw [List.set_append_left _ _ (by rw [tab_length]; exact h), tab_set f i v m, if_neg (by omega)]
    · rw [List.set_append_right _ _ (by rw [tab_length]; omega), tab_length, tab_congr (f := fun k => if k = i then v else f k) (g := f) m (fun k hk => if_neg (by omega))]
      by_cases e : m = i
      · subst e; rw [Nat.sub_self, if_pos rfl]; rfl
      · rw [if_neg e, List.set_eq_of_length_le (by simp; omega)]
theorem acc_set (p : List Int) (w t m : Nat) : (tab (acc p w t) m).set (cellJ w t) (acc p w t (cellJ w t) + p.getD t 0) = tab (acc p w (t + 1)) m := by
  rw [tab_set]
  refine tab_congr m (fun k _ => ?_)
  rw [acc_next]
  by_cases e : k = cellJ w t
  · subst e; rw [if_pos rfl, if_pos rfl]
  · rw [if_neg e, if_neg (fun h => e h.symm)]; omega
theorem acc_rng {p : List Int} {w n : Nat} {M : Int} (hl : p.length = n) (hp : ∀ x ∈ p, 0 ≤ x ∧ x ≤ M) (hM : 0 ≤ M) (t k : Nat) (ht : t ≤ n) : 0 ≤ acc p w t k ∧ acc p w t k ≤ M * (t : Int) := by
  unfold acc
  have h : ∀ i, i < t → 0 ≤ (if cellJ w i = k then p.getD i 0 else 0) ∧ (if cellJ w i = k then p.getD i 0 else 0) ≤ M := by
    intro i hi
    split
    · exact getD_mem hp (by rw [hl]; omega)
    · exact ⟨Int.le_refl _, hM⟩
  have h1 := su_le (f := fun _ => 0) t (fun i hi => (h i hi).1)
  have h2 := su_le (g := fun _ => M) t (fun i hi => (h i hi).2)
  rw [su_zero] at h1
  rw [su_const] at h2
  exact ⟨h1, h2⟩
theorem su_pair (g : Nat → Int) (X : Nat) : ∀ m, su (fun x => if x / 2 = X then g x else 0) (2 * m) = if X < m then g (2 * X) + g (2 * X + 1) else 0
  | 0 => by simp [su]
  | m + 1 => by
    rw [show 2 * (m + 1) = 2 * m + 1 + 1 by omega, su, su, su_pair g X m, show 2 * m / 2 = m by omega, show (2 * m + 1) / 2 = m by omega]
    by_cases h1 : X < m
    · rw [if_pos h1, if_pos (show X < m + 1 by omega)]; simp only [if_neg (show ¬ m = X by omega)]; omega
    · by_cases h2 : m = X
      · subst h2; rw [if_neg h1, if_pos (show m < m + 1 by omega)]; simp only [if_true]; omega
      · rw [if_neg h1, if_neg (show ¬ X < m + 1 by omega)]; simp only [if_neg h2]; rfl
theorem cellJ_at {m x : Nat} (y : Nat) (hx : x < 2 * m) : cellJ (2 * m) (y * (2 * m) + x) = y / 2 * m + x / 2 := by
  unfold cellJ
  rw [div_at y hx, mod_at y hx, Nat.mul_div_cancel_left m (by omega : 0 < 2)]
theorem cell_is {m a b k : Nat} (hb : b < m) : a * m + b = k ↔ a = k / m ∧ b = k % m := by
  constructor
  · rintro rfl; exact ⟨(div_at a hb).symm, (mod_at a hb).symm⟩
  · rintro ⟨rfl, rfl⟩; rw [Nat.mul_comm]; exact Nat.div_add_mod k m
theorem acc_all (p : List Int) (m h k : Nat) (hk : k < h * m) : acc p (2 * m) (2 * h * (2 * m)) k = joinAt p (2 * m) k := by
  have hY := row_lt hk
  have hX := col_lt hk
  unfold acc joinAt
  rw [su_rows, Nat.mul_div_cancel_left m (by omega : 0 < 2)]
  have h1 : ∀ y, su (fun x => if cellJ (2 * m) (y * (2 * m) + x) = k then p.getD (y * (2 * m) + x) 0 else 0) (2 * m) = if y / 2 = k / m then p.getD (y * (2 * m) + 2 * (k % m)) 0 + p.getD (y * (2 * m) + (2 * (k % m) + 1)) 0 else 0 := by
    intro y
    by_cases hy : y / 2 = k / m
    · rw [if_pos hy]
      have := su_pair (fun x => p.getD (y * (2 * m) + x) 0) (k % m) m
      rw [if_pos hX] at this
      rw [← this]
      refine su_congr _ (fun x hx => ?_)
      rw [cellJ_at y hx]
      by_cases hx2 : x / 2 = k % m
      · rw [if_pos hx2, if_pos ((cell_is (by omega)).2 ⟨hy, hx2⟩)]
      · rw [if_neg hx2, if_neg (fun e => hx2 ((cell_is (by omega)).1 e).2)]
    · rw [if_neg hy]
      refine (su_congr (g := fun _ => 0) _ (fun x hx => ?_)).trans (su_zero _)
      rw [cellJ_at y hx, if_neg (fun e => hy ((cell_is (by omega)).1 e).1)]
  rw [su_congr _ (fun y _ => h1 y), su_pair (fun y => p.getD (y * (2 * m) + 2 * (k % m)) 0 + p.getD (y * (2 * m) + (2 * (k % m) + 1)) 0) (k / m) h, if_pos hY]
  simp only [← Nat.add_assoc]
  omega
theorem su_one (c : Nat) (v : Int) : ∀ m, su (fun k => if c = k then v else 0) m = if c < m then v else 0
  | 0 => rfl
  | m + 1 => by
    rw [su, su_one c v m]
    by_cases h : c < m
    · rw [if_pos h, if_neg (by omega), if_pos (by omega)]; omega
    · by_cases e : c = m
      · subst e; rw [if_neg h, if_pos rfl, if_pos (by omega)]; omega
      · rw [if_neg h, if_neg e, if_neg (by omega)]; rfl
theorem acc_sum (p : List Int) (w m : Nat) : ∀ t, (∀ j, j < t → cellJ w j < m) → su (acc p w t) m = su (fun j => p.getD j 0) t
  | 0, _ => by rw [show su (acc p w 0) m = su (fun _ => 0) m from rfl, su_zero]; rfl
  | t + 1, h => by
    rw [show su (acc p w (t + 1)) m = su (fun k => acc p w t k + if cellJ w t = k then p.getD t 0 else 0) m from rfl, su_add, acc_sum p w m t (fun j hj => h j (by omega)), su_one, if_pos (h t (by omega)), su]
theorem cellJ_lt {m h j : Nat} (hj : j < 2 * h * (2 * m)) : cellJ (2 * m) j < h * m := by
  have h1 := row_lt hj
  have h2 := col_lt hj
  unfold cellJ
  rw [Nat.mul_div_cancel_left m (by omega : 0 < 2)]
  exact at_lt (by omega) (by omega)
theorem joined_sum (p : List Int) (m h : Nat) (hl : p.length = 2 * h * (2 * m)) : sm (tab (joinAt p (2 * m)) (h * m)) = sm p := by
  rw [sm_tab, sm_su p, hl, ← acc_sum p (2 * m) (h * m) _ (fun j hj => cellJ_lt hj)]
  exact su_congr _ (fun k hk => (acc_all p m h k hk).symm)

/-! ### Weighed -/
def wd (p l : List Int) : List Int := tab (fun i => p.getD i 0 * l.getD i 0) l.length
def mxl (l : List Int) : Int := l.foldl max 0
theorem mxl_snoc (l : List Int) (x : Int) : mxl (l ++ [x]) = max (mxl l) x := by simp [mxl]
theorem mxl_take (l : List Int) (i : Nat) (h : i < l.length) : mxl (l.take (i + 1)) = max (mxl (l.take i)) (l.getD i 0) := by
  rw [List.take_add_one, List.getElem?_eq_getElem h, getD_at _ _ h]
  exact mxl_snoc _ _
theorem wd_length (p l : List Int) : (wd p l).length = l.length := tab_length _ _
theorem wd_rng {p l : List Int} (hl : l.length = p.length) (hp : ∀ x ∈ p, 0 ≤ x ∧ x ≤ 1073741824) (hl0 : ∀ x ∈ l, 0 ≤ x ∧ x ≤ 65536) : ∀ x ∈ wd p l, 0 ≤ x ∧ x ≤ 70368744177664 := by
  refine tab_mem _ (fun k hk => ?_)
  have h1 := getD_mem (P := fun x => 0 ≤ x ∧ x ≤ 1073741824) hp (by omega : k < p.length)
  have h2 := getD_mem (P := fun x => 0 ≤ x ∧ x ≤ 65536) hl0 hk
  have h3 := Int.mul_nonneg h1.1 h2.1
  have h4 := Int.mul_le_mul h1.2 h2.2 h2.1 (by omega)
  exact ⟨h3, by omega⟩

/-! ### Bit by bit -/
end Go.Th.Grid

/-
  How much a place is believed; places cut out of a grid: the code's.
-/
namespace Go.Proofs.YtallbegibdlpaaaGreat
open Go Go.RowKit Go.Th Go.Th.Grid Go.Th.Wide

set_option maxRecDepth 20000 in
set_option maxHeartbeats 1600000 in
theorem believed_any (x y : Nat) (X Y s cx cy : Int) (a : Option Addr) (n cap : Nat) (p : List Int) (hp : p.length = n) (hxy : n = x * y) (hx : x ≤ 64) (hy : y ≤ 64) (w : World) (hS : Sl w 1 (.slice a n cap) n (i64s p)) :
    Calls Tryz.prog 69 #[gv x y X Y s (.slice a n cap), .int .i64 cx, .int .i64 cy] w fun e w' => e = .returned (.int .i64 (bel p x y cx cy)) ∧ Below w.heap.size w w' := by
  have hle : x * y ≤ 64 * 64 := Nat.mul_le_mul hx hy
  (obtain ⟨w1, hw1⟩ : ∃ w1, w.alloc (.cells #[.int .i64 x, .int .i64 y, .int .i64 X, .int .i64 Y, .int .i64 s, .slice a n cap] 28) = w1 := ⟨_, rfl⟩; have M1 := (Mem.start w).alloc 28 (gc x y X Y s (.slice a n cap)); rw [show w.alloc (.cells (gc x y X Y s (.slice a n cap)).toArray 28) = w1 from hw1] at M1; have HW1 := Lib.hid hw1; clear hw1)
  by_cases h1 : cx < 0
  · have hv : bel p x y cx cy = 0 := by unfold bel; rw [if_neg (by omega)]
    have HV := Lib.hid hv
    clear hv hS hp hxy hle
    go_enter Tryz.func69, Tryz.ntmps69
    ((go_upto_region 1 with fail); rw [HW1.out]; clear HW1; obtain ⟨gA, hgA⟩ : ∃ gA, gA = w.heap.size := ⟨_, rfl⟩; rw [← hgA] at M1 ⊢; clear hgA)
    obtain ⟨c0, c1, c2, c3, c4, c5⟩ := gcells (M1.has (Has.head _ _ _ _))
    go_wp2_with fail
    go_ret
    exact ⟨ret_int HV.out.symm, M1.below⟩
  by_cases h2 : (x : Int) ≤ cx
  · have hv : bel p x y cx cy = 0 := by unfold bel; rw [if_neg (by omega)]
    have HV := Lib.hid hv
    clear hv hS hp hxy hle
    go_enter Tryz.func69, Tryz.ntmps69
    ((go_upto_region 1 with fail); rw [HW1.out]; clear HW1; obtain ⟨gA, hgA⟩ : ∃ gA, gA = w.heap.size := ⟨_, rfl⟩; rw [← hgA] at M1 ⊢; clear hgA)
    obtain ⟨c0, c1, c2, c3, c4, c5⟩ := gcells (M1.has (Has.head _ _ _ _))
    go_wp2_with fail
    go_ret
    exact ⟨ret_int HV.out.symm, M1.below⟩
  by_cases h3 : cy < 0
  · have hv : bel p x y cx cy = 0 := by unfold bel; rw [if_neg (by omega)]
    have HV := Lib.hid hv
    clear hv hS hp hxy hle
    go_enter Tryz.func69, Tryz.ntmps69
    ((go_upto_region 1 with fail); rw [HW1.out]; clear HW1; obtain ⟨gA, hgA⟩ : ∃ gA, gA = w.heap.size := ⟨_, rfl⟩; rw [← hgA] at M1 ⊢; clear hgA)
    obtain ⟨c0, c1, c2, c3, c4, c5⟩ := gcells (M1.has (Has.head _ _ _ _))
    go_wp2_with fail
    go_ret
    exact ⟨ret_int HV.out.symm, M1.below⟩
  by_cases h4 : (y : Int) ≤ cy
  · have hv : bel p x y cx cy = 0 := by unfold bel; rw [if_neg (by omega)]
    have HV := Lib.hid hv
    clear hv hS hp hxy hle
    go_enter Tryz.func69, Tryz.ntmps69
    ((go_upto_region 1 with fail); rw [HW1.out]; clear HW1; obtain ⟨gA, hgA⟩ : ∃ gA, gA = w.heap.size := ⟨_, rfl⟩; rw [← hgA] at M1 ⊢; clear hgA)
    obtain ⟨c0, c1, c2, c3, c4, c5⟩ := gcells (M1.has (Has.head _ _ _ _))
    go_wp2_with fail
    go_ret
    exact ⟨ret_int HV.out.symm, M1.below⟩
  · obtain ⟨i, rfl⟩ := Int.eq_ofNat_of_zero_le (by omega : 0 ≤ cx)
    obtain ⟨j, rfl⟩ := Int.eq_ofNat_of_zero_le (by omega : 0 ≤ cy)
    have hi : i < x := by omega
    have hj : j < y := by omega
    have hk : j * x + i < n := by rw [hxy, Nat.mul_comm x y]; exact at_lt hi hj
    rw [bel_in p hi hj]
    obtain ⟨b, o, rfl, _, hc⟩ := cell64 (hS.below M1.below) (j * x + i) (by omega)
    obtain ⟨k0, hk0⟩ : ∃ k0, k0 = j * x := ⟨_, rfl⟩
    have hmul : (j : Int) * (x : Int) = (k0 : Int) := by rw [hk0]; simp
    rw [← hk0] at hk hc ⊢
    obtain ⟨u, hu⟩ : ∃ u, u = p.getD (k0 + i) 0 := ⟨_, rfl⟩
    rw [← hu] at hc ⊢
    have hmx := hS.max
    clear hu hk0 hS hp hxy
    go_enter Tryz.func69, Tryz.ntmps69
    ((go_upto_region 1 with fail); rw [HW1.out]; clear HW1; obtain ⟨gA, hgA⟩ : ∃ gA, gA = w.heap.size := ⟨_, rfl⟩; rw [← hgA] at M1 ⊢; clear hgA)
    obtain ⟨c0, c1, c2, c3, c4, c5⟩ := gcells (M1.has (Has.head _ _ _ _))
    go_wp2_with fail
    go_ret
    exact ⟨rfl, M1.below⟩

set_option maxRecDepth 20000 in
theorem run_mk64 (m : Nat) (hm : m ≤ 1000000) (wx : World) : (Instr.makeSlice 26 (.int .i64 (m : Int)) (.int .i64 (m : Int))).run Tryz.prog wx = .ok (.slice (some ⟨wx.heap.size, 0, none⟩) m m) (wx.alloc (.cells (List.replicate m (Value.int .i64 0)).toArray 2)) := by
  obtain ⟨i, hi, h1, h2, h3⟩ := info_parts (P := Tryz.prog) (e := 2) (z := .int .i64 0) (size := 1) (bytes := 8) (by kernel_rfl)
  have hr := run_make (P := Tryz.prog) wx 26 2 i (.int .i64 0) Tryz.underlying26 hi h1 .i64 .i64 (m : Int) (m : Int) (by omega) (Int.le_refl _) (by rw [h3]; omega) (by omega)
  rw [hr, h2, Nat.mul_one]
  simp only [Int.toNat_natCast]
  congr 4
  apply Array.ext'
  exact toList_madeCells_one _ _

theorem zeroG : (Tryz.prog.info? 28).map (·.zero) = some (some (gv 0 0 0 0 0 (.slice none 0 0))) := by kernel_rfl
/-- A row of noughts is made. -/
theorem wp_mkM {w w0 : World} {bs : List (Nat × TypeId × List Value)} {o : Oper} {a : Act} {K : Act → World → Prop} {Q : Exit → Act → World → Prop} {l c : Operand} (M : Mem w0 w bs)
    (hr : ∀ (m : Nat), m ≤ 1000000 → ∀ wx : World, (Instr.makeSlice 26 (.int .i64 (m : Int)) (.int .i64 (m : Int))).run Tryz.prog wx = .ok (.slice (some ⟨wx.heap.size, 0, none⟩) m m) (wx.alloc (.cells (List.replicate m (Value.int .i64 0)).toArray 2)))
    (ho : o.op = Op.makeSlice 26 l c) (m : Nat) (hl : a.eval l = .int .i64 (m : Int)) (hc : a.eval c = .int .i64 (m : Int)) (hm : m ≤ 1000000)
    (h : ∀ g w', Mem w0 w' ((g, 2, List.replicate m (.int .i64 0)) :: bs) → K (a.put o.dst (.slice (some ⟨g, 0, none⟩) m m)) w') : o.wp Tryz.prog a w K Q := by
  unfold Oper.wp execOp
  simp only [ho, hl, hc, Sem.run_bind, hr m hm, Result.andThen_ok]
  exact h _ _ (M.alloc _ _)
theorem mem_swap {w0 w : World} {e1 e2 : Nat × TypeId × List Value} {bs : List (Nat × TypeId × List Value)} (M : Mem w0 w (e1 :: e2 :: bs)) : Mem w0 w (e2 :: e1 :: bs) where
  below := M.below
  nodup := by
    have := M.nodup
    simp only [List.map_cons, List.nodup_cons, List.mem_cons, not_or] at this ⊢
    exact ⟨⟨fun e => this.1.1 e.symm, this.2.1⟩, this.1.2, this.2.2⟩
  old := by
    intro e he
    refine M.old e ?_
    simp only [List.mem_cons] at he ⊢
    rcases he with h | h | h
    · exact .inr (.inl h)
    · exact .inl h
    · exact .inr (.inr h)
  blk := by
    intro e he
    refine M.blk e ?_
    simp only [List.mem_cons] at he ⊢
    rcases he with h | h | h
    · exact .inr (.inl h)
    · exact .inl h
    · exact .inr (.inr h)

set_option maxRecDepth 20000 in
set_option maxHeartbeats 1600000 in
theorem cut14_no (x y X Y s cx cy cw ch : Int) (a : Option Addr) (n cap : Nat) (p : List Int) (hp : p.length = n) (hn : n ≤ 1000000) (hno : (sdG cw ch && (inR cx (-64) 64 && inR cy (-64) 64)) = false) (w : World) (hS : Sl w 1 (.slice a n cap) n (i64s p)) :
    Calls Tryz.prog 30 #[gv x y X Y s (.slice a n cap), .int .i64 cx, .int .i64 cy, .int .i64 cw, .int .i64 ch] w (GRes x y X Y s n p 2 w) := by
  have C1 := sides_any cw ch
  have C2 := begin_any cx
  have C3 := begin_any cy
  obtain ⟨b1, hb1⟩ : ∃ b, b = sdG cw ch := ⟨_, rfl⟩
  obtain ⟨b2, hb2⟩ : ∃ b, b = inR cx (-64) 64 := ⟨_, rfl⟩
  obtain ⟨b3, hb3⟩ : ∃ b, b = inR cy (-64) 64 := ⟨_, rfl⟩
  rw [← hb1] at C1
  rw [← hb2] at C2
  rw [← hb3] at C3
  rw [← hb1, ← hb2, ← hb3] at hno
  have C1 := Lib.hid C1
  have C2 := Lib.hid C2
  have C3 := Lib.hid C3
  have C4 := Lib.hid (fun wx hs => itself_any x y X Y s a n cap p hp hn wx hs)
  have HS := Lib.hid hS
  clear hb1 hb2 hb3 hS hp
  (obtain ⟨w1, hw1⟩ : ∃ w1, w.alloc (.cells #[.int .i64 x, .int .i64 y, .int .i64 X, .int .i64 Y, .int .i64 s, .slice a n cap] 28) = w1 := ⟨_, rfl⟩; have M1 := (Mem.start w).alloc 28 (gc x y X Y s (.slice a n cap)); rw [show w.alloc (.cells (gc x y X Y s (.slice a n cap)).toArray 28) = w1 from hw1] at M1; obtain ⟨w2, hw2⟩ : ∃ w2, w1.alloc (.cells #[.int .i64 0, .int .i64 0, .int .i64 0, .int .i64 0, .int .i64 0, .slice none 0 0] 28) = w2 := ⟨_, rfl⟩; have M2 := M1.alloc 28 (gc 0 0 0 0 0 (.slice none 0 0)); rw [show w1.alloc (.cells (gc 0 0 0 0 0 (.slice none 0 0)).toArray 28) = w2 from hw2] at M2; have hsz : w1.heap.size = w.heap.size + 1 := (by rw [← hw1]; simp); have HW1 := Lib.hid hw1; have HW2 := Lib.hid hw2; clear hw1 hw2 M1)
  go_enter Tryz.func30, Tryz.ntmps30
  ((go_upto_region 1 with fail); rw [HW1.out, HW2.out, ← hsz]; clear HW1 HW2; obtain ⟨gB, hgB⟩ : ∃ gB, gB = w1.heap.size := ⟨_, rfl⟩; obtain ⟨gA, hgA⟩ : ∃ gA, gA = w.heap.size := ⟨_, rfl⟩; rw [← hgB] at M2 ⊢; rw [← hgA] at M2 ⊢; have hne : gA ≠ gB := (by omega); clear hgA hgB hsz)
  obtain ⟨c0, c1, c2, c3, c4, c5⟩ := gcells (M2.has (.tail _ _ _ _ _ (Has.head _ _ _ _)))
  go_wp2_with fail
  refine (C1.out _).mono ?_
  rintro e wx ⟨rfl, rfl⟩
  cases b1
  · clear hno
    go_wp2_with fail
    refine (C4.out _ (HS.out.below M2.below)).mono ?_
    rintro e w4 ⟨a4, cap4, rfl, ho4, hA⟩
    have hz3 := M2.below.size
    have M3 := M2.call hA
    clear c0 c1 c2 c3 c4 c5 hA
    go_wp2_with ((with_reducible refine (?_ : Go.wpList _ _ _ (_ :: _) _ _)); (first | go_skip | (refine wpL_stM (v := gv x y X Y s (.slice a4 n cap4)) M3 rfl rfl rfl rfl (wr_g _ _ _ _ _ _ _ _ _ _ _ _ _ _) (Upd.head _ _ _ _ _) ?_; intro w4 M4 hT4)))
    have ho5 := gown_turned ho4 (M3.has (Has.head _ _ _ _)) (by decide) hT4
    ((try simp only [Exit.inBlock, Exit.then]); refine bodyPost_ret (res_cell_tmp rfl M4 rfl (Has.head _ _ _ _) (rd_g _ _ _ _ _ _) rfl) rfl ?_)
    exact ⟨_, _, rfl, ownsRow_base ho5 hz3, M4.below⟩
  rw [Bool.true_and] at hno
  go_wp2_with fail
  refine (C2.out _).mono ?_
  rintro e wx ⟨rfl, rfl⟩
  cases b2
  · clear hno
    go_wp2_with fail
    refine (C4.out _ (HS.out.below M2.below)).mono ?_
    rintro e w4 ⟨a4, cap4, rfl, ho4, hA⟩
    have hz3 := M2.below.size
    have M3 := M2.call hA
    clear c0 c1 c2 c3 c4 c5 hA
    go_wp2_with ((with_reducible refine (?_ : Go.wpList _ _ _ (_ :: _) _ _)); (first | go_skip | (refine wpL_stM (v := gv x y X Y s (.slice a4 n cap4)) M3 rfl rfl rfl rfl (wr_g _ _ _ _ _ _ _ _ _ _ _ _ _ _) (Upd.head _ _ _ _ _) ?_; intro w4 M4 hT4)))
    have ho5 := gown_turned ho4 (M3.has (Has.head _ _ _ _)) (by decide) hT4
    ((try simp only [Exit.inBlock, Exit.then]); refine bodyPost_ret (res_cell_tmp rfl M4 rfl (Has.head _ _ _ _) (rd_g _ _ _ _ _ _) rfl) rfl ?_)
    exact ⟨_, _, rfl, ownsRow_base ho5 hz3, M4.below⟩
  rw [Bool.true_and] at hno
  subst hno
  go_wp2_with fail
  refine (C3.out _).mono ?_
  rintro e wx ⟨rfl, rfl⟩
  go_wp2_with fail
  refine (C4.out _ (HS.out.below M2.below)).mono ?_
  rintro e w4 ⟨a4, cap4, rfl, ho4, hA⟩
  have hz3 := M2.below.size
  have M3 := M2.call hA
  clear c0 c1 c2 c3 c4 c5 hA
  go_wp2_with ((with_reducible refine (?_ : Go.wpList _ _ _ (_ :: _) _ _)); (first | go_skip | (refine wpL_stM (v := gv x y X Y s (.slice a4 n cap4)) M3 rfl rfl rfl rfl (wr_g _ _ _ _ _ _ _ _ _ _ _ _ _ _) (Upd.head _ _ _ _ _) ?_; intro w4 M4 hT4)))
  have ho5 := gown_turned ho4 (M3.has (Has.head _ _ _ _)) (by decide) hT4
  ((try simp only [Exit.inBlock, Exit.then]); refine bodyPost_ret (res_cell_tmp rfl M4 rfl (Has.head _ _ _ _) (rd_g _ _ _ _ _ _) rfl) rfl ?_)
  exact ⟨_, _, rfl, ownsRow_base ho5 hz3, M4.below⟩

set_option maxRecDepth 20000 in
set_option maxHeartbeats 6400000 in
theorem cut14_yes (x y cw ch m : Nat) (X Y s cx cy PX PY NX NY : Int) (a : Option Addr) (n cap : Nat) (p : List Int) (hp : p.length = n) (hxy : n = x * y) (hsd : sdG x y = true) (hcd : sdG cw ch = true) (hcx : inR cx (-64) 64 = true) (hcy : inR cy (-64) 64 = true)
    (hs : 0 ≤ s ∧ s ≤ 4096) (hX : -1000000000000 ≤ X ∧ X ≤ 1000000000000) (hY : -1000000000000 ≤ Y ∧ Y ≤ 1000000000000) (hm : m = ch * cw) (hPX : cx * s = PX) (hPY : cy * s = PY) (hNX : X + PX = NX) (hNY : Y + PY = NY) (w : World) (hS : Sl w 1 (.slice a n cap) n (i64s p)) :
    Calls Tryz.prog 30 #[gv x y X Y s (.slice a n cap), .int .i64 cx, .int .i64 cy, .int .i64 cw, .int .i64 ch] w (GRes cw ch NX NY s m (tab (cutAt p x y cx cy cw) m) 0 w) := by
  obtain ⟨⟨q1, q2⟩, q3, q4⟩ := sdG_t hsd
  obtain ⟨⟨q5, q6⟩, q7, q8⟩ := sdG_t hcd
  have r1 := inR_t hcx
  have r2 := inR_t hcy
  have hle : x * y ≤ 64 * 64 := Nat.mul_le_mul (by omega) (by omega)
  have hle2 : ch * cw ≤ 64 * 64 := Nat.mul_le_mul (by omega) (by omega)
  have bPX : -262144 ≤ PX ∧ PX ≤ 262144 := by
    have a1 := Int.mul_le_mul_of_nonneg_right r1.1 hs.1
    have a2 := Int.mul_le_mul_of_nonneg_right r1.2 hs.1
    rw [hPX] at a1 a2; omega
  have bPY : -262144 ≤ PY ∧ PY ≤ 262144 := by
    have a1 := Int.mul_le_mul_of_nonneg_right r2.1 hs.1
    have a2 := Int.mul_le_mul_of_nonneg_right r2.2 hs.1
    rw [hPY] at a1 a2; omega
  have wPX : IntKind.i64.wrap PX = PX := IntWalk.i64_in _ (by omega)
  have wPY : IntKind.i64.wrap PY = PY := IntWalk.i64_in _ (by omega)
  have wNX : IntKind.i64.wrap NX = NX := IntWalk.i64_in _ (by omega)
  have wNY : IntKind.i64.wrap NY = NY := IntWalk.i64_in _ (by omega)
  have wm : IntKind.i64.wrap (m : Int) = (m : Int) := IntWalk.i64_in _ (by omega)
  have hmul2 : (cw : Int) * (ch : Int) = (m : Int) := by rw [hm, Nat.mul_comm]; simp
  have hm2 : m ≤ 4096 := by omega
  have C1 := sides_any cw ch
  have C2 := begin_any cx
  have C3 := begin_any cy
  rw [hcd] at C1
  rw [hcx] at C2
  rw [hcy] at C3
  have C4 := shape_any x y X Y s a n cap (by omega)
  rw [shp_ok hsd hxy] at C4
  have CB := fun (ax ay : Int) wx hs => believed_any x y X Y s ax ay a n cap p hp hxy (by omega) (by omega) wx hs
  obtain ⟨f, hf⟩ : ∃ f, f = cutAt p x y cx cy cw := ⟨_, rfl⟩
  rw [← hf]
  have hat : ∀ yy xx, yy < ch → xx < cw → yy * cw + xx < m := fun yy xx h1 h2 => by rw [hm]; exact at_lt h2 h1
  have hval : ∀ yy xx : Nat, xx < cw → bel p x y (cx + (xx : Int)) (cy + (yy : Int)) = f (yy * cw + xx) := by
    intro yy xx h2
    rw [hf]
    unfold cutAt
    rw [div_at yy h2, mod_at yy h2]
  have C1 := Lib.hid C1
  have C2 := Lib.hid C2
  have C3 := Lib.hid C3
  have C4 := Lib.hid C4
  have CB := Lib.hid CB
  have HAT := Lib.hid hat
  have HVAL := Lib.hid hval
  have HM := Lib.hid hm
  have HL := Lib.hid (fun k => lay_length f k m)
  have HN := Lib.hid (fun k => lay_set f k m)
  have HS := Lib.hid hS
  have hlt : tab f m = lay f m m := (lay_n f m).symm
  rw [hlt]
  clear hf hat hval hm hS hp hxy hsd hcd hcx hcy hle hle2 hlt
  (obtain ⟨w1, hw1⟩ : ∃ w1, w.alloc (.cells #[.int .i64 x, .int .i64 y, .int .i64 X, .int .i64 Y, .int .i64 s, .slice a n cap] 28) = w1 := ⟨_, rfl⟩; have M1 := (Mem.start w).alloc 28 (gc x y X Y s (.slice a n cap)); rw [show w.alloc (.cells (gc x y X Y s (.slice a n cap)).toArray 28) = w1 from hw1] at M1; obtain ⟨w2, hw2⟩ : ∃ w2, w1.alloc (.cells #[.int .i64 0, .int .i64 0, .int .i64 0, .int .i64 0, .int .i64 0, .slice none 0 0] 28) = w2 := ⟨_, rfl⟩; have M2 := M1.alloc 28 (gc 0 0 0 0 0 (.slice none 0 0)); rw [show w1.alloc (.cells (gc 0 0 0 0 0 (.slice none 0 0)).toArray 28) = w2 from hw2] at M2; have hsz : w1.heap.size = w.heap.size + 1 := (by rw [← hw1]; simp); have HW1 := Lib.hid hw1; have HW2 := Lib.hid hw2; clear hw1 hw2 M1)
  go_enter Tryz.func30, Tryz.ntmps30
  ((go_upto_region 1 with fail); rw [HW1.out, HW2.out, ← hsz]; clear HW1 HW2; obtain ⟨gB, hgB⟩ : ∃ gB, gB = w1.heap.size := ⟨_, rfl⟩; obtain ⟨gA, hgA⟩ : ∃ gA, gA = w.heap.size := ⟨_, rfl⟩; rw [← hgB] at M2 ⊢; rw [← hgA] at M2 ⊢; have hne : gA ≠ gB := (by omega); clear hgA hgB hsz)
  obtain ⟨c0, c1, c2, c3, c4, c5⟩ := gcells (M2.has (.tail _ _ _ _ _ (Has.head _ _ _ _)))
  go_wp2_with fail
  refine (C1.out _).mono ?_
  rintro e wx ⟨rfl, rfl⟩
  go_wp2_with fail
  refine (C2.out _).mono ?_
  rintro e wx ⟨rfl, rfl⟩
  go_wp2_with fail
  refine (C3.out _).mono ?_
  rintro e wx ⟨rfl, rfl⟩
  go_wp2_with fail
  refine (C4.out _).mono ?_
  rintro e w3 ⟨rfl, hA⟩
  have M3 := M2.call hA
  clear c0 c1 c2 c3 c4 c5 M2 hA C1 C2 C3 C4
  obtain ⟨c0, c1, c2, c3, c4, c5⟩ := gcells (M3.has (.tail _ _ _ _ _ (Has.head _ _ _ _)))
  go_upto_region 6 with fail
  go_cut [13] from 39 (fun s13 wx => ∃ gC B, s13 = .pointer (some ⟨gC, 0, none⟩) ∧ Mem w wx [(gC, 28, gc cw ch NX NY s (.slice (some ⟨B, 0, none⟩) m m)), (B, 2, i64s (lay f 0 m)), (gB, 28, gc 0 0 0 0 0 (.slice none 0 0)), (gA, 28, gc x y X Y s (.slice a n cap))])
  case first =>
    refine wp_region_held_drew (S := (fun w' : World => w'.cell? ⟨gA, 0, none⟩ = some (.int .i64 x) ∧ w'.cell? ⟨gA, 1, none⟩ = some (.int .i64 y) ∧ w'.cell? ⟨gA, 2, none⟩ = some (.int .i64 X) ∧ w'.cell? ⟨gA, 3, none⟩ = some (.int .i64 Y) ∧ w'.cell? ⟨gA, 4, none⟩ = some (.int .i64 s) ∧ w'.cell? ⟨gA, 5, none⟩ = some (.slice a n cap))) (by kernel_rfl) (⟨c0, c1, c2, c3, c4, c5⟩) (fun hHeld => ?_)
    refine wpAnyH_take (i := 0) (v := ?v77) rfl (by kernel_rfl) (by kernel_rfl) (by kernel_rfl) (fun _ _ _ h => h) (Or.inl ⟨by rfl, ?hy77⟩) hHeld ?rest77
    case hy77 => (intro w' hSw; (try dsimp only at hSw); go_simp; (try with_reducible rfl))
    try simp only [Act.put, puts]
    refine wpAnyH_take (i := 1) (v := ?v78) rfl (by kernel_rfl) (by kernel_rfl) (by kernel_rfl) (fun _ _ _ h => h) (Or.inl ⟨by rfl, ?hy78⟩) hHeld ?rest78
    case hy78 => (intro w' hSw; (try dsimp only at hSw); go_simp; (try with_reducible rfl))
    try simp only [Act.put, puts]
    refine wpAnyH_take (i := 2) (v := ?v79) rfl (by kernel_rfl) (by kernel_rfl) (by kernel_rfl) (fun _ _ _ h => h) (Or.inl ⟨by rfl, ?hy79⟩) hHeld ?rest79
    case hy79 => (intro w' hSw; (try dsimp only at hSw); go_simp; (try with_reducible rfl))
    try simp only [Act.put, puts]
    refine wpAnyH_take (i := 3) (v := ?v80) rfl (by kernel_rfl) (by kernel_rfl) (by kernel_rfl) (fun _ _ _ h => h) (Or.inl ⟨by rfl, ?hy80⟩) hHeld ?rest80
    case hy80 => (intro w' hSw; (try dsimp only at hSw); go_simp; (try with_reducible rfl))
    try simp only [Act.put, puts]
    refine wpAnyH_take (i := 4) (v := ?v81) rfl (by kernel_rfl) (by kernel_rfl) (by kernel_rfl) (fun _ _ _ h => h) (Or.inl ⟨by rfl, ?hy81⟩) hHeld ?rest81
    case hy81 => (intro w' hSw; (try dsimp only at hSw); go_simp; (try with_reducible rfl))
    try simp only [Act.put, puts]
    refine wpAnyH_take (i := 5) (v := ?v82) rfl (by kernel_rfl) (by kernel_rfl) (by kernel_rfl) (fun _ _ _ h => h) (Or.inl ⟨by rfl, ?hy82⟩) hHeld ?rest82
    case hy82 => (intro w' hSw; (try dsimp only at hSw); go_simp; (try with_reducible rfl))
    try simp only [Act.put, puts]
    refine wpAnyH_take (i := 6) (v := ?v83) rfl (by kernel_rfl) (by kernel_rfl) (by kernel_rfl) (fun _ _ _ h => h) (Or.inl ⟨by rfl, ?hy83⟩) hHeld ?rest83
    case hy83 => (intro w' hSw; (try dsimp only at hSw); go_simp; (try with_reducible rfl))
    try simp only [Act.put, puts]
    refine wpAnyH_take (i := 7) (v := ?v84) rfl (by kernel_rfl) (by kernel_rfl) (by kernel_rfl) (fun _ _ _ h => h) (Or.inl ⟨by rfl, ?hy84⟩) hHeld ?rest84
    case hy84 => (intro w' hSw; (try dsimp only at hSw); go_simp; (try with_reducible rfl))
    try simp only [Act.put, puts]
    refine wpAnyH_take (i := 8) (v := ?v85) rfl (by kernel_rfl) (by kernel_rfl) (by kernel_rfl) (fun _ _ _ h => h) (Or.inl ⟨by rfl, ?hy85⟩) hHeld ?rest85
    case hy85 => (intro w' hSw; (try dsimp only at hSw); go_simp; (try with_reducible rfl))
    try simp only [Act.put, puts]
    refine wpAnyH_take (i := 9) (v := ?v86) rfl (by kernel_rfl) (by kernel_rfl) (by kernel_rfl) (fun _ _ _ h => h) (Or.inl ⟨by rfl, ?hy86⟩) hHeld ?rest86
    case hy86 => (intro w' hSw; (try dsimp only at hSw); go_simp; (try with_reducible rfl))
    try simp only [Act.put, puts]
    refine wpAnyH_take (i := 10) (v := ?v87) rfl (by kernel_rfl) (by kernel_rfl) (by kernel_rfl) (fun _ _ _ h => h) (Or.inl ⟨by rfl, ?hy87⟩) hHeld ?rest87
    case hy87 => (intro w' hSw; (try dsimp only at hSw); go_simp; (try with_reducible rfl))
    try simp only [Act.put, puts]
    refine wpAnyH_take (i := 11) (v := ?v88) rfl (by kernel_rfl) (by kernel_rfl) (by kernel_rfl) (fun _ _ _ h => h) (Or.inl ⟨by rfl, ?hy88⟩) hHeld ?rest88
    case hy88 => (intro w' hSw; (try dsimp only at hSw); go_simp; (try with_reducible rfl))
    try simp only [Act.put, puts]
    refine wpAnyH_take (i := 12) (v := ?v89) rfl (by kernel_rfl) (by kernel_rfl) (by kernel_rfl) (fun _ _ _ h => h) (Or.inl ⟨by rfl, ?hy89⟩) hHeld ?rest89
    case hy89 => (intro w' hSw; (try dsimp only at hSw); go_simp; (try with_reducible rfl))
    try simp only [Act.put, puts]
    refine wpAnyH_take (i := 13) (v := ?v90) rfl (by kernel_rfl) (by kernel_rfl) (by kernel_rfl) (fun _ _ _ h => h) (Or.inl ⟨by rfl, ?hy90⟩) hHeld ?rest90
    case hy90 => (intro w' hSw; (try dsimp only at hSw); go_simp; (try with_reducible rfl))
    try simp only [Act.put, puts]
    refine wpAnyH_take (i := 14) (v := ?v91) rfl (by kernel_rfl) (by kernel_rfl) (by kernel_rfl) (fun _ _ _ h => h) (Or.inl ⟨by rfl, ?hy91⟩) hHeld ?rest91
    case hy91 => (intro w' hSw; (try dsimp only at hSw); go_simp; (try with_reducible rfl))
    try simp only [Act.put, puts]
    refine wpAnyH_take (i := 15) (v := ?v92) rfl (by kernel_rfl) (by kernel_rfl) (by kernel_rfl) (fun _ _ _ h => h) (Or.inl ⟨by rfl, ?hy92⟩) hHeld ?rest92
    case hy92 => (intro w' hSw; (try dsimp only at hSw); go_simp; (try with_reducible rfl))
    try simp only [Act.put, puts]
    refine wpAnyH_take (i := 16) (v := ?v93) rfl (by kernel_rfl) (by kernel_rfl) (by kernel_rfl) (fun _ _ _ h => h) (Or.inl ⟨by rfl, ?hy93⟩) hHeld ?rest93
    case hy93 => (intro w' hSw; (try dsimp only at hSw); go_simp; (try with_reducible rfl))
    try simp only [Act.put, puts]
    refine wpAnyH_take (i := 17) (v := ?v94) rfl (by kernel_rfl) (by kernel_rfl) (by kernel_rfl) (fun _ _ _ h => h) (Or.inl ⟨by rfl, ?hy94⟩) hHeld ?rest94
    case hy94 => (intro w' hSw; (try dsimp only at hSw); go_simp; (try with_reducible rfl))
    try simp only [Act.put, puts]
    refine wpAnyH_take (i := 18) (v := ?v95) rfl (by kernel_rfl) (by kernel_rfl) (by kernel_rfl) (fun _ _ _ h => h) (Or.inl ⟨by rfl, ?hy95⟩) hHeld ?rest95
    case hy95 => (intro w' hSw; (try dsimp only at hSw); go_simp; (try with_reducible rfl))
    try simp only [Act.put, puts]
    refine wpAnyH_take (i := 19) (v := ?v96) rfl (by kernel_rfl) (by kernel_rfl) (by kernel_rfl) (fun _ _ _ h => h) (Or.inl ⟨by rfl, ?hy96⟩) hHeld ?rest96
    case hy96 => (intro w' hSw; (try dsimp only at hSw); go_simp; (try with_reducible rfl))
    try simp only [Act.put, puts]
    refine wpAnyH_take (i := 20) (v := ?v97) rfl (by kernel_rfl) (by kernel_rfl) (by kernel_rfl) (fun _ _ _ h => h) (Or.inl ⟨by rfl, ?hy97⟩) hHeld ?rest97
    case hy97 => (intro w' hSw; (try dsimp only at hSw); go_simp; (try with_reducible rfl))
    try simp only [Act.put, puts]
    have M0Z := M3.drew
    refine wpAnyH_ready (rs := [21, 23]) (by kernel_rfl) (by simp) ?_
    refine AllReadyH.cons rfl (fun K hK => ?ordA) (AllReadyH.cons rfl (fun K hK => ?ordB) AllReadyH.nil)
    case ordA =>
      rw [if_pos (by rfl)]
      refine wp_mkM M0Z run_mk64 rfl m rfl rfl (by omega) ?_
      intro B wB M1Z
      refine hK.out _ _ (gcells (M1Z.has (.tail _ _ _ _ _ (.tail _ _ _ _ _ (Has.head _ _ _ _))))) (fun hHeld => ?_)
      clear hK K
      try simp only [Act.put, puts]
      refine wpAnyH_take (i := 22) (v := ?v98) rfl (by kernel_rfl) (by kernel_rfl) (by kernel_rfl) (fun _ _ _ h => h) (Or.inl ⟨by rfl, ?hy98⟩) hHeld ?rest98
      case hy98 => (intro w' hSw; (try dsimp only at hSw); go_simp; (try with_reducible rfl))
      try simp only [Act.put, puts]
      refine wpAnyH_ready (rs := [23]) (by kernel_rfl) (by simp) ?_
      refine AllReadyH.cons rfl (fun K hK => ?_) AllReadyH.nil
      rw [if_pos (by rfl)]
      refine wp_al M1Z rfl zeroG rfl ?_
      intro gC wC M2Z
      refine hK.out _ _ (gcells (M2Z.has (.tail _ _ _ _ _ (.tail _ _ _ _ _ (.tail _ _ _ _ _ (Has.head _ _ _ _)))))) (fun hHeld => ?_)
      clear hK K
      try simp only [Act.put, puts]
      refine wpAnyH_ready (rs := [24]) (by kernel_rfl) (by simp) ?_
      refine AllReadyH.cons rfl (fun K hK => ?_) AllReadyH.nil
      rw [if_pos (by rfl)]
      refine wp_stM (v := gv cw ch NX NY s (.slice (some ⟨B, 0, none⟩) m m)) M2Z rfl rfl rfl (wr_g _ _ _ _ _ _ _ _ _ _ _ _ _ _) (Upd.head _ _ _ _ _) ?_
      intro wZ MZ _
      refine hK.out _ _ (gcells (MZ.has (.tail _ _ _ _ _ (.tail _ _ _ _ _ (.tail _ _ _ _ _ (Has.head _ _ _ _)))))) (fun hHeld => ?_)
      clear hK K
      try simp only [Act.put, puts]
      refine wpAnyH_done (by kernel_rfl) ?_ _
      go_wp2_with fail
      go_meet
      exact ⟨gC, B, rfl, by rw [lay_0, ← i64s_rep]; exact MZ⟩
    case ordB =>
      rw [if_pos (by rfl)]
      refine wp_al M0Z rfl zeroG rfl ?_
      intro gC wC M1Z
      refine hK.out _ _ (gcells (M1Z.has (.tail _ _ _ _ _ (.tail _ _ _ _ _ (Has.head _ _ _ _))))) (fun hHeld => ?_)
      clear hK K
      try simp only [Act.put, puts]
      refine wpAnyH_ready (rs := [21]) (by kernel_rfl) (by simp) ?_
      refine AllReadyH.cons rfl (fun K hK => ?_) AllReadyH.nil
      rw [if_pos (by rfl)]
      refine wp_mkM M1Z run_mk64 rfl m rfl rfl (by omega) ?_
      intro B wB M2Z
      refine hK.out _ _ (gcells (M2Z.has (.tail _ _ _ _ _ (.tail _ _ _ _ _ (.tail _ _ _ _ _ (Has.head _ _ _ _)))))) (fun hHeld => ?_)
      clear hK K
      try simp only [Act.put, puts]
      refine wpAnyH_take (i := 22) (v := ?v99) rfl (by kernel_rfl) (by kernel_rfl) (by kernel_rfl) (fun _ _ _ h => h) (Or.inl ⟨by rfl, ?hy99⟩) hHeld ?rest99
      case hy99 => (intro w' hSw; (try dsimp only at hSw); go_simp; (try with_reducible rfl))
      try simp only [Act.put, puts]
      refine wpAnyH_ready (rs := [24]) (by kernel_rfl) (by simp) ?_
      refine AllReadyH.cons rfl (fun K hK => ?_) AllReadyH.nil
      rw [if_pos (by rfl)]
      refine wp_stM (v := gv cw ch NX NY s (.slice (some ⟨B, 0, none⟩) m m)) M2Z rfl rfl rfl (wr_g _ _ _ _ _ _ _ _ _ _ _ _ _ _) (.tail _ _ _ _ _ _ _ (Upd.head _ _ _ _ _)) ?_
      intro wZ MZ _
      refine hK.out _ _ (gcells (MZ.has (.tail _ _ _ _ _ (.tail _ _ _ _ _ (.tail _ _ _ _ _ (Has.head _ _ _ _)))))) (fun hHeld => ?_)
      clear hK K
      try simp only [Act.put, puts]
      refine wpAnyH_done (by kernel_rfl) ?_ _
      go_wp2_with fail
      go_meet
      exact ⟨gC, B, rfl, by rw [lay_0, ← i64s_rep]; exact mem_swap MZ⟩
  clear c0 c1 c2 c3 c4 c5 M3
  obtain ⟨gC, B, rfl, M⟩ := hcut
  have M5' : Mem w wc [(gC, 28, gc cw ch NX NY s (.slice (some ⟨B, 0, none⟩) m m)), (B, 2, i64s (lay f (0 * cw) m)), (gB, 28, gc 0 0 0 0 0 (.slice none 0 0)), (gA, 28, gc x y X Y s (.slice a n cap))] := by rw [Nat.zero_mul]; exact M
  clear M
  go_wp2_with fail
  go_loopw [63] (fun c wx => ∃ yy : Nat, yy ≤ ch ∧ c = .int .i64 yy ∧ Mem w wx [(gC, 28, gc cw ch NX NY s (.slice (some ⟨B, 0, none⟩) m m)), (B, 2, i64s (lay f (yy * cw) m)), (gB, 28, gc 0 0 0 0 0 (.slice none 0 0)), (gA, 28, gc x y X Y s (.slice a n cap))]) (fun c _ => ch - (intOf c).toNat)
  case atStart => exact ⟨0, Nat.zero_le _, rfl, M5'⟩
  case round =>
    clear M5'
    obtain ⟨yy, hyy, rfl, M⟩ := hrel
    by_cases hlt : yy < ch
    · obtain ⟨k0, hk0⟩ : ∃ k0, k0 = yy * cw := ⟨_, rfl⟩
      have hk1 : (yy + 1) * cw = k0 + cw := by rw [hk0, Nat.succ_mul]
      have hmul : (yy : Int) * (cw : Int) = (k0 : Int) := by rw [hk0]; simp
      have hfit := fun xx (h : xx < cw) => HAT.out yy xx hlt h
      have hV := HVAL.out yy
      rw [← hk0] at M hfit hV
      have hk0n : k0 < m := by have := hfit 0 (by omega); omega
      have HFIT := Lib.hid hfit
      have HV := Lib.hid hV
      have HK1 := Lib.hid hk1
      have hqw : IntKind.i64.wrap (k0 : Int) = (k0 : Int) := IntWalk.i64_in _ (by omega)
      obtain ⟨ay, hay⟩ : ∃ ay, ay = cy + (yy : Int) := ⟨_, rfl⟩
      have hay1 : IntKind.i64.wrap (cy + (yy : Int)) = ay := by rw [hay]; exact IntWalk.i64_in _ (by omega)
      rw [← hay] at HV
      have hay2 : IntKind.i64.wrap ay = ay := IntWalk.i64_in _ (by omega)
      have HAY := Lib.hid hay
      clear hk0 hk1 hfit hV hay
      go_wp2_with fail
      go_loopw [67] (fun c wx => ∃ xx : Nat, xx ≤ cw ∧ c = .int .i64 xx ∧ Mem w wx [(gC, 28, gc cw ch NX NY s (.slice (some ⟨B, 0, none⟩) m m)), (B, 2, i64s (lay f (k0 + xx) m)), (gB, 28, gc 0 0 0 0 0 (.slice none 0 0)), (gA, 28, gc x y X Y s (.slice a n cap))]) (fun c _ => cw - (intOf c).toNat)
      case atStart => exact ⟨0, Nat.zero_le _, rfl, M⟩
      case round =>
        clear M
        obtain ⟨xx, hxx, rfl, M⟩ := hrel
        by_cases hlt2 : xx < cw
        · obtain ⟨c0, c1, c2, c3, c4, c5⟩ := gcells (M.has (.tail _ _ _ _ _ (.tail _ _ _ _ _ (.tail _ _ _ _ _ (Has.head _ _ _ _)))))
          have d5 := M.cell (Has.head _ _ _ _) (i := 5) rfl
          have hkn := HFIT.out xx hlt2
          have HCx := CB.out (cx + (xx : Int)) ay
          rw [HV.out xx hlt2] at HCx
          obtain ⟨ax, hax⟩ : ∃ ax, ax = cx + (xx : Int) := ⟨_, rfl⟩
          have hax1 : IntKind.i64.wrap (cx + (xx : Int)) = ax := by rw [hax]; exact IntWalk.i64_in _ (by omega)
          have hax2 : IntKind.i64.wrap ax = ax := by rw [hax]; exact IntWalk.i64_in _ (by omega)
          have hay3 : cy + (yy : Int) = ay := HAY.out.symm
          have hax3 : cx + (xx : Int) = ax := hax.symm
          rw [← hax] at HCx
          obtain ⟨k, hk⟩ : ∃ k, k = k0 + xx := ⟨_, rfl⟩
          rw [← hk] at HCx hkn M
          have hs1 : IntKind.i64.wrap ((k0 : Int) + (xx : Int)) = (k : Int) := by
            have := IntWalk.i64_in (k : Int) (by omega)
            rw [hk] at this ⊢
            simpa using this
          have hkw : IntKind.i64.wrap (k : Int) = (k : Int) := IntWalk.i64_in _ (by omega)
          have HK := Lib.hid hk
          have HCx := Lib.hid HCx
          have hN := HN.out k hkn
          have HNk := Lib.hid hN
          have hll := HL.out k (by omega)
          clear hk hN hax
          go_wp2_with fail
          refine wp_region_held_drew (S := (fun w' : World => w'.cell? ⟨gC, 5, none⟩ = some (.slice (some ⟨B, 0, none⟩) m m) ∧ w'.cell? ⟨gA, 0, none⟩ = some (.int .i64 x) ∧ w'.cell? ⟨gA, 1, none⟩ = some (.int .i64 y) ∧ w'.cell? ⟨gA, 2, none⟩ = some (.int .i64 X) ∧ w'.cell? ⟨gA, 3, none⟩ = some (.int .i64 Y) ∧ w'.cell? ⟨gA, 4, none⟩ = some (.int .i64 s) ∧ w'.cell? ⟨gA, 5, none⟩ = some (.slice a n cap))) (by kernel_rfl) (⟨d5, c0, c1, c2, c3, c4, c5⟩) (fun hHeld => ?_)
          refine tkT 0 ?v100 ?hy100 hHeld ?rest100
          case hy100 => (intro w' hSw; (try dsimp only at hSw); go_simp; (try with_reducible rfl))
          try simp only [Act.put, puts]
          refine tkT 1 ?v101 ?hy101 hHeld ?rest101
          case hy101 => (intro w' hSw; (try dsimp only at hSw); go_simp; (try with_reducible rfl))
          try simp only [Act.put, puts]
          refine tkT 2 ?v102 ?hy102 hHeld ?rest102
          case hy102 => (intro w' hSw; (try dsimp only at hSw); go_simp; (try with_reducible rfl))
          try simp only [Act.put, puts]
          refine tkT 3 ?v103 ?hy103 hHeld ?rest103
          case hy103 => (intro w' hSw; (try dsimp only at hSw); go_simp; (try with_reducible rfl))
          try simp only [Act.put, puts]
          refine tkT 4 ?v104 ?hy104 hHeld ?rest104
          case hy104 => (intro w' hSw; (try dsimp only at hSw); go_simp; (try with_reducible rfl))
          try simp only [Act.put, puts]
          refine tkT 5 ?v105 ?hy105 hHeld ?rest105
          case hy105 => (intro w' hSw; (try dsimp only at hSw); go_simp; (try with_reducible rfl))
          try simp only [Act.put, puts]
          refine tkT 6 ?v106 ?hy106 hHeld ?rest106
          case hy106 => (intro w' hSw; (try dsimp only at hSw); go_simp; (try with_reducible rfl))
          try simp only [Act.put, puts]
          refine tkT 7 ?v107 ?hy107 hHeld ?rest107
          case hy107 => (intro w' hSw; (try dsimp only at hSw); go_simp; (try with_reducible rfl))
          try simp only [Act.put, puts]
          refine tkT 8 ?v108 ?hy108 hHeld ?rest108
          case hy108 => (intro w' hSw; (try dsimp only at hSw); go_simp; (try with_reducible rfl))
          try simp only [Act.put, puts]
          refine tkT 9 ?v109 ?hy109 hHeld ?rest109
          case hy109 => (intro w' hSw; (try dsimp only at hSw); go_simp; (try with_reducible rfl))
          try simp only [Act.put, puts]
          refine tkT 10 ?v110 ?hy110 hHeld ?rest110
          case hy110 => (intro w' hSw; (try dsimp only at hSw); go_simp; (try with_reducible rfl))
          try simp only [Act.put, puts]
          refine tkT 11 ?v111 ?hy111 hHeld ?rest111
          case hy111 => (intro w' hSw; (try dsimp only at hSw); go_simp; (try with_reducible rfl))
          try simp only [Act.put, puts]
          refine tkT 12 ?v112 ?hy112 hHeld ?rest112
          case hy112 => (intro w' hSw; (try dsimp only at hSw); go_simp; (try with_reducible rfl))
          try simp only [Act.put, puts]
          refine tkT 13 ?v113 ?hy113 hHeld ?rest113
          case hy113 => (intro w' hSw; (try dsimp only at hSw); go_simp; (try with_reducible rfl))
          try simp only [Act.put, puts]
          refine wpAnyH_ready (rs := [14]) (by kernel_rfl) (by simp) ?_
          refine AllReadyH.cons rfl (fun K hK => ?_) AllReadyH.nil
          go_simp
          refine (HCx.out _ (HS.out.below M.drew.below)).mono ?_
          rintro e w6 ⟨rfl, hA⟩
          have M6 := M.drew.call hA
          obtain ⟨u0, hu0⟩ : ∃ u0, w6.cell? ⟨B, k, none⟩ = some (.int .i64 u0) := ⟨_, M6.cell (.tail _ _ _ _ _ (Has.head _ _ _ _)) (i64s_at _ k (by rw [hll]; exact hkn))⟩
          have hf0 := M6.free (.tail _ _ _ _ _ (Has.head _ _ _ _)) k
          try go_wp2_with fail
          refine hK.out _ _ (⟨M6.cell (Has.head _ _ _ _) (i := 5) rfl, gcells (M6.has (.tail _ _ _ _ _ (.tail _ _ _ _ _ (.tail _ _ _ _ _ (Has.head _ _ _ _)))))⟩) (fun hHeld => ?_)
          clear hK K
          try simp only [Act.put, puts]
          refine tkT 15 ?v115 ?hy115 hHeld ?rest115
          case hy115 => (intro w' hSw; (try dsimp only at hSw); go_simp; (try with_reducible rfl))
          try simp only [Act.put, puts]
          refine wpAnyH_ready (rs := [16]) (by kernel_rfl) (by simp) ?_
          refine AllReadyH.cons rfl (fun K hK => ?_) AllReadyH.nil
          go_simp
          have M7 := M6.set k (.int .i64 (f k)) (.tail _ _ _ _ _ _ _ (Upd.head _ _ _ _ _)) (by rw [i64s_length, hll]; exact hkn)
          try go_wp2_with fail
          refine hK.out _ _ (⟨M7.cell (Has.head _ _ _ _) (i := 5) rfl, gcells (M7.has (.tail _ _ _ _ _ (.tail _ _ _ _ _ (.tail _ _ _ _ _ (Has.head _ _ _ _)))))⟩) (fun hHeld => ?_)
          clear hK K
          try simp only [Act.put, puts]
          refine wpAnyH_done (by kernel_rfl) ?_ _
          rw [i64s_set, HNk.out] at M7
          clear c0 c1 c2 c3 c4 c5 d5 M M6 hu0 hf0 hA
          go_wp2_with fail
          go_roundw
          case rel => exact ⟨xx + 1, by omega, by go_num, by rw [← Nat.add_assoc, ← HK.out]; exact M7⟩
          case measure => simp [intOf]; omega
        · have e : k0 + xx = (yy + 1) * cw := by rw [HK1.out]; omega
          rw [e] at M
          clear e
          go_wp2_with fail
          go_roundw
          case rel => exact ⟨yy + 1, by omega, by go_num, M⟩
          case measure => simp [intOf]; omega
    · have e : yy * cw = m := by rw [HM.out]; congr 1; omega
      rw [e] at M
      have M3 := M
      have hl2 := HL.out m (Nat.le_refl _)
      have k3 := M3.from (.tail _ _ _ _ _ (Has.head _ _ _ _))
      clear M e
      obtain ⟨c0, c1, c2, c3, c4, c5⟩ := gcells (M3.has (Has.head _ _ _ _))
      go_wp2_with ((with_reducible refine (?_ : Go.wpList _ _ _ (_ :: _) _ _)); (first | go_skip | (refine wpL_stM (v := gv cw ch NX NY s (.slice (some ⟨B, 0, none⟩) m m)) M3 rfl rfl rfl rfl (wr_g _ _ _ _ _ _ _ _ _ _ _ _ _ _) (.tail _ _ _ _ _ _ _ (.tail _ _ _ _ _ _ _ (Upd.head _ _ _ _ _))) ?_; intro w4 M4 hT4)))
      ((try simp only [Exit.inBlock, Exit.then]); refine bodyPost_ret (res_cell_tmp rfl M4 rfl (.tail _ _ _ _ _ (.tail _ _ _ _ _ (Has.head _ _ _ _))) (rd_g _ _ _ _ _ _) rfl) rfl ?_)
      exact ⟨_, _, rfl, blk_own (M4.has (.tail _ _ _ _ _ (Has.head _ _ _ _))) k3 (by rw [i64s_length]; exact hl2) (by unfold maxLen; omega), M4.below⟩
end Go.Proofs.YtallbegibdlpaaaGreat

/-
  A grid that is split: the code's.
-/
namespace Go.Proofs.YtallbegibdlpaaaGreat
open Go Go.RowKit Go.Th Go.Th.Grid Go.Th.Wide

set_option maxRecDepth 20000 in
set_option maxHeartbeats 1600000 in
theorem split14_no (x y s : Nat) (X Y : Int) (a : Option Addr) (n cap : Nat) (p : List Int) (hp : p.length = n) (hn : n ≤ 1000000) (hx : x ≤ 32) (hy : y ≤ 32) (hs : s < 32) (w : World) (hS : Sl w 1 (.slice a n cap) n (i64s p)) :
    Calls Tryz.prog 32 #[gv x y X Y s (.slice a n cap)] w (GRes x y X Y s n p 12 w) := by
  have hmx : ∀ (ts : Array TypeId) (t : TypeId) (wx : World), (Builtin.max_ ts t #[.int .i64 (x : Int), .int .i64 (y : Int)]).run Tryz.prog wx = .ok (.int .i64 ((max x y : Nat) : Int)) wx := by
    intro ts t wx
    by_cases h : x < y
    · have h1 : (x : Int) < (y : Int) := by omega
      have e : ((max x y : Nat) : Int) = (y : Int) := by omega
      rw [e]; simp [Builtin.max_, Builtin.max2, h1]
    · have h1 : ¬ ((x : Int) < (y : Int)) := by omega
      have e : ((max x y : Nat) : Int) = (x : Int) := by omega
      rw [e]; simp [Builtin.max_, Builtin.max2, h1]
  obtain ⟨mm, hmm⟩ : ∃ mm, mm = max x y := ⟨_, rfl⟩
  have hm32 : mm ≤ 32 := by omega
  rw [← hmm] at hmx
  clear hmm
  have C4 := Lib.hid (fun wx hs => itself_any x y X Y s a n cap p hp hn wx hs)
  have HS := Lib.hid hS
  clear hS hp
  (obtain ⟨w1, hw1⟩ : ∃ w1, w.alloc (.cells #[.int .i64 x, .int .i64 y, .int .i64 X, .int .i64 Y, .int .i64 s, .slice a n cap] 28) = w1 := ⟨_, rfl⟩; have M1 := (Mem.start w).alloc 28 (gc x y X Y s (.slice a n cap)); rw [show w.alloc (.cells (gc x y X Y s (.slice a n cap)).toArray 28) = w1 from hw1] at M1; obtain ⟨w2, hw2⟩ : ∃ w2, w1.alloc (.cells #[.int .i64 0, .int .i64 0, .int .i64 0, .int .i64 0, .int .i64 0, .slice none 0 0] 28) = w2 := ⟨_, rfl⟩; have M2 := M1.alloc 28 (gc 0 0 0 0 0 (.slice none 0 0)); rw [show w1.alloc (.cells (gc 0 0 0 0 0 (.slice none 0 0)).toArray 28) = w2 from hw2] at M2; have hsz : w1.heap.size = w.heap.size + 1 := (by rw [← hw1]; simp); have HW1 := Lib.hid hw1; have HW2 := Lib.hid hw2; clear hw1 hw2 M1)
  go_enter Tryz.func32, Tryz.ntmps32
  ((go_upto_region 1 with fail); rw [HW1.out, HW2.out, ← hsz]; clear HW1 HW2; obtain ⟨gB, hgB⟩ : ∃ gB, gB = w1.heap.size := ⟨_, rfl⟩; obtain ⟨gA, hgA⟩ : ∃ gA, gA = w.heap.size := ⟨_, rfl⟩; rw [← hgB] at M2 ⊢; rw [← hgA] at M2 ⊢; have hne : gA ≠ gB := (by omega); clear hgA hgB hsz)
  obtain ⟨c0, c1, c2, c3, c4, c5⟩ := gcells (M2.has (.tail _ _ _ _ _ (Has.head _ _ _ _)))
  go_wp2_with fail
  refine (C4.out _ (HS.out.below M2.below)).mono ?_
  rintro e w4 ⟨a4, cap4, rfl, ho4, hA⟩
  have hz3 := M2.below.size
  have M3 := M2.call hA
  clear c0 c1 c2 c3 c4 c5 hA
  go_wp2_with ((with_reducible refine (?_ : Go.wpList _ _ _ (_ :: _) _ _)); (first | go_skip | (refine wpL_stM (v := gv x y X Y s (.slice a4 n cap4)) M3 rfl rfl rfl rfl (wr_g _ _ _ _ _ _ _ _ _ _ _ _ _ _) (Upd.head _ _ _ _ _) ?_; intro w4 M4 hT4)))
  have ho5 := gown_turned ho4 (M3.has (Has.head _ _ _ _)) (by decide) hT4
  ((try simp only [Exit.inBlock, Exit.then]); refine bodyPost_ret (res_cell_tmp rfl M4 rfl (Has.head _ _ _ _) (rd_g _ _ _ _ _ _) rfl) rfl ?_)
  exact ⟨_, _, rfl, ownsRow_base ho5 hz3, M4.below⟩

set_option maxRecDepth 20000 in
set_option maxHeartbeats 6400000 in
theorem split14_yes (x y W2 H2 m d d2 s : Nat) (X Y NX NY : Int) (a : Option Addr) (n cap : Nat) (p : List Int) (hp : p.length = n) (hxy : n = x * y) (hsd : sdG x y = true) (hx : x ≤ 32) (hy : y ≤ 32) (hr : ∀ u ∈ p, 0 ≤ u ∧ u ≤ 1073741824)
    (hs : s = 4 * d) (hd : 8 ≤ d ∧ d ≤ 1024) (hd2 : d2 = 2 * d) (hX : -1000000000000 ≤ X ∧ X ≤ 1000000000000) (hY : -1000000000000 ≤ Y ∧ Y ≤ 1000000000000) (hW2 : W2 = 2 * x) (hH2 : H2 = 2 * y) (hm : m = H2 * W2) (hNX : X - (d : Int) = NX) (hNY : Y - (d : Int) = NY) (w : World) (hS : Sl w 1 (.slice a n cap) n (i64s p)) :
    Calls Tryz.prog 32 #[gv x y X Y s (.slice a n cap)] w (GRes W2 H2 NX NY d2 m (tab (splitAt4 p x) m) 0 w) := by
  obtain ⟨⟨q1, q2⟩, q3, q4⟩ := sdG_t hsd
  have hle : x * y ≤ 64 * 64 := Nat.mul_le_mul (by omega) (by omega)
  have hle2 : H2 * W2 ≤ 64 * 64 := Nat.mul_le_mul (by omega) (by omega)
  have wNX : IntKind.i64.wrap NX = NX := IntWalk.i64_in _ (by omega)
  have wNY : IntKind.i64.wrap NY = NY := IntWalk.i64_in _ (by omega)
  have wm : IntKind.i64.wrap (m : Int) = (m : Int) := IntWalk.i64_in _ (by omega)
  have wW2 : IntKind.i64.wrap (W2 : Int) = (W2 : Int) := IntWalk.i64_in _ (by omega)
  have wH2 : IntKind.i64.wrap (H2 : Int) = (H2 : Int) := IntWalk.i64_in _ (by omega)
  have wd1 : IntKind.i64.wrap (d : Int) = (d : Int) := IntWalk.i64_in _ (by omega)
  have wd2 : IntKind.i64.wrap (d2 : Int) = (d2 : Int) := IntWalk.i64_in _ (by omega)
  have eW2 : 2 * (x : Int) = (W2 : Int) := by omega
  have eH2 : 2 * (y : Int) = (H2 : Int) := by omega
  have es4 : (s : Int) / 4 = (d : Int) := by omega
  have es2 : (s : Int) / 2 = (d2 : Int) := by omega
  have esm : (s : Int) % 4 = 0 := by omega
  have hs1 : 32 ≤ s := by omega
  have hs2 : s ≤ 4096 := by omega
  have hmul2 : (W2 : Int) * (H2 : Int) = (m : Int) := by rw [hm, Nat.mul_comm]; simp
  have hm2 : m ≤ 4096 := by omega
  have hW64 : W2 ≤ 64 := by omega
  have hH64 : H2 ≤ 64 := by omega
  have hmx : ∀ (ts : Array TypeId) (t : TypeId) (wx : World), (Builtin.max_ ts t #[.int .i64 (x : Int), .int .i64 (y : Int)]).run Tryz.prog wx = .ok (.int .i64 ((max x y : Nat) : Int)) wx := by
    intro ts t wx
    by_cases h : x < y
    · have h1 : (x : Int) < (y : Int) := by omega
      have e : ((max x y : Nat) : Int) = (y : Int) := by omega
      rw [e]; simp [Builtin.max_, Builtin.max2, h1]
    · have h1 : ¬ ((x : Int) < (y : Int)) := by omega
      have e : ((max x y : Nat) : Int) = (x : Int) := by omega
      rw [e]; simp [Builtin.max_, Builtin.max2, h1]
  obtain ⟨mm, hmm⟩ : ∃ mm, mm = max x y := ⟨_, rfl⟩
  have hm32 : mm ≤ 32 := by omega
  rw [← hmm] at hmx
  clear hmm
  have C4 := shape_any x y X Y s a n cap (by omega)
  rw [shp_ok hsd hxy] at C4
  have CB := fun (ax ay : Int) wx hs => believed_any x y X Y s ax ay a n cap p hp hxy (by omega) (by omega) wx hs
  obtain ⟨f, hf⟩ : ∃ f, f = splitAt4 p x := ⟨_, rfl⟩
  rw [← hf]
  have hat : ∀ yy xx, yy < H2 → xx < W2 → yy * W2 + xx < m := fun yy xx h1 h2 => by rw [hm]; exact at_lt h2 h1
  have hval : ∀ yy xx : Nat, yy < H2 → xx < W2 → ∃ u, bel p x y ((xx / 2 : Nat) : Int) ((yy / 2 : Nat) : Int) = u ∧ u / 4 = f (yy * W2 + xx) ∧ 0 ≤ u ∧ u ≤ 1073741824 := by
    intro yy xx h1 h2
    have hb := bel_rng (M := 1073741824) (by rw [hp, hxy, Nat.mul_comm] : p.length = y * x) (by omega) hr ((xx / 2 : Nat) : Int) ((yy / 2 : Nat) : Int)
    refine ⟨_, rfl, ?_, hb⟩
    rw [bel_in p (by omega) (by omega), hf, hW2, splitAt4_at p yy (by omega)]
  have C4 := Lib.hid C4
  have CB := Lib.hid CB
  have HAT := Lib.hid hat
  have HVAL := Lib.hid hval
  have HM := Lib.hid hm
  have HL := Lib.hid (fun k => lay_length f k m)
  have HN := Lib.hid (fun k => lay_set f k m)
  have HS := Lib.hid hS
  have hlt : tab f m = lay f m m := (lay_n f m).symm
  rw [hlt]
  clear hf hat hval hm hS hp hxy hsd hle hle2 hlt hr hs hd hd2 hW2 hH2
  (obtain ⟨w1, hw1⟩ : ∃ w1, w.alloc (.cells #[.int .i64 x, .int .i64 y, .int .i64 X, .int .i64 Y, .int .i64 s, .slice a n cap] 28) = w1 := ⟨_, rfl⟩; have M1 := (Mem.start w).alloc 28 (gc x y X Y s (.slice a n cap)); rw [show w.alloc (.cells (gc x y X Y s (.slice a n cap)).toArray 28) = w1 from hw1] at M1; obtain ⟨w2, hw2⟩ : ∃ w2, w1.alloc (.cells #[.int .i64 0, .int .i64 0, .int .i64 0, .int .i64 0, .int .i64 0, .slice none 0 0] 28) = w2 := ⟨_, rfl⟩; have M2 := M1.alloc 28 (gc 0 0 0 0 0 (.slice none 0 0)); rw [show w1.alloc (.cells (gc 0 0 0 0 0 (.slice none 0 0)).toArray 28) = w2 from hw2] at M2; have hsz : w1.heap.size = w.heap.size + 1 := (by rw [← hw1]; simp); have HW1 := Lib.hid hw1; have HW2 := Lib.hid hw2; clear hw1 hw2 M1)
  go_enter Tryz.func32, Tryz.ntmps32
  ((go_upto_region 1 with fail); rw [HW1.out, HW2.out, ← hsz]; clear HW1 HW2; obtain ⟨gB, hgB⟩ : ∃ gB, gB = w1.heap.size := ⟨_, rfl⟩; obtain ⟨gA, hgA⟩ : ∃ gA, gA = w.heap.size := ⟨_, rfl⟩; rw [← hgB] at M2 ⊢; rw [← hgA] at M2 ⊢; have hne : gA ≠ gB := (by omega); clear hgA hgB hsz)
  obtain ⟨c0, c1, c2, c3, c4, c5⟩ := gcells (M2.has (.tail _ _ _ _ _ (Has.head _ _ _ _)))
  go_wp2_with fail
  refine (C4.out _).mono ?_
  rintro e w3 ⟨rfl, hA⟩
  have M3 := M2.call hA
  clear c0 c1 c2 c3 c4 c5 M2 hA C4 hmx
  obtain ⟨c0, c1, c2, c3, c4, c5⟩ := gcells (M3.has (.tail _ _ _ _ _ (Has.head _ _ _ _)))
  go_wp2_with fail
  go_quiet (fail)
  replace M3 := M3.drewN nq
  clear c0 c1 c2 c3 c4 c5
  obtain ⟨w9, hw9⟩ : ∃ w9, w9 = w3.drewN nq := ⟨_, rfl⟩
  rw [← hw9] at M3 ⊢
  clear hw9
  obtain ⟨c0, c1, c2, c3, c4, c5⟩ := gcells (M3.has (.tail _ _ _ _ _ (Has.head _ _ _ _)))
  go_upto_region 7 with fail
  go_cut [8] from 46 (fun s13 wx => ∃ gC B, s13 = .pointer (some ⟨gC, 0, none⟩) ∧ Mem w wx [(gC, 28, gc W2 H2 NX NY d2 (.slice (some ⟨B, 0, none⟩) m m)), (B, 2, i64s (lay f (0) m)), (gB, 28, gc 0 0 0 0 0 (.slice none 0 0)), (gA, 28, gc x y X Y s (.slice a n cap))])
  case first =>
    refine wp_region_held_drew (S := (fun w' : World => w'.cell? ⟨gA, 0, none⟩ = some (.int .i64 x) ∧ w'.cell? ⟨gA, 1, none⟩ = some (.int .i64 y) ∧ w'.cell? ⟨gA, 2, none⟩ = some (.int .i64 X) ∧ w'.cell? ⟨gA, 3, none⟩ = some (.int .i64 Y) ∧ w'.cell? ⟨gA, 4, none⟩ = some (.int .i64 s) ∧ w'.cell? ⟨gA, 5, none⟩ = some (.slice a n cap))) (by kernel_rfl) (⟨c0, c1, c2, c3, c4, c5⟩) (fun hHeld => ?_)
    refine wpAnyH_take (i := 0) (v := ?v117) rfl (by kernel_rfl) (by kernel_rfl) (by kernel_rfl) (fun _ _ _ h => h) (Or.inl ⟨by rfl, ?hy117⟩) hHeld ?rest117
    case hy117 => (intro w' hSw; (try dsimp only at hSw); go_simp; (try with_reducible rfl))
    try simp only [Act.put, puts]
    refine wpAnyH_take (i := 1) (v := ?v118) rfl (by kernel_rfl) (by kernel_rfl) (by kernel_rfl) (fun _ _ _ h => h) (Or.inl ⟨by rfl, ?hy118⟩) hHeld ?rest118
    case hy118 => (intro w' hSw; (try dsimp only at hSw); go_simp; (try with_reducible rfl))
    try simp only [Act.put, puts]
    refine wpAnyH_take (i := 2) (v := ?v119) rfl (by kernel_rfl) (by kernel_rfl) (by kernel_rfl) (fun _ _ _ h => h) (Or.inl ⟨by rfl, ?hy119⟩) hHeld ?rest119
    case hy119 => (intro w' hSw; (try dsimp only at hSw); go_simp; (try with_reducible rfl))
    try simp only [Act.put, puts]
    refine wpAnyH_take (i := 3) (v := ?v120) rfl (by kernel_rfl) (by kernel_rfl) (by kernel_rfl) (fun _ _ _ h => h) (Or.inl ⟨by rfl, ?hy120⟩) hHeld ?rest120
    case hy120 => (intro w' hSw; (try dsimp only at hSw); go_simp; (try with_reducible rfl))
    try simp only [Act.put, puts]
    refine wpAnyH_take (i := 4) (v := ?v121) rfl (by kernel_rfl) (by kernel_rfl) (by kernel_rfl) (fun _ _ _ h => h) (Or.inl ⟨by rfl, ?hy121⟩) hHeld ?rest121
    case hy121 => (intro w' hSw; (try dsimp only at hSw); go_simp; (try with_reducible rfl))
    try simp only [Act.put, puts]
    refine wpAnyH_take (i := 5) (v := ?v122) rfl (by kernel_rfl) (by kernel_rfl) (by kernel_rfl) (fun _ _ _ h => h) (Or.inl ⟨by rfl, ?hy122⟩) hHeld ?rest122
    case hy122 => (intro w' hSw; (try dsimp only at hSw); go_simp; (try with_reducible rfl))
    try simp only [Act.put, puts]
    refine wpAnyH_take (i := 6) (v := ?v123) rfl (by kernel_rfl) (by kernel_rfl) (by kernel_rfl) (fun _ _ _ h => h) (Or.inl ⟨by rfl, ?hy123⟩) hHeld ?rest123
    case hy123 => (intro w' hSw; (try dsimp only at hSw); go_simp; (try with_reducible rfl))
    try simp only [Act.put, puts]
    refine wpAnyH_take (i := 7) (v := ?v124) rfl (by kernel_rfl) (by kernel_rfl) (by kernel_rfl) (fun _ _ _ h => h) (Or.inl ⟨by rfl, ?hy124⟩) hHeld ?rest124
    case hy124 => (intro w' hSw; (try dsimp only at hSw); go_simp; (try with_reducible rfl))
    try simp only [Act.put, puts]
    refine wpAnyH_take (i := 8) (v := ?v125) rfl (by kernel_rfl) (by kernel_rfl) (by kernel_rfl) (fun _ _ _ h => h) (Or.inl ⟨by rfl, ?hy125⟩) hHeld ?rest125
    case hy125 => (intro w' hSw; (try dsimp only at hSw); go_simp; (try with_reducible rfl))
    try simp only [Act.put, puts]
    refine wpAnyH_take (i := 9) (v := ?v126) rfl (by kernel_rfl) (by kernel_rfl) (by kernel_rfl) (fun _ _ _ h => h) (Or.inl ⟨by rfl, ?hy126⟩) hHeld ?rest126
    case hy126 => (intro w' hSw; (try dsimp only at hSw); go_simp; (try with_reducible rfl))
    try simp only [Act.put, puts]
    refine wpAnyH_take (i := 10) (v := ?v127) rfl (by kernel_rfl) (by kernel_rfl) (by kernel_rfl) (fun _ _ _ h => h) (Or.inl ⟨by rfl, ?hy127⟩) hHeld ?rest127
    case hy127 => (intro w' hSw; (try dsimp only at hSw); go_simp; (try with_reducible rfl))
    try simp only [Act.put, puts]
    refine wpAnyH_take (i := 11) (v := ?v128) rfl (by kernel_rfl) (by kernel_rfl) (by kernel_rfl) (fun _ _ _ h => h) (Or.inl ⟨by rfl, ?hy128⟩) hHeld ?rest128
    case hy128 => (intro w' hSw; (try dsimp only at hSw); go_simp; (try with_reducible rfl))
    try simp only [Act.put, puts]
    refine wpAnyH_take (i := 12) (v := ?v129) rfl (by kernel_rfl) (by kernel_rfl) (by kernel_rfl) (fun _ _ _ h => h) (Or.inl ⟨by rfl, ?hy129⟩) hHeld ?rest129
    case hy129 => (intro w' hSw; (try dsimp only at hSw); go_simp; (try with_reducible rfl))
    try simp only [Act.put, puts]
    refine wpAnyH_take (i := 13) (v := ?v130) rfl (by kernel_rfl) (by kernel_rfl) (by kernel_rfl) (fun _ _ _ h => h) (Or.inl ⟨by rfl, ?hy130⟩) hHeld ?rest130
    case hy130 => (intro w' hSw; (try dsimp only at hSw); go_simp; (try with_reducible rfl))
    try simp only [Act.put, puts]
    refine wpAnyH_take (i := 14) (v := ?v131) rfl (by kernel_rfl) (by kernel_rfl) (by kernel_rfl) (fun _ _ _ h => h) (Or.inl ⟨by rfl, ?hy131⟩) hHeld ?rest131
    case hy131 => (intro w' hSw; (try dsimp only at hSw); go_simp; (try with_reducible rfl))
    try simp only [Act.put, puts]
    refine wpAnyH_take (i := 15) (v := ?v132) rfl (by kernel_rfl) (by kernel_rfl) (by kernel_rfl) (fun _ _ _ h => h) (Or.inl ⟨by rfl, ?hy132⟩) hHeld ?rest132
    case hy132 => (intro w' hSw; (try dsimp only at hSw); go_simp; (try with_reducible rfl))
    try simp only [Act.put, puts]
    have M0Z := M3.drew
    refine wpAnyH_ready (rs := [16, 18]) (by kernel_rfl) (by simp) ?_
    refine AllReadyH.cons rfl (fun K hK => ?ordA) (AllReadyH.cons rfl (fun K hK => ?ordB) AllReadyH.nil)
    case ordA =>
      rw [if_pos (by rfl)]
      refine wp_mkM M0Z run_mk64 rfl m rfl rfl (by omega) ?_
      intro B wB M1Z
      refine hK.out _ _ (gcells (M1Z.has (.tail _ _ _ _ _ (.tail _ _ _ _ _ (Has.head _ _ _ _))))) (fun hHeld => ?_)
      clear hK K
      try simp only [Act.put, puts]
      refine wpAnyH_take (i := 17) (v := ?v133) rfl (by kernel_rfl) (by kernel_rfl) (by kernel_rfl) (fun _ _ _ h => h) (Or.inl ⟨by rfl, ?hy133⟩) hHeld ?rest133
      case hy133 => (intro w' hSw; (try dsimp only at hSw); go_simp; (try with_reducible rfl))
      try simp only [Act.put, puts]
      refine wpAnyH_ready (rs := [18]) (by kernel_rfl) (by simp) ?_
      refine AllReadyH.cons rfl (fun K hK => ?_) AllReadyH.nil
      rw [if_pos (by rfl)]
      refine wp_al M1Z rfl zeroG rfl ?_
      intro gC wC M2Z
      refine hK.out _ _ (gcells (M2Z.has (.tail _ _ _ _ _ (.tail _ _ _ _ _ (.tail _ _ _ _ _ (Has.head _ _ _ _)))))) (fun hHeld => ?_)
      clear hK K
      try simp only [Act.put, puts]
      refine wpAnyH_ready (rs := [19]) (by kernel_rfl) (by simp) ?_
      refine AllReadyH.cons rfl (fun K hK => ?_) AllReadyH.nil
      rw [if_pos (by rfl)]
      refine wp_stM (v := gv W2 H2 NX NY d2 (.slice (some ⟨B, 0, none⟩) m m)) M2Z rfl rfl rfl (wr_g _ _ _ _ _ _ _ _ _ _ _ _ _ _) (Upd.head _ _ _ _ _) ?_
      intro wZ MZ _
      refine hK.out _ _ (gcells (MZ.has (.tail _ _ _ _ _ (.tail _ _ _ _ _ (.tail _ _ _ _ _ (Has.head _ _ _ _)))))) (fun hHeld => ?_)
      clear hK K
      try simp only [Act.put, puts]
      refine wpAnyH_done (by kernel_rfl) ?_ _
      go_wp2_with fail
      go_meet
      exact ⟨gC, B, rfl, by rw [lay_0, ← i64s_rep]; exact MZ⟩
    case ordB =>
      rw [if_pos (by rfl)]
      refine wp_al M0Z rfl zeroG rfl ?_
      intro gC wC M1Z
      refine hK.out _ _ (gcells (M1Z.has (.tail _ _ _ _ _ (.tail _ _ _ _ _ (Has.head _ _ _ _))))) (fun hHeld => ?_)
      clear hK K
      try simp only [Act.put, puts]
      refine wpAnyH_ready (rs := [16]) (by kernel_rfl) (by simp) ?_
      refine AllReadyH.cons rfl (fun K hK => ?_) AllReadyH.nil
      rw [if_pos (by rfl)]
      refine wp_mkM M1Z run_mk64 rfl m rfl rfl (by omega) ?_
      intro B wB M2Z
      refine hK.out _ _ (gcells (M2Z.has (.tail _ _ _ _ _ (.tail _ _ _ _ _ (.tail _ _ _ _ _ (Has.head _ _ _ _)))))) (fun hHeld => ?_)
      clear hK K
      try simp only [Act.put, puts]
      refine wpAnyH_take (i := 17) (v := ?v134) rfl (by kernel_rfl) (by kernel_rfl) (by kernel_rfl) (fun _ _ _ h => h) (Or.inl ⟨by rfl, ?hy134⟩) hHeld ?rest134
      case hy134 => (intro w' hSw; (try dsimp only at hSw); go_simp; (try with_reducible rfl))
      try simp only [Act.put, puts]
      refine wpAnyH_ready (rs := [19]) (by kernel_rfl) (by simp) ?_
      refine AllReadyH.cons rfl (fun K hK => ?_) AllReadyH.nil
      rw [if_pos (by rfl)]
      refine wp_stM (v := gv W2 H2 NX NY d2 (.slice (some ⟨B, 0, none⟩) m m)) M2Z rfl rfl rfl (wr_g _ _ _ _ _ _ _ _ _ _ _ _ _ _) (.tail _ _ _ _ _ _ _ (Upd.head _ _ _ _ _)) ?_
      intro wZ MZ _
      refine hK.out _ _ (gcells (MZ.has (.tail _ _ _ _ _ (.tail _ _ _ _ _ (.tail _ _ _ _ _ (Has.head _ _ _ _)))))) (fun hHeld => ?_)
      clear hK K
      try simp only [Act.put, puts]
      refine wpAnyH_done (by kernel_rfl) ?_ _
      go_wp2_with fail
      go_meet
      exact ⟨gC, B, rfl, by rw [lay_0, ← i64s_rep]; exact mem_swap MZ⟩
  clear c0 c1 c2 c3 c4 c5 M3
  obtain ⟨gC, B, rfl, M⟩ := hcut
  have M5' : Mem w wc [(gC, 28, gc W2 H2 NX NY d2 (.slice (some ⟨B, 0, none⟩) m m)), (B, 2, i64s (lay f (0 * W2) m)), (gB, 28, gc 0 0 0 0 0 (.slice none 0 0)), (gA, 28, gc x y X Y s (.slice a n cap))] := by rw [Nat.zero_mul]; exact M
  clear M
  go_wp2_with fail
  go_loopw [65] (fun c wx => ∃ yy : Nat, yy ≤ H2 ∧ c = .int .i64 yy ∧ Mem w wx [(gC, 28, gc W2 H2 NX NY d2 (.slice (some ⟨B, 0, none⟩) m m)), (B, 2, i64s (lay f (yy * W2) m)), (gB, 28, gc 0 0 0 0 0 (.slice none 0 0)), (gA, 28, gc x y X Y s (.slice a n cap))]) (fun c _ => H2 - (intOf c).toNat)
  case atStart => exact ⟨0, Nat.zero_le _, rfl, M5'⟩
  case round =>
    clear M5'
    obtain ⟨yy, hyy, rfl, M⟩ := hrel
    by_cases hlt : yy < H2
    · obtain ⟨k0, hk0⟩ : ∃ k0, k0 = yy * W2 := ⟨_, rfl⟩
      have hk1 : (yy + 1) * W2 = k0 + W2 := by rw [hk0, Nat.succ_mul]
      have hmul : (yy : Int) * (W2 : Int) = (k0 : Int) := by rw [hk0]; simp
      have hfit := fun xx (h : xx < W2) => HAT.out yy xx hlt h
      have hV := fun xx (h : xx < W2) => HVAL.out yy xx hlt h
      rw [← hk0] at M hfit hV
      have hk0n : k0 ≤ 4096 := by
        have := Nat.mul_le_mul (Nat.le_of_lt hlt) (Nat.le_refl W2)
        rw [← HM.out, ← hk0] at this
        omega
      obtain ⟨j2, hj2⟩ : ∃ j2, j2 = yy / 2 := ⟨_, rfl⟩
      rw [← hj2] at hV
      have ej2 : (yy : Int) / 2 = (j2 : Int) := by omega
      have wj2 : IntKind.i64.wrap (j2 : Int) = (j2 : Int) := IntWalk.i64_in _ (by omega)
      have HFIT := Lib.hid hfit
      have HV := Lib.hid hV
      have HK1 := Lib.hid hk1
      have hqw : IntKind.i64.wrap (k0 : Int) = (k0 : Int) := IntWalk.i64_in _ (by omega)
      clear hk0 hk1 hfit hV hj2
      go_wp2_with fail
      go_loopw [69] (fun c wx => ∃ xx : Nat, xx ≤ W2 ∧ c = .int .i64 xx ∧ Mem w wx [(gC, 28, gc W2 H2 NX NY d2 (.slice (some ⟨B, 0, none⟩) m m)), (B, 2, i64s (lay f (k0 + xx) m)), (gB, 28, gc 0 0 0 0 0 (.slice none 0 0)), (gA, 28, gc x y X Y s (.slice a n cap))]) (fun c _ => W2 - (intOf c).toNat)
      case atStart => exact ⟨0, Nat.zero_le _, rfl, M⟩
      case round =>
        clear M
        obtain ⟨xx, hxx, rfl, M⟩ := hrel
        by_cases hlt2 : xx < W2
        · obtain ⟨c0, c1, c2, c3, c4, c5⟩ := gcells (M.has (.tail _ _ _ _ _ (.tail _ _ _ _ _ (.tail _ _ _ _ _ (Has.head _ _ _ _)))))
          have d5 := M.cell (Has.head _ _ _ _) (i := 5) rfl
          have hkn := HFIT.out xx hlt2
          obtain ⟨u', hu, hu4, hu0, hu1⟩ := HV.out xx hlt2
          obtain ⟨u, rfl⟩ := Int.eq_ofNat_of_zero_le hu0
          obtain ⟨i2, hi2⟩ : ∃ i2, i2 = xx / 2 := ⟨_, rfl⟩
          rw [← hi2] at hu
          have HCx := CB.out (i2 : Int) (j2 : Int)
          rw [hu] at HCx
          have ei2 : (xx : Int) / 2 = (i2 : Int) := by omega
          have wi2 : IntKind.i64.wrap (i2 : Int) = (i2 : Int) := IntWalk.i64_in _ (by omega)
          obtain ⟨k, hk⟩ : ∃ k, k = k0 + xx := ⟨_, rfl⟩
          rw [← hk] at hkn hu4 M
          have hs1 : IntKind.i64.wrap ((k0 : Int) + (xx : Int)) = (k : Int) := by
            have := IntWalk.i64_in (k : Int) (by omega)
            rw [hk] at this ⊢
            simpa using this
          have hkw : IntKind.i64.wrap (k : Int) = (k : Int) := IntWalk.i64_in _ (by omega)
          have hfw : IntKind.i64.wrap (f k) = f k := IntWalk.i64_in _ (by omega)
          have HK := Lib.hid hk
          have HCx := Lib.hid HCx
          have hN := HN.out k hkn
          have HNk := Lib.hid hN
          have hll := HL.out k (by omega)
          clear hk hN hu hi2
          go_wp2_with fail
          refine wp_region_held_drew (S := (fun w' : World => w'.cell? ⟨gC, 5, none⟩ = some (.slice (some ⟨B, 0, none⟩) m m) ∧ w'.cell? ⟨gA, 0, none⟩ = some (.int .i64 x) ∧ w'.cell? ⟨gA, 1, none⟩ = some (.int .i64 y) ∧ w'.cell? ⟨gA, 2, none⟩ = some (.int .i64 X) ∧ w'.cell? ⟨gA, 3, none⟩ = some (.int .i64 Y) ∧ w'.cell? ⟨gA, 4, none⟩ = some (.int .i64 s) ∧ w'.cell? ⟨gA, 5, none⟩ = some (.slice a n cap))) (by kernel_rfl) (⟨d5, c0, c1, c2, c3, c4, c5⟩) (fun hHeld => ?_)
          refine tkT 0 ?v135 ?hy135 hHeld ?rest135
          case hy135 => (intro w' hSw; (try dsimp only at hSw); go_simp; (try with_reducible rfl))
          try simp only [Act.put, puts]
          refine tkT 1 ?v136 ?hy136 hHeld ?rest136
          case hy136 => (intro w' hSw; (try dsimp only at hSw); go_simp; (try with_reducible rfl))
          try simp only [Act.put, puts]
          refine tkT 2 ?v137 ?hy137 hHeld ?rest137
          case hy137 => (intro w' hSw; (try dsimp only at hSw); go_simp; (try with_reducible rfl))
          try simp only [Act.put, puts]
          refine tkT 3 ?v138 ?hy138 hHeld ?rest138
          case hy138 => (intro w' hSw; (try dsimp only at hSw); go_simp; (try with_reducible rfl))
          try simp only [Act.put, puts]
          refine tkT 4 ?v139 ?hy139 hHeld ?rest139
          case hy139 => (intro w' hSw; (try dsimp only at hSw); go_simp; (try with_reducible rfl))
          try simp only [Act.put, puts]
          refine tkT 5 ?v140 ?hy140 hHeld ?rest140
          case hy140 => (intro w' hSw; (try dsimp only at hSw); go_simp; (try with_reducible rfl))
          try simp only [Act.put, puts]
          refine tkT 6 ?v141 ?hy141 hHeld ?rest141
          case hy141 => (intro w' hSw; (try dsimp only at hSw); go_simp; (try with_reducible rfl))
          try simp only [Act.put, puts]
          refine tkT 7 ?v142 ?hy142 hHeld ?rest142
          case hy142 => (intro w' hSw; (try dsimp only at hSw); go_simp; (try with_reducible rfl))
          try simp only [Act.put, puts]
          refine tkT 8 ?v143 ?hy143 hHeld ?rest143
          case hy143 => (intro w' hSw; (try dsimp only at hSw); go_simp; (try with_reducible rfl))
          try simp only [Act.put, puts]
          refine tkT 9 ?v144 ?hy144 hHeld ?rest144
          case hy144 => (intro w' hSw; (try dsimp only at hSw); go_simp; (try with_reducible rfl))
          try simp only [Act.put, puts]
          refine tkT 10 ?v145 ?hy145 hHeld ?rest145
          case hy145 => (intro w' hSw; (try dsimp only at hSw); go_simp; (try with_reducible rfl))
          try simp only [Act.put, puts]
          refine tkT 11 ?v146 ?hy146 hHeld ?rest146
          case hy146 => (intro w' hSw; (try dsimp only at hSw); go_simp; (try with_reducible rfl))
          try simp only [Act.put, puts]
          refine wpAnyH_ready (rs := [12]) (by kernel_rfl) (by simp) ?_
          refine AllReadyH.cons rfl (fun K hK => ?_) AllReadyH.nil
          go_simp
          refine (HCx.out _ (HS.out.below M.drew.below)).mono ?_
          rintro e w6 ⟨rfl, hA⟩
          have M6 := M.drew.call hA
          obtain ⟨u0, hu0⟩ : ∃ u0, w6.cell? ⟨B, k, none⟩ = some (.int .i64 u0) := ⟨_, M6.cell (.tail _ _ _ _ _ (Has.head _ _ _ _)) (i64s_at _ k (by rw [hll]; exact hkn))⟩
          have hf0 := M6.free (.tail _ _ _ _ _ (Has.head _ _ _ _)) k
          try go_wp2_with fail
          refine hK.out _ _ (⟨M6.cell (Has.head _ _ _ _) (i := 5) rfl, gcells (M6.has (.tail _ _ _ _ _ (.tail _ _ _ _ _ (.tail _ _ _ _ _ (Has.head _ _ _ _)))))⟩) (fun hHeld => ?_)
          clear hK K
          try simp only [Act.put, puts]
          refine tkT 13 ?v148 ?hy148 hHeld ?rest148
          case hy148 => (intro w' hSw; (try dsimp only at hSw); go_simp; (try with_reducible rfl))
          try simp only [Act.put, puts]
          refine tkT 14 ?v149 ?hy149 hHeld ?rest149
          case hy149 => (intro w' hSw; (try dsimp only at hSw); go_simp; (try with_reducible rfl))
          try simp only [Act.put, puts]
          refine wpAnyH_ready (rs := [15]) (by kernel_rfl) (by simp) ?_
          refine AllReadyH.cons rfl (fun K hK => ?_) AllReadyH.nil
          go_simp
          have M7 := M6.set k (.int .i64 (f k)) (.tail _ _ _ _ _ _ _ (Upd.head _ _ _ _ _)) (by rw [i64s_length, hll]; exact hkn)
          try go_wp2_with fail
          refine hK.out _ _ (⟨M7.cell (Has.head _ _ _ _) (i := 5) rfl, gcells (M7.has (.tail _ _ _ _ _ (.tail _ _ _ _ _ (.tail _ _ _ _ _ (Has.head _ _ _ _)))))⟩) (fun hHeld => ?_)
          clear hK K
          try simp only [Act.put, puts]
          refine wpAnyH_done (by kernel_rfl) ?_ _
          rw [i64s_set, HNk.out] at M7
          clear c0 c1 c2 c3 c4 c5 d5 M M6 hf0 hA
          go_wp2_with fail
          go_roundw
          case rel => exact ⟨xx + 1, by omega, by go_num, by rw [← Nat.add_assoc, ← HK.out]; exact M7⟩
          case measure => simp [intOf]; omega
        · have e : k0 + xx = (yy + 1) * W2 := by rw [HK1.out]; omega
          rw [e] at M
          clear e
          go_wp2_with fail
          go_roundw
          case rel => exact ⟨yy + 1, by omega, by go_num, M⟩
          case measure => simp [intOf]; omega
    · have e : yy * W2 = m := by rw [HM.out]; congr 1; omega
      rw [e] at M
      have M3 := M
      have hl2 := HL.out m (Nat.le_refl _)
      have k3 := M3.from (.tail _ _ _ _ _ (Has.head _ _ _ _))
      clear M e
      obtain ⟨c0, c1, c2, c3, c4, c5⟩ := gcells (M3.has (Has.head _ _ _ _))
      go_wp2_with ((with_reducible refine (?_ : Go.wpList _ _ _ (_ :: _) _ _)); (first | go_skip | (refine wpL_stM (v := gv W2 H2 NX NY d2 (.slice (some ⟨B, 0, none⟩) m m)) M3 rfl rfl rfl rfl (wr_g _ _ _ _ _ _ _ _ _ _ _ _ _ _) (.tail _ _ _ _ _ _ _ (.tail _ _ _ _ _ _ _ (Upd.head _ _ _ _ _))) ?_; intro w4 M4 hT4)))
      ((try simp only [Exit.inBlock, Exit.then]); refine bodyPost_ret (res_cell_tmp rfl M4 rfl (.tail _ _ _ _ _ (.tail _ _ _ _ _ (Has.head _ _ _ _))) (rd_g _ _ _ _ _ _) rfl) rfl ?_)
      exact ⟨_, _, rfl, blk_own (M4.has (.tail _ _ _ _ _ (Has.head _ _ _ _))) k3 (by rw [i64s_length]; exact hl2) (by unfold maxLen; omega), M4.below⟩
end Go.Proofs.YtallbegibdlpaaaGreat

/-
  A grid that is joined: the code's.
-/
namespace Go.Th.Grid
theorem tab_const (c : Int) : ∀ n, tab (fun _ => c) n = List.replicate n c
  | 0 => rfl
  | n + 1 => by rw [tab, tab_const c n, List.replicate_succ']
theorem tab_acc0 (p : List Int) (w m : Nat) : tab (acc p w 0) m = List.replicate m 0 := tab_const 0 m
end Go.Th.Grid
namespace Go.Proofs.YtallbegibdlpaaaGreat
open Go Go.RowKit Go.Th Go.Th.Grid Go.Th.Wide

set_option maxRecDepth 20000 in
set_option maxHeartbeats 1600000 in
theorem join14_odd (x y s : Nat) (X Y : Int) (a : Option Addr) (n cap : Nat) (p : List Int) (hp : p.length = n) (hn : n ≤ 1000000) (hx64 : x ≤ 64) (hx : x % 2 = 1) (w : World) (hS : Sl w 1 (.slice a n cap) n (i64s p)) :
    Calls Tryz.prog 34 #[gv x y X Y s (.slice a n cap)] w (GRes x y X Y s n p 12 w) := by
  have hx0 : ((x : Int) % 2) = 1 := by omega
  have C4 := Lib.hid (fun wx hs => itself_any x y X Y s a n cap p hp hn wx hs)
  have HS := Lib.hid hS
  clear hS hp
  (obtain ⟨w1, hw1⟩ : ∃ w1, w.alloc (.cells #[.int .i64 x, .int .i64 y, .int .i64 X, .int .i64 Y, .int .i64 s, .slice a n cap] 28) = w1 := ⟨_, rfl⟩; have M1 := (Mem.start w).alloc 28 (gc x y X Y s (.slice a n cap)); rw [show w.alloc (.cells (gc x y X Y s (.slice a n cap)).toArray 28) = w1 from hw1] at M1; obtain ⟨w2, hw2⟩ : ∃ w2, w1.alloc (.cells #[.int .i64 0, .int .i64 0, .int .i64 0, .int .i64 0, .int .i64 0, .slice none 0 0] 28) = w2 := ⟨_, rfl⟩; have M2 := M1.alloc 28 (gc 0 0 0 0 0 (.slice none 0 0)); rw [show w1.alloc (.cells (gc 0 0 0 0 0 (.slice none 0 0)).toArray 28) = w2 from hw2] at M2; have hsz : w1.heap.size = w.heap.size + 1 := (by rw [← hw1]; simp); have HW1 := Lib.hid hw1; have HW2 := Lib.hid hw2; clear hw1 hw2 M1)
  go_enter Tryz.func34, Tryz.ntmps34
  ((go_upto_region 1 with fail); rw [HW1.out, HW2.out, ← hsz]; clear HW1 HW2; obtain ⟨gB, hgB⟩ : ∃ gB, gB = w1.heap.size := ⟨_, rfl⟩; obtain ⟨gA, hgA⟩ : ∃ gA, gA = w.heap.size := ⟨_, rfl⟩; rw [← hgB] at M2 ⊢; rw [← hgA] at M2 ⊢; have hne : gA ≠ gB := (by omega); clear hgA hgB hsz)
  obtain ⟨c0, c1, c2, c3, c4, c5⟩ := gcells (M2.has (.tail _ _ _ _ _ (Has.head _ _ _ _)))
  go_wp2_with fail
  refine (C4.out _ (HS.out.below M2.below)).mono ?_
  rintro e w4 ⟨a4, cap4, rfl, ho4, hA⟩
  have hz3 := M2.below.size
  have M3 := M2.call hA
  clear c0 c1 c2 c3 c4 c5 hA
  go_wp2_with ((with_reducible refine (?_ : Go.wpList _ _ _ (_ :: _) _ _)); (first | go_skip | (refine wpL_stM (v := gv x y X Y s (.slice a4 n cap4)) M3 rfl rfl rfl rfl (wr_g _ _ _ _ _ _ _ _ _ _ _ _ _ _) (Upd.head _ _ _ _ _) ?_; intro w4 M4 hT4)))
  have ho5 := gown_turned ho4 (M3.has (Has.head _ _ _ _)) (by decide) hT4
  ((try simp only [Exit.inBlock, Exit.then]); refine bodyPost_ret (res_cell_tmp rfl M4 rfl (Has.head _ _ _ _) (rd_g _ _ _ _ _ _) rfl) rfl ?_)
  exact ⟨_, _, rfl, ownsRow_base ho5 hz3, M4.below⟩

set_option maxRecDepth 20000 in
set_option maxHeartbeats 1600000 in
theorem join14_odd2 (x y s : Nat) (X Y : Int) (a : Option Addr) (n cap : Nat) (p : List Int) (hp : p.length = n) (hn : n ≤ 1000000) (hx64 : x ≤ 64) (hy64 : y ≤ 64) (hx : x % 2 = 0) (hy : y % 2 = 1) (w : World) (hS : Sl w 1 (.slice a n cap) n (i64s p)) :
    Calls Tryz.prog 34 #[gv x y X Y s (.slice a n cap)] w (GRes x y X Y s n p 12 w) := by
  have hx0 : ((x : Int) % 2) = 0 := by omega
  have hy0 : ((y : Int) % 2) = 1 := by omega
  have C4 := Lib.hid (fun wx hs => itself_any x y X Y s a n cap p hp hn wx hs)
  have HS := Lib.hid hS
  clear hS hp
  (obtain ⟨w1, hw1⟩ : ∃ w1, w.alloc (.cells #[.int .i64 x, .int .i64 y, .int .i64 X, .int .i64 Y, .int .i64 s, .slice a n cap] 28) = w1 := ⟨_, rfl⟩; have M1 := (Mem.start w).alloc 28 (gc x y X Y s (.slice a n cap)); rw [show w.alloc (.cells (gc x y X Y s (.slice a n cap)).toArray 28) = w1 from hw1] at M1; obtain ⟨w2, hw2⟩ : ∃ w2, w1.alloc (.cells #[.int .i64 0, .int .i64 0, .int .i64 0, .int .i64 0, .int .i64 0, .slice none 0 0] 28) = w2 := ⟨_, rfl⟩; have M2 := M1.alloc 28 (gc 0 0 0 0 0 (.slice none 0 0)); rw [show w1.alloc (.cells (gc 0 0 0 0 0 (.slice none 0 0)).toArray 28) = w2 from hw2] at M2; have hsz : w1.heap.size = w.heap.size + 1 := (by rw [← hw1]; simp); have HW1 := Lib.hid hw1; have HW2 := Lib.hid hw2; clear hw1 hw2 M1)
  go_enter Tryz.func34, Tryz.ntmps34
  ((go_upto_region 1 with fail); rw [HW1.out, HW2.out, ← hsz]; clear HW1 HW2; obtain ⟨gB, hgB⟩ : ∃ gB, gB = w1.heap.size := ⟨_, rfl⟩; obtain ⟨gA, hgA⟩ : ∃ gA, gA = w.heap.size := ⟨_, rfl⟩; rw [← hgB] at M2 ⊢; rw [← hgA] at M2 ⊢; have hne : gA ≠ gB := (by omega); clear hgA hgB hsz)
  obtain ⟨c0, c1, c2, c3, c4, c5⟩ := gcells (M2.has (.tail _ _ _ _ _ (Has.head _ _ _ _)))
  go_wp2_with fail
  refine (C4.out _ (HS.out.below M2.below)).mono ?_
  rintro e w4 ⟨a4, cap4, rfl, ho4, hA⟩
  have hz3 := M2.below.size
  have M3 := M2.call hA
  clear c0 c1 c2 c3 c4 c5 hA
  go_wp2_with ((with_reducible refine (?_ : Go.wpList _ _ _ (_ :: _) _ _)); (first | go_skip | (refine wpL_stM (v := gv x y X Y s (.slice a4 n cap4)) M3 rfl rfl rfl rfl (wr_g _ _ _ _ _ _ _ _ _ _ _ _ _ _) (Upd.head _ _ _ _ _) ?_; intro w4 M4 hT4)))
  have ho5 := gown_turned ho4 (M3.has (Has.head _ _ _ _)) (by decide) hT4
  ((try simp only [Exit.inBlock, Exit.then]); refine bodyPost_ret (res_cell_tmp rfl M4 rfl (Has.head _ _ _ _) (rd_g _ _ _ _ _ _) rfl) rfl ?_)
  exact ⟨_, _, rfl, ownsRow_base ho5 hz3, M4.below⟩

set_option maxRecDepth 20000 in
set_option maxHeartbeats 1600000 in
theorem join14_far (x y s : Nat) (X Y : Int) (a : Option Addr) (n cap : Nat) (p : List Int) (hp : p.length = n) (hn : n ≤ 1000000) (hx64 : x ≤ 64) (hy64 : y ≤ 64) (hx : x % 2 = 0) (hy : y % 2 = 0) (hs : 2048 < s) (w : World) (hS : Sl w 1 (.slice a n cap) n (i64s p)) :
    Calls Tryz.prog 34 #[gv x y X Y s (.slice a n cap)] w (GRes x y X Y s n p 12 w) := by
  have hx0 : ((x : Int) % 2) = 0 := by omega
  have hy0 : ((y : Int) % 2) = 0 := by omega
  have C4 := Lib.hid (fun wx hs => itself_any x y X Y s a n cap p hp hn wx hs)
  have HS := Lib.hid hS
  clear hS hp
  (obtain ⟨w1, hw1⟩ : ∃ w1, w.alloc (.cells #[.int .i64 x, .int .i64 y, .int .i64 X, .int .i64 Y, .int .i64 s, .slice a n cap] 28) = w1 := ⟨_, rfl⟩; have M1 := (Mem.start w).alloc 28 (gc x y X Y s (.slice a n cap)); rw [show w.alloc (.cells (gc x y X Y s (.slice a n cap)).toArray 28) = w1 from hw1] at M1; obtain ⟨w2, hw2⟩ : ∃ w2, w1.alloc (.cells #[.int .i64 0, .int .i64 0, .int .i64 0, .int .i64 0, .int .i64 0, .slice none 0 0] 28) = w2 := ⟨_, rfl⟩; have M2 := M1.alloc 28 (gc 0 0 0 0 0 (.slice none 0 0)); rw [show w1.alloc (.cells (gc 0 0 0 0 0 (.slice none 0 0)).toArray 28) = w2 from hw2] at M2; have hsz : w1.heap.size = w.heap.size + 1 := (by rw [← hw1]; simp); have HW1 := Lib.hid hw1; have HW2 := Lib.hid hw2; clear hw1 hw2 M1)
  go_enter Tryz.func34, Tryz.ntmps34
  ((go_upto_region 1 with fail); rw [HW1.out, HW2.out, ← hsz]; clear HW1 HW2; obtain ⟨gB, hgB⟩ : ∃ gB, gB = w1.heap.size := ⟨_, rfl⟩; obtain ⟨gA, hgA⟩ : ∃ gA, gA = w.heap.size := ⟨_, rfl⟩; rw [← hgB] at M2 ⊢; rw [← hgA] at M2 ⊢; have hne : gA ≠ gB := (by omega); clear hgA hgB hsz)
  obtain ⟨c0, c1, c2, c3, c4, c5⟩ := gcells (M2.has (.tail _ _ _ _ _ (Has.head _ _ _ _)))
  go_wp2_with fail
  refine (C4.out _ (HS.out.below M2.below)).mono ?_
  rintro e w4 ⟨a4, cap4, rfl, ho4, hA⟩
  have hz3 := M2.below.size
  have M3 := M2.call hA
  clear c0 c1 c2 c3 c4 c5 hA
  go_wp2_with ((with_reducible refine (?_ : Go.wpList _ _ _ (_ :: _) _ _)); (first | go_skip | (refine wpL_stM (v := gv x y X Y s (.slice a4 n cap4)) M3 rfl rfl rfl rfl (wr_g _ _ _ _ _ _ _ _ _ _ _ _ _ _) (Upd.head _ _ _ _ _) ?_; intro w4 M4 hT4)))
  have ho5 := gown_turned ho4 (M3.has (Has.head _ _ _ _)) (by decide) hT4
  ((try simp only [Exit.inBlock, Exit.then]); refine bodyPost_ret (res_cell_tmp rfl M4 rfl (Has.head _ _ _ _) (rd_g _ _ _ _ _ _) rfl) rfl ?_)
  exact ⟨_, _, rfl, ownsRow_base ho5 hz3, M4.below⟩

set_option maxRecDepth 20000 in
set_option maxHeartbeats 6400000 in
theorem join14_yes (x y u v m d d2 s : Nat) (X Y NX NY : Int) (a : Option Addr) (n cap : Nat) (p : List Int) (hp : p.length = n) (hxy : n = x * y) (hsd : sdG x y = true) (hr : ∀ u ∈ p, 0 ≤ u ∧ u ≤ 1073741824)
    (hxu : x = 2 * u) (hyv : y = 2 * v) (hs : s = 2 * d) (hd : d ≤ 1024) (hd2 : d2 = 4 * d) (hX : -1000000000000 ≤ X ∧ X ≤ 1000000000000) (hY : -1000000000000 ≤ Y ∧ Y ≤ 1000000000000) (hm : m = v * u) (hNX : X + (d : Int) = NX) (hNY : Y + (d : Int) = NY) (w : World) (hS : Sl w 1 (.slice a n cap) n (i64s p)) :
    Calls Tryz.prog 34 #[gv x y X Y s (.slice a n cap)] w (GRes u v NX NY d2 m (tab (joinAt p x) m) 0 w) := by
  obtain ⟨⟨q1, q2⟩, q3, q4⟩ := sdG_t hsd
  have hle : x * y ≤ 64 * 64 := Nat.mul_le_mul (by omega) (by omega)
  have hle2 : v * u ≤ 64 * 64 := Nat.mul_le_mul (by omega) (by omega)
  have wNX : IntKind.i64.wrap NX = NX := IntWalk.i64_in _ (by omega)
  have wNY : IntKind.i64.wrap NY = NY := IntWalk.i64_in _ (by omega)
  have wm : IntKind.i64.wrap (m : Int) = (m : Int) := IntWalk.i64_in _ (by omega)
  have wu : IntKind.i64.wrap (u : Int) = (u : Int) := IntWalk.i64_in _ (by omega)
  have wv : IntKind.i64.wrap (v : Int) = (v : Int) := IntWalk.i64_in _ (by omega)
  have wd1 : IntKind.i64.wrap (d : Int) = (d : Int) := IntWalk.i64_in _ (by omega)
  have wd2 : IntKind.i64.wrap (d2 : Int) = (d2 : Int) := IntWalk.i64_in _ (by omega)
  have eu : (x : Int) / 2 = (u : Int) := by omega
  have ev : (y : Int) / 2 = (v : Int) := by omega
  have es2 : (s : Int) / 2 = (d : Int) := by omega
  have ed2 : 2 * (s : Int) = (d2 : Int) := by omega
  have exm : (x : Int) % 2 = 0 := by omega
  have eym : (y : Int) % 2 = 0 := by omega
  have hs2 : s ≤ 2048 := by omega
  have hmul2 : (u : Int) * (v : Int) = (m : Int) := by rw [hm, Nat.mul_comm]; simp
  have hm2 : m ≤ 4096 := by omega
  have hn2 : n ≤ 4096 := by omega
  have C4 := shape_any x y X Y s a n cap (by omega)
  rw [shp_ok hsd hxy] at C4
  have CB := fun (ax ay : Int) wx hs => believed_any x y X Y s ax ay a n cap p hp hxy (by omega) (by omega) wx hs
  have hpl : p.length = y * x := by rw [hp, hxy, Nat.mul_comm]
  obtain ⟨A, hA⟩ : ∃ A, A = acc p x := ⟨_, rfl⟩
  have hfin : tab (joinAt p x) m = tab (A (y * x)) m := by
    rw [hA, hm]
    refine tab_congr _ (fun k hk => ?_)
    rw [hxu, hyv]
    exact (acc_all p u v k hk).symm
  rw [hfin]
  have hA0 : tab (A 0) m = List.replicate m 0 := by rw [hA]; exact tab_acc0 p x m
  have hat : ∀ yy xx, yy < y → xx < x → yy * x + xx < n := fun yy xx h1 h2 => by rw [hxy, Nat.mul_comm x y]; exact at_lt h2 h1
  have hstep : ∀ yy xx : Nat, yy < y → xx < x → ∃ u1, bel p x y (xx : Int) (yy : Int) = u1 ∧ 0 ≤ u1 ∧ u1 ≤ 1073741824 ∧ yy / 2 * u + xx / 2 < m ∧
      0 ≤ A (yy * x + xx) (yy / 2 * u + xx / 2) ∧ A (yy * x + xx) (yy / 2 * u + xx / 2) ≤ 4398046511104 ∧ (tab (A (yy * x + xx)) m).set (yy / 2 * u + xx / 2) (A (yy * x + xx) (yy / 2 * u + xx / 2) + u1) = tab (A (yy * x + xx + 1)) m := by
    intro yy xx h1 h2
    have hb := bel_rng (M := 1073741824) hpl (by omega) hr (xx : Int) (yy : Int)
    have hc : cellJ x (yy * x + xx) = yy / 2 * u + xx / 2 := by rw [hxu]; exact cellJ_at yy (by omega)
    have ha := acc_rng (w := x) hp hr (by omega) (yy * x + xx) (yy / 2 * u + xx / 2) (Nat.le_of_lt (hat yy xx h1 h2))
    have hs := acc_set p x (yy * x + xx) m
    have hl := hat yy xx h1 h2
    rw [hc] at hs
    rw [bel_in p h2 h1] at hb
    refine ⟨_, bel_in p h2 h1, hb.1, hb.2, ?_, ?_, ?_, ?_⟩
    · rw [hm]; exact at_lt (by omega) (by omega)
    · rw [hA]; exact ha.1
    · rw [hA]; refine Int.le_trans ha.2 ?_
      omega
    · rw [hA]; exact hs
  have C4 := Lib.hid C4
  have CB := Lib.hid CB
  have HAT := Lib.hid hat
  have HSTEP := Lib.hid hstep
  have HA0 := Lib.hid hA0
  have HS := Lib.hid hS
  have hYX : n = y * x := by rw [hxy, Nat.mul_comm]
  have HYX := Lib.hid hYX
  have HTL := Lib.hid (fun t => tab_length (A t) m)
  have HTG := Lib.hid (fun t k (h : k < m) => tab_getD (A t) m h)
  have hu32 : u ≤ 64 := by omega
  have hv32 : v ≤ 64 := by omega
  clear hA hat hstep hm hS hp hxy hsd hle hle2 hr hs hd hd2 hxu hyv hpl hfin hA0 hYX
  (obtain ⟨w1, hw1⟩ : ∃ w1, w.alloc (.cells #[.int .i64 x, .int .i64 y, .int .i64 X, .int .i64 Y, .int .i64 s, .slice a n cap] 28) = w1 := ⟨_, rfl⟩; have M1 := (Mem.start w).alloc 28 (gc x y X Y s (.slice a n cap)); rw [show w.alloc (.cells (gc x y X Y s (.slice a n cap)).toArray 28) = w1 from hw1] at M1; obtain ⟨w2, hw2⟩ : ∃ w2, w1.alloc (.cells #[.int .i64 0, .int .i64 0, .int .i64 0, .int .i64 0, .int .i64 0, .slice none 0 0] 28) = w2 := ⟨_, rfl⟩; have M2 := M1.alloc 28 (gc 0 0 0 0 0 (.slice none 0 0)); rw [show w1.alloc (.cells (gc 0 0 0 0 0 (.slice none 0 0)).toArray 28) = w2 from hw2] at M2; have hsz : w1.heap.size = w.heap.size + 1 := (by rw [← hw1]; simp); have HW1 := Lib.hid hw1; have HW2 := Lib.hid hw2; clear hw1 hw2 M1)
  go_enter Tryz.func34, Tryz.ntmps34
  ((go_upto_region 1 with fail); rw [HW1.out, HW2.out, ← hsz]; clear HW1 HW2; obtain ⟨gB, hgB⟩ : ∃ gB, gB = w1.heap.size := ⟨_, rfl⟩; obtain ⟨gA, hgA⟩ : ∃ gA, gA = w.heap.size := ⟨_, rfl⟩; rw [← hgB] at M2 ⊢; rw [← hgA] at M2 ⊢; have hne : gA ≠ gB := (by omega); clear hgA hgB hsz)
  obtain ⟨c0, c1, c2, c3, c4, c5⟩ := gcells (M2.has (.tail _ _ _ _ _ (Has.head _ _ _ _)))
  go_wp2_with fail
  refine (C4.out _).mono ?_
  rintro e w3 ⟨rfl, hA⟩
  have M3 := M2.call hA
  clear c0 c1 c2 c3 c4 c5 M2 hA C4
  obtain ⟨c0, c1, c2, c3, c4, c5⟩ := gcells (M3.has (.tail _ _ _ _ _ (Has.head _ _ _ _)))
  go_wp2_with fail
  go_quiet (fail)
  replace M3 := M3.drewN nq
  clear c0 c1 c2 c3 c4 c5
  obtain ⟨w9, hw9⟩ : ∃ w9, w9 = w3.drewN nq := ⟨_, rfl⟩
  rw [← hw9] at M3 ⊢
  clear hw9
  obtain ⟨c0, c1, c2, c3, c4, c5⟩ := gcells (M3.has (.tail _ _ _ _ _ (Has.head _ _ _ _)))
  go_upto_region 7 with fail
  go_cut [8] from 44 (fun s13 wx => ∃ gC B, s13 = .pointer (some ⟨gC, 0, none⟩) ∧ Mem w wx [(gC, 28, gc u v NX NY d2 (.slice (some ⟨B, 0, none⟩) m m)), (B, 2, i64s (tab (A (0)) m)), (gB, 28, gc 0 0 0 0 0 (.slice none 0 0)), (gA, 28, gc x y X Y s (.slice a n cap))])
  case first =>
    refine wp_region_held_drew (S := (fun w' : World => w'.cell? ⟨gA, 0, none⟩ = some (.int .i64 x) ∧ w'.cell? ⟨gA, 1, none⟩ = some (.int .i64 y) ∧ w'.cell? ⟨gA, 2, none⟩ = some (.int .i64 X) ∧ w'.cell? ⟨gA, 3, none⟩ = some (.int .i64 Y) ∧ w'.cell? ⟨gA, 4, none⟩ = some (.int .i64 s) ∧ w'.cell? ⟨gA, 5, none⟩ = some (.slice a n cap))) (by kernel_rfl) (⟨c0, c1, c2, c3, c4, c5⟩) (fun hHeld => ?_)
    refine wpAnyH_take (i := 0) (v := ?v151) rfl (by kernel_rfl) (by kernel_rfl) (by kernel_rfl) (fun _ _ _ h => h) (Or.inl ⟨by rfl, ?hy151⟩) hHeld ?rest151
    case hy151 => (intro w' hSw; (try dsimp only at hSw); go_simp; (try with_reducible rfl))
    try simp only [Act.put, puts]
    refine wpAnyH_take (i := 1) (v := ?v152) rfl (by kernel_rfl) (by kernel_rfl) (by kernel_rfl) (fun _ _ _ h => h) (Or.inl ⟨by rfl, ?hy152⟩) hHeld ?rest152
    case hy152 => (intro w' hSw; (try dsimp only at hSw); go_simp; (try with_reducible rfl))
    try simp only [Act.put, puts]
    refine wpAnyH_take (i := 2) (v := ?v153) rfl (by kernel_rfl) (by kernel_rfl) (by kernel_rfl) (fun _ _ _ h => h) (Or.inl ⟨by rfl, ?hy153⟩) hHeld ?rest153
    case hy153 => (intro w' hSw; (try dsimp only at hSw); go_simp; (try with_reducible rfl))
    try simp only [Act.put, puts]
    refine wpAnyH_take (i := 3) (v := ?v154) rfl (by kernel_rfl) (by kernel_rfl) (by kernel_rfl) (fun _ _ _ h => h) (Or.inl ⟨by rfl, ?hy154⟩) hHeld ?rest154
    case hy154 => (intro w' hSw; (try dsimp only at hSw); go_simp; (try with_reducible rfl))
    try simp only [Act.put, puts]
    refine wpAnyH_take (i := 4) (v := ?v155) rfl (by kernel_rfl) (by kernel_rfl) (by kernel_rfl) (fun _ _ _ h => h) (Or.inl ⟨by rfl, ?hy155⟩) hHeld ?rest155
    case hy155 => (intro w' hSw; (try dsimp only at hSw); go_simp; (try with_reducible rfl))
    try simp only [Act.put, puts]
    refine wpAnyH_take (i := 5) (v := ?v156) rfl (by kernel_rfl) (by kernel_rfl) (by kernel_rfl) (fun _ _ _ h => h) (Or.inl ⟨by rfl, ?hy156⟩) hHeld ?rest156
    case hy156 => (intro w' hSw; (try dsimp only at hSw); go_simp; (try with_reducible rfl))
    try simp only [Act.put, puts]
    refine wpAnyH_take (i := 6) (v := ?v157) rfl (by kernel_rfl) (by kernel_rfl) (by kernel_rfl) (fun _ _ _ h => h) (Or.inl ⟨by rfl, ?hy157⟩) hHeld ?rest157
    case hy157 => (intro w' hSw; (try dsimp only at hSw); go_simp; (try with_reducible rfl))
    try simp only [Act.put, puts]
    refine wpAnyH_take (i := 7) (v := ?v158) rfl (by kernel_rfl) (by kernel_rfl) (by kernel_rfl) (fun _ _ _ h => h) (Or.inl ⟨by rfl, ?hy158⟩) hHeld ?rest158
    case hy158 => (intro w' hSw; (try dsimp only at hSw); go_simp; (try with_reducible rfl))
    try simp only [Act.put, puts]
    refine wpAnyH_take (i := 8) (v := ?v159) rfl (by kernel_rfl) (by kernel_rfl) (by kernel_rfl) (fun _ _ _ h => h) (Or.inl ⟨by rfl, ?hy159⟩) hHeld ?rest159
    case hy159 => (intro w' hSw; (try dsimp only at hSw); go_simp; (try with_reducible rfl))
    try simp only [Act.put, puts]
    refine wpAnyH_take (i := 9) (v := ?v160) rfl (by kernel_rfl) (by kernel_rfl) (by kernel_rfl) (fun _ _ _ h => h) (Or.inl ⟨by rfl, ?hy160⟩) hHeld ?rest160
    case hy160 => (intro w' hSw; (try dsimp only at hSw); go_simp; (try with_reducible rfl))
    try simp only [Act.put, puts]
    refine wpAnyH_take (i := 10) (v := ?v161) rfl (by kernel_rfl) (by kernel_rfl) (by kernel_rfl) (fun _ _ _ h => h) (Or.inl ⟨by rfl, ?hy161⟩) hHeld ?rest161
    case hy161 => (intro w' hSw; (try dsimp only at hSw); go_simp; (try with_reducible rfl))
    try simp only [Act.put, puts]
    refine wpAnyH_take (i := 11) (v := ?v162) rfl (by kernel_rfl) (by kernel_rfl) (by kernel_rfl) (fun _ _ _ h => h) (Or.inl ⟨by rfl, ?hy162⟩) hHeld ?rest162
    case hy162 => (intro w' hSw; (try dsimp only at hSw); go_simp; (try with_reducible rfl))
    try simp only [Act.put, puts]
    refine wpAnyH_take (i := 12) (v := ?v163) rfl (by kernel_rfl) (by kernel_rfl) (by kernel_rfl) (fun _ _ _ h => h) (Or.inl ⟨by rfl, ?hy163⟩) hHeld ?rest163
    case hy163 => (intro w' hSw; (try dsimp only at hSw); go_simp; (try with_reducible rfl))
    try simp only [Act.put, puts]
    refine wpAnyH_take (i := 13) (v := ?v164) rfl (by kernel_rfl) (by kernel_rfl) (by kernel_rfl) (fun _ _ _ h => h) (Or.inl ⟨by rfl, ?hy164⟩) hHeld ?rest164
    case hy164 => (intro w' hSw; (try dsimp only at hSw); go_simp; (try with_reducible rfl))
    try simp only [Act.put, puts]
    refine wpAnyH_take (i := 14) (v := ?v165) rfl (by kernel_rfl) (by kernel_rfl) (by kernel_rfl) (fun _ _ _ h => h) (Or.inl ⟨by rfl, ?hy165⟩) hHeld ?rest165
    case hy165 => (intro w' hSw; (try dsimp only at hSw); go_simp; (try with_reducible rfl))
    try simp only [Act.put, puts]
    refine wpAnyH_take (i := 15) (v := ?v166) rfl (by kernel_rfl) (by kernel_rfl) (by kernel_rfl) (fun _ _ _ h => h) (Or.inl ⟨by rfl, ?hy166⟩) hHeld ?rest166
    case hy166 => (intro w' hSw; (try dsimp only at hSw); go_simp; (try with_reducible rfl))
    try simp only [Act.put, puts]
    have M0Z := M3.drew
    refine wpAnyH_ready (rs := [16, 18]) (by kernel_rfl) (by simp) ?_
    refine AllReadyH.cons rfl (fun K hK => ?ordA) (AllReadyH.cons rfl (fun K hK => ?ordB) AllReadyH.nil)
    case ordA =>
      rw [if_pos (by rfl)]
      refine wp_mkM M0Z run_mk64 rfl m rfl rfl (by omega) ?_
      intro B wB M1Z
      refine hK.out _ _ (gcells (M1Z.has (.tail _ _ _ _ _ (.tail _ _ _ _ _ (Has.head _ _ _ _))))) (fun hHeld => ?_)
      clear hK K
      try simp only [Act.put, puts]
      refine wpAnyH_take (i := 17) (v := ?v167) rfl (by kernel_rfl) (by kernel_rfl) (by kernel_rfl) (fun _ _ _ h => h) (Or.inl ⟨by rfl, ?hy167⟩) hHeld ?rest167
      case hy167 => (intro w' hSw; (try dsimp only at hSw); go_simp; (try with_reducible rfl))
      try simp only [Act.put, puts]
      refine wpAnyH_ready (rs := [18]) (by kernel_rfl) (by simp) ?_
      refine AllReadyH.cons rfl (fun K hK => ?_) AllReadyH.nil
      rw [if_pos (by rfl)]
      refine wp_al M1Z rfl zeroG rfl ?_
      intro gC wC M2Z
      refine hK.out _ _ (gcells (M2Z.has (.tail _ _ _ _ _ (.tail _ _ _ _ _ (.tail _ _ _ _ _ (Has.head _ _ _ _)))))) (fun hHeld => ?_)
      clear hK K
      try simp only [Act.put, puts]
      refine wpAnyH_ready (rs := [19]) (by kernel_rfl) (by simp) ?_
      refine AllReadyH.cons rfl (fun K hK => ?_) AllReadyH.nil
      rw [if_pos (by rfl)]
      refine wp_stM (v := gv u v NX NY d2 (.slice (some ⟨B, 0, none⟩) m m)) M2Z rfl rfl rfl (wr_g _ _ _ _ _ _ _ _ _ _ _ _ _ _) (Upd.head _ _ _ _ _) ?_
      intro wZ MZ _
      refine hK.out _ _ (gcells (MZ.has (.tail _ _ _ _ _ (.tail _ _ _ _ _ (.tail _ _ _ _ _ (Has.head _ _ _ _)))))) (fun hHeld => ?_)
      clear hK K
      try simp only [Act.put, puts]
      refine wpAnyH_done (by kernel_rfl) ?_ _
      go_wp2_with fail
      go_meet
      exact ⟨gC, B, rfl, by rw [HA0.out, ← i64s_rep]; exact MZ⟩
    case ordB =>
      rw [if_pos (by rfl)]
      refine wp_al M0Z rfl zeroG rfl ?_
      intro gC wC M1Z
      refine hK.out _ _ (gcells (M1Z.has (.tail _ _ _ _ _ (.tail _ _ _ _ _ (Has.head _ _ _ _))))) (fun hHeld => ?_)
      clear hK K
      try simp only [Act.put, puts]
      refine wpAnyH_ready (rs := [16]) (by kernel_rfl) (by simp) ?_
      refine AllReadyH.cons rfl (fun K hK => ?_) AllReadyH.nil
      rw [if_pos (by rfl)]
      refine wp_mkM M1Z run_mk64 rfl m rfl rfl (by omega) ?_
      intro B wB M2Z
      refine hK.out _ _ (gcells (M2Z.has (.tail _ _ _ _ _ (.tail _ _ _ _ _ (.tail _ _ _ _ _ (Has.head _ _ _ _)))))) (fun hHeld => ?_)
      clear hK K
      try simp only [Act.put, puts]
      refine wpAnyH_take (i := 17) (v := ?v168) rfl (by kernel_rfl) (by kernel_rfl) (by kernel_rfl) (fun _ _ _ h => h) (Or.inl ⟨by rfl, ?hy168⟩) hHeld ?rest168
      case hy168 => (intro w' hSw; (try dsimp only at hSw); go_simp; (try with_reducible rfl))
      try simp only [Act.put, puts]
      refine wpAnyH_ready (rs := [19]) (by kernel_rfl) (by simp) ?_
      refine AllReadyH.cons rfl (fun K hK => ?_) AllReadyH.nil
      rw [if_pos (by rfl)]
      refine wp_stM (v := gv u v NX NY d2 (.slice (some ⟨B, 0, none⟩) m m)) M2Z rfl rfl rfl (wr_g _ _ _ _ _ _ _ _ _ _ _ _ _ _) (.tail _ _ _ _ _ _ _ (Upd.head _ _ _ _ _)) ?_
      intro wZ MZ _
      refine hK.out _ _ (gcells (MZ.has (.tail _ _ _ _ _ (.tail _ _ _ _ _ (.tail _ _ _ _ _ (Has.head _ _ _ _)))))) (fun hHeld => ?_)
      clear hK K
      try simp only [Act.put, puts]
      refine wpAnyH_done (by kernel_rfl) ?_ _
      go_wp2_with fail
      go_meet
      exact ⟨gC, B, rfl, by rw [HA0.out, ← i64s_rep]; exact mem_swap MZ⟩
  clear c0 c1 c2 c3 c4 c5 M3
  obtain ⟨gC, B, rfl, M⟩ := hcut
  have M5' : Mem w wc [(gC, 28, gc u v NX NY d2 (.slice (some ⟨B, 0, none⟩) m m)), (B, 2, i64s (tab (A (0 * x)) m)), (gB, 28, gc 0 0 0 0 0 (.slice none 0 0)), (gA, 28, gc x y X Y s (.slice a n cap))] := by rw [Nat.zero_mul]; exact M
  clear M
  obtain ⟨c0, c1, c2, c3, c4, c5⟩ := gcells (M5'.has (.tail _ _ _ _ _ (.tail _ _ _ _ _ (.tail _ _ _ _ _ (Has.head _ _ _ _)))))
  go_wp2_with fail
  go_loopw [64] (fun c wx => ∃ yy : Nat, yy ≤ y ∧ c = .int .i64 yy ∧ Mem w wx [(gC, 28, gc u v NX NY d2 (.slice (some ⟨B, 0, none⟩) m m)), (B, 2, i64s (tab (A (yy * x)) m)), (gB, 28, gc 0 0 0 0 0 (.slice none 0 0)), (gA, 28, gc x y X Y s (.slice a n cap))]) (fun c _ => y - (intOf c).toNat)
  case atStart => exact ⟨0, Nat.zero_le _, rfl, M5'⟩
  case round =>
    clear M5' c0 c1 c2 c3 c4 c5
    obtain ⟨yy, hyy, rfl, M⟩ := hrel
    obtain ⟨c0, c1, c2, c3, c4, c5⟩ := gcells (M.has (.tail _ _ _ _ _ (.tail _ _ _ _ _ (.tail _ _ _ _ _ (Has.head _ _ _ _)))))
    by_cases hlt : yy < y
    · obtain ⟨k0, hk0⟩ : ∃ k0, k0 = yy * x := ⟨_, rfl⟩
      have hk1 : (yy + 1) * x = k0 + x := by rw [hk0, Nat.succ_mul]
      have hV := fun xx (h : xx < x) => HSTEP.out yy xx hlt h
      rw [← hk0] at M hV
      obtain ⟨j2, hj2⟩ : ∃ j2, j2 = yy / 2 := ⟨_, rfl⟩
      rw [← hj2] at hV
      have ej2 : (yy : Int) / 2 = (j2 : Int) := by omega
      have wj2 : IntKind.i64.wrap (j2 : Int) = (j2 : Int) := IntWalk.i64_in _ (by omega)
      obtain ⟨r0, hr0⟩ : ∃ r0, r0 = j2 * u := ⟨_, rfl⟩
      have hmul : (j2 : Int) * (u : Int) = (r0 : Int) := by rw [hr0]; simp
      rw [← hr0] at hV
      have hr0b : r0 ≤ 4096 := by rw [hr0]; have : j2 * u ≤ 64 * 64 := Nat.mul_le_mul (by omega) hu32; omega
      have HV := Lib.hid hV
      have HK1 := Lib.hid hk1
      have hqw : IntKind.i64.wrap (r0 : Int) = (r0 : Int) := IntWalk.i64_in _ (by omega)
      clear hk0 hk1 hV hj2 hr0
      go_wp2_with fail
      go_loopw [69] (fun c wx => ∃ xx : Nat, xx ≤ x ∧ c = .int .i64 xx ∧ Mem w wx [(gC, 28, gc u v NX NY d2 (.slice (some ⟨B, 0, none⟩) m m)), (B, 2, i64s (tab (A (k0 + xx)) m)), (gB, 28, gc 0 0 0 0 0 (.slice none 0 0)), (gA, 28, gc x y X Y s (.slice a n cap))]) (fun c _ => x - (intOf c).toNat)
      case atStart => exact ⟨0, Nat.zero_le _, rfl, M⟩
      case round =>
        clear M c0 c1 c2 c3 c4 c5
        obtain ⟨xx, hxx, rfl, M⟩ := hrel
        by_cases hlt2 : xx < x
        · obtain ⟨c0, c1, c2, c3, c4, c5⟩ := gcells (M.has (.tail _ _ _ _ _ (.tail _ _ _ _ _ (.tail _ _ _ _ _ (Has.head _ _ _ _)))))
          have d5 := M.cell (Has.head _ _ _ _) (i := 5) rfl
          obtain ⟨u1, hu, hu0, hu1, hkn, hA0, hA1, hst⟩ := HV.out xx hlt2
          have HCx := CB.out (xx : Int) (yy : Int)
          rw [hu] at HCx
          obtain ⟨i2, hi2⟩ : ∃ i2, i2 = xx / 2 := ⟨_, rfl⟩
          rw [← hi2] at hkn hA0 hA1 hst
          have ei2 : (xx : Int) / 2 = (i2 : Int) := by omega
          have wi2 : IntKind.i64.wrap (i2 : Int) = (i2 : Int) := IntWalk.i64_in _ (by omega)
          obtain ⟨k, hk⟩ : ∃ k, k = r0 + i2 := ⟨_, rfl⟩
          rw [← hk] at hkn hA0 hA1 hst
          have hs1 : IntKind.i64.wrap ((r0 : Int) + (i2 : Int)) = (k : Int) := by
            have := IntWalk.i64_in (k : Int) (by omega)
            rw [hk] at this ⊢
            simpa using this
          have hkw : IntKind.i64.wrap (k : Int) = (k : Int) := IntWalk.i64_in _ (by omega)
          have hs3 : (r0 : Int) + (i2 : Int) = (k : Int) := by omega
          have hll := HTL.out (k0 + xx)
          have hcl := M.cell (.tail _ _ _ _ _ (Has.head _ _ _ _)) (i64s_at _ k (by rw [hll]; exact hkn))
          rw [← getD_at _ _ (by rw [hll]; exact hkn), HTG.out (k0 + xx) k hkn] at hcl
          obtain ⟨z, hz⟩ : ∃ z, z = A (k0 + xx) k := ⟨_, rfl⟩
          rw [← hz] at hA0 hA1 hst hcl
          obtain ⟨zs, hzs⟩ : ∃ zs, zs = z + u1 := ⟨_, rfl⟩
          have ezs : z + u1 = zs := hzs.symm
          have wzs : IntKind.i64.wrap zs = zs := IntWalk.i64_in _ (by omega)
          rw [← hzs] at hst
          have HCx := Lib.hid HCx
          have HST := Lib.hid hst
          have HZ := Lib.hid hz
          clear hk hu hi2 hz hst hzs
          go_wp2_with fail
          refine wp_region_N_drew (S := (fun w' : World => w'.cell? ⟨gC, 5, none⟩ = some (.slice (some ⟨B, 0, none⟩) m m) ∧ w'.cell? ⟨gA, 0, none⟩ = some (.int .i64 x) ∧ w'.cell? ⟨gA, 1, none⟩ = some (.int .i64 y) ∧ w'.cell? ⟨gA, 2, none⟩ = some (.int .i64 X) ∧ w'.cell? ⟨gA, 3, none⟩ = some (.int .i64 Y) ∧ w'.cell? ⟨gA, 4, none⟩ = some (.int .i64 s) ∧ w'.cell? ⟨gA, 5, none⟩ = some (.slice a n cap) ∧ w'.cell? ⟨B, k, none⟩ = some (.int .i64 z))) 17 (by kernel_rfl) ?_
          have hHeld : (fun w' : World => w'.cell? ⟨gC, 5, none⟩ = some (.slice (some ⟨B, 0, none⟩) m m) ∧ w'.cell? ⟨gA, 0, none⟩ = some (.int .i64 x) ∧ w'.cell? ⟨gA, 1, none⟩ = some (.int .i64 y) ∧ w'.cell? ⟨gA, 2, none⟩ = some (.int .i64 X) ∧ w'.cell? ⟨gA, 3, none⟩ = some (.int .i64 Y) ∧ w'.cell? ⟨gA, 4, none⟩ = some (.int .i64 s) ∧ w'.cell? ⟨gA, 5, none⟩ = some (.slice a n cap) ∧ w'.cell? ⟨B, k, none⟩ = some (.int .i64 z)) wr.drew := ⟨d5, c0, c1, c2, c3, c4, c5, hcl⟩
          refine wpAnyN_takeY (i := 0) (v := ?v169) rfl (by kernel_rfl) (by kernel_rfl) (by kernel_rfl) (fun _ _ _ h => h) rfl (Or.inl ⟨by rfl, ?hy169⟩) (fun _ => hHeld) ?rest169
          case hy169 => (intro w' _; go_simp; (try with_reducible rfl))
          try simp only [Act.put, puts]
          refine wpAnyN_take (i := 1) (v := ?v170) rfl (by kernel_rfl) (by kernel_rfl) (by kernel_rfl) (fun _ _ _ h => h) rfl (by kernel_rfl) (by kernel_rfl) (Or.inl ⟨by rfl, ?hy170⟩) hHeld ?rest170
          case hy170 => (intro w' hSw; (try dsimp only at hSw); go_simp; (try with_reducible rfl))
          try simp only [Act.put, puts]
          refine wpAnyN_takeY (i := 2) (v := ?v171) rfl (by kernel_rfl) (by kernel_rfl) (by kernel_rfl) (fun _ _ _ h => h) rfl (Or.inl ⟨by rfl, ?hy171⟩) (fun _ => hHeld) ?rest171
          case hy171 => (intro w' _; go_simp; (try with_reducible rfl))
          try simp only [Act.put, puts]
          refine wpAnyN_takeY (i := 3) (v := ?v172) rfl (by kernel_rfl) (by kernel_rfl) (by kernel_rfl) (fun _ _ _ h => h) rfl (Or.inl ⟨by rfl, ?hy172⟩) (fun _ => hHeld) ?rest172
          case hy172 => (intro w' _; go_simp; (try with_reducible rfl))
          try simp only [Act.put, puts]
          refine wpAnyN_takeY (i := 4) (v := ?v173) rfl (by kernel_rfl) (by kernel_rfl) (by kernel_rfl) (fun _ _ _ h => h) rfl (Or.inl ⟨by rfl, ?hy173⟩) (fun _ => hHeld) ?rest173
          case hy173 => (intro w' _; go_simp; (try with_reducible rfl))
          try simp only [Act.put, puts]
          refine wpAnyN_takeY (i := 5) (v := ?v174) rfl (by kernel_rfl) (by kernel_rfl) (by kernel_rfl) (fun _ _ _ h => h) rfl (Or.inl ⟨by rfl, ?hy174⟩) (fun _ => hHeld) ?rest174
          case hy174 => (intro w' _; go_simp; (try with_reducible rfl))
          try simp only [Act.put, puts]
          refine wpAnyN_takeY (i := 6) (v := ?v175) rfl (by kernel_rfl) (by kernel_rfl) (by kernel_rfl) (fun _ _ _ h => h) rfl (Or.inl ⟨by rfl, ?hy175⟩) (fun _ => hHeld) ?rest175
          case hy175 => (intro w' _; go_simp; (try with_reducible rfl))
          try simp only [Act.put, puts]
          refine wpAnyN_takeY (i := 7) (v := ?v176) rfl (by kernel_rfl) (by kernel_rfl) (by kernel_rfl) (fun _ _ _ h => h) rfl (Or.inl ⟨by rfl, ?hy176⟩) (fun _ => hHeld) ?rest176
          case hy176 => (intro w' _; go_simp; (try with_reducible rfl))
          try simp only [Act.put, puts]
          refine wpAnyN_takeY (i := 8) (v := ?v177) rfl (by kernel_rfl) (by kernel_rfl) (by kernel_rfl) (fun _ _ _ h => h) rfl (Or.inl ⟨by rfl, ?hy177⟩) (fun _ => hHeld) ?rest177
          case hy177 => (intro w' _; go_simp; (try with_reducible rfl))
          try simp only [Act.put, puts]
          refine wpAnyN_takeY (i := 9) (v := ?v178) rfl (by kernel_rfl) (by kernel_rfl) (by kernel_rfl) (fun _ _ _ h => h) rfl (Or.inl ⟨by rfl, ?hy178⟩) (fun _ => hHeld) ?rest178
          case hy178 => (intro w' _; go_simp; (try with_reducible rfl))
          try simp only [Act.put, puts]
          refine wpAnyN_take (i := 10) (v := ?v179) rfl (by kernel_rfl) (by kernel_rfl) (by kernel_rfl) (fun _ _ _ h => h) rfl (by kernel_rfl) (by kernel_rfl) (Or.inl ⟨by rfl, ?hy179⟩) hHeld ?rest179
          case hy179 => (intro w' hSw; (try dsimp only at hSw); go_simp; (try with_reducible rfl))
          try simp only [Act.put, puts]
          refine wpAnyN_take (i := 11) (v := ?v180) rfl (by kernel_rfl) (by kernel_rfl) (by kernel_rfl) (fun _ _ _ h => h) rfl (by kernel_rfl) (by kernel_rfl) (Or.inl ⟨by rfl, ?hy180⟩) hHeld ?rest180
          case hy180 => (intro w' hSw; (try dsimp only at hSw); go_simp; (try with_reducible rfl))
          try simp only [Act.put, puts]
          refine wpAnyN_takeY (i := 12) (v := ?v181) rfl (by kernel_rfl) (by kernel_rfl) (by kernel_rfl) (fun _ _ _ h => h) rfl (Or.inl ⟨by rfl, ?hy181⟩) (fun _ => hHeld) ?rest181
          case hy181 => (intro w' _; go_simp; (try with_reducible rfl))
          try simp only [Act.put, puts]
          refine wpAnyN_takeY (i := 13) (v := ?v182) rfl (by kernel_rfl) (by kernel_rfl) (by kernel_rfl) (fun _ _ _ h => h) rfl (Or.inl ⟨by rfl, ?hy182⟩) (fun _ => hHeld) ?rest182
          case hy182 => (intro w' _; go_simp; (try with_reducible rfl))
          try simp only [Act.put, puts]
          refine wpAnyN_ready (rs := [14]) (by kernel_rfl) (by simp) ?_
          refine AllReadyN.cons rfl (fun K hK => ?_) AllReadyN.nil
          go_simp
          refine (HCx.out _ (HS.out.below M.drew.below)).mono ?_
          rintro e w6 ⟨rfl, hA⟩
          have M6 := M.drew.call hA
          have hcl6 := M6.cell (.tail _ _ _ _ _ (Has.head _ _ _ _)) (i64s_at _ k (by rw [hll]; exact hkn))
          rw [← getD_at _ _ (by rw [hll]; exact hkn), HTG.out (k0 + xx) k hkn, ← HZ.out] at hcl6
          have hf0 := M6.free (.tail _ _ _ _ _ (Has.head _ _ _ _)) k
          try go_wp2_with fail
          replace hHeld : (fun w' : World => w'.cell? ⟨gC, 5, none⟩ = some (.slice (some ⟨B, 0, none⟩) m m) ∧ w'.cell? ⟨gA, 0, none⟩ = some (.int .i64 x) ∧ w'.cell? ⟨gA, 1, none⟩ = some (.int .i64 y) ∧ w'.cell? ⟨gA, 2, none⟩ = some (.int .i64 X) ∧ w'.cell? ⟨gA, 3, none⟩ = some (.int .i64 Y) ∧ w'.cell? ⟨gA, 4, none⟩ = some (.int .i64 s) ∧ w'.cell? ⟨gA, 5, none⟩ = some (.slice a n cap) ∧ w'.cell? ⟨B, k, none⟩ = some (.int .i64 z)) _ := ⟨M6.cell (Has.head _ _ _ _) (i := 5) rfl, (M6.cell (.tail _ _ _ _ _ (.tail _ _ _ _ _ (.tail _ _ _ _ _ (Has.head _ _ _ _)))) (i := 0) rfl), (M6.cell (.tail _ _ _ _ _ (.tail _ _ _ _ _ (.tail _ _ _ _ _ (Has.head _ _ _ _)))) (i := 1) rfl), (M6.cell (.tail _ _ _ _ _ (.tail _ _ _ _ _ (.tail _ _ _ _ _ (Has.head _ _ _ _)))) (i := 2) rfl), (M6.cell (.tail _ _ _ _ _ (.tail _ _ _ _ _ (.tail _ _ _ _ _ (Has.head _ _ _ _)))) (i := 3) rfl), (M6.cell (.tail _ _ _ _ _ (.tail _ _ _ _ _ (.tail _ _ _ _ _ (Has.head _ _ _ _)))) (i := 4) rfl), (M6.cell (.tail _ _ _ _ _ (.tail _ _ _ _ _ (.tail _ _ _ _ _ (Has.head _ _ _ _)))) (i := 5) rfl), hcl6⟩
          refine hK.out _ _ (fun _ => hHeld) ?_
          clear hK K
          try simp only [Act.put, puts]
          refine wpAnyN_takeY (i := 15) (v := ?v184) rfl (by kernel_rfl) (by kernel_rfl) (by kernel_rfl) (fun _ _ _ h => h) rfl (Or.inl ⟨by rfl, ?hy184⟩) (fun _ => hHeld) ?rest184
          case hy184 => (intro w' _; go_simp; (try with_reducible rfl))
          try simp only [Act.put, puts]
          refine wpAnyN_takeY (i := 16) (v := ?v185) rfl (by kernel_rfl) (by kernel_rfl) (by kernel_rfl) (fun _ _ _ h => h) rfl (Or.inl ⟨by rfl, ?hy185⟩) (fun _ => hHeld) ?rest185
          case hy185 => (intro w' _; go_simp; (try with_reducible rfl))
          try simp only [Act.put, puts]
          refine wpAnyN_ready (rs := [17]) (by kernel_rfl) (by simp) ?_
          refine AllReadyN.cons rfl (fun K hK => ?_) AllReadyN.nil
          go_simp
          have M7 := M6.set k (.int .i64 zs) (.tail _ _ _ _ _ _ _ (Upd.head _ _ _ _ _)) (by rw [i64s_length, hll]; exact hkn)
          try go_wp2_with fail
          refine hK.out _ _ (fun h => by have h' : (true : Bool) = false := h; cases h') ?_
          clear hK K
          try simp only [Act.put, puts]
          refine wpAnyN_done (by kernel_rfl) ?_ _
          rw [i64s_set, HST.out] at M7
          clear c0 c1 c2 c3 c4 c5 d5 M M6 hf0 hA hcl hcl6
          go_wp2_with fail
          go_roundw
          case rel => exact ⟨xx + 1, by omega, by go_num, by rw [← Nat.add_assoc]; exact M7⟩
          case measure => simp [intOf]; omega
        · have e : k0 + xx = (yy + 1) * x := by rw [HK1.out]; omega
          rw [e] at M
          clear e
          go_wp2_with fail
          go_roundw
          case rel => exact ⟨yy + 1, by omega, by go_num, M⟩
          case measure => simp [intOf]; omega
    · have e : yy * x = y * x := by congr 1; omega
      rw [e] at M
      have M3 := M
      have hl2 := HTL.out (y * x)
      have k3 := M3.from (.tail _ _ _ _ _ (Has.head _ _ _ _))
      clear M e c0 c1 c2 c3 c4 c5
      obtain ⟨c0, c1, c2, c3, c4, c5⟩ := gcells (M3.has (Has.head _ _ _ _))
      go_wp2_with ((with_reducible refine (?_ : Go.wpList _ _ _ (_ :: _) _ _)); (first | go_skip | (refine wpL_stM (v := gv u v NX NY d2 (.slice (some ⟨B, 0, none⟩) m m)) M3 rfl rfl rfl rfl (wr_g _ _ _ _ _ _ _ _ _ _ _ _ _ _) (.tail _ _ _ _ _ _ _ (.tail _ _ _ _ _ _ _ (Upd.head _ _ _ _ _))) ?_; intro w4 M4 hT4)))
      ((try simp only [Exit.inBlock, Exit.then]); refine bodyPost_ret (res_cell_tmp rfl M4 rfl (.tail _ _ _ _ _ (.tail _ _ _ _ _ (Has.head _ _ _ _))) (rd_g _ _ _ _ _ _) rfl) rfl ?_)
      exact ⟨_, _, rfl, blk_own (M4.has (.tail _ _ _ _ _ (Has.head _ _ _ _))) k3 (by rw [i64s_length]; exact hl2) (by unfold maxLen; omega), M4.below⟩
end Go.Proofs.YtallbegibdlpaaaGreat

/-
  A row of one number, so often; an even grid: the code's.
-/
namespace Go.Th.Grid
open Go Go.RowKit Go.Th
end Go.Th.Grid
namespace Go.Proofs.YtallbegibdlpaaaGreat
open Go Go.RowKit Go.Th Go.Th.Grid Go.Th.Wide

end Go.Proofs.YtallbegibdlpaaaGreat

/-
  Where a place lies; a grid that is moved; a grid that is weighed: the code's.
-/
namespace Go.Th.Grid
open Go Go.RowKit Go.Th
theorem res_cells_tmp2 {P : Program} {w w0 : World} {bs : List (Nat × TypeId × List Value)} {g off : Nat} {t ty : TypeId} {cs : List Value} {v : Value} {fn : Func} {p q r z : Tmp} {ty2 : TypeId} (h : fn.results = #[.cell p ty, .cell q ty2, .tmp r, .tmp z]) (M : Mem w0 w bs) {tmps : Array Value} (hp : tmps.getD p undef = .pointer (some ⟨g, off, none⟩)) (hm : Has bs g t cs) (hr : Rd P ty off cs v)
    {g2 off2 : Nat} {t2 : TypeId} {cs2 : List Value} {v2 u1 u2 : Value} (hq : tmps.getD q undef = .pointer (some ⟨g2, off2, none⟩)) (hm2 : Has bs g2 t2 cs2) (hr2 : Rd P ty2 off2 cs2 v2) (h1 : tmps.getD r undef = u1) (h2 : tmps.getD z undef = u2) : (results fn tmps).run P w = .ok (.tuple #[v, v2, u1, u2]) w := by
  have hp' : tmps[p]?.getD undef = .pointer (some ⟨g, off, none⟩) := by simpa using hp
  have hq' : tmps[q]?.getD undef = .pointer (some ⟨g2, off2, none⟩) := by simpa using hq
  have h1' : tmps[r]?.getD undef = u1 := by simpa using h1
  have h2' : tmps[z]?.getD undef = u2 := by simpa using h2
  simp [results, h, hp', hq', h1', h2', asAddr, hr.run w g t (M.has hm), hr2.run w g2 t2 (M.has hm2)]
/-- What a grid becomes that is weighed. -/
def wgh (p l : List Int) : List Int := if sm (wd p l) = 0 then p else (wd p l).map (share (sm (wd p l)))
end Go.Th.Grid
namespace Go.Proofs.YtallbegibdlpaaaGreat
open Go Go.RowKit Go.Th Go.Th.Grid Go.Th.Wide

/-- A grid is answered, a sum, a weight, and a code. -/
def WRes (x y X Y s : Int) (n : Nat) (l : List Int) (T most c : Int) (w : World) (e : Ending) (w' : World) : Prop :=
  ∃ a cap, e = .returned (.tuple #[gv x y X Y s (.slice a n cap), wv (hiZ T) (loZ T), .int .i64 most, .int .i64 c]) ∧ w'.ownsRow w.heap.size 2 1 (.slice a n cap) n (i64s l) ∧ Below w.heap.size w w'
theorem hi0 : hiZ 0 = 0 := by unfold hiZ; rfl
set_option maxRecDepth 20000 in
set_option maxHeartbeats 6400000 in
theorem weigh_any (x y X Y s : Int) (a al : Option Addr) (n cap capl : Nat) (p l : List Int) (hp : p.length = n) (hl : l.length = n) (hn : n ≤ 65536) (hr : ∀ u ∈ p, 0 ≤ u ∧ u ≤ 1073741824) (hall : allIn l 65536 = true) (w : World) (hS : Sl w 1 (.slice a n cap) n (i64s p)) (hT : Sl w 1 (.slice al n capl) n (i64s l)) :
    Calls Tryz.prog 27 #[gv x y X Y s (.slice a n cap), .slice al n capl] w (WRes x y X Y s n (wgh p l) (sm (wd p l)) (mxl l) (normC (wd p l)) w) := by
  have hlr := allIn_iff.1 hall
  have hwr := wd_rng (by rw [hl, hp]) hr hlr
  have hwl : (wd p l).length = n := by rw [wd_length, hl]
  have hws := sm_rng hwr
  rw [hwl] at hws
  have hw0 : ∀ u ∈ wd p l, 0 ≤ u := fun u hu => (hwr u hu).1
  have hge := sm_ge hw0
  have CT := fun a' cap' wx hs => total_any a' n cap' (wd p l) hwl (sm_fits hw0 (by omega)) wx hs
  have CW := fun wx hs => areWithin_any 65536 al n capl l hl wx hs
  rw [hall] at CW
  have hpr : ∀ i, i < n → ∃ u v z : Int, p.getD i 0 = u ∧ l.getD i 0 = v ∧ u * v = z ∧ (wd p l).getD i 0 = z ∧ 0 ≤ z ∧ z ≤ 70368744177664 ∧ 0 ≤ v ∧ v ≤ 65536 := by
    intro i hi
    have h1 : (wd p l).getD i 0 = p.getD i 0 * l.getD i 0 := by unfold wd; exact tab_getD _ _ (by rw [hl]; exact hi)
    have h2 := getD_mem (P := fun u => 0 ≤ u ∧ u ≤ 70368744177664) hwr (by rw [hwl]; exact hi : i < (wd p l).length)
    have h3 := getD_mem (P := fun u => 0 ≤ u ∧ u ≤ 65536) hlr (by rw [hl]; exact hi : i < l.length)
    exact ⟨_, _, _, rfl, rfl, rfl, h1, by rw [← h1]; exact h2.1, by rw [← h1]; exact h2.2, h3.1, h3.2⟩
  obtain ⟨fw, hfw⟩ : ∃ f : Nat → Int, f = fun i => p.getD i 0 * l.getD i 0 := ⟨_, rfl⟩
  have htab : tab fw n = wd p l := by rw [hfw, ← hl]; rfl
  have hfi : ∀ i, i < n → fw i = (wd p l).getD i 0 := fun i hi => by rw [← htab, tab_getD _ _ hi]
  have hmt := fun i (hi : i < n) => mxl_take l i (by rw [hl]; exact hi)
  have hma : mxl (l.take n) = mxl l := by rw [List.take_of_length_le (by rw [hl]; exact Nat.le_refl _)]
  have hm0 : mxl (l.take 0) = 0 := rfl
  have HMX := Lib.hid (fun (A B : Int) (ts : Array TypeId) (t : TypeId) (wx : World) => Lib.run_max_ints (P := Tryz.prog) wx ts t .i64 .i64 A B)
  obtain ⟨T, hTT⟩ : ∃ T, T = sm (wd p l) := ⟨_, rfl⟩
  obtain ⟨NL, hNL⟩ : ∃ NL, NL = wgh p l := ⟨_, rfl⟩
  obtain ⟨NC, hNC⟩ : ∃ NC, NC = normC (wd p l) := ⟨_, rfl⟩
  have hnorm : NL = if T = 0 then p else (wd p l).map (share T) := by rw [hTT, hNL]; rfl
  have hnormC : NC = if T = 0 then 7 else 0 := by rw [hTT, hNC]; rfl
  rw [← hNL, ← hNC]
  clear hNL hNC
  rw [← hTT] at CT hge hws ⊢
  have CH := fun (h0 : 0 < T) a' cap' wx hs => shares_any T a' n cap' (wd p l) hwl (by omega) h0 (by omega) (fun u hu => ⟨hw0 u hu, hge u hu⟩) wx hs
  have COf := Of_any T ⟨by omega, by omega⟩
  obtain ⟨MX, hMX⟩ : ∃ M, M = mxl l := ⟨_, rfl⟩
  rw [← hMX] at hma ⊢
  obtain ⟨L, hLL⟩ : ∃ L, L = wd p l := ⟨_, rfl⟩
  rw [← hLL] at hnorm CT CH htab hfi hpr
  have HN := Lib.hid hnorm
  have HNC := Lib.hid hnormC
  have CT := Lib.hid CT
  have CH := Lib.hid CH
  have COf := Lib.hid COf
  have CW := Lib.hid CW
  have C2 := Lib.hid (fun a' cap' => with_any x y X Y s (.slice a n cap) a' n cap' ⟨_, _, _, rfl⟩)
  have C4 := Lib.hid (fun wx hs => itself_any x y X Y s a n cap p hp (by omega) wx hs)
  have HPR := Lib.hid hpr
  have HTAB := Lib.hid htab
  have HFI := Lib.hid hfi
  have HMT := Lib.hid hmt
  have HMA := Lib.hid hma
  have HM0 := Lib.hid hm0
  have HLL := Lib.hid (fun k => lay_length fw k n)
  have HLN := Lib.hid (fun k => lay_set fw k n)
  have HP := Lib.hid hp
  have HLn := Lib.hid hl
  have HS := Lib.hid hS
  have HT := Lib.hid hT
  have hmx := hS.max
  have hmy := hT.max
  have hq : ((n : Int) != (n : Int)) = false := by simp
  clear hlr hwr hwl hw0 hge hpr hfw htab hfi hmt hma hm0 hTT hnorm hnormC hMX hLL hS hT hp hl hr hall
  obtain ⟨w1, hw1⟩ : ∃ w1, w.alloc (.cells #[.int .i64 x, .int .i64 y, .int .i64 X, .int .i64 Y, .int .i64 s, .slice a n cap] 28) = w1 := ⟨_, rfl⟩
  have M1 := (Mem.start w).alloc 28 (gc x y X Y s (.slice a n cap))
  rw [show w.alloc (.cells (gc x y X Y s (.slice a n cap)).toArray 28) = w1 from hw1] at M1
  obtain ⟨w2, hw2⟩ : ∃ w2, w1.alloc (.cells #[.int .i64 0, .int .i64 0, .int .i64 0, .int .i64 0, .int .i64 0, .slice none 0 0] 28) = w2 := ⟨_, rfl⟩
  have M2 := M1.alloc 28 (gc 0 0 0 0 0 (.slice none 0 0))
  rw [show w1.alloc (.cells (gc 0 0 0 0 0 (.slice none 0 0)).toArray 28) = w2 from hw2] at M2
  obtain ⟨w3, hw3⟩ : ∃ w3, w2.alloc (.cells #[.int .i64 0, .int .u64 0] 51) = w3 := ⟨_, rfl⟩
  have M3 := M2.alloc 51 [.int .i64 0, .int .u64 0]
  rw [show w2.alloc (.cells [Value.int .i64 0, .int .u64 0].toArray 51) = w3 from hw3] at M3
  have hsz : w1.heap.size = w.heap.size + 1 := by rw [← hw1]; simp
  have hsz2 : w2.heap.size = w1.heap.size + 1 := by rw [← hw2]; simp
  have HW1 := Lib.hid hw1
  have HW2 := Lib.hid hw2
  have HW3 := Lib.hid hw3
  have HZ1 := Lib.hid hsz
  have HZ2 := Lib.hid hsz2
  clear hw1 hw2 hw3 M1 M2 hsz hsz2
  go_enter Tryz.func27, Tryz.ntmps27
  go_upto_region 1 with fail
  rw [HW1.out, HW2.out, HW3.out]
  first
    | rw [← HZ1.out, ← HZ2.out]
    | rw [show w.heap.size + 2 = w2.heap.size by rw [HZ2.out, HZ1.out], ← HZ1.out]
  clear HW1 HW2 HW3
  obtain ⟨gW, hgW⟩ : ∃ gW, gW = w2.heap.size := ⟨_, rfl⟩
  obtain ⟨gB, hgB⟩ : ∃ gB, gB = w1.heap.size := ⟨_, rfl⟩
  obtain ⟨gA, hgA⟩ : ∃ gA, gA = w.heap.size := ⟨_, rfl⟩
  rw [← hgW] at M3 ⊢
  rw [← hgB] at M3 ⊢
  rw [← hgA] at M3 ⊢
  clear hgA hgB hgW HZ1 HZ2
  obtain ⟨c0, c1, c2, c3, c4, c5⟩ := gcells (M3.has (.tail _ _ _ _ _ (.tail _ _ _ _ _ (Has.head _ _ _ _))))
  go_wp2_with fail
  refine (CW.out _ (HT.out.below M3.below)).mono ?_
  rintro e w9 ⟨rfl, hA⟩
  replace M3 := M3.call hA
  clear c0 c1 c2 c3 c4 c5 hA CW
  go_wp2_with (refine wpL_mkM (t := 26) (e := 2) (z := .int .i64 0) (bytes := 8) M3 Tryz.underlying26 (by kernel_rfl) rfl rfl _ _ rfl n _ _ rfl rfl (by omega) (by unfold maxLen; omega) ?_)
  intro Bw w4 M4
  rw [i64s_rep, ← lay_0 fw n] at M4
  clear M3
  go_wp2_with fail
  go_loopw [9, 33] (fun v c wx => ∃ i : Nat, i ≤ n ∧ c = .int .i64 i ∧ v = .int .i64 (mxl (l.take i)) ∧ Mem w wx [(Bw, 2, i64s (lay fw i n)), (gW, 51, [.int .i64 0, .int .u64 0]), (gB, 28, gc 0 0 0 0 0 (.slice none 0 0)), (gA, 28, gc x y X Y s (.slice a n cap))]) (fun _ c _ => n - (intOf c).toNat)
  case atStart => exact ⟨0, Nat.zero_le _, rfl, by rw [HM0.out], M4⟩
  case round =>
    clear M4
    obtain ⟨i, hi, rfl, rfl, M⟩ := hrel
    by_cases hlt : i < n
    · obtain ⟨u, v, z, hu, hv, huv, hz, hz0, hz1, hv0, hv1⟩ := HPR.out i hlt
      obtain ⟨b, o, rfl, _, cu⟩ := cell64 (HS.out.below M.below) i (by rw [HP.out]; exact hlt)
      obtain ⟨bl, ol, rfl, _, cv⟩ := cell64 (HT.out.below M.below) i (by rw [HLn.out]; exact hlt)
      rw [hu] at cu
      rw [hv] at cv
      have hfz : fw i = z := by rw [HFI.out i hlt, hz]
      have hmt := HMT.out i hlt
      rw [hv] at hmt
      obtain ⟨M0, hM0⟩ : ∃ M0, M0 = mxl (l.take i) := ⟨_, rfl⟩
      rw [← hM0] at hmt ⊢
      obtain ⟨M1, hM1⟩ : ∃ M1, M1 = max M0 v := ⟨_, rfl⟩
      have hmxe : ∀ (ts : Array TypeId) (t : TypeId) (wx : World), (Builtin.max_ ts t #[.int .i64 M0, .int .i64 v]).run Tryz.prog wx = .ok (.int .i64 M1) wx := fun ts t wx => by rw [hM1]; exact HMX.out M0 v ts t wx
      rw [← hM1] at hmt
      have hst := HLN.out i hlt
      rw [hfz] at hst
      have hll := HLL.out i hi
      have wz : IntKind.i64.wrap z = z := IntWalk.i64_in _ (by omega)
      have HST := Lib.hid hst
      have HMTi := Lib.hid hmt
      obtain ⟨c0, c1, c2, c3, c4, c5⟩ := gcells (M.has (.tail _ _ _ _ _ (.tail _ _ _ _ _ (.tail _ _ _ _ _ (Has.head _ _ _ _)))))
      obtain ⟨u0, hu0⟩ : ∃ u0, wr.cell? ⟨Bw, i, none⟩ = some (.int .i64 u0) := ⟨_, M.cell (Has.head _ _ _ _) (i64s_at _ i (by rw [hll]; exact hlt))⟩
      have hf0 := M.free (Has.head _ _ _ _) i
      have M7 := M.set i (.int .i64 z) (Upd.head _ _ _ _ _) (by rw [i64s_length, hll]; exact hlt)
      rw [i64s_set, HST.out] at M7
      clear hu hv hz hfz hM0 hM1 hmt hst M
      go_wp2_with fail
      go_roundw
      case rel => exact ⟨i + 1, by omega, by go_num, by rw [HMTi.out], M7⟩
      case measure => simp [intOf]; omega
    · obtain rfl : n = i := by omega
      rw [lay_n, HTAB.out] at M
      rw [HMA.out]
      have hTl : L.length = n := by rw [← HTAB.out, tab_length]
      have HTL := Lib.hid hTl
      have hLS := Lib.hid (fun wx (Mx : Blk wx Bw 2 (i64s L)) => Mx.sl n (by rw [i64s_length, HTL.out]) (by unfold maxLen; omega))
      clear hTl HMT HLL HLN HPR HFI
      go_wp2_with fail
      refine (CT.out _ _ _ (hLS.out _ (M.has (Has.head _ _ _ _)))).mono ?_
      rintro e wx ⟨rfl, rfl⟩
      clear CT
      obtain ⟨c0, c1, c2, c3, c4, c5⟩ := gcells (M.has (.tail _ _ _ _ _ (.tail _ _ _ _ _ (.tail _ _ _ _ _ (Has.head _ _ _ _)))))
      by_cases h0 : T = 0
      · subst h0
        have e1 := HN.out
        have e2 := HNC.out
        rw [if_pos rfl] at e1 e2
        subst e1 e2
        go_wp2_with fail
        refine (C4.out _ (HS.out.below M.below)).mono ?_
        rintro e w4 ⟨a4, cap4, rfl, ho4, hA⟩
        have hz3 := M.below.size
        replace M := M.call hA
        clear c0 c1 c2 c3 c4 c5 hA
        go_wp2_with ((with_reducible refine (?_ : Go.wpList _ _ _ (_ :: _) _ _)); (first | go_skip | (refine wpL_stM (v := gv x y X Y s (.slice a4 n cap4)) M rfl rfl rfl rfl (wr_g _ _ _ _ _ _ _ _ _ _ _ _ _ _) (.tail _ _ _ _ _ _ _ (.tail _ _ _ _ _ _ _ (Upd.head _ _ _ _ _))) ?_; intro w4 M4 hT4) | (refine wpL_stM (v := wv 0 0) M4 rfl rfl rfl rfl (wr_w _ rfl _ _) (.tail _ _ _ _ _ _ _ (Upd.head _ _ _ _ _)) ?_; intro w5 M5 hT5)))
        have ho5 := gown_turned (gown_turned ho4 (M.has (.tail _ _ _ _ _ (.tail _ _ _ _ _ (Has.head _ _ _ _)))) (by decide) hT4) (M4.has (.tail _ _ _ _ _ (Has.head _ _ _ _))) (by decide) hT5
        ((try simp only [Exit.inBlock, Exit.then]); refine bodyPost_ret (res_cells_tmp2 rfl M5 rfl (.tail _ _ _ _ _ (.tail _ _ _ _ _ (Has.head _ _ _ _))) (rd_g _ _ _ _ _ _) rfl (.tail _ _ _ _ _ (Has.head _ _ _ _)) (rd_w _ _) rfl rfl) rfl ?_)
        exact ⟨_, _, rfl, ownsRow_base ho5 hz3, M5.below⟩
      · have e1 := HN.out
        have e2 := HNC.out
        rw [if_neg h0] at e1 e2
        subst e1 e2
        have bz : (T == 0) = false := by simpa using h0
        have CHH := Lib.hid (CH.out (by omega))
        have hz3 := M.below.size
        clear CH
        go_wp2_with fail
        refine wp_region_held_drew (S := (fun w' : World => w'.cell? ⟨gA, 0, none⟩ = some (.int .i64 x) ∧ w'.cell? ⟨gA, 1, none⟩ = some (.int .i64 y) ∧ w'.cell? ⟨gA, 2, none⟩ = some (.int .i64 X) ∧ w'.cell? ⟨gA, 3, none⟩ = some (.int .i64 Y) ∧ w'.cell? ⟨gA, 4, none⟩ = some (.int .i64 s) ∧ w'.cell? ⟨gA, 5, none⟩ = some (.slice a n cap))) (by kernel_rfl) (⟨c0, c1, c2, c3, c4, c5⟩) (fun hHeld => ?_)
        refine tkT 0 ?v187 ?hy187 hHeld ?rest187
        case hy187 => (intro w' hSw; (try dsimp only at hSw); go_simp; (try with_reducible rfl))
        try simp only [Act.put, puts]
        refine tkT 1 ?v188 ?hy188 hHeld ?rest188
        case hy188 => (intro w' hSw; (try dsimp only at hSw); go_simp; (try with_reducible rfl))
        try simp only [Act.put, puts]
        refine tkT 2 ?v189 ?hy189 hHeld ?rest189
        case hy189 => (intro w' hSw; (try dsimp only at hSw); go_simp; (try with_reducible rfl))
        try simp only [Act.put, puts]
        refine tkT 5 ?v190 ?hy190 hHeld ?rest190
        case hy190 => (intro w' hSw; (try dsimp only at hSw); go_simp; (try with_reducible rfl))
        try simp only [Act.put, puts]
        refine tkT 7 ?v191 ?hy191 hHeld ?rest191
        case hy191 => (intro w' hSw; (try dsimp only at hSw); go_simp; (try with_reducible rfl))
        try simp only [Act.put, puts]
        refine wpAnyH_ready (rs := [3]) (by kernel_rfl) (by simp) ?_
        refine AllReadyH.cons rfl (fun K hK => ?_) AllReadyH.nil
        go_simp
        refine (CHH.out _ _ _ (hLS.out _ (M.drew.has (Has.head _ _ _ _)))).mono ?_
        rintro e w5 ⟨a5, cap5, rfl, ho5, hA⟩
        have M5 := M.drew.call hA
        try go_wp2_with fail
        refine hK.out _ _ (gcells (M5.has (.tail _ _ _ _ _ (.tail _ _ _ _ _ (.tail _ _ _ _ _ (Has.head _ _ _ _)))))) (fun hHeld => ?_)
        clear hK K
        try simp only [Act.put, puts]
        refine wpAnyH_ready (rs := [4]) (by kernel_rfl) (by simp) ?_
        refine AllReadyH.cons rfl (fun K hK => ?_) AllReadyH.nil
        go_simp
        refine (C2.out a5 cap5 _).mono ?_
        rintro e w6 ⟨rfl, hA6⟩
        have M6 := M5.call hA6
        have ho6 := ownsRow_below ho5 hA6
        try go_wp2_with fail
        refine hK.out _ _ (gcells (M6.has (.tail _ _ _ _ _ (.tail _ _ _ _ _ (.tail _ _ _ _ _ (Has.head _ _ _ _)))))) (fun hHeld => ?_)
        clear hK K
        try simp only [Act.put, puts]
        refine wpAnyH_ready (rs := [6]) (by kernel_rfl) (by simp) ?_
        refine AllReadyH.cons rfl (fun K hK => ?_) AllReadyH.nil
        go_simp
        refine (COf.out _).mono ?_
        rintro e w7 ⟨rfl, hA7⟩
        have M7 := M6.call hA7
        have ho7 := ownsRow_below ho6 hA7
        try go_wp2_with fail
        refine hK.out _ _ (gcells (M7.has (.tail _ _ _ _ _ (.tail _ _ _ _ _ (.tail _ _ _ _ _ (Has.head _ _ _ _)))))) (fun hHeld => ?_)
        clear hK K
        try simp only [Act.put, puts]
        refine wpAnyH_ready (rs := [8]) (by kernel_rfl) (by simp) ?_
        refine AllReadyH.cons rfl (fun K hK => ?_) AllReadyH.nil
        rw [if_pos (by rfl)]
        refine wp_stM (v := gv x y X Y s (.slice a5 n cap5)) M7 rfl rfl rfl (wr_g _ _ _ _ _ _ _ _ _ _ _ _ _ _) (.tail _ _ _ _ _ _ _ (.tail _ _ _ _ _ _ _ (Upd.head _ _ _ _ _))) ?_
        intro w8 M8 hT8
        refine hK.out _ _ (gcells (M8.has (.tail _ _ _ _ _ (.tail _ _ _ _ _ (.tail _ _ _ _ _ (Has.head _ _ _ _)))))) (fun hHeld => ?_)
        clear hK K
        try simp only [Act.put, puts]
        refine wpAnyH_ready (rs := [9]) (by kernel_rfl) (by simp) ?_
        refine AllReadyH.cons rfl (fun K hK => ?_) AllReadyH.nil
        rw [if_pos (by rfl)]
        refine wp_stM (v := wv (hiZ T) (loZ T)) M8 rfl rfl rfl (wr_w _ rfl _ _) (.tail _ _ _ _ _ _ _ (Upd.head _ _ _ _ _)) ?_
        intro w9 M9 hT9
        refine hK.out _ _ (gcells (M9.has (.tail _ _ _ _ _ (.tail _ _ _ _ _ (.tail _ _ _ _ _ (Has.head _ _ _ _)))))) (fun hHeld => ?_)
        clear hK K
        try simp only [Act.put, puts]
        refine tkT 10 ?v197 ?hy197 hHeld ?rest197
        case hy197 => (intro w' hSw; (try dsimp only at hSw); go_simp; (try with_reducible rfl))
        try simp only [Act.put, puts]
        refine tkT 11 ?v198 ?hy198 hHeld ?rest198
        case hy198 => (intro w' hSw; (try dsimp only at hSw); go_simp; (try with_reducible rfl))
        try simp only [Act.put, puts]
        refine wpAnyH_done (by kernel_rfl) ?_ _
        have ho9 := gown_turned (gown_turned ho7 (M7.has (.tail _ _ _ _ _ (.tail _ _ _ _ _ (Has.head _ _ _ _)))) (by decide) hT8) (M8.has (.tail _ _ _ _ _ (Has.head _ _ _ _))) (by decide) hT9
        go_wp2_with fail
        ((try simp only [Exit.inBlock, Exit.then]); refine bodyPost_ret (res_cells_tmp2 rfl M9 rfl (.tail _ _ _ _ _ (.tail _ _ _ _ _ (Has.head _ _ _ _))) (rd_g _ _ _ _ _ _) rfl (.tail _ _ _ _ _ (Has.head _ _ _ _)) (rd_w _ _) rfl rfl) rfl ?_)
        exact ⟨_, _, rfl, ownsRow_base ho9 hz3, M9.below⟩
end Go.Proofs.YtallbegibdlpaaaGreat

/-
  Where a place lies; a grid that is moved: the code's.
-/
namespace Go.Proofs.YtallbegibdlpaaaGreat
open Go Go.RowKit Go.Th Go.Th.Grid Go.Th.Wide

end Go.Proofs.YtallbegibdlpaaaGreat
