/-
  Texts in one: GridSpecB, GridG, GridH, GridI, GridJ, GridK, GridM.
-/
import Derived.Test.YtanblpfpkohghaaDoorPackGridA
import Derived.BigRegion
import Derived.Test.YtanblpfpkohghaaDoorPackWide
set_option linter.unusedVariables false
set_option linter.unusedSimpArgs false

/-
  Grids: places cut out, split and joined; weighed; a part of the whole bit by bit; plain.
-/
namespace Go.Th.Grid

/-! ### Cut -/
def bel (p : List Int) (w h : Nat) (a b : Int) : Int := if (0 ≤ a ∧ a < w) ∧ 0 ≤ b ∧ b < h then p.getD (b.toNat * w + a.toNat) 0 else 0
def cutAt (p : List Int) (w h : Nat) (X Y : Int) (cw k : Nat) : Int := bel p w h (X + (k % cw : Nat)) (Y + (k / cw : Nat))
theorem bel_in (p : List Int) {w h a b : Nat} (ha : a < w) (hb : b < h) : bel p w h a b = p.getD (b * w + a) 0 := by
  unfold bel
  rw [if_pos ⟨⟨by omega, by omega⟩, by omega, by omega⟩, Int.toNat_natCast, Int.toNat_natCast]
theorem bel_rng {p : List Int} {w h : Nat} {M : Int} (hl : p.length = h * w) (hM : 0 ≤ M) (hp : ∀ x ∈ p, 0 ≤ x ∧ x ≤ M) (a b : Int) : 0 ≤ bel p w h a b ∧ bel p w h a b ≤ M := by
  unfold bel
  split
  · rename_i c
    exact getD_mem hp (by rw [hl]; exact at_lt (by omega) (by omega))
  · exact ⟨Int.le_refl _, hM⟩

/-! ### Split -/
def splitAt4 (p : List Int) (w k : Nat) : Int := p.getD (k / (2 * w) / 2 * w + k % (2 * w) / 2) 0 / 4
theorem splitAt4_at (p : List Int) {w x : Nat} (y : Nat) (hx : x < 2 * w) : splitAt4 p w (y * (2 * w) + x) = p.getD (y / 2 * w + x / 2) 0 / 4 := by
  unfold splitAt4; rw [div_at y hx, mod_at y hx]

/-! ### Join -/
def joinAt (p : List Int) (w k : Nat) : Int :=
  p.getD (2 * (k / (w / 2)) * w + 2 * (k % (w / 2))) 0 + p.getD (2 * (k / (w / 2)) * w + 2 * (k % (w / 2)) + 1) 0 + p.getD ((2 * (k / (w / 2)) + 1) * w + 2 * (k % (w / 2))) 0 + p.getD ((2 * (k / (w / 2)) + 1) * w + 2 * (k % (w / 2)) + 1) 0
def cellJ (w j : Nat) : Nat := j / w / 2 * (w / 2) + j % w / 2
/-- What has been joined of so many places. -/
def acc (p : List Int) (w t k : Nat) : Int := su (fun j => if cellJ w j = k then p.getD j 0 else 0) t
theorem acc_next (p : List Int) (w t k : Nat) : acc p w (t + 1) k = acc p w t k + if cellJ w t = k then p.getD t 0 else 0 := rfl
theorem tab_set (f : Nat → Int) (i : Nat) (v : Int) : ∀ m, (tab f m).set i v = tab (fun k => if k = i then v else f k) m
  | 0 => rfl
  | m + 1 => by
    rw [tab, tab]
    by_cases h : i < m
    · rw [List.set_append_left _ _ (by rw [tab_length]; exact h), tab_set f i v m, if_neg (by omega)]
    · rw [List.set_append_right _ _ (by rw [tab_length]; omega), tab_length, tab_congr (f := fun k => if k = i then v else f k) (g := f) m (fun k hk => if_neg (by omega))]
      by_cases e : m = i
      · subst e; rw [Nat.sub_self, if_pos rfl]; rfl
      · rw [if_neg e, List.set_eq_of_length_le (by simp; omega)]
theorem acc_set (p : List Int) (w t m : Nat) : (tab (acc p w t) m).set (cellJ w t) (acc p w t (cellJ w t) + p.getD t 0) = tab (acc p w (t + 1)) m := by
  rw [tab_set]
  refine tab_congr m (fun k _ => ?_)
  rw [acc_next]
  by_cases e : k = cellJ w t
  · subst e; rw [if_pos rfl, if_pos rfl]
  · rw [if_neg e, if_neg (fun h => e h.symm)]; omega
theorem acc_rng {p : List Int} {w n : Nat} {M : Int} (hl : p.length = n) (hp : ∀ x ∈ p, 0 ≤ x ∧ x ≤ M) (hM : 0 ≤ M) (t k : Nat) (ht : t ≤ n) : 0 ≤ acc p w t k ∧ acc p w t k ≤ M * (t : Int) := by
  unfold acc
  have h : ∀ i, i < t → 0 ≤ (if cellJ w i = k then p.getD i 0 else 0) ∧ (if cellJ w i = k then p.getD i 0 else 0) ≤ M := by
    intro i hi
    split
    · exact getD_mem hp (by rw [hl]; omega)
    · exact ⟨Int.le_refl _, hM⟩
  have h1 := su_le (f := fun _ => 0) t (fun i hi => (h i hi).1)
  have h2 := su_le (g := fun _ => M) t (fun i hi => (h i hi).2)
  rw [su_zero] at h1
  rw [su_const] at h2
  exact ⟨h1, h2⟩
theorem su_pair (g : Nat → Int) (X : Nat) : ∀ m, su (fun x => if x / 2 = X then g x else 0) (2 * m) = if X < m then g (2 * X) + g (2 * X + 1) else 0
  | 0 => by simp [su]
  | m + 1 => by
    rw [show 2 * (m + 1) = 2 * m + 1 + 1 by omega, su, su, su_pair g X m, show 2 * m / 2 = m by omega, show (2 * m + 1) / 2 = m by omega]
    by_cases h1 : X < m
    · rw [if_pos h1, if_pos (show X < m + 1 by omega)]; simp only [if_neg (show ¬ m = X by omega)]; omega
    · by_cases h2 : m = X
      · subst h2; rw [if_neg h1, if_pos (show m < m + 1 by omega)]; simp only [if_true]; omega
      · rw [if_neg h1, if_neg (show ¬ X < m + 1 by omega)]; simp only [if_neg h2]; rfl
theorem cellJ_at {m x : Nat} (y : Nat) (hx : x < 2 * m) : cellJ (2 * m) (y * (2 * m) + x) = y / 2 * m + x / 2 := by
  unfold cellJ
  rw [div_at y hx, mod_at y hx, Nat.mul_div_cancel_left m (by omega : 0 < 2)]
theorem cell_is {m a b k : Nat} (hb : b < m) : a * m + b = k ↔ a = k / m ∧ b = k % m := by
  constructor
  · rintro rfl; exact ⟨(div_at a hb).symm, (mod_at a hb).symm⟩
  · rintro ⟨rfl, rfl⟩; rw [Nat.mul_comm]; exact Nat.div_add_mod k m
theorem acc_all (p : List Int) (m h k : Nat) (hk : k < h * m) : acc p (2 * m) (2 * h * (2 * m)) k = joinAt p (2 * m) k := by
  have hY := row_lt hk
  have hX := col_lt hk
  unfold acc joinAt
  rw [su_rows, Nat.mul_div_cancel_left m (by omega : 0 < 2)]
  have h1 : ∀ y, su (fun x => if cellJ (2 * m) (y * (2 * m) + x) = k then p.getD (y * (2 * m) + x) 0 else 0) (2 * m) = if y / 2 = k / m then p.getD (y * (2 * m) + 2 * (k % m)) 0 + p.getD (y * (2 * m) + (2 * (k % m) + 1)) 0 else 0 := by
    intro y
    by_cases hy : y / 2 = k / m
    · rw [if_pos hy]
      have := su_pair (fun x => p.getD (y * (2 * m) + x) 0) (k % m) m
      rw [if_pos hX] at this
      rw [← this]
      refine su_congr _ (fun x hx => ?_)
      rw [cellJ_at y hx]
      by_cases hx2 : x / 2 = k % m
      · rw [if_pos hx2, if_pos ((cell_is (by omega)).2 ⟨hy, hx2⟩)]
      · rw [if_neg hx2, if_neg (fun e => hx2 ((cell_is (by omega)).1 e).2)]
    · rw [if_neg hy]
      refine (su_congr (g := fun _ => 0) _ (fun x hx => ?_)).trans (su_zero _)
      rw [cellJ_at y hx, if_neg (fun e => hy ((cell_is (by omega)).1 e).1)]
  rw [su_congr _ (fun y _ => h1 y), su_pair (fun y => p.getD (y * (2 * m) + 2 * (k % m)) 0 + p.getD (y * (2 * m) + (2 * (k % m) + 1)) 0) (k / m) h, if_pos hY]
  simp only [← Nat.add_assoc]
  omega
theorem su_one (c : Nat) (v : Int) : ∀ m, su (fun k => if c = k then v else 0) m = if c < m then v else 0
  | 0 => rfl
  | m + 1 => by
    rw [su, su_one c v m]
    by_cases h : c < m
    · rw [if_pos h, if_neg (by omega), if_pos (by omega)]; omega
    · by_cases e : c = m
      · subst e; rw [if_neg h, if_pos rfl, if_pos (by omega)]; omega
      · rw [if_neg h, if_neg e, if_neg (by omega)]; rfl
theorem acc_sum (p : List Int) (w m : Nat) : ∀ t, (∀ j, j < t → cellJ w j < m) → su (acc p w t) m = su (fun j => p.getD j 0) t
  | 0, _ => by rw [show su (acc p w 0) m = su (fun _ => 0) m from rfl, su_zero]; rfl
  | t + 1, h => by
    rw [show su (acc p w (t + 1)) m = su (fun k => acc p w t k + if cellJ w t = k then p.getD t 0 else 0) m from rfl, su_add, acc_sum p w m t (fun j hj => h j (by omega)), su_one, if_pos (h t (by omega)), su]
theorem cellJ_lt {m h j : Nat} (hj : j < 2 * h * (2 * m)) : cellJ (2 * m) j < h * m := by
  have h1 := row_lt hj
  have h2 := col_lt hj
  unfold cellJ
  rw [Nat.mul_div_cancel_left m (by omega : 0 < 2)]
  exact at_lt (by omega) (by omega)
theorem joined_sum (p : List Int) (m h : Nat) (hl : p.length = 2 * h * (2 * m)) : sm (tab (joinAt p (2 * m)) (h * m)) = sm p := by
  rw [sm_tab, sm_su p, hl, ← acc_sum p (2 * m) (h * m) _ (fun j hj => cellJ_lt hj)]
  exact su_congr _ (fun k hk => (acc_all p m h k hk).symm)

/-- Split and joined. -/
theorem back_at (p : List Int) {w h k : Nat} (hk : k < h * w) : joinAt (tab (splitAt4 p w) (2 * h * (2 * w))) (2 * w) k = 4 * (p.getD k 0 / 4) := by
  have hY := row_lt hk
  have hX := col_lt hk
  have e : k / w * w + k % w = k := by rw [Nat.mul_comm]; exact Nat.div_add_mod k w
  unfold joinAt
  rw [Nat.mul_div_cancel_left w (by omega : 0 < 2)]
  have f : ∀ y x, y < 2 * h → x < 2 * w → (tab (splitAt4 p w) (2 * h * (2 * w))).getD (y * (2 * w) + x) 0 = p.getD (y / 2 * w + x / 2) 0 / 4 := by
    intro y x hy hx
    rw [tab_getD _ _ (at_lt hx hy), splitAt4_at p y hx]
  rw [f _ _ (by omega) (by omega), Nat.add_assoc (2 * (k / w) * (2 * w)), f _ _ (by omega) (by omega), f _ _ (by omega) (by omega), Nat.add_assoc ((2 * (k / w) + 1) * (2 * w)), f _ _ (by omega) (by omega)]
  rw [show 2 * (k / w) / 2 = k / w by omega, show 2 * (k % w) / 2 = k % w by omega, show (2 * (k % w) + 1) / 2 = k % w by omega, show (2 * (k / w) + 1) / 2 = k / w by omega, e]
  omega

/-! ### Weighed -/
def wd (p l : List Int) : List Int := tab (fun i => p.getD i 0 * l.getD i 0) l.length
def mxl (l : List Int) : Int := l.foldl max 0
theorem mxl_snoc (l : List Int) (x : Int) : mxl (l ++ [x]) = max (mxl l) x := by simp [mxl]
theorem mxl_take (l : List Int) (i : Nat) (h : i < l.length) : mxl (l.take (i + 1)) = max (mxl (l.take i)) (l.getD i 0) := by
  rw [List.take_add_one, List.getElem?_eq_getElem h, getD_at _ _ h]
  exact mxl_snoc _ _
theorem wd_length (p l : List Int) : (wd p l).length = l.length := tab_length _ _
theorem wd_rng {p l : List Int} (hl : l.length = p.length) (hp : ∀ x ∈ p, 0 ≤ x ∧ x ≤ 1073741824) (hl0 : ∀ x ∈ l, 0 ≤ x ∧ x ≤ 65536) : ∀ x ∈ wd p l, 0 ≤ x ∧ x ≤ 70368744177664 := by
  refine tab_mem _ (fun k hk => ?_)
  have h1 := getD_mem (P := fun x => 0 ≤ x ∧ x ≤ 1073741824) hp (by omega : k < p.length)
  have h2 := getD_mem (P := fun x => 0 ≤ x ∧ x ≤ 65536) hl0 hk
  have h3 := Int.mul_nonneg h1.1 h2.1
  have h4 := Int.mul_le_mul h1.2 h2.2 h2.1 (by omega)
  exact ⟨h3, by omega⟩

/-! ### Bit by bit -/
/-- So many rounds: what has come out, and what is left. -/
theorem part_step {a b out rest : Int} {i : Nat} (h : 2 ^ i * a = 2 * (b * out) + rest) (h1 : 0 ≤ rest) (h2 : rest < 2 * b) :
    (b ≤ rest → 2 ^ (i + 1) * a = 2 * (b * (2 * out + 1)) + 2 * (rest - b) ∧ 0 ≤ 2 * (rest - b) ∧ 2 * (rest - b) < 2 * b) ∧ (¬ b ≤ rest → 2 ^ (i + 1) * a = 2 * (b * (2 * out)) + 2 * rest ∧ 0 ≤ 2 * rest ∧ 2 * rest < 2 * b) := by
  have e : (2 : Int) ^ (i + 1) * a = 2 * (2 ^ i * a) := by rw [Int.pow_succ, Int.mul_comm (2 ^ i) 2, Int.mul_assoc]
  have e2 : b * (2 * out) = 2 * (b * out) := by rw [← Int.mul_assoc, Int.mul_comm b 2, Int.mul_assoc]
  have e3 : b * (2 * out + 1) = 2 * (b * out) + b := by rw [Int.mul_add, e2, Int.mul_one]
  rw [e, h, e2, e3]
  refine ⟨fun c => ⟨by omega, by omega, by omega⟩, fun c => ⟨by omega, by omega, by omega⟩⟩
theorem part_end {a b out rest : Int} (h : 2 ^ 31 * a = 2 * (b * out) + rest) (h1 : 0 ≤ rest) (h2 : rest < 2 * b) : out = a * 1073741824 / b := by
  have e : a * 1073741824 = b * out + rest / 2 := by
    rw [show (2 : Int) ^ 31 = 2147483648 from rfl] at h
    omega
  have hb : 0 < b := by omega
  rw [e, Int.add_comm, Int.add_mul_ediv_left _ _ (by omega), Int.ediv_eq_zero_of_lt (by omega) (by omega)]
  omega
/-- What has come out is no more than the rounds allow. -/
theorem part_out {b out rest a : Int} {i : Nat} (h : 2 ^ i * a = 2 * (b * out) + rest) (h1 : 0 ≤ rest) (ha : a ≤ b) (hb : 0 < b) : out ≤ 2 ^ i := by
  have hp : (0 : Int) < 2 ^ i := Int.pow_pos (by omega)
  have h3 := Int.mul_le_mul_of_nonneg_left ha (Int.le_of_lt hp)
  refine Int.le_of_mul_le_mul_left (?_ : b * out ≤ b * 2 ^ i) hb
  rw [Int.mul_comm b (2 ^ i)]
  have : 0 ≤ 2 ^ i * b := Int.mul_nonneg (Int.le_of_lt hp) (Int.le_of_lt hb)
  omega
end Go.Th.Grid

/-
  How much a place is believed; places cut out of a grid: the code's.
-/
namespace Go.Proofs.YtanblpfpkohghaaDoor
open Go Go.RowKit Go.Th Go.Th.Grid Go.Th.Wide

set_option maxRecDepth 20000 in
theorem run_mk64 (m : Nat) (hm : m ≤ 1000000) (wx : World) : (Instr.makeSlice 26 (.int .i64 (m : Int)) (.int .i64 (m : Int))).run Tryd.prog wx = .ok (.slice (some ⟨wx.heap.size, 0, none⟩) m m) (wx.alloc (.cells (List.replicate m (Value.int .i64 0)).toArray 2)) := by
  obtain ⟨i, hi, h1, h2, h3⟩ := info_parts (P := Tryd.prog) (e := 2) (z := .int .i64 0) (size := 1) (bytes := 8) (by kernel_rfl)
  have hr := run_make (P := Tryd.prog) wx 26 2 i (.int .i64 0) Tryd.underlying26 hi h1 .i64 .i64 (m : Int) (m : Int) (by omega) (Int.le_refl _) (by rw [h3]; omega) (by omega)
  rw [hr, h2, Nat.mul_one]
  simp only [Int.toNat_natCast]
  congr 4
  apply Array.ext'
  exact toList_madeCells_one _ _

theorem zeroG : (Tryd.prog.info? 28).map (·.zero) = some (some (gv 0 0 0 0 0 (.slice none 0 0))) := by kernel_rfl
/-- A row of noughts is made. -/
theorem wp_mkM {w w0 : World} {bs : List (Nat × TypeId × List Value)} {o : Oper} {a : Act} {K : Act → World → Prop} {Q : Exit → Act → World → Prop} {l c : Operand} (M : Mem w0 w bs)
    (hr : ∀ (m : Nat), m ≤ 1000000 → ∀ wx : World, (Instr.makeSlice 26 (.int .i64 (m : Int)) (.int .i64 (m : Int))).run Tryd.prog wx = .ok (.slice (some ⟨wx.heap.size, 0, none⟩) m m) (wx.alloc (.cells (List.replicate m (Value.int .i64 0)).toArray 2)))
    (ho : o.op = Op.makeSlice 26 l c) (m : Nat) (hl : a.eval l = .int .i64 (m : Int)) (hc : a.eval c = .int .i64 (m : Int)) (hm : m ≤ 1000000)
    (h : ∀ g w', Mem w0 w' ((g, 2, List.replicate m (.int .i64 0)) :: bs) → K (a.put o.dst (.slice (some ⟨g, 0, none⟩) m m)) w') : o.wp Tryd.prog a w K Q := by
  unfold Oper.wp execOp
  simp only [ho, hl, hc, Sem.run_bind, hr m hm, Result.andThen_ok]
  exact h _ _ (M.alloc _ _)
theorem mem_swap {w0 w : World} {e1 e2 : Nat × TypeId × List Value} {bs : List (Nat × TypeId × List Value)} (M : Mem w0 w (e1 :: e2 :: bs)) : Mem w0 w (e2 :: e1 :: bs) where
  below := M.below
  nodup := by
    have := M.nodup
    simp only [List.map_cons, List.nodup_cons, List.mem_cons, not_or] at this ⊢
    exact ⟨⟨fun e => this.1.1 e.symm, this.2.1⟩, this.1.2, this.2.2⟩
  old := by
    intro e he
    refine M.old e ?_
    simp only [List.mem_cons] at he ⊢
    rcases he with h | h | h
    · exact .inr (.inl h)
    · exact .inl h
    · exact .inr (.inr h)
  blk := by
    intro e he
    refine M.blk e ?_
    simp only [List.mem_cons] at he ⊢
    rcases he with h | h | h
    · exact .inr (.inl h)
    · exact .inl h
    · exact .inr (.inr h)

end Go.Proofs.YtanblpfpkohghaaDoor

/-
  A grid that is split: the code's.
-/
namespace Go.Proofs.YtanblpfpkohghaaDoor
open Go Go.RowKit Go.Th Go.Th.Grid Go.Th.Wide

end Go.Proofs.YtanblpfpkohghaaDoor

/-
  A grid that is joined: the code's.
-/
namespace Go.Th.Grid
theorem tab_const (c : Int) : ∀ n, tab (fun _ => c) n = List.replicate n c
  | 0 => rfl
  | n + 1 => by rw [tab, tab_const c n, List.replicate_succ']
theorem tab_acc0 (p : List Int) (w m : Nat) : tab (acc p w 0) m = List.replicate m 0 := tab_const 0 m
end Go.Th.Grid
namespace Go.Proofs.YtanblpfpkohghaaDoor
open Go Go.RowKit Go.Th Go.Th.Grid Go.Th.Wide

end Go.Proofs.YtanblpfpkohghaaDoor

/-
  A row of one number, so often; an even grid: the code's.
-/
namespace Go.Th.Grid
open Go Go.RowKit Go.Th
theorem wpL_copy_at {P : Program} {w : World} {ops : Array Oper} {rest : List Oper} {o : Oper} {b : Act} {Q : Exit → Act → World → Prop} {t e : TypeId} {bytes n cap : Nat} {xs : List Value} (E : ElemOf P t e 1 bytes) (hgd : o.guard = none) (d s : Operand)
    (ho : o.op = .call { callee := .builtin .copy, args := #[d, s], argTypes := #[t, t] }) {base g off m dcap sl scap : Nat} {sa : Option Addr} {ys : List Value} (k : Nat)
    (hd : b.eval d = .slice (some ⟨g, off, none⟩) m dcap) (hs : b.eval s = .slice sa sl scap)
    (hown : w.ownsRow base e 1 (.slice (some ⟨g, 0, none⟩) n cap) n xs) (hS : Sl w 1 (.slice sa sl scap) sl ys) (hk : k = Nat.min sl m) (h0 : 0 < k) (hfit : off + k ≤ n) (h1 : ∀ u ∈ ys, u.oneCell' = true)
    (h : ∀ w', w'.ownsRow base e 1 (.slice (some ⟨g, 0, none⟩) n cap) n (over xs off (ys.take k)) → Turned (fun j => j = g) w w' → wpList P ops Q rest (b.put o.dst (goInt k)) w') : wpList P ops Q (o :: rest) b w :=
  wpList_plain hgd fun _ hK => wp_copy_at E d s ho k hd hs hown hS hk h0 hfit h1 fun w' a c => hK _ _ (h w' a c)
/-- So often, noughts behind. -/
def rp (u : Int) (i n : Nat) : List Int := List.replicate i u ++ List.replicate (n - i) 0
theorem rp_over (u : Int) {i k n : Nat} (h : i + k ≤ n) : over (rp u i n) i (List.replicate k u) = rp u (i + k) n := by
  unfold rp over splice
  rw [List.take_append_of_le_length (by simp), List.take_of_length_le (by simp), List.drop_append, List.length_replicate, List.length_replicate, List.drop_eq_nil_of_le (by simp), List.nil_append, List.drop_replicate, ← List.append_assoc, List.replicate_append_replicate]
  congr 2
  omega
theorem rp_take (u : Int) {i n : Nat} : (rp u i n).take i = List.replicate i u := by
  unfold rp
  rw [List.take_append_of_le_length (by simp), List.take_of_length_le (by simp)]
theorem rp_n (u : Int) (n : Nat) : rp u n n = List.replicate n u := by unfold rp; rw [Nat.sub_self, List.replicate_zero, List.append_nil]
theorem rep_tab (c : Int) : ∀ n, List.replicate n c = tab (fun _ => c) n
  | 0 => rfl
  | n + 1 => by rw [tab, ← rep_tab c n, List.replicate_succ']
end Go.Th.Grid
namespace Go.Proofs.YtanblpfpkohghaaDoor
open Go Go.RowKit Go.Th Go.Th.Grid Go.Th.Wide

theorem i64s_over (l m : List Int) (i : Nat) : over (i64s l) i (i64s m) = i64s (over l i m) := over_map _ _ _ _
theorem i64s_take (l : List Int) (k : Nat) : (i64s l).take k = i64s (l.take k) := by simp [i64s, List.map_take]

end Go.Proofs.YtanblpfpkohghaaDoor

/-
  Where a place lies; a grid that is moved; a grid that is weighed: the code's.
-/
namespace Go.Th.Grid
open Go Go.RowKit Go.Th
theorem res_cells_tmp2 {P : Program} {w w0 : World} {bs : List (Nat × TypeId × List Value)} {g off : Nat} {t ty : TypeId} {cs : List Value} {v : Value} {fn : Func} {p q r z : Tmp} {ty2 : TypeId} (h : fn.results = #[.cell p ty, .cell q ty2, .tmp r, .tmp z]) (M : Mem w0 w bs) {tmps : Array Value} (hp : tmps.getD p undef = .pointer (some ⟨g, off, none⟩)) (hm : Has bs g t cs) (hr : Rd P ty off cs v)
    {g2 off2 : Nat} {t2 : TypeId} {cs2 : List Value} {v2 u1 u2 : Value} (hq : tmps.getD q undef = .pointer (some ⟨g2, off2, none⟩)) (hm2 : Has bs g2 t2 cs2) (hr2 : Rd P ty2 off2 cs2 v2) (h1 : tmps.getD r undef = u1) (h2 : tmps.getD z undef = u2) : (results fn tmps).run P w = .ok (.tuple #[v, v2, u1, u2]) w := by
  have hp' : tmps[p]?.getD undef = .pointer (some ⟨g, off, none⟩) := by simpa using hp
  have hq' : tmps[q]?.getD undef = .pointer (some ⟨g2, off2, none⟩) := by simpa using hq
  have h1' : tmps[r]?.getD undef = u1 := by simpa using h1
  have h2' : tmps[z]?.getD undef = u2 := by simpa using h2
  simp [results, h, hp', hq', h1', h2', asAddr, hr.run w g t (M.has hm), hr2.run w g2 t2 (M.has hm2)]
/-- What a grid becomes that is weighed. -/
def wgh (p l : List Int) : List Int := if sm (wd p l) = 0 then p else (wd p l).map (share (sm (wd p l)))
end Go.Th.Grid
namespace Go.Proofs.YtanblpfpkohghaaDoor
open Go Go.RowKit Go.Th Go.Th.Grid Go.Th.Wide

/-- A grid is answered, a sum, a weight, and a code. -/
def WRes (x y X Y s : Int) (n : Nat) (l : List Int) (T most c : Int) (w : World) (e : Ending) (w' : World) : Prop :=
  ∃ a cap, e = .returned (.tuple #[gv x y X Y s (.slice a n cap), wv (hiZ T) (loZ T), .int .i64 most, .int .i64 c]) ∧ w'.ownsRow w.heap.size 2 1 (.slice a n cap) n (i64s l) ∧ Below w.heap.size w w'
theorem hi0 : hiZ 0 = 0 := by unfold hiZ; rfl
theorem lo0 : loZ 0 = 0 := by unfold loZ; rfl

end Go.Proofs.YtanblpfpkohghaaDoor

/-
  Where a place lies; a grid that is moved: the code's.
-/
namespace Go.Proofs.YtanblpfpkohghaaDoor
open Go Go.RowKit Go.Th Go.Th.Grid Go.Th.Wide

end Go.Proofs.YtanblpfpkohghaaDoor
