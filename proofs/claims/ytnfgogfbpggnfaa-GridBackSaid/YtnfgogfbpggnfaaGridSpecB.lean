/-
  Grids: places cut out, split and joined; weighed; a part of the whole bit by bit; plain.
-/
import Derived.Test.YtnfgogfbpggnfaaGridSpec
set_option linter.unusedVariables false
set_option linter.unusedSimpArgs false
namespace Go.Th.Grid

/-! ### Cut -/
def bel (p : List Int) (w h : Nat) (a b : Int) : Int := if (0 ≤ a ∧ a < w) ∧ 0 ≤ b ∧ b < h then p.getD (b.toNat * w + a.toNat) 0 else 0
def cutAt (p : List Int) (w h : Nat) (X Y : Int) (cw k : Nat) : Int := bel p w h (X + (k % cw : Nat)) (Y + (k / cw : Nat))
theorem bel_in (p : List Int) {w h a b : Nat} (ha : a < w) (hb : b < h) : bel p w h a b = p.getD (b * w + a) 0 := by
  unfold bel
  rw [if_pos ⟨⟨by omega, by omega⟩, by omega, by omega⟩, Int.toNat_natCast, Int.toNat_natCast]
theorem bel_rng {p : List Int} {w h : Nat} {M : Int} (hl : p.length = h * w) (hM : 0 ≤ M) (hp : ∀ x ∈ p, 0 ≤ x ∧ x ≤ M) (a b : Int) : 0 ≤ bel p w h a b ∧ bel p w h a b ≤ M := by
  unfold bel
  split
  · rename_i c
    exact getD_mem hp (by rw [hl]; exact at_lt (by omega) (by omega))
  · exact ⟨Int.le_refl _, hM⟩

/-! ### Split -/
def splitAt4 (p : List Int) (w k : Nat) : Int := p.getD (k / (2 * w) / 2 * w + k % (2 * w) / 2) 0 / 4
theorem splitAt4_at (p : List Int) {w x : Nat} (y : Nat) (hx : x < 2 * w) : splitAt4 p w (y * (2 * w) + x) = p.getD (y / 2 * w + x / 2) 0 / 4 := by
  unfold splitAt4; rw [div_at y hx, mod_at y hx]

/-! ### Join -/
def joinAt (p : List Int) (w k : Nat) : Int :=
  p.getD (2 * (k / (w / 2)) * w + 2 * (k % (w / 2))) 0 + p.getD (2 * (k / (w / 2)) * w + 2 * (k % (w / 2)) + 1) 0 + p.getD ((2 * (k / (w / 2)) + 1) * w + 2 * (k % (w / 2))) 0 + p.getD ((2 * (k / (w / 2)) + 1) * w + 2 * (k % (w / 2)) + 1) 0
def cellJ (w j : Nat) : Nat := j / w / 2 * (w / 2) + j % w / 2
/-- What has been joined of so many places. -/
def acc (p : List Int) (w t k : Nat) : Int := su (fun j => if cellJ w j = k then p.getD j 0 else 0) t
theorem acc_next (p : List Int) (w t k : Nat) : acc p w (t + 1) k = acc p w t k + if cellJ w t = k then p.getD t 0 else 0 := rfl
theorem tab_set (f : Nat → Int) (i : Nat) (v : Int) : ∀ m, (tab f m).set i v = tab (fun k => if k = i then v else f k) m
  | 0 => rfl
  | m + 1 => by
    rw [tab, tab]
    by_cases h : i < m
    · rw [List.set_append_left _ _ (by rw [tab_length]; exact h), tab_set f i v m, if_neg (by omega)]
    · rw [List.set_append_right _ _ (by rw [tab_length]; omega), tab_length, tab_congr (f := fun k => if k = i then v else f k) (g := f) m (fun k hk => if_neg (by omega))]
      by_cases e : m = i
      · subst e; rw [Nat.sub_self, if_pos rfl]; rfl
      · rw [if_neg e, List.set_eq_of_length_le (by simp; omega)]
theorem acc_set (p : List Int) (w t m : Nat) : (tab (acc p w t) m).set (cellJ w t) (acc p w t (cellJ w t) + p.getD t 0) = tab (acc p w (t + 1)) m := by
  rw [tab_set]
  refine tab_congr m (fun k _ => ?_)
  rw [acc_next]
  by_cases e : k = cellJ w t
  · subst e; rw [if_pos rfl, if_pos rfl]
  · rw [if_neg e, if_neg (fun h => e h.symm)]; omega
theorem acc_rng {p : List Int} {w n : Nat} {M : Int} (hl : p.length = n) (hp : ∀ x ∈ p, 0 ≤ x ∧ x ≤ M) (hM : 0 ≤ M) (t k : Nat) (ht : t ≤ n) : 0 ≤ acc p w t k ∧ acc p w t k ≤ M * (t : Int) := by
  unfold acc
  have h : ∀ i, i < t → 0 ≤ (if cellJ w i = k then p.getD i 0 else 0) ∧ (if cellJ w i = k then p.getD i 0 else 0) ≤ M := by
    intro i hi
    split
    · exact getD_mem hp (by rw [hl]; omega)
    · exact ⟨Int.le_refl _, hM⟩
  have h1 := su_le (f := fun _ => 0) t (fun i hi => (h i hi).1)
  have h2 := su_le (g := fun _ => M) t (fun i hi => (h i hi).2)
  rw [su_zero] at h1
  rw [su_const] at h2
  exact ⟨h1, h2⟩
theorem su_pair (g : Nat → Int) (X : Nat) : ∀ m, su (fun x => if x / 2 = X then g x else 0) (2 * m) = if X < m then g (2 * X) + g (2 * X + 1) else 0
  | 0 => by simp [su]
  | m + 1 => by
    rw [show 2 * (m + 1) = 2 * m + 1 + 1 by omega, su, su, su_pair g X m, show 2 * m / 2 = m by omega, show (2 * m + 1) / 2 = m by omega]
    by_cases h1 : X < m
    · rw [if_pos h1, if_pos (show X < m + 1 by omega)]; simp only [if_neg (show ¬ m = X by omega)]; omega
    · by_cases h2 : m = X
      · subst h2; rw [if_neg h1, if_pos (show m < m + 1 by omega)]; simp only [if_true]; omega
      · rw [if_neg h1, if_neg (show ¬ X < m + 1 by omega)]; simp only [if_neg h2]; rfl
theorem cellJ_at {m x : Nat} (y : Nat) (hx : x < 2 * m) : cellJ (2 * m) (y * (2 * m) + x) = y / 2 * m + x / 2 := by
  unfold cellJ
  rw [div_at y hx, mod_at y hx, Nat.mul_div_cancel_left m (by omega : 0 < 2)]
theorem cell_is {m a b k : Nat} (hb : b < m) : a * m + b = k ↔ a = k / m ∧ b = k % m := by
  constructor
  · rintro rfl; exact ⟨(div_at a hb).symm, (mod_at a hb).symm⟩
  · rintro ⟨rfl, rfl⟩; rw [Nat.mul_comm]; exact Nat.div_add_mod k m
theorem acc_all (p : List Int) (m h k : Nat) (hk : k < h * m) : acc p (2 * m) (2 * h * (2 * m)) k = joinAt p (2 * m) k := by
  have hY := row_lt hk
  have hX := col_lt hk
  unfold acc joinAt
  rw [su_rows, Nat.mul_div_cancel_left m (by omega : 0 < 2)]
  have h1 : ∀ y, su (fun x => if cellJ (2 * m) (y * (2 * m) + x) = k then p.getD (y * (2 * m) + x) 0 else 0) (2 * m) = if y / 2 = k / m then p.getD (y * (2 * m) + 2 * (k % m)) 0 + p.getD (y * (2 * m) + (2 * (k % m) + 1)) 0 else 0 := by
    intro y
    by_cases hy : y / 2 = k / m
    · rw [if_pos hy]
      have := su_pair (fun x => p.getD (y * (2 * m) + x) 0) (k % m) m
      rw [if_pos hX] at this
      rw [← this]
      refine su_congr _ (fun x hx => ?_)
      rw [cellJ_at y hx]
      by_cases hx2 : x / 2 = k % m
      · rw [if_pos hx2, if_pos ((cell_is (by omega)).2 ⟨hy, hx2⟩)]
      · rw [if_neg hx2, if_neg (fun e => hx2 ((cell_is (by omega)).1 e).2)]
    · rw [if_neg hy]
      refine (su_congr (g := fun _ => 0) _ (fun x hx => ?_)).trans (su_zero _)
      rw [cellJ_at y hx, if_neg (fun e => hy ((cell_is (by omega)).1 e).1)]
  rw [su_congr _ (fun y _ => h1 y), su_pair (fun y => p.getD (y * (2 * m) + 2 * (k % m)) 0 + p.getD (y * (2 * m) + (2 * (k % m) + 1)) 0) (k / m) h, if_pos hY]
  simp only [← Nat.add_assoc]
  omega
theorem su_one (c : Nat) (v : Int) : ∀ m, su (fun k => if c = k then v else 0) m = if c < m then v else 0
  | 0 => rfl
  | m + 1 => by
    rw [su, su_one c v m]
    by_cases h : c < m
    · rw [if_pos h, if_neg (by omega), if_pos (by omega)]; omega
    · by_cases e : c = m
      · subst e; rw [if_neg h, if_pos rfl, if_pos (by omega)]; omega
      · rw [if_neg h, if_neg e, if_neg (by omega)]; rfl
theorem acc_sum (p : List Int) (w m : Nat) : ∀ t, (∀ j, j < t → cellJ w j < m) → su (acc p w t) m = su (fun j => p.getD j 0) t
  | 0, _ => by rw [show su (acc p w 0) m = su (fun _ => 0) m from rfl, su_zero]; rfl
  | t + 1, h => by
    rw [show su (acc p w (t + 1)) m = su (fun k => acc p w t k + if cellJ w t = k then p.getD t 0 else 0) m from rfl, su_add, acc_sum p w m t (fun j hj => h j (by omega)), su_one, if_pos (h t (by omega)), su]
theorem cellJ_lt {m h j : Nat} (hj : j < 2 * h * (2 * m)) : cellJ (2 * m) j < h * m := by
  have h1 := row_lt hj
  have h2 := col_lt hj
  unfold cellJ
  rw [Nat.mul_div_cancel_left m (by omega : 0 < 2)]
  exact at_lt (by omega) (by omega)
theorem joined_sum (p : List Int) (m h : Nat) (hl : p.length = 2 * h * (2 * m)) : sm (tab (joinAt p (2 * m)) (h * m)) = sm p := by
  rw [sm_tab, sm_su p, hl, ← acc_sum p (2 * m) (h * m) _ (fun j hj => cellJ_lt hj)]
  exact su_congr _ (fun k hk => (acc_all p m h k hk).symm)

/-- Split and joined. -/
theorem back_at (p : List Int) {w h k : Nat} (hk : k < h * w) : joinAt (tab (splitAt4 p w) (2 * h * (2 * w))) (2 * w) k = 4 * (p.getD k 0 / 4) := by
  have hY := row_lt hk
  have hX := col_lt hk
  have e : k / w * w + k % w = k := by rw [Nat.mul_comm]; exact Nat.div_add_mod k w
  unfold joinAt
  rw [Nat.mul_div_cancel_left w (by omega : 0 < 2)]
  have f : ∀ y x, y < 2 * h → x < 2 * w → (tab (splitAt4 p w) (2 * h * (2 * w))).getD (y * (2 * w) + x) 0 = p.getD (y / 2 * w + x / 2) 0 / 4 := by
    intro y x hy hx
    rw [tab_getD _ _ (at_lt hx hy), splitAt4_at p y hx]
  rw [f _ _ (by omega) (by omega), Nat.add_assoc (2 * (k / w) * (2 * w)), f _ _ (by omega) (by omega), f _ _ (by omega) (by omega), Nat.add_assoc ((2 * (k / w) + 1) * (2 * w)), f _ _ (by omega) (by omega)]
  rw [show 2 * (k / w) / 2 = k / w by omega, show 2 * (k % w) / 2 = k % w by omega, show (2 * (k % w) + 1) / 2 = k % w by omega, show (2 * (k / w) + 1) / 2 = k / w by omega, e]
  omega

/-! ### Weighed -/
def wd (p l : List Int) : List Int := tab (fun i => p.getD i 0 * l.getD i 0) l.length
def mxl (l : List Int) : Int := l.foldl max 0
theorem mxl_snoc (l : List Int) (x : Int) : mxl (l ++ [x]) = max (mxl l) x := by simp [mxl]
theorem mxl_take (l : List Int) (i : Nat) (h : i < l.length) : mxl (l.take (i + 1)) = max (mxl (l.take i)) (l.getD i 0) := by
  rw [List.take_add_one, List.getElem?_eq_getElem h, getD_at _ _ h]
  exact mxl_snoc _ _
theorem wd_length (p l : List Int) : (wd p l).length = l.length := tab_length _ _
theorem wd_rng {p l : List Int} (hl : l.length = p.length) (hp : ∀ x ∈ p, 0 ≤ x ∧ x ≤ 1073741824) (hl0 : ∀ x ∈ l, 0 ≤ x ∧ x ≤ 65536) : ∀ x ∈ wd p l, 0 ≤ x ∧ x ≤ 70368744177664 := by
  refine tab_mem _ (fun k hk => ?_)
  have h1 := getD_mem (P := fun x => 0 ≤ x ∧ x ≤ 1073741824) hp (by omega : k < p.length)
  have h2 := getD_mem (P := fun x => 0 ≤ x ∧ x ≤ 65536) hl0 hk
  have h3 := Int.mul_nonneg h1.1 h2.1
  have h4 := Int.mul_le_mul h1.2 h2.2 h2.1 (by omega)
  exact ⟨h3, by omega⟩

/-! ### Bit by bit -/
/-- So many rounds: what has come out, and what is left. -/
theorem part_step {a b out rest : Int} {i : Nat} (h : 2 ^ i * a = 2 * (b * out) + rest) (h1 : 0 ≤ rest) (h2 : rest < 2 * b) :
    (b ≤ rest → 2 ^ (i + 1) * a = 2 * (b * (2 * out + 1)) + 2 * (rest - b) ∧ 0 ≤ 2 * (rest - b) ∧ 2 * (rest - b) < 2 * b) ∧ (¬ b ≤ rest → 2 ^ (i + 1) * a = 2 * (b * (2 * out)) + 2 * rest ∧ 0 ≤ 2 * rest ∧ 2 * rest < 2 * b) := by
  have e : (2 : Int) ^ (i + 1) * a = 2 * (2 ^ i * a) := by rw [Int.pow_succ, Int.mul_comm (2 ^ i) 2, Int.mul_assoc]
  have e2 : b * (2 * out) = 2 * (b * out) := by rw [← Int.mul_assoc, Int.mul_comm b 2, Int.mul_assoc]
  have e3 : b * (2 * out + 1) = 2 * (b * out) + b := by rw [Int.mul_add, e2, Int.mul_one]
  rw [e, h, e2, e3]
  refine ⟨fun c => ⟨by omega, by omega, by omega⟩, fun c => ⟨by omega, by omega, by omega⟩⟩
theorem part_end {a b out rest : Int} (h : 2 ^ 31 * a = 2 * (b * out) + rest) (h1 : 0 ≤ rest) (h2 : rest < 2 * b) : out = a * 1073741824 / b := by
  have e : a * 1073741824 = b * out + rest / 2 := by
    rw [show (2 : Int) ^ 31 = 2147483648 from rfl] at h
    omega
  have hb : 0 < b := by omega
  rw [e, Int.add_comm, Int.add_mul_ediv_left _ _ (by omega), Int.ediv_eq_zero_of_lt (by omega) (by omega)]
  omega
/-- What has come out is no more than the rounds allow. -/
theorem part_out {b out rest a : Int} {i : Nat} (h : 2 ^ i * a = 2 * (b * out) + rest) (h1 : 0 ≤ rest) (ha : a ≤ b) (hb : 0 < b) : out ≤ 2 ^ i := by
  have hp : (0 : Int) < 2 ^ i := Int.pow_pos (by omega)
  have h3 := Int.mul_le_mul_of_nonneg_left ha (Int.le_of_lt hp)
  refine Int.le_of_mul_le_mul_left (?_ : b * out ≤ b * 2 ^ i) hb
  rw [Int.mul_comm b (2 ^ i)]
  have : 0 ≤ 2 ^ i * b := Int.mul_nonneg (Int.le_of_lt hp) (Int.le_of_lt hb)
  omega
end Go.Th.Grid
