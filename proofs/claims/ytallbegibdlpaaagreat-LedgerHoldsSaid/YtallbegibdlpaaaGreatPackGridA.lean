/-
  Texts in one: GridSpec, GridA, GridB, GridC, GridD, GridE, GridF.
-/
import Derived.Test.YtallbegibdlpaaaGreatRows
import Derived.Test.YtallbegibdlpaaaGreatI64s
import Derived.Test.YtallbegibdlpaaaGreatPackBits
import Derived.Deep.Cut
import Derived.Deep.QuietTactic
import Derived.BigQuiet
import Derived.OwnWalk
import Derived.Laws.OwnMore
import Derived.Test.YtallbegibdlpaaaGreatPackWide
set_option linter.unusedVariables false
set_option linter.unusedSimpArgs false

/-
  Grids: rows made place by place, sums, parts of a whole; plain.
-/
namespace Go.Th.Grid

/-- Numbers together. -/
def sm : List Int → Int
  | [] => 0
  | x :: r => x + sm r
theorem sm_app (a b : List Int) : sm (a ++ b) = sm a + sm b := by
  induction a with
  | nil => simp [sm]
  | cons x r ih => simp only [List.cons_append, sm, ih]; omega
theorem getD_at (l : List Int) (i : Nat) (h : i < l.length) : l.getD i 0 = l[i] := by simp [List.getD, h]
theorem sm_take (l : List Int) (i : Nat) (h : i < l.length) : sm (l.take (i + 1)) = sm (l.take i) + l.getD i 0 := by
  rw [List.take_add_one, List.getElem?_eq_getElem h, sm_app, getD_at _ _ h]
  simp [sm]
theorem sm_rng {l : List Int} {M : Int} (h : ∀ x ∈ l, 0 ≤ x ∧ x ≤ M) : 0 ≤ sm l ∧ sm l ≤ M * (l.length : Int) := by
  induction l with
  | nil => simp [sm]
  | cons y r ih =>
    have h1 := ih (fun z hz => h z (by simp [hz]))
    have h2 := h y (by simp)
    rw [sm, List.length_cons]
    push_cast
    rw [Int.mul_add]
    omega
theorem sm_pos {l : List Int} (h : ∀ x ∈ l, 0 ≤ x) : 0 ≤ sm l := by
  induction l with
  | nil => simp [sm]
  | cons y r ih =>
    have h1 := ih (fun z hz => h z (by simp [hz]))
    have h2 := h y (by simp)
    rw [sm]; omega
theorem sm_ge {l : List Int} (h : ∀ x ∈ l, 0 ≤ x) : ∀ x ∈ l, x ≤ sm l := by
  induction l with
  | nil => intro x hx; cases hx
  | cons y r ih =>
    intro x hx
    have h1 := sm_pos (l := r) (fun z hz => h z (by simp [hz]))
    have h2 := h y (by simp)
    rw [sm]
    rcases List.mem_cons.1 hx with rfl | hx
    · omega
    · have := ih (fun z hz => h z (by simp [hz])) x hx
      omega
theorem sm_take_le {l : List Int} (h : ∀ x ∈ l, 0 ≤ x) (i : Nat) : 0 ≤ sm (l.take i) ∧ sm (l.take i) ≤ sm l := by
  have h1 := sm_pos (l := l.take i) (fun x hx => h x (List.mem_of_mem_take hx))
  have h2 := sm_pos (l := l.drop i) (fun x hx => h x (List.mem_of_mem_drop hx))
  have h3 := sm_app (l.take i) (l.drop i)
  rw [List.take_append_drop] at h3
  omega
/-- A row made place by place. -/
def tab (f : Nat → Int) : Nat → List Int
  | 0 => []
  | k + 1 => tab f k ++ [f k]
theorem tab_next (f : Nat → Int) (k : Nat) : tab f (k + 1) = tab f k ++ [f k] := rfl
theorem tab_length (f : Nat → Int) : ∀ k, (tab f k).length = k
  | 0 => rfl
  | k + 1 => by rw [tab, List.length_append, tab_length f k]; rfl
theorem tab_getD (f : Nat → Int) {i : Nat} : ∀ k, i < k → (tab f k).getD i 0 = f i
  | 0, h => by omega
  | k + 1, h => by
    by_cases hi : i < k
    · have := tab_getD f k hi
      rw [tab, List.getD_eq_getElem?_getD, List.getElem?_append_left (by rw [tab_length]; exact hi), ← List.getD_eq_getElem?_getD]
      exact this
    · obtain rfl : i = k := by omega
      rw [tab, List.getD_eq_getElem?_getD, List.getElem?_append_right (by rw [tab_length]; exact Nat.le_refl _), tab_length, Nat.sub_self]
      rfl
theorem tab_congr {f g : Nat → Int} : ∀ k : Nat, (∀ i, i < k → f i = g i) → tab f k = tab g k
  | 0, _ => rfl
  | k + 1, h => by rw [tab, tab, tab_congr k (fun i hi => h i (by omega)), h k (by omega)]
theorem tab_mem {f : Nat → Int} {P : Int → Prop} : ∀ k : Nat, (∀ i, i < k → P (f i)) → ∀ x ∈ tab f k, P x
  | 0, _, x, hx => by cases hx
  | k + 1, h, x, hx => by
    rw [tab] at hx
    rcases List.mem_append.1 hx with hx | hx
    · exact tab_mem k (fun i hi => h i (by omega)) x hx
    · rw [List.mem_singleton.1 hx]; exact h k (by omega)
theorem tab_take (l : List Int) : ∀ k, k ≤ l.length → tab (fun i => l.getD i 0) k = l.take k
  | 0, _ => by simp [tab]
  | k + 1, h => by
    rw [tab, tab_take l k (by omega), List.take_add_one, List.getElem?_eq_getElem (by omega), getD_at _ _ (by omega)]
    rfl
theorem tab_self (l : List Int) : tab (fun i => l.getD i 0) l.length = l := by rw [tab_take l _ (Nat.le_refl _), List.take_length]
theorem tab_map (l : List Int) (f : Int → Int) : tab (fun i => f (l.getD i 0)) l.length = l.map f := by
  have h : ∀ k, tab (fun i => f (l.getD i 0)) k = (tab (fun i => l.getD i 0) k).map f := by
    intro k
    induction k with
    | zero => rfl
    | succ k ih => rw [tab, tab, ih, List.map_append]; rfl
  rw [h, tab_self]
theorem getD_mem {P : Int → Prop} {l : List Int} (h : ∀ x ∈ l, P x) {i : Nat} (hi : i < l.length) : P (l.getD i 0) := by
  rw [getD_at _ _ hi]; exact h _ (List.getElem_mem hi)

/-- So many places of it, noughts behind. -/
def lay (f : Nat → Int) (k n : Nat) : List Int := tab f k ++ List.replicate (n - k) 0
theorem lay_0 (f : Nat → Int) (n : Nat) : lay f 0 n = List.replicate n 0 := rfl
theorem lay_n (f : Nat → Int) (n : Nat) : lay f n n = tab f n := by unfold lay; rw [Nat.sub_self, List.replicate_zero, List.append_nil]
theorem lay_length (f : Nat → Int) (k n : Nat) (h : k ≤ n) : (lay f k n).length = n := by
  unfold lay; rw [List.length_append, tab_length, List.length_replicate]; omega
theorem lay_set (f : Nat → Int) (k n : Nat) (h : k < n) : (lay f k n).set k (f k) = lay f (k + 1) n := by
  unfold lay
  rw [List.set_append_right _ _ (by rw [tab_length]; exact Nat.le_refl _), tab_length, Nat.sub_self, show n - k = (n - (k + 1)) + 1 by omega, List.replicate_succ, tab, List.append_assoc]
  rfl

/-! ### Sums by places -/
def su (f : Nat → Int) : Nat → Int
  | 0 => 0
  | k + 1 => su f k + f k
theorem sm_tab (f : Nat → Int) : ∀ k, sm (tab f k) = su f k
  | 0 => rfl
  | k + 1 => by rw [tab, sm_app, sm_tab f k, su]; simp [sm]
theorem sm_su (l : List Int) : sm l = su (fun i => l.getD i 0) l.length := by rw [← sm_tab, tab_self]
theorem su_congr {f g : Nat → Int} : ∀ k : Nat, (∀ i, i < k → f i = g i) → su f k = su g k
  | 0, _ => rfl
  | k + 1, h => by rw [su, su, su_congr k (fun i hi => h i (by omega)), h k (by omega)]
theorem su_zero : ∀ k : Nat, su (fun _ => 0) k = 0
  | 0 => rfl
  | k + 1 => by rw [su, su_zero k]; rfl
theorem su_add (f g : Nat → Int) : ∀ k : Nat, su (fun i => f i + g i) k = su f k + su g k
  | 0 => rfl
  | k + 1 => by rw [su, su, su, su_add f g k]; omega
theorem su_mul (c : Int) (f : Nat → Int) : ∀ k : Nat, su (fun i => c * f i) k = c * su f k
  | 0 => by simp [su]
  | k + 1 => by rw [su, su, su_mul c f k, Int.mul_add]
theorem su_swap (g : Nat → Nat → Int) (m : Nat) : ∀ k : Nat, su (fun j => su (fun i => g i j) m) k = su (fun i => su (fun j => g i j) k) m
  | 0 => by rw [show su (fun i => su (fun j => g i j) 0) m = su (fun _ => 0) m from rfl, su_zero]; rfl
  | k + 1 => by
    rw [su, su_swap g m k]
    rw [show su (fun i => su (fun j => g i j) (k + 1)) m = su (fun i => su (fun j => g i j) k + g i k) m from rfl, su_add]
theorem su_le {f g : Nat → Int} : ∀ k : Nat, (∀ i, i < k → f i ≤ g i) → su f k ≤ su g k
  | 0, _ => Int.le_refl _
  | k + 1, h => by
    have h1 := su_le k (fun i hi => h i (by omega))
    have h2 := h k (by omega)
    rw [su, su]; omega
theorem su_const (c : Int) : ∀ k : Nat, su (fun _ => c) k = c * (k : Int)
  | 0 => by simp [su]
  | k + 1 => by rw [su, su_const c k]; push_cast; rw [Int.mul_add]; omega
theorem su_len (f : Nat → Int) (a : Nat) : ∀ b : Nat, su f (a + b) = su f a + su (fun i => f (a + i)) b
  | 0 => by simp [su]
  | b + 1 => by rw [← Nat.add_assoc, su, su_len f a b, su]; omega
/-- Row by row. -/
theorem su_rows (f : Nat → Int) (w : Nat) : ∀ h : Nat, su f (h * w) = su (fun y => su (fun x => f (y * w + x)) w) h
  | 0 => by rw [Nat.zero_mul]; rfl
  | h + 1 => by rw [Nat.succ_mul, su_len, su_rows f w h, su]
/-- Each place is ahead of one, and behind one, or at an end. -/
theorem su_nb (g : Nat → Int) (n : Nat) : su (fun i => g (i - 1) + g (min (i + 1) (n - 1))) n = 2 * su g n := by
  cases n with
  | zero => rfl
  | succ m =>
    rw [su_add]
    have h1 : ∀ k, su (fun i => g (i - 1)) (k + 1) = g 0 + su g k := by
      intro k
      induction k with
      | zero => simp [su]
      | succ k ih => rw [su, ih, su]; simp; omega
    have h2 : su (fun i => g (min (i + 1) (m + 1 - 1))) (m + 1) = su (fun i => g (i + 1)) m + g m := by
      rw [su, Nat.add_sub_cancel, Nat.min_eq_right (by omega : m ≤ m + 1)]
      congr 1
      refine su_congr m (fun i hi => ?_)
      rw [Nat.min_eq_left (by omega)]
    have h3 : ∀ k, su g (k + 1) = g 0 + su (fun i => g (i + 1)) k := by
      intro k
      induction k with
      | zero => simp [su]
      | succ k ih => rw [su, ih, su]; omega
    have h4 : su g (m + 1) = su g m + g m := rfl
    have h5 := h3 m
    rw [h1 m, h2]
    omega

/-! ### Columns and rows -/
theorem div_at {w x : Nat} (y : Nat) (hx : x < w) : (y * w + x) / w = y := by
  rw [Nat.mul_comm, Nat.mul_add_div (by omega), Nat.div_eq_of_lt hx, Nat.add_zero]
theorem mod_at {w x : Nat} (y : Nat) (hx : x < w) : (y * w + x) % w = x := by
  rw [Nat.mul_comm, Nat.mul_add_mod, Nat.mod_eq_of_lt hx]
theorem at_lt {w h x y : Nat} (hx : x < w) (hy : y < h) : y * w + x < h * w := by
  have := Nat.mul_le_mul_right w (Nat.succ_le_of_lt hy)
  rw [Nat.succ_mul] at this
  omega
theorem row_lt {w h k : Nat} (hk : k < h * w) : k / w < h := Nat.div_lt_of_lt_mul (by rw [Nat.mul_comm]; exact hk)
theorem col_lt {w h k : Nat} (hk : k < h * w) : k % w < w := Nat.mod_lt _ (by
  rcases Nat.eq_zero_or_pos w with h0 | h0
  · subst h0; simp at hk
  · exact h0)

/-! ### Spread -/
def mix (q a b c : Int) : Int := (q * a + (256 - 2 * q) * b + q * c) / 256
theorem mix_sum {q a b c M : Int} (hq : 0 ≤ q ∧ q ≤ 85) (ha : 0 ≤ a ∧ a ≤ M) (hb : 0 ≤ b ∧ b ≤ M) (hc : 0 ≤ c ∧ c ≤ M) :
    0 ≤ q * a ∧ q * a ≤ q * M ∧ 0 ≤ (256 - 2 * q) * b ∧ (256 - 2 * q) * b ≤ 256 * M - 2 * (q * M) ∧ 0 ≤ q * c ∧ q * c ≤ q * M ∧ 0 ≤ q * M ∧ q * M ≤ 85 * M := by
  have h1 := Int.mul_nonneg hq.1 ha.1
  have h2 := Int.mul_nonneg hq.1 hc.1
  have h3 := Int.mul_nonneg (by omega : 0 ≤ 256 - 2 * q) hb.1
  have h4 := Int.mul_le_mul_of_nonneg_left ha.2 hq.1
  have h5 := Int.mul_le_mul_of_nonneg_left hc.2 hq.1
  have h6 := Int.mul_le_mul_of_nonneg_left hb.2 (by omega : 0 ≤ 256 - 2 * q)
  have h7 : (256 - 2 * q) * M = 256 * M - 2 * (q * M) := by rw [Int.sub_mul, Int.mul_assoc]
  have h8 := Int.mul_le_mul_of_nonneg_right hq.2 (by omega : 0 ≤ M)
  have h9 := Int.mul_nonneg hq.1 (by omega : 0 ≤ M)
  omega
theorem mix_rng {q a b c M : Int} (hq : 0 ≤ q ∧ q ≤ 85) (ha : 0 ≤ a ∧ a ≤ M) (hb : 0 ≤ b ∧ b ≤ M) (hc : 0 ≤ c ∧ c ≤ M) : 0 ≤ mix q a b c ∧ mix q a b c ≤ M := by
  have h := mix_sum hq ha hb hc
  unfold mix
  omega

def mixAt (p : List Int) (w h : Nat) (q : Int) (dx dy k : Nat) : Int :=
  mix q (p.getD ((k / w - dy) * w + (k % w - dx)) 0) (p.getD k 0) (p.getD (min (k / w + dy) (h - 1) * w + min (k % w + dx) (w - 1)) 0)
def pass (p : List Int) (w h : Nat) (q : Int) (dx dy : Nat) : List Int := tab (mixAt p w h q dx dy) (h * w)
def spread (p : List Int) (w h : Nat) (q : Int) : List Int := pass (pass p w h q 1 0) w h q 0 1
theorem pass_length (p : List Int) (w h : Nat) (q : Int) (dx dy : Nat) : (pass p w h q dx dy).length = h * w := tab_length _ _
theorem spread_length (p : List Int) (w h : Nat) (q : Int) : (spread p w h q).length = h * w := tab_length _ _
theorem pass_rng {p : List Int} {w h : Nat} {q M : Int} (dx dy : Nat) (hq : 0 ≤ q ∧ q ≤ 85) (hl : p.length = h * w) (hp : ∀ x ∈ p, 0 ≤ x ∧ x ≤ M) : ∀ x ∈ pass p w h q dx dy, 0 ≤ x ∧ x ≤ M := by
  refine tab_mem _ (fun k hk => ?_)
  have h1 := row_lt hk
  have h2 := col_lt hk
  have e1 : (k / w - dy) * w + (k % w - dx) < h * w := at_lt (Nat.lt_of_le_of_lt (Nat.sub_le _ _) h2) (Nat.lt_of_le_of_lt (Nat.sub_le _ _) h1)
  have e2 : min (k / w + dy) (h - 1) * w + min (k % w + dx) (w - 1) < h * w := at_lt (Nat.lt_of_le_of_lt (Nat.min_le_right _ _) (Nat.sub_lt (Nat.lt_of_le_of_lt (Nat.zero_le _) h2) Nat.zero_lt_one)) (Nat.lt_of_le_of_lt (Nat.min_le_right _ _) (Nat.sub_lt (Nat.lt_of_le_of_lt (Nat.zero_le _) h1) Nat.zero_lt_one))
  rw [← hl] at hk e1 e2
  exact mix_rng hq (getD_mem hp e1) (getD_mem hp hk) (getD_mem hp e2)
theorem spread_rng {p : List Int} {w h : Nat} {q M : Int} (hq : 0 ≤ q ∧ q ≤ 85) (hl : p.length = h * w) (hp : ∀ x ∈ p, 0 ≤ x ∧ x ≤ M) : ∀ x ∈ spread p w h q, 0 ≤ x ∧ x ≤ M :=
  pass_rng 0 1 hq (pass_length ..) (pass_rng 1 0 hq hl hp)

theorem nb_sum (p : List Int) (w h dx dy : Nat) (hd : (dx = 1 ∧ dy = 0) ∨ (dx = 0 ∧ dy = 1)) :
    su (fun k => p.getD ((k / w - dy) * w + (k % w - dx)) 0 + p.getD (min (k / w + dy) (h - 1) * w + min (k % w + dx) (w - 1)) 0) (h * w) = 2 * su (fun k => p.getD k 0) (h * w) := by
  rw [su_rows, su_rows]
  rcases hd with ⟨rfl, rfl⟩ | ⟨rfl, rfl⟩
  · rw [← su_mul]
    refine su_congr h (fun y hy => ?_)
    rw [← su_nb (fun x => p.getD (y * w + x) 0) w]
    refine su_congr w (fun x hx => ?_)
    rw [div_at y hx, mod_at y hx, Nat.sub_zero, Nat.add_zero, Nat.min_eq_left (by omega : y ≤ h - 1)]
  · rw [su_swap (fun x y => p.getD (((y * w + x) / w - 1) * w + ((y * w + x) % w - 0)) 0 + p.getD (min ((y * w + x) / w + 1) (h - 1) * w + min ((y * w + x) % w + 0) (w - 1)) 0) w h, su_swap (fun x y => p.getD (y * w + x) 0) w h, ← su_mul]
    refine su_congr w (fun x hx => ?_)
    rw [← su_nb (fun y => p.getD (y * w + x) 0) h]
    refine su_congr h (fun y hy => ?_)
    rw [div_at y hx, mod_at y hx, Nat.sub_zero, Nat.add_zero x, Nat.min_eq_left (by omega : x ≤ w - 1)]
theorem pass_sum {p : List Int} {w h : Nat} {q : Int} (dx dy : Nat) (hd : (dx = 1 ∧ dy = 0) ∨ (dx = 0 ∧ dy = 1)) (hl : p.length = h * w) :
    sm (pass p w h q dx dy) ≤ sm p ∧ sm p - sm (pass p w h q dx dy) ≤ ((h * w : Nat) : Int) := by
  unfold pass
  rw [sm_tab, sm_su p, hl]
  obtain ⟨n, hn⟩ : ∃ n, n = h * w := ⟨_, rfl⟩
  have hs := nb_sum p w h dx dy hd
  rw [← hn] at hs ⊢
  obtain ⟨A, hA⟩ : ∃ A : Nat → Int, A = fun k => p.getD ((k / w - dy) * w + (k % w - dx)) 0 := ⟨_, rfl⟩
  obtain ⟨B, hB⟩ : ∃ B : Nat → Int, B = fun k => p.getD k 0 := ⟨_, rfl⟩
  obtain ⟨C, hC⟩ : ∃ C : Nat → Int, C = fun k => p.getD (min (k / w + dy) (h - 1) * w + min (k % w + dx) (w - 1)) 0 := ⟨_, rfl⟩
  have e1 : mixAt p w h q dx dy = fun k => mix q (A k) (B k) (C k) := by rw [hA, hB, hC]; rfl
  have e2 : su (fun k => A k + C k) n = 2 * su B n := by rw [hA, hB, hC]; exact hs
  rw [show (fun i => p.getD i 0) = B from hB.symm, e1]
  have e3 : su (fun k => q * (A k + C k) + (256 - 2 * q) * B k) n = 256 * su B n := by
    rw [su_add, su_mul, su_mul, e2, Int.sub_mul, Int.mul_assoc, ← Int.mul_assoc q 2, Int.mul_comm q 2, Int.mul_assoc]
    omega
  have e4 : ∀ k, q * (A k + C k) + (256 - 2 * q) * B k = q * A k + (256 - 2 * q) * B k + q * C k := by
    intro k; rw [Int.mul_add]; omega
  have h1 : su (fun k => 256 * mix q (A k) (B k) (C k)) n ≤ 256 * su B n := by
    rw [← e3]
    refine su_le n (fun k _ => ?_)
    rw [e4]; unfold mix; omega
  have h2 : 256 * su B n ≤ su (fun k => 256 * mix q (A k) (B k) (C k) + 256) n := by
    rw [← e3]
    refine su_le n (fun k _ => ?_)
    rw [e4]; unfold mix; omega
  rw [su_mul] at h1
  rw [su_add, su_mul, su_const] at h2
  omega
/-! ### Parts of the whole -/
def share (s x : Int) : Int := x * 1073741824 / s
theorem share_rng {s x : Int} (hs : 0 < s) (h : 0 ≤ x ∧ x ≤ s) : 0 ≤ share s x ∧ share s x ≤ 1073741824 := by
  unfold share
  refine ⟨Int.ediv_nonneg (by omega) (by omega), ?_⟩
  refine Int.ediv_le_of_le_mul hs ?_
  have := Int.mul_le_mul_of_nonneg_right h.2 (by omega : (0 : Int) ≤ 1073741824)
  rw [Int.mul_comm 1073741824]
  exact this
theorem share_sum {s : Int} (hs : 0 < s) (p : List Int) : s * sm (p.map (share s)) ≤ 1073741824 * sm p ∧ 1073741824 * sm p ≤ s * sm (p.map (share s)) + s * (p.length : Int) := by
  induction p with
  | nil => simp [sm]
  | cons x r ih =>
    rw [List.map_cons, sm, sm, List.length_cons]
    push_cast
    rw [Int.mul_add, Int.mul_add, Int.mul_add]
    have h1 := Int.mul_ediv_add_emod (x * 1073741824) s
    have h2 := Int.emod_nonneg (x * 1073741824) (by omega : s ≠ 0)
    have h3 := Int.emod_lt_of_pos (x * 1073741824) hs
    unfold share
    unfold share at ih
    omega
theorem shares_sum {p : List Int} (hs : 0 < sm p) : 1073741824 - (p.length : Int) ≤ sm (p.map (share (sm p))) ∧ sm (p.map (share (sm p))) ≤ 1073741824 := by
  obtain ⟨h1, h2⟩ := share_sum hs p
  have e : 1073741824 * sm p = sm p * 1073741824 := Int.mul_comm _ _
  rw [e] at h1 h2
  rw [← Int.mul_add] at h2
  have a := Int.le_of_mul_le_mul_left h1 hs
  have b := Int.le_of_mul_le_mul_left h2 hs
  omega
def norm (p : List Int) : List Int := if sm p = 0 then p else p.map (share (sm p))
def normC (p : List Int) : Int := if sm p = 0 then 7 else 0
theorem norm_length (p : List Int) : (norm p).length = p.length := by unfold norm; split <;> simp
theorem norm_rng {p : List Int} (hp : ∀ x ∈ p, 0 ≤ x) : ∀ x ∈ norm p, 0 ≤ x ∧ (0 < sm p → x ≤ 1073741824) := by
  intro x hx
  unfold norm at hx
  by_cases h : sm p = 0
  · rw [if_pos h] at hx
    exact ⟨hp x hx, fun h' => by omega⟩
  · rw [if_neg h] at hx
    obtain ⟨y, hy, rfl⟩ := List.mem_map.1 hx
    have h1 := sm_pos hp
    have h2 := share_rng (by omega : 0 < sm p) ⟨hp y hy, sm_ge hp y hy⟩
    exact ⟨h2.1, fun _ => h2.2⟩

/-! ### Checked -/
def sidesG (W H S : Int) : Bool := decide ((1 ≤ W ∧ W ≤ 64) ∧ (1 ≤ H ∧ H ≤ 64) ∧ 16 ≤ S ∧ S ≤ 4096)
def allIn (l : List Int) (m : Int) : Bool := l.all fun x => decide (0 ≤ x ∧ x ≤ m)
def chk (W H S : Int) (p : List Int) : Int :=
  if sidesG W H S = false then 2 else if (p.length : Int) ≠ W * H then 5 else if allIn p 1073741824 = false then 1 else if 1073741824 - (p.length : Int) ≤ sm p ∧ sm p ≤ 1073741824 then 0 else 11
theorem sidesG_iff {W H S : Int} : sidesG W H S = true ↔ (1 ≤ W ∧ W ≤ 64) ∧ (1 ≤ H ∧ H ≤ 64) ∧ 16 ≤ S ∧ S ≤ 4096 := by unfold sidesG; rw [decide_eq_true_eq]
theorem allIn_iff {l : List Int} {m : Int} : allIn l m = true ↔ ∀ x ∈ l, 0 ≤ x ∧ x ≤ m := by unfold allIn; simp
theorem chk_ok {W H S : Int} {p : List Int} (h : chk W H S p = 0) : sidesG W H S = true ∧ (p.length : Int) = W * H ∧ (∀ x ∈ p, 0 ≤ x ∧ x ≤ 1073741824) ∧ 1073741824 - (p.length : Int) ≤ sm p ∧ sm p ≤ 1073741824 := by
  unfold chk at h
  by_cases h1 : sidesG W H S = false
  · rw [if_pos h1] at h; omega
  · rw [if_neg h1] at h
    by_cases h2 : (p.length : Int) ≠ W * H
    · rw [if_pos h2] at h; omega
    · rw [if_neg h2] at h
      by_cases h3 : allIn p 1073741824 = false
      · rw [if_pos h3] at h; omega
      · rw [if_neg h3] at h
        by_cases h4 : 1073741824 - (p.length : Int) ≤ sm p ∧ sm p ≤ 1073741824
        · exact ⟨by simpa using h1, by simpa using h2, allIn_iff.1 (by simpa using h3), h4⟩
        · rw [if_neg h4] at h; omega
theorem chk_of {W H S : Int} {p : List Int} (h1 : sidesG W H S = true) (h2 : (p.length : Int) = W * H) (h3 : ∀ x ∈ p, 0 ≤ x ∧ x ≤ 1073741824) (h4 : 1073741824 - (p.length : Int) ≤ sm p ∧ sm p ≤ 1073741824) : chk W H S p = 0 := by
  unfold chk
  rw [if_neg (by rw [h1]; simp), if_neg (by simpa using h2), if_neg (by rw [allIn_iff.2 h3]; simp), if_pos h4]
theorem chk_norm {W H S : Int} {p : List Int} (h1 : sidesG W H S = true) (h2 : (p.length : Int) = W * H) (h3 : ∀ x ∈ p, 0 ≤ x) (h4 : sm p ≠ 0) : chk W H S (norm p) = 0 := by
  have h5 := sm_pos h3
  refine chk_of h1 (by rw [norm_length]; exact h2) (fun x hx => ?_) ?_
  · have := norm_rng h3 x hx
    exact ⟨this.1, this.2 (by omega)⟩
  · rw [norm_length]
    unfold norm
    rw [if_neg h4]
    exact shares_sum (by omega)

/-! ### Even -/
def even (n : Nat) : List Int := tab (fun _ => 1073741824 / (n : Int)) n
end Go.Th.Grid

/-
  Grids as values; rows of numbers; whether numbers lie within bounds; numbers together: the code's.
-/
namespace Go.Th.Grid
open Go Go.RowKit Go.Th

/-- A slice of noughts is made. -/
theorem gmk {P : Program} {w : World} {ops : Array Oper} {rest : List Oper} {o : Oper} {a : Act} {Q : Exit → Act → World → Prop} {t e : TypeId} {z : Value} {bytes : Nat}
    (hU : P.underlying t = some (.slice e)) (hI : (P.info? e).map (fun i => (i.zero, i.size, i.bytes)) = some (some z, 1, bytes)) (hz : z.cells = #[z])
    (hg : o.guard = none) (l c : Operand) (hop : o.op = Op.makeSlice t l c) (base n : Nat) (kl kc : IntKind) (hl : a.eval l = .int kl (n : Int)) (hc : a.eval c = .int kc (n : Int))
    (b2 : bytes * n ≤ 281474976710656) (b3 : n ≤ maxLen) (b4 : base ≤ w.heap.size)
    (hK : ∀ w', w'.ownsRow base e 1 (.slice (some ⟨w.heap.size, 0, none⟩) n n) n (List.replicate n z) → w.grownBy w' none → wpList P ops Q rest (a.put o.dst (.slice (some ⟨w.heap.size, 0, none⟩) n n)) w') : wpList P ops Q (o :: rest) a w := by
  obtain ⟨i, hi, h1, h2, h3⟩ := info_parts hI
  refine wpList_make_full w hg l c t hop base e i z 1 hU hi h1 h2 kl kc n n n hl hc rfl rfl (by rw [h3]; exact b2) b3 b4 fun w' h hg => ?_
  rw [hz, Nat.mul_one, toList_madeCells_one] at h
  exact hK w' h hg
theorem ggrown {w w' : World} (h : w.grownBy w' none) : Below w.heap.size w w' := (Below.refl _ _).grown h (Nat.le_refl _) (fun j hj => by cases hj)
/-- A struct that is handed back out of its block, alone, and beside a code. -/
theorem gres_blk {P : Program} {fn : Func} {p : Tmp} {ty : TypeId} (h : fn.results = #[.cell p ty]) {tmps : Array Value} {w : World} {g : Nat} {t : TypeId} {cs : List Value} {d : TypeDesc}
    (hp : tmps.getD p undef = .pointer (some ⟨g, 0, none⟩)) (K : Blk w g t cs) (hu : P.underlying ty = some d) (hd : (match d with | .struct _ | .array _ _ => true | _ => false) = true) (hi : (P.info? ty).map (·.size) = some cs.length) :
    (results fn tmps).run P w = .ok (.agg cs.toArray) w :=
  results_cell_row h tmps w g t cs.toArray (0, 0) d hp K hu hd (by simpa using hi)
end Go.Th.Grid
namespace Go.Proofs.YtallbegibdlpaaaGreat
open Go Go.RowKit Go.Th Go.Th.Grid

/-- The world is as it was. -/
abbrev PureG (f : Nat) (args : Array Value) (v : Value) : Prop := ∀ w : World, Calls Tryz.prog f args w fun e w' => e = .returned v ∧ w = w'
theorem PureG.ans {f : Nat} {args : Array Value} {v : Value} (h : PureG f args v) : Ans f args v := fun w => (h w).mono fun e w' ⟨a, b⟩ => ⟨a, by subst b; exact Below.refl _ _⟩

/-- A grid as a value. -/
abbrev gv (W H X Y S : Int) (v : Value) : Value := .agg #[.int .i64 W, .int .i64 H, .int .i64 X, .int .i64 Y, .int .i64 S, v]
abbrev gc (W H X Y S : Int) (v : Value) : List Value := [.int .i64 W, .int .i64 H, .int .i64 X, .int .i64 Y, .int .i64 S, v]

theorem E64 : ElemOf Tryz.prog 26 2 1 8 := ElemOf.mk' Tryz.underlying26 (z := .int .i64 0) (by kernel_rfl) rfl (by decide)
theorem i64s_length (l : List Int) : (i64s l).length = l.length := by simp [i64s]
theorem i64s_snoc (l : List Int) (z : Int) : i64s (l ++ [z]) = i64s l ++ [.int .i64 z] := by simp [i64s]
theorem i64s_set (l : List Int) (i : Nat) (z : Int) : (i64s l).set i (.int .i64 z) = i64s (l.set i z) := by simp [i64s, List.map_set]
theorem i64s_rep (n : Nat) : List.replicate n (Value.int .i64 0) = i64s (List.replicate n 0) := by simp [i64s]
theorem oneCell_i64s (l : List Int) : ∀ u ∈ i64s l, u.oneCell' = true := by
  intro u hu
  simp only [i64s, List.mem_map] at hu
  obtain ⟨_, _, rfl⟩ := hu
  rfl
theorem cell64 {W : World} {a : Option Addr} {n cap : Nat} {l : List Int} (hS : Sl W 1 (.slice a n cap) n (i64s l)) (k : Nat) (hk : k < l.length) :
    ∃ b o, a = some ⟨b, o, none⟩ ∧ b < W.heap.size ∧ W.cell? ⟨b, o + k, none⟩ = some (.int .i64 (l.getD k 0)) := by
  obtain ⟨a', c', he, _, _, _, _, h5⟩ := hS
  cases he
  obtain ⟨b, o, ea, hc⟩ := h5 k _ (i64s_at l k hk)
  rw [← getD_at l k hk] at hc
  exact ⟨b, o, ea, World.block_lt_of_cell? W _ hc, hc⟩
/-- A cell of a row of the call's own. -/
theorem own64 {w : World} {base g n cap : Nat} {l : List Int} (h : w.ownsRow base 2 1 (.slice (some ⟨g, 0, none⟩) n cap) n (i64s l)) (k : Nat) (hk : k < l.length) : w.cell? ⟨g, k, none⟩ = some (.int .i64 (l.getD k 0)) := by
  have := ownsRow_cell h (i64s_at l k hk)
  rwa [← getD_at l k hk] at this

/-! ### Within bounds -/
def inR (x a b : Int) : Bool := decide (a ≤ x ∧ x ≤ b)
theorem inR_t {x a b : Int} (h : inR x a b = true) : a ≤ x ∧ x ≤ b := by unfold inR at h; exact of_decide_eq_true h
theorem inR_of {x a b : Int} (h : a ≤ x ∧ x ≤ b) : inR x a b = true := by unfold inR; exact decide_eq_true h
theorem inR_no {x a b : Int} (h : ¬ (a ≤ x ∧ x ≤ b)) : inR x a b = false := by unfold inR; exact decide_eq_false h

theorem within_int (x a b : Int) : PureG 76 #[.int .i64 x, .int .i64 a, .int .i64 b] (.bool (inR x a b)) := by
  intro w
  by_cases h1 : a ≤ x
  · by_cases h2 : x ≤ b
    · rw [inR_of ⟨h1, h2⟩]
      go_enter Tryz.func76, Tryz.ntmps76
      go_wp2_with fail
      go_ret
      exact ⟨rfl, rfl⟩
    · rw [inR_no (fun h => h2 h.2)]
      go_enter Tryz.func76, Tryz.ntmps76
      go_wp2_with fail
      go_ret
      exact ⟨rfl, rfl⟩
  · rw [inR_no (fun h => h1 h.1)]
    go_enter Tryz.func76, Tryz.ntmps76
    go_wp2_with fail
    go_ret
    exact ⟨rfl, rfl⟩
theorem within_64 (x a b : Int) : PureG 40 #[.int .i64 x, .int .i64 a, .int .i64 b] (.bool (inR x a b)) := by
  intro w
  by_cases h1 : a ≤ x
  · by_cases h2 : x ≤ b
    · rw [inR_of ⟨h1, h2⟩]
      go_enter Tryz.func40, Tryz.ntmps40
      go_wp2_with fail
      go_ret
      exact ⟨rfl, rfl⟩
    · rw [inR_no (fun h => h2 h.2)]
      go_enter Tryz.func40, Tryz.ntmps40
      go_wp2_with fail
      go_ret
      exact ⟨rfl, rfl⟩
  · rw [inR_no (fun h => h1 h.1)]
    go_enter Tryz.func40, Tryz.ntmps40
    go_wp2_with fail
    go_ret
    exact ⟨rfl, rfl⟩
def sdG (W H : Int) : Bool := inR W 1 64 && inR H 1 64
theorem sdG_t {W H : Int} (h : sdG W H = true) : (1 ≤ W ∧ W ≤ 64) ∧ 1 ≤ H ∧ H ≤ 64 := by
  unfold sdG at h
  rw [Bool.and_eq_true] at h
  exact ⟨inR_t h.1, inR_t h.2⟩
theorem sdG_of {W H : Int} (h : (1 ≤ W ∧ W ≤ 64) ∧ 1 ≤ H ∧ H ≤ 64) : sdG W H = true := by unfold sdG; rw [inR_of h.1, inR_of h.2]; rfl
theorem sidesG_is (W H S : Int) : sidesG W H S = (sdG W H && inR S 16 4096) := by
  unfold sidesG sdG inR
  rw [← Bool.decide_and, ← Bool.decide_and, decide_eq_decide]
  constructor
  · rintro ⟨a, b, c⟩; exact ⟨⟨a, b⟩, c⟩
  · rintro ⟨⟨a, b⟩, c⟩; exact ⟨a, b, c⟩
theorem sides_any (W H : Int) : PureG 36 #[.int .i64 W, .int .i64 H] (.bool (sdG W H)) := by
  intro w
  have C1 := within_int W 1 64
  have C2 := within_int H 1 64
  unfold sdG
  cases h1 : inR W 1 64
  · rw [h1] at C1
    have C1 := Lib.hid C1
    clear h1 C2
    go_enter Tryz.func36, Tryz.ntmps36
    go_wp2_with fail
    refine (C1.out _).mono ?_
    rintro e wx ⟨rfl, rfl⟩
    go_wp2_with fail
    go_ret
    exact ⟨rfl, rfl⟩
  · rw [h1] at C1
    have C1 := Lib.hid C1
    obtain ⟨b, hb⟩ : ∃ b, b = inR H 1 64 := ⟨_, rfl⟩
    rw [← hb] at C2 ⊢
    have C2 := Lib.hid C2
    clear h1 hb
    go_enter Tryz.func36, Tryz.ntmps36
    go_wp2_with fail
    refine (C1.out _).mono ?_
    rintro e wx ⟨rfl, rfl⟩
    go_wp2_with fail
    refine (C2.out _).mono ?_
    rintro e wx ⟨rfl, rfl⟩
    go_wp2_with fail
    go_ret
    exact ⟨rfl, rfl⟩
theorem step_any (S : Int) : PureG 37 #[.int .i64 S] (.bool (inR S 16 4096)) := by
  intro w
  have C1 := Lib.hid (within_64 S 16 4096)
  go_enter Tryz.func37, Tryz.ntmps37
  go_wp2_with fail
  refine (C1.out _).mono ?_
  rintro e wx ⟨rfl, rfl⟩
  go_wp2_with fail
  go_ret
  exact ⟨rfl, rfl⟩
theorem begin_any (x : Int) : PureG 68 #[.int .i64 x] (.bool (inR x (-64) 64)) := by
  intro w
  have C1 := Lib.hid (within_int x (-64) 64)
  go_enter Tryz.func68, Tryz.ntmps68
  go_wp2_with fail
  refine (C1.out _).mono ?_
  rintro e wx ⟨rfl, rfl⟩
  go_wp2_with fail
  go_ret
  exact ⟨rfl, rfl⟩

/-! ### Numbers together -/
set_option maxRecDepth 20000 in
theorem total_any (a : Option Addr) (n cap : Nat) (p : List Int) (hp : p.length = n) (hb : ∀ i, -9223372036854775808 ≤ sm (p.take i) ∧ sm (p.take i) ≤ 9223372036854775807) (w : World) (hS : Sl w 1 (.slice a n cap) n (i64s p)) :
    Calls Tryz.prog 66 #[.slice a n cap] w fun e w' => e = .returned (.int .i64 (sm p)) ∧ w = w' := by
  have hst := fun i (hi : i < n) => sm_take p i (by omega)
  have hall : sm (p.take n) = sm p := by rw [List.take_of_length_le (by omega)]
  have HB := Lib.hid hb
  have HST := Lib.hid hst
  have HALL := Lib.hid hall
  have HP := Lib.hid hp
  have HS := Lib.hid hS
  have hmx := hS.max
  clear hb hst hall hp hS
  go_enter Tryz.func66, Tryz.ntmps66
  go_wp2_with fail
  go_loopw [3, 8] (fun v c wx => ∃ i : Nat, i ≤ n ∧ c = .int .i64 i ∧ v = .int .i64 (sm (p.take i)) ∧ wx = w) (fun _ c _ => n - (intOf c).toNat)
  case atStart => exact ⟨0, Nat.zero_le _, rfl, rfl, rfl⟩
  case round =>
    obtain ⟨i, hi, rfl, rfl, rfl⟩ := hrel
    by_cases hlt : i < n
    · obtain ⟨b, o, rfl, _, hc⟩ := cell64 HS.out i (by rw [HP.out]; exact hlt)
      have h1 := HB.out i
      have h2 := HB.out (i + 1)
      have h3 := HST.out i hlt
      rw [h3] at h2
      obtain ⟨u, hu⟩ : ∃ u, u = p.getD i 0 := ⟨_, rfl⟩
      obtain ⟨s, hs⟩ : ∃ s, s = sm (p.take i) := ⟨_, rfl⟩
      rw [← hu, ← hs] at h2 h3
      rw [← hu] at hc
      rw [← hs] at h1 ⊢
      have H3 := Lib.hid h3
      clear hu hs h3
      go_wp2_with fail
      go_roundw
      case rel => exact ⟨i + 1, by omega, by go_num, by rw [H3.out], by first | rfl | trivial⟩
      case measure => simp [intOf]; omega
    · obtain rfl : i = n := by omega
      rw [HALL.out]
      go_wp2_with fail
      go_ret
      exact ⟨rfl, rfl⟩
set_option maxRecDepth 20000 in
theorem refSumG_any (a : Option Addr) (n cap : Nat) (p : List Int) (hp : p.length = n) (hb : ∀ i, -9223372036854775808 ≤ sm (p.take i) ∧ sm (p.take i) ≤ 9223372036854775807) (w : World) (hS : Sl w 1 (.slice a n cap) n (i64s p)) :
    Calls Tryz.prog 20 #[.slice a n cap] w fun e w' => e = .returned (.int .i64 (sm p)) ∧ w = w' := by
  have hst := fun i (hi : i < n) => sm_take p i (by omega)
  have hall : sm (p.take n) = sm p := by rw [List.take_of_length_le (by omega)]
  have HB := Lib.hid hb
  have HST := Lib.hid hst
  have HALL := Lib.hid hall
  have HP := Lib.hid hp
  have HS := Lib.hid hS
  have hmx := hS.max
  clear hb hst hall hp hS
  go_enter Tryz.func20, Tryz.ntmps20
  go_wp2_with fail
  go_loopw [3, 4] (fun v c wx => ∃ i : Nat, i ≤ n ∧ c = .int .i64 i ∧ v = .int .i64 (sm (p.take i)) ∧ wx = w) (fun _ c _ => n - (intOf c).toNat)
  case atStart => exact ⟨0, Nat.zero_le _, rfl, rfl, rfl⟩
  case round =>
    obtain ⟨i, hi, rfl, rfl, rfl⟩ := hrel
    by_cases hlt : i < n
    · obtain ⟨b, o, rfl, _, hc⟩ := cell64 HS.out i (by rw [HP.out]; exact hlt)
      have h1 := HB.out i
      have h2 := HB.out (i + 1)
      have h3 := HST.out i hlt
      rw [h3] at h2
      obtain ⟨u, hu⟩ : ∃ u, u = p.getD i 0 := ⟨_, rfl⟩
      obtain ⟨s, hs⟩ : ∃ s, s = sm (p.take i) := ⟨_, rfl⟩
      rw [← hu, ← hs] at h2 h3
      rw [← hu] at hc
      rw [← hs] at h1 ⊢
      have H3 := Lib.hid h3
      clear hu hs h3
      go_wp2_with fail
      go_roundw
      case rel => exact ⟨i + 1, by omega, by go_num, by rw [H3.out], by first | rfl | trivial⟩
      case measure => simp [intOf]; omega
    · obtain rfl : i = n := by omega
      rw [HALL.out]
      go_wp2_with fail
      go_ret
      exact ⟨rfl, rfl⟩
/-- Of a row with no number below 0 all are no less than some. -/
theorem sm_fits {p : List Int} (h : ∀ x ∈ p, 0 ≤ x) (hs : sm p ≤ 9223372036854775807) : ∀ i, -9223372036854775808 ≤ sm (p.take i) ∧ sm (p.take i) ≤ 9223372036854775807 := fun i => by
  have := sm_take_le h i
  omega

/-! ### All within bounds -/
theorem one_any (g : Nat) (x m : Int) (w : World) (hc : w.cell? ⟨g, 0, none⟩ = some (.int .i64 m)) :
    Calls Tryz.prog 78 #[.int .i64 x, .pointer (some ⟨g, 0, none⟩)] w fun e w' => e = .returned (.bool (!inR x 0 m)) ∧ w = w' := by
  have C1 := Lib.hid (within_64 x 0 m)
  go_enter Tryz.func78, Tryz.ntmps78
  go_wp2_with fail
  refine (C1.out _).mono ?_
  rintro e wx ⟨rfl, rfl⟩
  go_wp2_with fail
  go_ret
  exact ⟨rfl, rfl⟩
abbrev oneV (g : Nat) : Value := .func (.func 78) #[] #[.pointer (some ⟨g, 0, none⟩)]
set_option maxRecDepth 20000 in
theorem index_any (g : Nat) (m : Int) (a : Option Addr) (n cap : Nat) (p : List Int) (hp : p.length = n) (w : World) (hS : Sl w 1 (.slice a n cap) n (i64s p)) (hc : w.cell? ⟨g, 0, none⟩ = some (.int .i64 m)) :
    Calls Tryz.prog 100 #[.slice a n cap, oneV g] w fun e w' => ∃ i : Int, e = .returned (.int .i64 i) ∧ decide (0 ≤ i) = (!allIn p m) ∧ w = w' := by
  have C1 := Lib.hid (fun x => one_any g x m w hc)
  have HP := Lib.hid hp
  have HS := Lib.hid hS
  have hmx := hS.max
  clear hp hS
  go_enter Tryz.func100, Tryz.ntmps100
  go_wp2_with fail
  go_loopw [8] (fun c wx => ∃ i : Nat, i ≤ n ∧ c = .int .i64 i ∧ Hid (∀ j, j < i → inR (p.getD j 0) 0 m = true) ∧ wx = w) (fun c _ => n - (intOf c).toNat)
  case atStart => exact ⟨0, Nat.zero_le _, rfl, Lib.hid (fun j hj => by omega), rfl⟩
  case round =>
    obtain ⟨i, hi, rfl, hall, rfl⟩ := hrel
    by_cases hlt : i < n
    · obtain ⟨b, o, rfl, _, hcu⟩ := cell64 HS.out i (by rw [HP.out]; exact hlt)
      have K := C1.out (p.getD i 0)
      cases hin : inR (p.getD i 0) 0 m
      · rw [hin] at K
        have hno : allIn p m = false := by
          cases ha : allIn p m
          · rfl
          · have := allIn_iff.1 ha _ (List.getElem_mem (by rw [HP.out]; exact hlt : i < p.length))
            rw [← getD_at] at this
            rw [inR_of this] at hin; cases hin
        have HNO := Lib.hid hno
        obtain ⟨u, hu⟩ : ∃ u, u = p.getD i 0 := ⟨_, rfl⟩
        rw [← hu] at K hcu
        have K := Lib.hid K
        clear hin hu hno
        go_wp2_with fail
        refine K.out.mono ?_
        rintro e wx ⟨rfl, rfl⟩
        go_wp2_with fail
        go_ret
        exact ⟨i, rfl, by rw [HNO.out]; simp, rfl⟩
      · rw [hin] at K
        have hnx : ∀ j, j < i + 1 → inR (p.getD j 0) 0 m = true := by
          intro j hj
          by_cases hji : j < i
          · exact hall.out j hji
          · obtain rfl : j = i := by omega
            exact hin
        have HNX := Lib.hid hnx
        obtain ⟨u, hu⟩ : ∃ u, u = p.getD i 0 := ⟨_, rfl⟩
        rw [← hu] at K hcu
        have K := Lib.hid K
        clear hin hu hnx
        go_wp2_with fail
        refine K.out.mono ?_
        rintro e wx ⟨rfl, rfl⟩
        go_wp2_with fail
        go_roundw
        case rel => exact ⟨i + 1, by omega, by go_num, HNX, by first | rfl | trivial⟩
        case measure => simp [intOf]; omega
    · obtain rfl : i = n := by omega
      have hyes : allIn p m = true := by
        refine allIn_iff.2 (fun x hx => ?_)
        obtain ⟨j, hj, rfl⟩ := List.mem_iff_getElem.1 hx
        have := hall.out j (by rw [← HP.out]; exact hj)
        rw [getD_at _ _ hj] at this
        exact inR_t this
      have HY := Lib.hid hyes
      clear hyes hall
      go_wp2_with fail
      go_ret
      exact ⟨-1, rfl, by rw [HY.out]; rfl, rfl⟩
theorem contains_any (g : Nat) (m : Int) (a : Option Addr) (n cap : Nat) (p : List Int) (hp : p.length = n) (w : World) (hS : Sl w 1 (.slice a n cap) n (i64s p)) (hc : w.cell? ⟨g, 0, none⟩ = some (.int .i64 m)) :
    Calls Tryz.prog 77 #[.slice a n cap, oneV g] w fun e w' => e = .returned (.bool (!allIn p m)) ∧ w = w' := by
  have C1 := Lib.hid (index_any g m a n cap p hp w hS hc)
  clear hS hp hc
  go_enter Tryz.func77, Tryz.ntmps77
  go_wp2_with fail
  refine C1.out.mono ?_
  rintro e wx ⟨i, rfl, hi, rfl⟩
  have HI := Lib.hid hi
  clear hi
  go_wp2_with fail
  go_ret
  exact ⟨ret_bool HI.out, rfl⟩
theorem areWithin_any (m : Int) (a : Option Addr) (n cap : Nat) (p : List Int) (hp : p.length = n) (w : World) (hS : Sl w 1 (.slice a n cap) n (i64s p)) :
    Calls Tryz.prog 39 #[.slice a n cap, .int .i64 m] w fun e w' => e = .returned (.bool (allIn p m)) ∧ Below w.heap.size w w' := by
  have hmf : ∀ (fn : Fn) (first cap : Array Value) (w : World), (Instr.makeFunc fn first cap).run Tryz.prog w = .ok (.func fn first cap) w := fun _ _ _ _ => rfl
  obtain ⟨w1, hw1⟩ : ∃ w1, (w.alloc (.cells #[.int .i64 m] 2)) = w1 := ⟨_, rfl⟩
  have hB1 : Below w.heap.size w w1 := by rw [← hw1]; exact (Below.refl _ _).alloc (Nat.le_refl _) _
  have K1 : Blk w1 w.heap.size 2 [.int .i64 m] := by rw [← hw1]; exact Blk.new w _ _
  have C1 := Lib.hid (contains_any w.heap.size m a n cap p hp w1 (hS.below hB1) (K1.cell (i := 0) rfl))
  have HW1 := Lib.hid hw1
  clear hw1 hS hp K1
  go_enter Tryz.func39, Tryz.ntmps39
  go_upto_region 1 with fail
  rw [HW1.out]
  go_wp2_with fail
  refine C1.out.mono ?_
  rintro e wx ⟨rfl, rfl⟩
  go_wp2_with fail
  go_ret
  exact ⟨by simp, hB1⟩
end Go.Proofs.YtallbegibdlpaaaGreat

/-
  How many places a grid has, and what all are together; what is wrong with it; one that lies where another one does; a copy: the code's.
-/
namespace Go.Proofs.YtallbegibdlpaaaGreat
open Go Go.RowKit Go.Th Go.Th.Grid

/-- A grid that lies in a variable reads so. -/
theorem gcells {w : World} {gA : Nat} {x y X Y s : Int} {v : Value} (K : Blk w gA 28 (gc x y X Y s v)) :
    w.cell? ⟨gA, 0, none⟩ = some (.int .i64 x) ∧ w.cell? ⟨gA, 1, none⟩ = some (.int .i64 y) ∧ w.cell? ⟨gA, 2, none⟩ = some (.int .i64 X) ∧ w.cell? ⟨gA, 3, none⟩ = some (.int .i64 Y) ∧ w.cell? ⟨gA, 4, none⟩ = some (.int .i64 s) ∧ w.cell? ⟨gA, 5, none⟩ = some v :=
  ⟨K.cell (i := 0) rfl, K.cell (i := 1) rfl, K.cell (i := 2) rfl, K.cell (i := 3) rfl, K.cell (i := 4) rfl, K.cell (i := 5) rfl⟩

theorem glen_any (x y X Y s m : Int) (a : Option Addr) (n cap : Nat) (hm : wrap64 (x * y) = m) : Ans 38 #[gv x y X Y s (.slice a n cap)] (.int .i64 m) := by
  intro w
  obtain ⟨w1, hw1⟩ : ∃ w1, w.alloc (.cells #[.int .i64 x, .int .i64 y, .int .i64 X, .int .i64 Y, .int .i64 s, .slice a n cap] 28) = w1 := ⟨_, rfl⟩
  have hB1 : Below w.heap.size w w1 := by rw [← hw1]; exact (Below.refl _ _).alloc (Nat.le_refl _) _
  have K1 : Blk w1 w.heap.size 28 (gc x y X Y s (.slice a n cap)) := by rw [← hw1]; exact Blk.new w _ _
  obtain ⟨c0, c1, c2, c3, c4, c5⟩ := gcells K1
  have HW1 := Lib.hid hw1
  clear hw1
  go_enter Tryz.func38, Tryz.ntmps38
  go_upto_region 1 with fail
  rw [HW1.out]
  go_wp2_with fail
  go_ret
  exact ⟨by first | exact ret_int hm | rfl, hB1⟩
set_option maxRecDepth 20000 in
theorem gsum_any (x y X Y s : Int) (a : Option Addr) (n cap : Nat) (p : List Int) (hp : p.length = n) (hb : ∀ i, -9223372036854775808 ≤ sm (p.take i) ∧ sm (p.take i) ≤ 9223372036854775807) (w : World) (hS : Sl w 1 (.slice a n cap) n (i64s p)) :
    Calls Tryz.prog 41 #[gv x y X Y s (.slice a n cap)] w fun e w' => e = .returned (.int .i64 (sm p)) ∧ Below w.heap.size w w' := by
  obtain ⟨w1, hw1⟩ : ∃ w1, w.alloc (.cells #[.int .i64 x, .int .i64 y, .int .i64 X, .int .i64 Y, .int .i64 s, .slice a n cap] 28) = w1 := ⟨_, rfl⟩
  have hB1 : Below w.heap.size w w1 := by rw [← hw1]; exact (Below.refl _ _).alloc (Nat.le_refl _) _
  have K1 : Blk w1 w.heap.size 28 (gc x y X Y s (.slice a n cap)) := by rw [← hw1]; exact Blk.new w _ _
  obtain ⟨c0, c1, c2, c3, c4, c5⟩ := gcells K1
  have C1 := Lib.hid (total_any a n cap p hp hb w1 (hS.below hB1))
  have HW1 := Lib.hid hw1
  clear hw1 hS hp hb
  go_enter Tryz.func41, Tryz.ntmps41
  go_upto_region 1 with fail
  rw [HW1.out]
  go_wp2_with fail
  refine C1.out.mono ?_
  rintro e wx ⟨rfl, rfl⟩
  go_wp2_with fail
  go_ret
  exact ⟨rfl, hB1⟩

/-! ### What is wrong with a grid -/
def shp (x y : Int) (n : Nat) : Int := if sdG x y = false then 2 else if (n : Int) ≠ x * y then 5 else 0
theorem shp_ok {x y n : Nat} (h : sdG x y = true) (hn : n = x * y) : shp x y n = 0 := by
  unfold shp; rw [if_neg (by rw [h]; simp), if_neg (by rw [hn]; simp)]
set_option maxRecDepth 20000 in
set_option maxHeartbeats 1600000 in
theorem shape_any (x y X Y s : Int) (a : Option Addr) (n cap : Nat) (hn : n ≤ 1000000) : Ans 60 #[gv x y X Y s (.slice a n cap)] (.int .i64 (shp x y n)) := by
  intro w
  obtain ⟨w1, hw1⟩ : ∃ w1, w.alloc (.cells #[.int .i64 x, .int .i64 y, .int .i64 X, .int .i64 Y, .int .i64 s, .slice a n cap] 28) = w1 := ⟨_, rfl⟩
  have hB1 : Below w.heap.size w w1 := by rw [← hw1]; exact (Below.refl _ _).alloc (Nat.le_refl _) _
  have K1 : Blk w1 w.heap.size 28 (gc x y X Y s (.slice a n cap)) := by rw [← hw1]; exact Blk.new w _ _
  obtain ⟨gA, hgA⟩ : ∃ gA, gA = w.heap.size := ⟨_, rfl⟩
  have HW1 := Lib.hid hw1
  have C1 := sides_any x y
  clear hw1
  go_enter Tryz.func60, Tryz.ntmps60
  go_upto_region 1 with fail
  rw [HW1.out, ← hgA]
  rw [← hgA] at K1
  clear HW1 hgA
  have hlt := K1.lt
  obtain ⟨c0, c1, c2, c3, c4, c5⟩ := gcells K1
  cases hsd : sdG x y
  · rw [hsd] at C1
    have C1 := Lib.hid C1
    have hv : shp x y n = 2 := by unfold shp; rw [if_pos hsd]
    have HV := Lib.hid hv
    clear hv hsd
    go_wp2_with fail
    refine (C1.out _).mono ?_
    rintro e wx ⟨rfl, rfl⟩
    go_wp2_with fail
    go_ret
    exact ⟨ret_int HV.out.symm, hB1⟩
  · rw [hsd] at C1
    obtain ⟨⟨q1, q2⟩, q3, q4⟩ := sdG_t hsd
    obtain ⟨i, hi⟩ := Int.eq_ofNat_of_zero_le (by omega : 0 ≤ x)
    obtain ⟨j, hj⟩ := Int.eq_ofNat_of_zero_le (by omega : 0 ≤ y)
    have hle : i * j ≤ 64 * 64 := Nat.mul_le_mul (by omega) (by omega)
    obtain ⟨m, hm⟩ : ∃ m, m = i * j := ⟨_, rfl⟩
    have hmul : x * y = (m : Int) := by rw [hi, hj, hm]; simp
    rw [← hm] at hle
    have C2 := Lib.hid (glen_any x y X Y s (m : Int) a n cap (by rw [hmul]; exact IntWalk.wrap64_in _ (by omega)))
    have C1 := Lib.hid C1
    have hv : shp x y n = if (n : Int) ≠ (m : Int) then 5 else 0 := by unfold shp; rw [if_neg (by rw [hsd]; simp), hmul]
    have HV := Lib.hid hv
    clear hv hm hmul hsd hi hj
    go_wp2_with fail
    refine (C1.out _).mono ?_
    rintro e wx ⟨rfl, rfl⟩
    clear C1
    go_wp2_with fail
    refine wp_region_held_drew (S := (fun w' : World => w'.cell? ⟨gA, 0, none⟩ = some (.int .i64 x) ∧ w'.cell? ⟨gA, 1, none⟩ = some (.int .i64 y) ∧ w'.cell? ⟨gA, 2, none⟩ = some (.int .i64 X) ∧ w'.cell? ⟨gA, 3, none⟩ = some (.int .i64 Y) ∧ w'.cell? ⟨gA, 4, none⟩ = some (.int .i64 s) ∧ w'.cell? ⟨gA, 5, none⟩ = some (.slice a n cap))) (by kernel_rfl) (⟨c0, c1, c2, c3, c4, c5⟩) (fun hHeld => ?_)
    refine tkT 0 ?v1 ?hy1 hHeld ?rest1
    case hy1 => (intro w' hSw; (try dsimp only at hSw); go_simp; (try with_reducible rfl))
    try simp only [Act.put, puts]
    refine tkT 1 ?v2 ?hy2 hHeld ?rest2
    case hy2 => (intro w' hSw; (try dsimp only at hSw); go_simp; (try with_reducible rfl))
    try simp only [Act.put, puts]
    refine tkT 2 ?v3 ?hy3 hHeld ?rest3
    case hy3 => (intro w' hSw; (try dsimp only at hSw); go_simp; (try with_reducible rfl))
    try simp only [Act.put, puts]
    refine tkT 3 ?v4 ?hy4 hHeld ?rest4
    case hy4 => (intro w' hSw; (try dsimp only at hSw); go_simp; (try with_reducible rfl))
    try simp only [Act.put, puts]
    refine wpAnyH_ready (rs := [4]) (by kernel_rfl) (by simp) ?_
    refine AllReadyH.cons rfl (fun K hK => ?_) AllReadyH.nil
    go_simp
    refine (C2.out _).mono ?_
    rintro e w2 ⟨rfl, hA⟩
    have K2 := K1.drew.below hA hlt
    have hB2 := hB1.drew.trans (hA.mono hB1.size)
    try go_wp2_with fail
    refine hK.out _ _ (gcells K2) (fun hHeld => ?_)
    clear hK K
    try simp only [Act.put, puts]
    refine tkT 5 ?v6 ?hy6 hHeld ?rest6
    case hy6 => (intro w' hSw; (try dsimp only at hSw); go_simp; (try with_reducible rfl))
    try simp only [Act.put, puts]
    refine tkT 6 ?v7 ?hy7 hHeld ?rest7
    case hy7 => (intro w' hSw; (try dsimp only at hSw); go_simp; (try with_reducible rfl))
    try simp only [Act.put, puts]
    refine wpAnyH_done (by kernel_rfl) ?_ _
    by_cases hnm : n = m
    · subst hnm
      have hq : ((n : Int) != (n : Int)) = false := by simp
      have HV2 := Lib.hid (HV.out.trans (if_neg (by simp)))
      clear HV
      go_wp2_with fail
      go_ret
      exact ⟨ret_int HV2.out.symm, hB2⟩
    · have hq : ((n : Int) != (m : Int)) = true := by simp; omega
      have HV2 := Lib.hid (HV.out.trans (if_pos (by omega)))
      clear HV
      go_wp2_with fail
      go_ret
      exact ⟨ret_int HV2.out.symm, hB2⟩

/-! ### With other numbers; a copy -/
set_option maxRecDepth 20000 in
theorem with_any (x y X Y s : Int) (v0 : Value) (a : Option Addr) (n cap : Nat) (hv0 : ∃ a0 n0 c0, v0 = .slice a0 n0 c0) : Ans 62 #[gv x y X Y s v0, .slice a n cap] (gv x y X Y s (.slice a n cap)) := by
  intro w
  obtain ⟨a0, n0, c0, rfl⟩ := hv0
  obtain ⟨w1, hw1⟩ : ∃ w1, w.alloc (.cells #[.int .i64 x, .int .i64 y, .int .i64 X, .int .i64 Y, .int .i64 s, .slice a0 n0 c0] 28) = w1 := ⟨_, rfl⟩
  have M1 := (Mem.start w).alloc 28 (gc x y X Y s (.slice a0 n0 c0))
  rw [show w.alloc (.cells (gc x y X Y s (.slice a0 n0 c0)).toArray 28) = w1 from hw1] at M1
  obtain ⟨w2, hw2⟩ : ∃ w2, w1.alloc (.cells #[.int .i64 0, .int .i64 0, .int .i64 0, .int .i64 0, .int .i64 0, .slice none 0 0] 28) = w2 := ⟨_, rfl⟩
  have M2 := M1.alloc 28 (gc 0 0 0 0 0 (.slice none 0 0))
  rw [show w1.alloc (.cells (gc 0 0 0 0 0 (.slice none 0 0)).toArray 28) = w2 from hw2] at M2
  have hsz : w1.heap.size = w.heap.size + 1 := by rw [← hw1]; simp
  have HW1 := Lib.hid hw1
  have HW2 := Lib.hid hw2
  clear hw1 hw2 M1
  go_enter Tryz.func62, Tryz.ntmps62
  go_upto_region 1 with fail
  rw [HW1.out, HW2.out, ← hsz]
  clear HW1 HW2
  obtain ⟨gB, hgB⟩ : ∃ gB, gB = w1.heap.size := ⟨_, rfl⟩
  obtain ⟨gA, hgA⟩ : ∃ gA, gA = w.heap.size := ⟨_, rfl⟩
  rw [← hgB] at M2 ⊢
  rw [← hgA] at M2 ⊢
  have hne : gA ≠ gB := by omega
  clear hgA hgB hsz
  have c5 := M2.cell (.tail _ _ _ _ _ (Has.head _ _ _ _)) (i := 5) rfl
  have f5 := M2.free (.tail _ _ _ _ _ (Has.head _ _ _ _)) 5
  have M3 := M2.set 5 (.slice a n cap) (.tail _ _ _ _ _ _ _ (Upd.head _ _ _ _ _)) (by simp)
  go_upto_region 2 with fail
  obtain ⟨w3, hw3⟩ : ∃ w3, w2.setCell ⟨gA, 5, none⟩ (.slice a n cap) = w3 := ⟨_, rfl⟩
  rw [hw3] at M3 ⊢
  clear hw3 c5 f5 M2
  obtain ⟨c0, c1, c2, c3, c4, c5⟩ := gcells (M3.has (.tail _ _ _ _ _ (Has.head _ _ _ _)))
  obtain ⟨d0, d1, d2, d3, d4, d5⟩ := gcells (M3.has (Has.head _ _ _ _))
  have K := M3.has (Has.head _ _ _ _)
  have f0 := K.free 0
  have f1 := K.free 1
  have f2 := K.free 2
  have f3 := K.free 3
  have f4 := K.free 4
  have f5 := K.free 5
  have M4 := (((((M3.set 0 (.int .i64 x) (Upd.head _ _ _ _ _) (by simp)).set 1 (.int .i64 y) (Upd.head _ _ _ _ _) (by simp)).set 2 (.int .i64 X) (Upd.head _ _ _ _ _) (by simp)).set 3 (.int .i64 Y) (Upd.head _ _ _ _ _) (by simp)).set 4 (.int .i64 s) (Upd.head _ _ _ _ _) (by simp)).set 5 (.slice a n cap) (Upd.head _ _ _ _ _) (by simp)
  go_wp2_with fail
  refine bodyPost_ret (v := gv x y X Y s (.slice a n cap)) (gres_blk rfl rfl (M4.has (Has.head _ _ _ _)) Tryz.underlying28 rfl (by kernel_rfl)) rfl ?_
  exact ⟨rfl, M4.below⟩
end Go.Proofs.YtallbegibdlpaaaGreat

/-
  Stores whose world is told; what is wrong with a grid; a copy; parts of the whole: the code's.
-/
namespace Go.Th.Grid
open Go Go.RowKit Go.Th
section
variable {P : Program} {ops : Array Oper} {rest : List Oper} {o : Oper} {a : Act} {w w0 : World} {Q : Exit → Act → World → Prop} {K : Act → World → Prop} {bs bs' : List (Nat × TypeId × List Value)}
  {g off : Nat} {t ty : TypeId} {cs cs' : List Value} {v : Value} {x y : Operand}
theorem turned_row (w : World) (g : Nat) (ds : Array Value) : Turned (fun k => k = g) w (w.setRow g ds) := ⟨rfl, rfl, rfl, by simp [World.setRow], fun j hj hs => setRow_other w g j _ hs⟩
theorem turned_cell (w : World) (g i : Nat) (u : Value) : Turned (fun k => k = g) w (w.setCell ⟨g, i, none⟩ u) := (Turned.refl (fun k => k = g) w).setCell (a := ⟨g, i, none⟩) (.inl rfl) u
theorem wp_stM (M : Mem w0 w bs) (ho : o.op = .store ty x y) (hx : a.eval x = .pointer (some ⟨g, off, none⟩)) (hy : a.eval y = v) (hr : Wr P ty off cs v cs') (hu : Upd bs g t cs cs' bs')
    (h : ∀ w', Mem w0 w' bs' → Turned (fun k => k = g) w w' → K (a.put o.dst undef) w') : o.wp P a w K Q := by
  unfold Oper.wp execOp
  simp only [ho, hx, hy, Instr.storeAt, Instr.sureAddr, Sem.run_bind, Sem.run_pure, Result.andThen_ok, hr.run w g t (M.has hu.has)]
  exact h _ (M.row hu) (turned_row _ _ _)
theorem wpL_stM (M : Mem w0 w bs) (hgd : o.guard = none) (ho : o.op = .store ty x y) (hx : a.eval x = .pointer (some ⟨g, off, none⟩)) (hy : a.eval y = v) (hr : Wr P ty off cs v cs') (hu : Upd bs g t cs cs' bs')
    (h : ∀ w', Mem w0 w' bs' → Turned (fun k => k = g) w w' → wpList P ops Q rest (a.put o.dst undef) w') : wpList P ops Q (o :: rest) a w := wpList_plain hgd fun _ hK => wp_stM M ho hx hy hr hu fun w' h' ht => hK _ _ (h w' h' ht)
/-- An owned row is not a block of another type. -/
theorem gown_ne {w : World} {g : Nat} {t : TypeId} {cs : List Value} {base : Nat} {e : TypeId} {size n : Nat} {v : Value} {xs : List Value} (K : Blk w g t cs) (ho : w.ownsRow base e size v n xs) (hne : t ≠ e) : ∀ k, v.ownBlock = some k → k ≠ g := by
  rintro k hk rfl
  obtain ⟨h1, h2⟩ := ho
  rcases h2 with ⟨rfl, _⟩ | ⟨g', cap, cur, rfl, hb, hh, _⟩
  · cases hk
  · cases hk
    unfold Blk at K
    rw [hh] at K
    cases K
    exact hne rfl
/-- .. and lies as it lay, where such a block has turned. -/
theorem gown_turned {w w' : World} {g : Nat} {t : TypeId} {cs : List Value} {base : Nat} {e : TypeId} {size n : Nat} {v : Value} {xs : List Value} (ho : w.ownsRow base e size v n xs) (K : Blk w g t cs) (hne : t ≠ e) (ht : Turned (fun k => k = g) w w') : w'.ownsRow base e size v n xs :=
  ht.own ho (gown_ne K ho hne)
end
end Go.Th.Grid
namespace Go.Proofs.YtallbegibdlpaaaGreat
open Go Go.RowKit Go.Th Go.Th.Grid Go.Th.Wide

theorem size6g : (Tryz.prog.info? 28).map (·.size) = some 6 := by kernel_rfl
theorem rd_g (x y X Y s : Int) (v : Value) : Rd Tryz.prog 28 0 (gc x y X Y s v) (gv x y X Y s v) :=
  Rd.agg (ds := gc x y X Y s v) Tryz.underlying28 rfl size6g (fun j u hj => by rw [Nat.zero_add]; exact hj)
theorem wr_g (x y X Y s x' y' X' Y' s' : Int) (v' : Value) (a : Option Addr) (n cap : Nat) : Wr Tryz.prog 28 0 (gc x' y' X' Y' s' v') (gv x y X Y s (.slice a n cap)) (gc x y X Y s (.slice a n cap)) :=
  Wr.whole (ds := gc x y X Y s (.slice a n cap)) size6g rfl (by intro u hu; simp at hu; rcases hu with rfl | rfl | rfl | rfl | rfl | rfl <;> rfl)

instance bRow : BsI Tryz.prog 26 := ⟨fun h => Rd.one Tryz.underlying26 rfl h⟩
instance rG (x y X Y s : Int) (v : Value) : RdI Tryz.prog 28 0 (gc x y X Y s v) (gv x y X Y s v) := ⟨rd_g x y X Y s v⟩
instance kG : SzI Tryz.prog 28 6 := ⟨size6g⟩
instance zG : ZrI Tryz.prog 28 (gv 0 0 0 0 0 (.slice none 0 0)) (gc 0 0 0 0 0 (.slice none 0 0)) := ⟨by kernel_rfl, rfl⟩
/-- A grid is answered, with a code; its places lie in memory of its own. -/
def GRes (x y X Y s : Int) (n : Nat) (l : List Int) (c : Int) (w : World) (e : Ending) (w' : World) : Prop :=
  ∃ a cap, e = .returned (.tuple #[gv x y X Y s (.slice a n cap), .int .i64 c]) ∧ w'.ownsRow w.heap.size 2 1 (.slice a n cap) n (i64s l) ∧ Below w.heap.size w w'
theorem clone64_any (vx : Value) (n : Nat) (z : List Int) (hz : z.length = n) (w : World) (h : Sl w 1 vx n (i64s z)) (hl : n ≤ 1000000) :
    Calls Tryz.prog 95 #[vx] w fun e w' => ∃ v, e = .returned v ∧ w'.ownsRow w.heap.size 2 1 v n (i64s z) ∧ Below w.heap.size w w' := by
  subst hz
  have hs := h
  obtain ⟨a, cap, rfl, h1, h2, h3, h4, h5⟩ := h
  cases a with
  | none =>
    obtain ⟨h0, rfl⟩ := h4 rfl
    have hnil : z = [] := List.eq_nil_of_length_eq_zero h0
    subst hnil
    have hq : ∀ wx : World, (binOp .eql 26 (.slice none 0 0) (.slice none 0 0)).run Tryz.prog wx = .ok (.bool true) wx := fun wx => Lib.run_eql_slice_nil wx 26 2 none _ _ 0 0 Tryz.underlying26
    go_enter Tryz.func95, Tryz.ntmps95
    go_wp2
    go_ret
    exact ⟨_, rfl, World.ownsRow_nil _ _ _ _, Below.refl _ _⟩
  | some ad =>
    have hx : Sl (w.alloc (.cells #[] 2)) 1 (.slice (some ad) z.length cap) z.length (i64s z) := hs.below ((Below.refl _ _).alloc (Nat.le_refl _) _)
    have hown := World.ownsRow_made (base := w.heap.size) (e := 2) (size := 1) w #[] 0 (Nat.le_refl _) (Nat.zero_le _) rfl
    have hq : ∀ wx : World, (binOp .eql 26 (.slice (some ad) z.length cap) (.slice none 0 0)).run Tryz.prog wx = .ok (.bool false) wx := fun wx => Lib.run_eql_slice_nil wx 26 2 (some ad) _ _ 0 0 Tryz.underlying26
    go_enter Tryz.func95, Tryz.ntmps95
    go_wp2_with (at_builtin; refine wpList_app E64 rfl (.tmp 5) (.tmp 6) rfl w.heap.size rfl hown rfl hx (oneCell_i64s _) (by unfold maxLen; omega) (by omega) (by simp) ?_)
    intro v' w' hown' hgrow _
    go_wp2
    go_ret
    exact ⟨_, rfl, by simpa using hown', ((Below.refl _ _).alloc (Nat.le_refl _) _).grown hgrow (by simp) (fun k hk => by simp [Value.ownBlock] at hk; omega)⟩

set_option maxRecDepth 20000 in
set_option maxHeartbeats 1600000 in
theorem itself_any (x y X Y s : Int) (a : Option Addr) (n cap : Nat) (p : List Int) (hp : p.length = n) (hn : n ≤ 1000000) (w : World) (hS : Sl w 1 (.slice a n cap) n (i64s p)) :
    Calls Tryz.prog 59 #[gv x y X Y s (.slice a n cap)] w fun e w' => ∃ a' cap', e = .returned (gv x y X Y s (.slice a' n cap')) ∧ w'.ownsRow w.heap.size 2 1 (.slice a' n cap') n (i64s p) ∧ Below w.heap.size w w' := by
  have C1 := Lib.hid (fun wx hs => clone64_any (.slice a n cap) n p hp wx hs hn)
  have C2 := Lib.hid (fun a' cap' => with_any x y X Y s (.slice a n cap) a' n cap' ⟨_, _, _, rfl⟩)
  have HS := Lib.hid hS
  clear hS hp
  (obtain ⟨w1, hw1⟩ : ∃ w1, w.alloc (.cells #[.int .i64 x, .int .i64 y, .int .i64 X, .int .i64 Y, .int .i64 s, .slice a n cap] 28) = w1 := ⟨_, rfl⟩; have M1 := (Mem.start w).alloc 28 (gc x y X Y s (.slice a n cap)); rw [show w.alloc (.cells (gc x y X Y s (.slice a n cap)).toArray 28) = w1 from hw1] at M1; obtain ⟨w2, hw2⟩ : ∃ w2, w1.alloc (.cells #[.int .i64 0, .int .i64 0, .int .i64 0, .int .i64 0, .int .i64 0, .slice none 0 0] 28) = w2 := ⟨_, rfl⟩; have M2 := M1.alloc 28 (gc 0 0 0 0 0 (.slice none 0 0)); rw [show w1.alloc (.cells (gc 0 0 0 0 0 (.slice none 0 0)).toArray 28) = w2 from hw2] at M2; have hsz : w1.heap.size = w.heap.size + 1 := (by rw [← hw1]; simp); have HW1 := Lib.hid hw1; have HW2 := Lib.hid hw2; clear hw1 hw2 M1)
  go_enter Tryz.func59, Tryz.ntmps59
  ((go_upto_region 1 with fail); rw [HW1.out, HW2.out, ← hsz]; clear HW1 HW2; obtain ⟨gB, hgB⟩ : ∃ gB, gB = w1.heap.size := ⟨_, rfl⟩; obtain ⟨gA, hgA⟩ : ∃ gA, gA = w.heap.size := ⟨_, rfl⟩; rw [← hgB] at M2 ⊢; rw [← hgA] at M2 ⊢; have hne : gA ≠ gB := (by omega); clear hgA hgB hsz)
  obtain ⟨c0, c1, c2, c3, c4, c5⟩ := gcells (M2.has (.tail _ _ _ _ _ (Has.head _ _ _ _)))
  go_wp2_with fail
  refine wp_region_held_drew (S := (fun w' : World => w'.cell? ⟨gA, 0, none⟩ = some (.int .i64 x) ∧ w'.cell? ⟨gA, 1, none⟩ = some (.int .i64 y) ∧ w'.cell? ⟨gA, 2, none⟩ = some (.int .i64 X) ∧ w'.cell? ⟨gA, 3, none⟩ = some (.int .i64 Y) ∧ w'.cell? ⟨gA, 4, none⟩ = some (.int .i64 s) ∧ w'.cell? ⟨gA, 5, none⟩ = some (.slice a n cap))) (by kernel_rfl) (⟨c0, c1, c2, c3, c4, c5⟩) (fun hHeld => ?_)
  refine tkT 0 ?v8 ?hy8 hHeld ?rest8
  case hy8 => (intro w' hSw; (try dsimp only at hSw); go_simp; (try with_reducible rfl))
  try simp only [Act.put, puts]
  refine tkT 1 ?v9 ?hy9 hHeld ?rest9
  case hy9 => (intro w' hSw; (try dsimp only at hSw); go_simp; (try with_reducible rfl))
  try simp only [Act.put, puts]
  refine tkT 2 ?v10 ?hy10 hHeld ?rest10
  case hy10 => (intro w' hSw; (try dsimp only at hSw); go_simp; (try with_reducible rfl))
  try simp only [Act.put, puts]
  refine wpAnyH_ready (rs := [3]) (by kernel_rfl) (by simp) ?_
  refine AllReadyH.cons rfl (fun K hK => ?_) AllReadyH.nil
  go_simp
  refine (C1.out _ (HS.out.below M2.below.drew)).mono ?_
  rintro e w3 ⟨v3, rfl, ho3, hA⟩
  obtain ⟨a3, cap3, rfl, _, _⟩ := ownsRow_slice ho3
  have M3 := M2.drew.call hA
  have hz3 := M2.below.size
  try go_wp2_with fail
  refine hK.out _ _ (gcells (M3.has (.tail _ _ _ _ _ (Has.head _ _ _ _)))) (fun hHeld => ?_)
  clear hK K
  try simp only [Act.put, puts]
  refine wpAnyH_ready (rs := [4]) (by kernel_rfl) (by simp) ?_
  refine AllReadyH.cons rfl (fun K hK => ?_) AllReadyH.nil
  go_simp
  refine (C2.out a3 cap3 _).mono ?_
  rintro e w4 ⟨rfl, hA4⟩
  have M4 := M3.call hA4
  have ho4 := ownsRow_below ho3 hA4
  try go_wp2_with fail
  refine hK.out _ _ (gcells (M4.has (.tail _ _ _ _ _ (Has.head _ _ _ _)))) (fun hHeld => ?_)
  clear hK K
  try simp only [Act.put, puts]
  refine wpAnyH_ready (rs := [5]) (by kernel_rfl) (by simp) ?_
  refine AllReadyH.cons rfl (fun K hK => ?_) AllReadyH.nil
  rw [if_pos (by rfl)]
  refine wp_stM M4 rfl rfl rfl (wr_g _ _ _ _ _ _ _ _ _ _ _ _ _ _) (Upd.head _ _ _ _ _) ?_
  intro w5 M5 hT5
  refine hK.out _ _ (gcells (M5.has (.tail _ _ _ _ _ (Has.head _ _ _ _)))) (fun hHeld => ?_)
  clear hK K
  try simp only [Act.put, puts]
  refine wpAnyH_done (by kernel_rfl) ?_ _
  have ho5 := gown_turned ho4 (M4.has (Has.head _ _ _ _)) (by decide) hT5
  go_wp2_with fail
  refine bodyPost_ret (res_cell rfl M5 rfl (Has.head _ _ _ _) (rd_g _ _ _ _ _ _)) rfl ?_
  exact ⟨_, _, rfl, ownsRow_base ho5 hz3, M5.below⟩

set_option maxRecDepth 20000 in
set_option maxHeartbeats 1600000 in
theorem shares_any (sT : Int) (a : Option Addr) (n cap : Nat) (p : List Int) (hp : p.length = n) (hn : n ≤ 1000000) (hs0 : 0 < sT) (hs1 : sT ≤ 9223372036854775807) (hr : ∀ u ∈ p, 0 ≤ u ∧ u ≤ sT) (w : World) (hS : Sl w 1 (.slice a n cap) n (i64s p)) :
    Calls Tryz.prog 63 #[.slice a n cap, .int .i64 sT] w fun e w' => ∃ a' cap', e = .returned (.slice a' n cap') ∧ w'.ownsRow w.heap.size 2 1 (.slice a' n cap') n (i64s (p.map (share sT))) ∧ Below w.heap.size w w' := by
  have hD : ∀ u, 0 ≤ u ∧ u ≤ sT → ∃ E, Ans 52 #[.int .i64 u, .int .i64 1073741824, .int .i64 sT, .int .i64 0] (.tuple #[.int .i64 (share sT u), .int .i64 E]) := by
    intro u hu
    have h1 := share_rng hs0 hu
    have h2 := divV_down (u * 1073741824) sT hs0 (by unfold share at h1; omega)
    refine ⟨divE (u * 1073741824) sT 0, fun wx => ?_⟩
    have := MulDiv_any u 1073741824 sT 0 (by omega) (by omega) (by omega) (by omega) wx
    rw [h2] at this
    exact this
  have hm : p.map (share sT) = tab (fun i => share sT (p.getD i 0)) n := by rw [← hp, tab_map]
  rw [hm]
  have hRg := fun i (hi : i < n) => getD_mem (P := fun u => 0 ≤ u ∧ u ≤ sT) hr (by rw [hp]; exact hi : i < p.length)
  obtain ⟨f, hf⟩ : ∃ f : Nat → Int, f = fun i => share sT (p.getD i 0) := ⟨_, rfl⟩
  rw [← hf]
  have hfi : ∀ i, share sT (p.getD i 0) = f i := fun i => by rw [hf]
  have HF := Lib.hid hfi
  have HD := Lib.hid hD
  have HR := Lib.hid hRg
  have HP := Lib.hid hp
  have HS := Lib.hid hS
  have hmx := hS.max
  clear hD hm hRg hf hfi hp hS hr
  go_enter Tryz.func63, Tryz.ntmps63
  go_wp2_with (refine gmk (t := 26) (e := 2) (z := .int .i64 0) (bytes := 8) Tryz.underlying26 (by kernel_rfl) rfl rfl _ _ rfl w.heap.size n _ _ rfl rfl (by omega) (by unfold maxLen; omega) (Nat.le_refl _) ?_)
  intro w5 ho5 hg5
  have hA5 := ggrown hg5
  obtain ⟨G, hG⟩ : ∃ G, G = w.heap.size := ⟨_, rfl⟩
  have hlo : w.heap.size ≤ G := by omega
  rw [i64s_rep, ← lay_0 f n] at ho5
  rw [← hG] at ho5 ⊢
  clear hg5 hG
  go_wp2_with fail
  go_loopw [13] (fun c wx => ∃ i : Nat, i ≤ n ∧ c = .int .i64 i ∧ wx.ownsRow G 2 1 (.slice (some ⟨G, 0, none⟩) n n) n (i64s (lay f i n)) ∧ Below w.heap.size w wx) (fun c _ => n - (intOf c).toNat)
  case atStart => exact ⟨0, Nat.zero_le _, rfl, ho5, hA5⟩
  case round =>
    clear ho5 hA5
    obtain ⟨i, hi, rfl, ho, hB⟩ := hrel
    by_cases hlt : i < n
    · obtain ⟨b, o, rfl, hbl, hc⟩ := cell64 HS.out i (by rw [HP.out]; exact hlt)
      have hcu := (hB.cell (p := ⟨b, o + i, none⟩) hbl).trans hc
      obtain ⟨E, hE⟩ := HD.out _ (HR.out i hlt)
      rw [HF.out i] at hE
      have hnx := lay_set f i n hlt
      have hll := lay_length f i n hi
      obtain ⟨u, hu⟩ : ∃ u, u = p.getD i 0 := ⟨_, rfl⟩
      rw [← hu] at hE hcu
      have HE := Lib.hid hE
      have HN := Lib.hid hnx
      clear hE hu hc hbl hnx
      go_wp2_with fail
      refine (HE.out _).mono ?_
      rintro e w6 ⟨rfl, hA6⟩
      have ho6 := ownsRow_below ho hA6
      have hB6 := hB.trans (hA6.mono hB.size)
      have hcc := own64 ho6 i (by rw [hll]; exact hlt)
      have hff := ownsRow_free ho6 i
      have ho7 := ownsRow_set ho6 i hlt (.int .i64 (f i))
      rw [i64s_set, HN.out] at ho7
      clear ho hB hA6 HE hcu ho6
      go_wp2_with fail
      go_roundw
      case rel => exact ⟨i + 1, by omega, by go_num, ho7, hB6.setCell hlo _⟩
      case measure => simp [intOf]; omega
    · obtain rfl : i = n := by omega
      rw [lay_n] at ho
      go_wp2_with fail
      go_ret
      exact ⟨_, _, rfl, ownsRow_base ho hlo, hB⟩
end Go.Proofs.YtallbegibdlpaaaGreat

/-
  What is wrong with any grid; a grid made whole again: the code's.
-/
namespace Go.Proofs.YtallbegibdlpaaaGreat
open Go Go.RowKit Go.Th Go.Th.Grid Go.Th.Wide

set_option maxRecDepth 20000 in
set_option maxHeartbeats 3200000 in
theorem gcheck_any (x y X Y s : Int) (a : Option Addr) (n cap : Nat) (p : List Int) (hp : p.length = n) (hn : n ≤ 1000000) (w : World) (hS : Sl w 1 (.slice a n cap) n (i64s p)) :
    Calls Tryz.prog 9 #[gv x y X Y s (.slice a n cap)] w fun e w' => e = .returned (.int .i64 (chk x y s p)) ∧ Below w.heap.size w w' := by
  have C1 := sides_any x y
  have C2 := step_any s
  have hR : chk x y s p = if sdG x y = false then 2 else if inR s 16 4096 = false then 2 else if (n : Int) ≠ x * y then 5 else if allIn p 1073741824 = false then 1 else if inR (sm p) (1073741824 - (n : Int)) 1073741824 then 0 else 11 := by
    unfold chk
    rw [sidesG_is, hp]
    cases sdG x y <;> cases inR s 16 4096 <;> simp [inR]
  obtain ⟨R, hRR⟩ : ∃ R, R = chk x y s p := ⟨_, rfl⟩
  rw [← hRR] at hR ⊢
  have HS := Lib.hid hS
  clear hRR hS
  (obtain ⟨w1, hw1⟩ : ∃ w1, w.alloc (.cells #[.int .i64 x, .int .i64 y, .int .i64 X, .int .i64 Y, .int .i64 s, .slice a n cap] 28) = w1 := ⟨_, rfl⟩; have M1 := (Mem.start w).alloc 28 (gc x y X Y s (.slice a n cap)); rw [show w.alloc (.cells (gc x y X Y s (.slice a n cap)).toArray 28) = w1 from hw1] at M1; have HW1 := Lib.hid hw1; clear hw1)
  go_enter Tryz.func9, Tryz.ntmps9
  ((go_upto_region 1 with fail); rw [HW1.out]; clear HW1; obtain ⟨gA, hgA⟩ : ∃ gA, gA = w.heap.size := ⟨_, rfl⟩; rw [← hgA] at M1 ⊢; clear hgA)
  obtain ⟨c0, c1, c2, c3, c4, c5⟩ := gcells (M1.has (Has.head _ _ _ _))
  cases hsd : sdG x y
  · rw [hsd] at C1
    rw [if_pos hsd] at hR
    have C1 := Lib.hid C1
    have HR := Lib.hid hR
    clear hR hsd C2 hp
    go_wp2_with fail
    refine (C1.out _).mono ?_
    rintro e wx ⟨rfl, rfl⟩
    go_wp2_with fail
    go_ret
    exact ⟨ret_int HR.out.symm, M1.below⟩
  rw [hsd] at C1
  rw [if_neg (by rw [hsd]; simp)] at hR
  obtain ⟨⟨q1, q2⟩, q3, q4⟩ := sdG_t hsd
  obtain ⟨i, hi⟩ := Int.eq_ofNat_of_zero_le (by omega : 0 ≤ x)
  obtain ⟨j, hj⟩ := Int.eq_ofNat_of_zero_le (by omega : 0 ≤ y)
  have hle : i * j ≤ 64 * 64 := Nat.mul_le_mul (by omega) (by omega)
  obtain ⟨m, hm⟩ : ∃ m, m = i * j := ⟨_, rfl⟩
  have hmul : x * y = (m : Int) := by rw [hi, hj, hm]; simp
  rw [← hm] at hle
  have C3 := Lib.hid (glen_any x y X Y s (m : Int) a n cap (by rw [hmul]; exact IntWalk.wrap64_in _ (by omega)))
  rw [hmul] at hR
  have C1 := Lib.hid C1
  clear hm hmul hsd hi hj
  cases hst : inR s 16 4096
  · rw [hst] at C2
    rw [if_pos hst] at hR
    have C2 := Lib.hid C2
    have HR := Lib.hid hR
    clear hR hst hp C3
    go_wp2_with fail
    refine (C1.out _).mono ?_
    rintro e wx ⟨rfl, rfl⟩
    go_wp2_with fail
    refine (C2.out _).mono ?_
    rintro e wx ⟨rfl, rfl⟩
    go_wp2_with fail
    go_ret
    exact ⟨ret_int HR.out.symm, M1.below⟩
  rw [hst] at C2
  rw [if_neg (by rw [hst]; simp)] at hR
  have C2 := Lib.hid C2
  have HR := Lib.hid hR
  have HP := Lib.hid hp
  clear hR hst hp
  go_wp2_with fail
  refine (C1.out _).mono ?_
  rintro e wx ⟨rfl, rfl⟩
  go_wp2_with fail
  refine (C2.out _).mono ?_
  rintro e wx ⟨rfl, rfl⟩
  clear C1 C2
  go_wp2_with fail
  refine wp_region_held_drew (S := (fun w' : World => w'.cell? ⟨gA, 0, none⟩ = some (.int .i64 x) ∧ w'.cell? ⟨gA, 1, none⟩ = some (.int .i64 y) ∧ w'.cell? ⟨gA, 2, none⟩ = some (.int .i64 X) ∧ w'.cell? ⟨gA, 3, none⟩ = some (.int .i64 Y) ∧ w'.cell? ⟨gA, 4, none⟩ = some (.int .i64 s) ∧ w'.cell? ⟨gA, 5, none⟩ = some (.slice a n cap))) (by kernel_rfl) (⟨c0, c1, c2, c3, c4, c5⟩) (fun hHeld => ?_)
  refine tkT 0 ?v14 ?hy14 hHeld ?rest14
  case hy14 => (intro w' hSw; (try dsimp only at hSw); go_simp; (try with_reducible rfl))
  try simp only [Act.put, puts]
  refine tkT 1 ?v15 ?hy15 hHeld ?rest15
  case hy15 => (intro w' hSw; (try dsimp only at hSw); go_simp; (try with_reducible rfl))
  try simp only [Act.put, puts]
  refine tkT 2 ?v16 ?hy16 hHeld ?rest16
  case hy16 => (intro w' hSw; (try dsimp only at hSw); go_simp; (try with_reducible rfl))
  try simp only [Act.put, puts]
  refine tkT 3 ?v17 ?hy17 hHeld ?rest17
  case hy17 => (intro w' hSw; (try dsimp only at hSw); go_simp; (try with_reducible rfl))
  try simp only [Act.put, puts]
  refine wpAnyH_ready (rs := [4]) (by kernel_rfl) (by simp) ?_
  refine AllReadyH.cons rfl (fun K hK => ?_) AllReadyH.nil
  go_simp
  refine (C3.out _).mono ?_
  rintro e w2 ⟨rfl, hA⟩
  have M2 := M1.drew.call hA
  try go_wp2_with fail
  refine hK.out _ _ (gcells (M2.has (Has.head _ _ _ _))) (fun hHeld => ?_)
  clear hK K
  try simp only [Act.put, puts]
  refine tkT 5 ?v19 ?hy19 hHeld ?rest19
  case hy19 => (intro w' hSw; (try dsimp only at hSw); go_simp; (try with_reducible rfl))
  try simp only [Act.put, puts]
  refine tkT 6 ?v20 ?hy20 hHeld ?rest20
  case hy20 => (intro w' hSw; (try dsimp only at hSw); go_simp; (try with_reducible rfl))
  try simp only [Act.put, puts]
  refine wpAnyH_done (by kernel_rfl) ?_ _
  clear c0 c1 c2 c3 c4 c5 M1 hA
  by_cases hnm : n = m
  · subst hnm
    have HR2 := Lib.hid (HR.out.trans (if_neg (by simp)))
    have hq : ((n : Int) != (n : Int)) = false := by simp
    obtain ⟨c0, c1, c2, c3, c4, c5⟩ := gcells (M2.has (Has.head _ _ _ _))
    have CW := areWithin_any 1073741824 a n cap p HP.out w2 (HS.out.below M2.below)
    clear HR
    cases hall : allIn p 1073741824
    · rw [hall] at CW
      have HR3 := Lib.hid (HR2.out.trans (if_pos hall))
      have CW := Lib.hid CW
      clear hall HR2
      go_wp2_with fail
      refine CW.out.mono ?_
      rintro e w3 ⟨rfl, hA⟩
      have M3 := M2.call hA
      go_wp2_with fail
      go_ret
      exact ⟨ret_int HR3.out.symm, M3.below⟩
    · rw [hall] at CW
      have HR3 := Lib.hid (HR2.out.trans (if_neg (by rw [hall]; simp)))
      have hal := allIn_iff.1 hall
      have hsr := sm_rng hal
      have hfit := sm_fits (fun u hu => (hal u hu).1) (by rw [HP.out] at hsr; omega)
      have CS := Lib.hid (fun wx hs => gsum_any x y X Y s a n cap p HP.out hfit wx hs)
      have CW := Lib.hid CW
      rw [HP.out] at hsr
      obtain ⟨T, hT⟩ : ∃ T, T = sm p := ⟨_, rfl⟩
      rw [← hT] at CS hsr HR3
      obtain ⟨lo, hlo⟩ : ∃ lo, lo = 1073741824 - (n : Int) := ⟨_, rfl⟩
      have hw1 : wrap64 (1073741824 - (n : Int)) = lo := by rw [hlo]; exact IntWalk.wrap64_in _ (by omega)
      have hw2 : IntKind.i64.wrap (1073741824 - (n : Int)) = lo := by rw [hlo]; exact IntWalk.i64_in _ (by omega)
      have hw3 : (1073741824 - (n : Int)) = lo := hlo.symm
      have hw4 : IntKind.i64.wrap lo = lo := by rw [hlo]; exact IntWalk.i64_in _ (by omega)
      rw [← hlo] at HR3
      have CI := within_64 T lo 1073741824
      clear hall HR2 hal hfit hT hlo
      obtain ⟨B, hB⟩ : ∃ B, B = inR T lo 1073741824 := ⟨_, rfl⟩
      rw [← hB] at CI HR3
      have CI := Lib.hid CI
      clear hB
      go_wp2_with fail
      refine CW.out.mono ?_
      rintro e w3 ⟨rfl, hA⟩
      have M3 := M2.call hA
      clear c0 c1 c2 c3 c4 c5 M2 hA CW
      obtain ⟨c0, c1, c2, c3, c4, c5⟩ := gcells (M3.has (Has.head _ _ _ _))
      go_wp2_with fail
      refine wp_region_held_drew (S := (fun w' : World => w'.cell? ⟨gA, 0, none⟩ = some (.int .i64 x) ∧ w'.cell? ⟨gA, 1, none⟩ = some (.int .i64 y) ∧ w'.cell? ⟨gA, 2, none⟩ = some (.int .i64 X) ∧ w'.cell? ⟨gA, 3, none⟩ = some (.int .i64 Y) ∧ w'.cell? ⟨gA, 4, none⟩ = some (.int .i64 s) ∧ w'.cell? ⟨gA, 5, none⟩ = some (.slice a n cap))) (by kernel_rfl) (⟨c0, c1, c2, c3, c4, c5⟩) (fun hHeld => ?_)
      refine tkT 0 ?v21 ?hy21 hHeld ?rest21
      case hy21 => (intro w' hSw; (try dsimp only at hSw); go_simp; (try with_reducible rfl))
      try simp only [Act.put, puts]
      refine tkT 2 ?v22 ?hy22 hHeld ?rest22
      case hy22 => (intro w' hSw; (try dsimp only at hSw); go_simp; (try with_reducible rfl))
      try simp only [Act.put, puts]
      refine wpAnyH_ready (rs := [1]) (by kernel_rfl) (by simp) ?_
      refine AllReadyH.cons rfl (fun K hK => ?_) AllReadyH.nil
      go_simp
      refine (CS.out _ (HS.out.below M3.drew.below)).mono ?_
      rintro e w4 ⟨rfl, hA⟩
      have M4 := M3.drew.call hA
      try go_wp2_with fail
      refine hK.out _ _ (gcells (M4.has (Has.head _ _ _ _))) (fun hHeld => ?_)
      clear hK K
      try simp only [Act.put, puts]
      refine wpAnyH_ready (rs := [3]) (by kernel_rfl) (by simp) ?_
      refine AllReadyH.cons rfl (fun K hK => ?_) AllReadyH.nil
      go_simp
      refine (C3.out _).mono ?_
      rintro e w5 ⟨rfl, hA⟩
      have M5 := M4.call hA
      try go_wp2_with fail
      refine hK.out _ _ (gcells (M5.has (Has.head _ _ _ _))) (fun hHeld => ?_)
      clear hK K
      try simp only [Act.put, puts]
      refine tkT 4 ?v25 ?hy25 hHeld ?rest25
      case hy25 => (intro w' hSw; (try dsimp only at hSw); go_simp; (try with_reducible rfl))
      try simp only [Act.put, puts]
      refine wpAnyH_ready (rs := [5]) (by kernel_rfl) (by simp) ?_
      refine AllReadyH.cons rfl (fun K hK => ?_) AllReadyH.nil
      go_simp
      refine (CI.out _).mono ?_
      rintro e wx ⟨rfl, rfl⟩
      try go_wp2_with fail
      refine hK.out _ _ (gcells (M5.has (Has.head _ _ _ _))) (fun hHeld => ?_)
      clear hK K
      try simp only [Act.put, puts]
      refine tkT 6 ?v27 ?hy27 hHeld ?rest27
      case hy27 => (intro w' hSw; (try dsimp only at hSw); go_simp; (try with_reducible rfl))
      try simp only [Act.put, puts]
      refine tkT 7 ?v28 ?hy28 hHeld ?rest28
      case hy28 => (intro w' hSw; (try dsimp only at hSw); go_simp; (try with_reducible rfl))
      try simp only [Act.put, puts]
      refine wpAnyH_done (by kernel_rfl) ?_ _
      cases B
      · go_wp2_with fail
        go_ret
        exact ⟨ret_int HR3.out.symm, M5.below⟩
      · go_wp2_with fail
        go_ret
        exact ⟨ret_int HR3.out.symm, M5.below⟩
  · have hq : ((n : Int) != (m : Int)) = true := by simp; omega
    have HR2 := Lib.hid (HR.out.trans (if_pos (by omega)))
    clear HR
    go_wp2_with fail
    go_ret
    exact ⟨ret_int HR2.out.symm, M2.below⟩

set_option maxRecDepth 20000 in
set_option maxHeartbeats 3200000 in
theorem gnorm_any (x y X Y s : Int) (a : Option Addr) (n cap : Nat) (p : List Int) (hp : p.length = n) (hn : n ≤ 1000000) (h0 : ∀ u ∈ p, 0 ≤ u) (hsm : sm p ≤ 9223372036854775807) (w : World) (hS : Sl w 1 (.slice a n cap) n (i64s p)) :
    Calls Tryz.prog 24 #[gv x y X Y s (.slice a n cap)] w (GRes x y X Y s n (norm p) (normC p) w) := by
  have CS := Lib.hid (fun wx hs => gsum_any x y X Y s a n cap p hp (sm_fits h0 hsm) wx hs)
  have HS := Lib.hid hS
  have h0s := sm_pos h0
  have hge := sm_ge h0
  by_cases hz : sm p = 0
  · have e1 : norm p = p := by unfold norm; rw [if_pos hz]
    have e2 : normC p = 7 := by unfold normC; rw [if_pos hz]
    rw [e1, e2]
    rw [hz] at CS
    have C2 := Lib.hid (fun wx hs => itself_any x y X Y s a n cap p hp hn wx hs)
    clear hp h0 hsm hz e1 e2 hS h0s hge
    (obtain ⟨w1, hw1⟩ : ∃ w1, w.alloc (.cells #[.int .i64 x, .int .i64 y, .int .i64 X, .int .i64 Y, .int .i64 s, .slice a n cap] 28) = w1 := ⟨_, rfl⟩; have M1 := (Mem.start w).alloc 28 (gc x y X Y s (.slice a n cap)); rw [show w.alloc (.cells (gc x y X Y s (.slice a n cap)).toArray 28) = w1 from hw1] at M1; obtain ⟨w2, hw2⟩ : ∃ w2, w1.alloc (.cells #[.int .i64 0, .int .i64 0, .int .i64 0, .int .i64 0, .int .i64 0, .slice none 0 0] 28) = w2 := ⟨_, rfl⟩; have M2 := M1.alloc 28 (gc 0 0 0 0 0 (.slice none 0 0)); rw [show w1.alloc (.cells (gc 0 0 0 0 0 (.slice none 0 0)).toArray 28) = w2 from hw2] at M2; have hsz : w1.heap.size = w.heap.size + 1 := (by rw [← hw1]; simp); have HW1 := Lib.hid hw1; have HW2 := Lib.hid hw2; clear hw1 hw2 M1)
    go_enter Tryz.func24, Tryz.ntmps24
    ((go_upto_region 1 with fail); rw [HW1.out, HW2.out, ← hsz]; clear HW1 HW2; obtain ⟨gB, hgB⟩ : ∃ gB, gB = w1.heap.size := ⟨_, rfl⟩; obtain ⟨gA, hgA⟩ : ∃ gA, gA = w.heap.size := ⟨_, rfl⟩; rw [← hgB] at M2 ⊢; rw [← hgA] at M2 ⊢; have hne : gA ≠ gB := (by omega); clear hgA hgB hsz)
    obtain ⟨c0, c1, c2, c3, c4, c5⟩ := gcells (M2.has (.tail _ _ _ _ _ (Has.head _ _ _ _)))
    go_wp2_with fail
    refine (CS.out _ (HS.out.below M2.below)).mono ?_
    rintro e w3 ⟨rfl, hA⟩
    have M3 := M2.call hA
    clear c0 c1 c2 c3 c4 c5 M2 hA CS
    obtain ⟨c0, c1, c2, c3, c4, c5⟩ := gcells (M3.has (.tail _ _ _ _ _ (Has.head _ _ _ _)))
    go_wp2_with fail
    refine (C2.out _ (HS.out.below M3.below)).mono ?_
    rintro e w4 ⟨a4, cap4, rfl, ho4, hA⟩
    have hz3 := M3.below.size
    replace M3 := M3.call hA
    clear c0 c1 c2 c3 c4 c5 hA C2
    go_wp2_with ((with_reducible refine (?_ : Go.wpList _ _ _ (_ :: _) _ _)); (first | go_skip | (refine wpL_stM (v := gv x y X Y s (.slice a4 n cap4)) M3 rfl rfl rfl rfl (wr_g _ _ _ _ _ _ _ _ _ _ _ _ _ _) (Upd.head _ _ _ _ _) ?_; intro w4 M4 hT4)))
    have ho5 := gown_turned ho4 (M3.has (Has.head _ _ _ _)) (by decide) hT4
    ((try simp only [Exit.inBlock, Exit.then]); refine bodyPost_ret (res_cell_tmp rfl M4 rfl (Has.head _ _ _ _) (rd_g _ _ _ _ _ _) rfl) rfl ?_)
    exact ⟨_, _, rfl, ownsRow_base ho5 hz3, M4.below⟩
  · have e1 : norm p = p.map (share (sm p)) := by unfold norm; rw [if_neg hz]
    have e2 : normC p = 0 := by unfold normC; rw [if_neg hz]
    rw [e1, e2]
    obtain ⟨T, hT⟩ : ∃ T, T = sm p := ⟨_, rfl⟩
    rw [← hT] at CS h0s hge hsm hz ⊢
    have CH := Lib.hid (fun wx hs => shares_any T a n cap p hp hn (by omega) hsm (fun u hu => ⟨h0 u hu, hge u hu⟩) wx hs)
    have C2 := Lib.hid (fun a' cap' => with_any x y X Y s (.slice a n cap) a' n cap' ⟨_, _, _, rfl⟩)
    have bz : (T == 0) = false := by simpa using hz
    have bz2 : ¬ T = 0 := hz
    clear hp h0 e1 e2 hS hge hT hz
    (obtain ⟨w1, hw1⟩ : ∃ w1, w.alloc (.cells #[.int .i64 x, .int .i64 y, .int .i64 X, .int .i64 Y, .int .i64 s, .slice a n cap] 28) = w1 := ⟨_, rfl⟩; have M1 := (Mem.start w).alloc 28 (gc x y X Y s (.slice a n cap)); rw [show w.alloc (.cells (gc x y X Y s (.slice a n cap)).toArray 28) = w1 from hw1] at M1; obtain ⟨w2, hw2⟩ : ∃ w2, w1.alloc (.cells #[.int .i64 0, .int .i64 0, .int .i64 0, .int .i64 0, .int .i64 0, .slice none 0 0] 28) = w2 := ⟨_, rfl⟩; have M2 := M1.alloc 28 (gc 0 0 0 0 0 (.slice none 0 0)); rw [show w1.alloc (.cells (gc 0 0 0 0 0 (.slice none 0 0)).toArray 28) = w2 from hw2] at M2; have hsz : w1.heap.size = w.heap.size + 1 := (by rw [← hw1]; simp); have HW1 := Lib.hid hw1; have HW2 := Lib.hid hw2; clear hw1 hw2 M1)
    go_enter Tryz.func24, Tryz.ntmps24
    ((go_upto_region 1 with fail); rw [HW1.out, HW2.out, ← hsz]; clear HW1 HW2; obtain ⟨gB, hgB⟩ : ∃ gB, gB = w1.heap.size := ⟨_, rfl⟩; obtain ⟨gA, hgA⟩ : ∃ gA, gA = w.heap.size := ⟨_, rfl⟩; rw [← hgB] at M2 ⊢; rw [← hgA] at M2 ⊢; have hne : gA ≠ gB := (by omega); clear hgA hgB hsz)
    obtain ⟨c0, c1, c2, c3, c4, c5⟩ := gcells (M2.has (.tail _ _ _ _ _ (Has.head _ _ _ _)))
    go_wp2_with fail
    refine (CS.out _ (HS.out.below M2.below)).mono ?_
    rintro e w3 ⟨rfl, hA⟩
    have M3 := M2.call hA
    clear c0 c1 c2 c3 c4 c5 M2 hA CS
    obtain ⟨c0, c1, c2, c3, c4, c5⟩ := gcells (M3.has (.tail _ _ _ _ _ (Has.head _ _ _ _)))
    have hz3 := M3.below.size
    go_wp2_with fail
    refine wp_region_held_drew (S := (fun w' : World => w'.cell? ⟨gA, 0, none⟩ = some (.int .i64 x) ∧ w'.cell? ⟨gA, 1, none⟩ = some (.int .i64 y) ∧ w'.cell? ⟨gA, 2, none⟩ = some (.int .i64 X) ∧ w'.cell? ⟨gA, 3, none⟩ = some (.int .i64 Y) ∧ w'.cell? ⟨gA, 4, none⟩ = some (.int .i64 s) ∧ w'.cell? ⟨gA, 5, none⟩ = some (.slice a n cap))) (by kernel_rfl) (⟨c0, c1, c2, c3, c4, c5⟩) (fun hHeld => ?_)
    refine tkT 0 ?v29 ?hy29 hHeld ?rest29
    case hy29 => (intro w' hSw; (try dsimp only at hSw); go_simp; (try with_reducible rfl))
    try simp only [Act.put, puts]
    refine tkT 1 ?v30 ?hy30 hHeld ?rest30
    case hy30 => (intro w' hSw; (try dsimp only at hSw); go_simp; (try with_reducible rfl))
    try simp only [Act.put, puts]
    refine tkT 2 ?v31 ?hy31 hHeld ?rest31
    case hy31 => (intro w' hSw; (try dsimp only at hSw); go_simp; (try with_reducible rfl))
    try simp only [Act.put, puts]
    refine tkT 3 ?v32 ?hy32 hHeld ?rest32
    case hy32 => (intro w' hSw; (try dsimp only at hSw); go_simp; (try with_reducible rfl))
    try simp only [Act.put, puts]
    refine wpAnyH_ready (rs := [4]) (by kernel_rfl) (by simp) ?_
    refine AllReadyH.cons rfl (fun K hK => ?_) AllReadyH.nil
    go_simp
    refine (CH.out _ (HS.out.below M3.drew.below)).mono ?_
    rintro e w4 ⟨a4, cap4, rfl, ho4, hA⟩
    have M4 := M3.drew.call hA
    try go_wp2_with fail
    refine hK.out _ _ (gcells (M4.has (.tail _ _ _ _ _ (Has.head _ _ _ _)))) (fun hHeld => ?_)
    clear hK K
    try simp only [Act.put, puts]
    refine wpAnyH_ready (rs := [5]) (by kernel_rfl) (by simp) ?_
    refine AllReadyH.cons rfl (fun K hK => ?_) AllReadyH.nil
    go_simp
    refine (C2.out a4 cap4 _).mono ?_
    rintro e w5 ⟨rfl, hA5⟩
    have M5 := M4.call hA5
    have ho5 := ownsRow_below ho4 hA5
    try go_wp2_with fail
    refine hK.out _ _ (gcells (M5.has (.tail _ _ _ _ _ (Has.head _ _ _ _)))) (fun hHeld => ?_)
    clear hK K
    try simp only [Act.put, puts]
    refine wpAnyH_ready (rs := [6]) (by kernel_rfl) (by simp) ?_
    refine AllReadyH.cons rfl (fun K hK => ?_) AllReadyH.nil
    rw [if_pos (by rfl)]
    refine wp_stM M5 rfl rfl rfl (wr_g _ _ _ _ _ _ _ _ _ _ _ _ _ _) (Upd.head _ _ _ _ _) ?_
    intro w6 M6 hT6
    refine hK.out _ _ (gcells (M6.has (.tail _ _ _ _ _ (Has.head _ _ _ _)))) (fun hHeld => ?_)
    clear hK K
    try simp only [Act.put, puts]
    refine tkT 7 ?v36 ?hy36 hHeld ?rest36
    case hy36 => (intro w' hSw; (try dsimp only at hSw); go_simp; (try with_reducible rfl))
    try simp only [Act.put, puts]
    refine wpAnyH_done (by kernel_rfl) ?_ _
    have ho6 := gown_turned ho5 (M5.has (Has.head _ _ _ _)) (by decide) hT6
    go_wp2_with fail
    ((try simp only [Exit.inBlock, Exit.then]); refine bodyPost_ret (res_cell_tmp rfl M6 rfl (Has.head _ _ _ _) (rd_g _ _ _ _ _ _) rfl) rfl ?_)
    exact ⟨_, _, rfl, ownsRow_base ho6 hz3, M6.below⟩
end Go.Proofs.YtallbegibdlpaaaGreat

/-
  A place of which parts went to either side, and came from there: the code's.
-/
namespace Go.Proofs.YtallbegibdlpaaaGreat
open Go Go.RowKit Go.Th Go.Th.Grid Go.Th.Wide

set_option maxRecDepth 20000 in
set_option maxHeartbeats 1600000 in
theorem mixed_go (a : Option Addr) (nn cap : Nat) (l : List Int) (hl : l.length = nn) (hnn : nn ≤ 1000000) (i n b A B k1 k2 k3 : Nat) (q u1 u2 u3 p1 p2 p3 : Int) (hi : i < n) (hn : n ≤ 64) (hq : 0 ≤ q ∧ q ≤ 85) (hA : A = i - 1) (hB : B = min (i + 1) (n - 1))
    (e1 : (A : Int) * (b : Int) = (k1 : Int)) (e2 : (i : Int) * (b : Int) = (k2 : Int)) (e3 : (B : Int) * (b : Int) = (k3 : Int)) (h1 : k1 < nn) (h2 : k2 < nn) (h3 : k3 < nn) (hu1 : l.getD k1 0 = u1) (hu2 : l.getD k2 0 = u2) (hu3 : l.getD k3 0 = u3)
    (r1 : q * u1 = p1) (r2 : (256 - 2 * q) * u2 = p2) (r3 : q * u3 = p3) (b1 : 0 ≤ p1 ∧ p1 ≤ 1000000000000) (b2 : 0 ≤ p2 ∧ p2 ≤ 1000000000000) (b3 : 0 ≤ p3 ∧ p3 ≤ 1000000000000) (w : World) (hS : Sl w 1 (.slice a nn cap) nn (i64s l)) :
    Calls Tryz.prog 61 #[.slice a nn cap, .int .i64 i, .int .i64 n, .int .i64 b, .int .i64 q] w fun e w' => e = .returned (.int .i64 ((p1 + p2 + p3) / 256)) ∧ Below w.heap.size w w' := by
  obtain ⟨bb, o, rfl, _, c1⟩ := cell64 hS k1 (by omega)
  obtain ⟨_, _, e', _, c2⟩ := cell64 hS k2 (by omega)
  cases e'
  obtain ⟨_, _, e', _, c3⟩ := cell64 hS k3 (by omega)
  cases e'
  rw [hu1] at c1
  rw [hu2] at c2
  rw [hu3] at c3
  have hmx1 : ∀ (ts : Array TypeId) (t : TypeId) (wx : World), (Builtin.max_ ts t #[.int .i64 ((i : Int) - 1), .int .i64 0]).run Tryz.prog wx = .ok (.int .i64 (A : Int)) wx := by
    intro ts t wx
    subst hA
    rcases Nat.eq_zero_or_pos i with h0 | h0
    · subst h0; rfl
    · have : ¬ ((i : Int) - 1 < 0) := by omega
      have e : ((i - 1 : Nat) : Int) = (i : Int) - 1 := by omega
      rw [e]
      simp [Builtin.max_, Builtin.max2, this]
  have hmx2 : ∀ (ts : Array TypeId) (t : TypeId) (wx : World), (Builtin.min_ ts t #[.int .i64 ((i : Int) + 1), .int .i64 ((n : Int) - 1)]).run Tryz.prog wx = .ok (.int .i64 (B : Int)) wx := by
    intro ts t wx
    subst hB
    by_cases h0 : i + 1 < n
    · have : ¬ ((n : Int) - 1 < (i : Int) + 1) := by omega
      have e : ((min (i + 1) (n - 1) : Nat) : Int) = (i : Int) + 1 := by omega
      rw [e]
      simp [Builtin.min_, Builtin.min2, this]
    · have : (n : Int) - 1 < (i : Int) + 1 := by omega
      have e : ((min (i + 1) (n - 1) : Nat) : Int) = (n : Int) - 1 := by omega
      rw [e]
      simp [Builtin.min_, Builtin.min2, this]
  have w1 : IntKind.i64.wrap (q * u1) = p1 := by rw [r1]; exact IntWalk.i64_in _ (by omega)
  have w2 : IntKind.i64.wrap ((256 - 2 * q) * u2) = p2 := by rw [r2]; exact IntWalk.i64_in _ (by omega)
  have w3 : IntKind.i64.wrap (q * u3) = p3 := by rw [r3]; exact IntWalk.i64_in _ (by omega)
  have hq1 := hq.1
  have hq2 := hq.2
  have hmx := hS.max
  clear hA hB hu1 hu2 hu3 hS hl
  go_enter Tryz.func61, Tryz.ntmps61
  go_wp2_with fail
  go_quiet (fail)
  go_wp2_with fail
  go_ret
  exact ⟨rfl, below_dN (Below.refl _ _) _⟩

theorem mixed_any (a : Option Addr) (nn cap : Nat) (l : List Int) (hl : l.length = nn) (hnn : nn ≤ 1000000) (i n b : Nat) (q : Int) (hi : i < n) (hn : n ≤ 64) (hq : 0 ≤ q ∧ q ≤ 85) (hf : ∀ j, j < n → j * b < nn) (hr : ∀ u ∈ l, 0 ≤ u ∧ u ≤ 1073741824) (w : World) (hS : Sl w 1 (.slice a nn cap) nn (i64s l)) :
    Calls Tryz.prog 61 #[.slice a nn cap, .int .i64 i, .int .i64 n, .int .i64 b, .int .i64 q] w fun e w' => e = .returned (.int .i64 (mix q (l.getD ((i - 1) * b) 0) (l.getD (i * b) 0) (l.getD (min (i + 1) (n - 1) * b) 0))) ∧ Below w.heap.size w w' := by
  have f1 := hf (i - 1) (by omega)
  have f2 := hf i hi
  have f3 := hf (min (i + 1) (n - 1)) (by omega)
  have m := mix_sum hq (getD_mem (P := fun u => 0 ≤ u ∧ u ≤ 1073741824) hr (by rw [hl]; exact f1 : (i - 1) * b < l.length)) (getD_mem (P := fun u => 0 ≤ u ∧ u ≤ 1073741824) hr (by rw [hl]; exact f2 : i * b < l.length)) (getD_mem (P := fun u => 0 ≤ u ∧ u ≤ 1073741824) hr (by rw [hl]; exact f3 : min (i + 1) (n - 1) * b < l.length))
  exact mixed_go a nn cap l hl hnn i n b _ _ _ _ _ q _ _ _ _ _ _ hi hn hq rfl rfl (by simp) (by simp) (by simp) f1 f2 f3 rfl rfl rfl rfl rfl rfl (by omega) (by omega) (by omega) w hS
end Go.Proofs.YtallbegibdlpaaaGreat

/-
  A grid that is spread: the code's.
-/
namespace Go.Th.Grid
open Go Go.RowKit Go.Th
theorem own_blk {w : World} {base g n : Nat} {e : TypeId} {xs : List Value} (h : w.ownsRow base e 1 (.slice (some ⟨g, 0, none⟩) n n) n xs) : Blk w g e xs := by
  obtain ⟨h1, h2⟩ := h
  rcases h2 with ⟨he, _⟩ | ⟨g', cap, cur, he, hb, hh, hnc, hcm, hcs, ht⟩
  · cases he
  · cases he
    unfold Blk
    rw [Nat.mul_one] at hcs ht
    have e : cur.toList = xs := by rw [← ht, List.take_of_length_le (by simp; omega)]
    rw [← e]
    simpa using hh
theorem blk_own {w : World} {base g n : Nat} {e : TypeId} {xs : List Value} (h : Blk w g e xs) (hb : base ≤ g) (hn : xs.length = n) (hm : n ≤ maxLen) : w.ownsRow base e 1 (.slice (some ⟨g, 0, none⟩) n n) n xs := by
  refine ⟨by rw [hn, Nat.mul_one], .inr ⟨g, n, xs.toArray, rfl, hb, h, Nat.le_refl _, hm, by simp [hn], by rw [Nat.mul_one]; simp [← hn]⟩⟩
theorem mem_new {w0 w w' : World} {bs : List (Nat × TypeId × List Value)} {g : Nat} {e : TypeId} {xs : List Value} (M : Mem w0 w bs) (hb : Below w.heap.size w w') (hk : Blk w' g e xs) (hg : w.heap.size ≤ g) : Mem w0 w' ((g, e, xs) :: bs) where
  below := M.below.trans (hb.mono M.below.size)
  nodup := by
    simp only [List.map_cons, List.nodup_cons]
    refine ⟨fun h => ?_, M.nodup⟩
    obtain ⟨e, he, h'⟩ := List.mem_map.1 h
    have := (M.blk e he).lt
    omega
  old := by
    intro e he
    rcases List.mem_cons.1 he with rfl | he
    · exact Nat.le_trans M.below.size hg
    · exact M.old e he
  blk := by
    intro e he
    rcases List.mem_cons.1 he with rfl | he
    · exact hk
    · exact (M.call hb).blk e he
/-- A slice of noughts is made; its block is known. -/
theorem wpL_mkM {P : Program} {w w0 : World} {bs : List (Nat × TypeId × List Value)} {ops : Array Oper} {rest : List Oper} {o : Oper} {a : Act} {Q : Exit → Act → World → Prop} {t e : TypeId} {z : Value} {bytes : Nat} (M : Mem w0 w bs)
    (hU : P.underlying t = some (.slice e)) (hI : (P.info? e).map (fun i => (i.zero, i.size, i.bytes)) = some (some z, 1, bytes)) (hz : z.cells = #[z])
    (hg : o.guard = none) (l c : Operand) (hop : o.op = Op.makeSlice t l c) (n : Nat) (kl kc : IntKind) (hl : a.eval l = .int kl (n : Int)) (hc : a.eval c = .int kc (n : Int))
    (b2 : bytes * n ≤ 281474976710656) (b3 : n ≤ maxLen)
    (hK : ∀ g w', Mem w0 w' ((g, e, List.replicate n z) :: bs) → wpList P ops Q rest (a.put o.dst (.slice (some ⟨g, 0, none⟩) n n)) w') : wpList P ops Q (o :: rest) a w :=
  gmk hU hI hz hg l c hop w.heap.size n kl kc hl hc b2 b3 (Nat.le_refl _) fun w' h hg' => hK _ _ (mem_new M (ggrown hg') (own_blk h) (Nat.le_refl _))
theorem getD_drop (l : List Int) (k j : Nat) : (l.drop k).getD j 0 = l.getD (k + j) 0 := by
  rw [List.getD_eq_getElem?_getD, List.getD_eq_getElem?_getD, List.getElem?_drop]
end Go.Th.Grid
namespace Go.Proofs.YtallbegibdlpaaaGreat
open Go Go.RowKit Go.Th Go.Th.Grid Go.Th.Wide

theorem i64s_drop (l : List Int) (k : Nat) : (i64s l).drop k = i64s (l.drop k) := by simp [i64s, List.map_drop]

set_option maxRecDepth 20000 in
set_option maxHeartbeats 6400000 in
theorem spread_yes (x y : Nat) (X Y s q : Int) (a : Option Addr) (n cap : Nat) (p : List Int) (hp : p.length = n) (hxy : n = x * y) (hsd : sdG x y = true) (hr : ∀ u ∈ p, 0 ≤ u ∧ u ≤ 1073741824) (hq : inR q 0 85 = true) (w : World) (hS : Sl w 1 (.slice a n cap) n (i64s p)) :
    Calls Tryz.prog 23 #[gv x y X Y s (.slice a n cap), .int .i64 q] w (GRes x y X Y s n (spread p x y q) 0 w) := by
  have hqr := inR_t hq
  obtain ⟨⟨q1, q2⟩, q3, q4⟩ := sdG_t hsd
  have hle : x * y ≤ 64 * 64 := Nat.mul_le_mul (by omega) (by omega)
  have hyx : n = y * x := by rw [hxy, Nat.mul_comm]
  have C1 := within_64 q 0 85
  rw [hq] at C1
  have C2 := shape_any x y X Y s a n cap (by rw [hxy]; omega)
  rw [shp_ok hsd hxy] at C2
  have CW := Lib.hid (fun a' cap' => with_any x y X Y s (.slice a n cap) a' n cap' ⟨_, _, _, rfl⟩)
  have hpl : p.length = y * x := by rw [hp, hyx]
  obtain ⟨r, hrr⟩ : ∃ r, r = pass p x y q 1 0 := ⟨_, rfl⟩
  have hrl : r.length = n := by rw [hrr, pass_length, hyx]
  have hrg : ∀ u ∈ r, 0 ≤ u ∧ u ≤ 1073741824 := by rw [hrr]; exact pass_rng 1 0 hqr hpl hr
  obtain ⟨f1, hf1⟩ : ∃ f, f = mixAt p x y q 1 0 := ⟨_, rfl⟩
  obtain ⟨f2, hf2⟩ : ∃ f, f = mixAt r x y q 0 1 := ⟨_, rfl⟩
  have ht1 : tab f1 n = r := by rw [hf1, hrr, hyx]; rfl
  have ht2 : tab f2 n = spread p x y q := by rw [hf2, hyx]; unfold spread; rw [← hrr]; rfl
  rw [← ht2]
  have hat : ∀ yy xx, yy < y → xx < x → yy * x + xx < n := fun yy xx h1 h2 => by rw [hyx]; exact at_lt h2 h1
  have HM1 := fun (yy xx : Nat) (h1 : yy < y) (h2 : xx < x) (a' : Option Addr) (cap' : Nat) wx hs => mixed_any a' (n - yy * x) cap' (p.drop (yy * x)) (by rw [List.length_drop, hp]) (by omega) xx x 1 q h2 (by omega) hqr (fun j hj => by have := hat yy j h1 hj; omega) (fun u hu => hr u (List.mem_of_mem_drop hu)) wx hs
  have HM2 := fun (yy xx : Nat) (h1 : yy < y) (h2 : xx < x) (a' : Option Addr) (cap' : Nat) wx hs => mixed_any a' (n - xx) cap' (r.drop xx) (by rw [List.length_drop, hrl]) (by omega) yy y x q h1 (by omega) hqr (fun j hj => by have := hat j xx hj h2; omega) (fun u hu => hrg u (List.mem_of_mem_drop hu)) wx hs
  have HV1 : ∀ yy xx, yy < y → xx < x → mix q ((p.drop (yy * x)).getD ((xx - 1) * 1) 0) ((p.drop (yy * x)).getD (xx * 1) 0) ((p.drop (yy * x)).getD (min (xx + 1) (x - 1) * 1) 0) = f1 (yy * x + xx) := by
    intro yy xx h1 h2
    rw [hf1, getD_drop, getD_drop, getD_drop]
    unfold mixAt
    rw [div_at yy h2, mod_at yy h2, Nat.mul_one, Nat.mul_one, Nat.mul_one, Nat.sub_zero, Nat.add_zero yy, Nat.min_eq_left (by omega : yy ≤ y - 1)]
  have HV2 : ∀ yy xx, yy < y → xx < x → mix q ((r.drop xx).getD ((yy - 1) * x) 0) ((r.drop xx).getD (yy * x) 0) ((r.drop xx).getD (min (yy + 1) (y - 1) * x) 0) = f2 (yy * x + xx) := by
    intro yy xx h1 h2
    rw [hf2, getD_drop, getD_drop, getD_drop]
    unfold mixAt
    rw [div_at yy h2, mod_at yy h2, Nat.sub_zero, Nat.add_zero xx, Nat.min_eq_left (by omega : xx ≤ x - 1), Nat.add_comm xx, Nat.add_comm xx, Nat.add_comm xx]
  have HM1 := Lib.hid HM1
  have HM2 := Lib.hid HM2
  have HV1 := Lib.hid HV1
  have HV2 := Lib.hid HV2
  have HAT := Lib.hid hat
  have HT1 := Lib.hid ht1
  have HYX := Lib.hid hyx
  have HL1 := Lib.hid (fun k => lay_length f1 k n)
  have HL2 := Lib.hid (fun k => lay_length f2 k n)
  have HN1 := Lib.hid (fun k => lay_set f1 k n)
  have HN2 := Lib.hid (fun k => lay_set f2 k n)
  have HRL := Lib.hid hrl
  have C1 := Lib.hid C1
  have C2 := Lib.hid C2
  have HS := Lib.hid hS
  have hmx := hS.max
  have hn : n ≤ 4096 := by omega
  have hw0 : w.heap.size ≤ w.heap.size := Nat.le_refl _
  have HP := Lib.hid hp
  clear hq hqr hxy hsd hr hS hp hpl hrr hrl hrg hf1 hf2 ht1 ht2 hat hyx hle
  (obtain ⟨w1, hw1⟩ : ∃ w1, w.alloc (.cells #[.int .i64 x, .int .i64 y, .int .i64 X, .int .i64 Y, .int .i64 s, .slice a n cap] 28) = w1 := ⟨_, rfl⟩; have M1 := (Mem.start w).alloc 28 (gc x y X Y s (.slice a n cap)); rw [show w.alloc (.cells (gc x y X Y s (.slice a n cap)).toArray 28) = w1 from hw1] at M1; obtain ⟨w2, hw2⟩ : ∃ w2, w1.alloc (.cells #[.int .i64 0, .int .i64 0, .int .i64 0, .int .i64 0, .int .i64 0, .slice none 0 0] 28) = w2 := ⟨_, rfl⟩; have M2 := M1.alloc 28 (gc 0 0 0 0 0 (.slice none 0 0)); rw [show w1.alloc (.cells (gc 0 0 0 0 0 (.slice none 0 0)).toArray 28) = w2 from hw2] at M2; have hsz : w1.heap.size = w.heap.size + 1 := (by rw [← hw1]; simp); have HW1 := Lib.hid hw1; have HW2 := Lib.hid hw2; clear hw1 hw2 M1)
  go_enter Tryz.func23, Tryz.ntmps23
  ((go_upto_region 1 with fail); rw [HW1.out, HW2.out, ← hsz]; clear HW1 HW2; obtain ⟨gB, hgB⟩ : ∃ gB, gB = w1.heap.size := ⟨_, rfl⟩; obtain ⟨gA, hgA⟩ : ∃ gA, gA = w.heap.size := ⟨_, rfl⟩; rw [← hgB] at M2 ⊢; rw [← hgA] at M2 ⊢; have hne : gA ≠ gB := (by omega); clear hgA hgB hsz)
  obtain ⟨c0, c1, c2, c3, c4, c5⟩ := gcells (M2.has (.tail _ _ _ _ _ (Has.head _ _ _ _)))
  go_wp2_with fail
  refine (C1.out _).mono ?_
  rintro e wx ⟨rfl, rfl⟩
  go_wp2_with fail
  refine (C2.out _).mono ?_
  rintro e w3 ⟨rfl, hA⟩
  have M3 := M2.call hA
  clear c0 c1 c2 c3 c4 c5 M2 hA C1 C2
  obtain ⟨c0, c1, c2, c3, c4, c5⟩ := gcells (M3.has (.tail _ _ _ _ _ (Has.head _ _ _ _)))
  go_wp2_with (refine wpL_mkM (t := 26) (e := 2) (z := .int .i64 0) (bytes := 8) M3 Tryz.underlying26 (by kernel_rfl) rfl rfl _ _ rfl n _ _ rfl rfl (by omega) (by unfold maxLen; omega) ?_)
  intro B1 w4 M4
  clear c0 c1 c2 c3 c4 c5 M3
  obtain ⟨c0, c1, c2, c3, c4, c5⟩ := gcells (M4.has (.tail _ _ _ _ _ (.tail _ _ _ _ _ (Has.head _ _ _ _))))
  go_wp2_with (refine wpL_mkM (t := 26) (e := 2) (z := .int .i64 0) (bytes := 8) M4 Tryz.underlying26 (by kernel_rfl) rfl rfl _ _ rfl n _ _ rfl rfl (by omega) (by unfold maxLen; omega) ?_)
  intro B2 w5 M5
  clear c0 c1 c2 c3 c4 c5 M4
  rw [i64s_rep] at M5
  have M5' : Mem w w5 [(B2, 2, i64s (lay f2 (0 * x) n)), (B1, 2, i64s (lay f1 (0 * x) n)), (gB, 28, gc 0 0 0 0 0 (.slice none 0 0)), (gA, 28, gc x y X Y s (.slice a n cap))] := by
    rw [Nat.zero_mul, lay_0, lay_0]; exact M5
  clear M5
  obtain ⟨c0, c1, c2, c3, c4, c5⟩ := gcells (M5'.has (.tail _ _ _ _ _ (.tail _ _ _ _ _ (.tail _ _ _ _ _ (Has.head _ _ _ _)))))
  go_wp2_with fail
  go_loopw [35] (fun c wx => ∃ yy : Nat, yy ≤ y ∧ c = .int .i64 yy ∧ Mem w wx [(B2, 2, i64s (lay f2 (0 * x) n)), (B1, 2, i64s (lay f1 (yy * x) n)), (gB, 28, gc 0 0 0 0 0 (.slice none 0 0)), (gA, 28, gc x y X Y s (.slice a n cap))]) (fun c _ => y - (intOf c).toNat)
  case atStart => exact ⟨0, Nat.zero_le _, rfl, M5'⟩
  case round =>
    clear M5' c0 c1 c2 c3 c4 c5
    obtain ⟨yy, hyy, rfl, M⟩ := hrel
    obtain ⟨c0, c1, c2, c3, c4, c5⟩ := gcells (M.has (.tail _ _ _ _ _ (.tail _ _ _ _ _ (.tail _ _ _ _ _ (Has.head _ _ _ _)))))
    by_cases hlt : yy < y
    · obtain ⟨k0, hk0⟩ : ∃ k0, k0 = yy * x := ⟨_, rfl⟩
      have hk1 : (yy + 1) * x = k0 + x := by rw [hk0, Nat.succ_mul]
      have hmul : (yy : Int) * (x : Int) = (k0 : Int) := by rw [hk0]; simp
      have hfit := fun xx (h : xx < x) => HAT.out yy xx hlt h
      have HC := fun xx (h : xx < x) a' cap' wx hs => HM1.out yy xx hlt h a' cap' wx hs
      have HV := fun xx (h : xx < x) => HV1.out yy xx hlt h
      rw [← hk0] at M hfit HC HV
      have hk0n : k0 < n := by have := hfit 0 (by omega); omega
      obtain ⟨ac, capc, hcut, hSc, _, _⟩ := Sl.cut_off E64 HS.out k0 (by omega) (k0 : Int) rfl
      rw [i64s_drop] at hSc
      have HSC := Lib.hid hSc
      have HFIT := Lib.hid hfit
      have HC := Lib.hid HC
      have HV := Lib.hid HV
      have HK1 := Lib.hid hk1
      have hqw : IntKind.i64.wrap (k0 : Int) = (k0 : Int) := IntWalk.i64_in _ (by omega)
      clear hk0 hk1 hfit hSc
      go_wp2_with fail
      go_loopw [40] (fun c wx => ∃ xx : Nat, xx ≤ x ∧ c = .int .i64 xx ∧ Mem w wx [(B2, 2, i64s (lay f2 (0 * x) n)), (B1, 2, i64s (lay f1 (k0 + xx) n)), (gB, 28, gc 0 0 0 0 0 (.slice none 0 0)), (gA, 28, gc x y X Y s (.slice a n cap))]) (fun c _ => x - (intOf c).toNat)
      case atStart => exact ⟨0, Nat.zero_le _, rfl, M⟩
      case round =>
        clear M c0 c1 c2 c3 c4 c5
        obtain ⟨xx, hxx, rfl, M⟩ := hrel
        obtain ⟨c0, c1, c2, c3, c4, c5⟩ := gcells (M.has (.tail _ _ _ _ _ (.tail _ _ _ _ _ (.tail _ _ _ _ _ (Has.head _ _ _ _)))))
        by_cases hlt2 : xx < x
        · have HCx := HC.out xx hlt2 ac capc
          rw [HV.out xx hlt2] at HCx
          have hkn := HFIT.out xx hlt2
          obtain ⟨k, hk⟩ : ∃ k, k = k0 + xx := ⟨_, rfl⟩
          rw [← hk] at HCx hkn M
          have hs1 : IntKind.i64.wrap ((k0 : Int) + (xx : Int)) = (k : Int) := by
            have := IntWalk.i64_in (k : Int) (by omega)
            rw [hk] at this ⊢
            simpa using this
          have hkw : IntKind.i64.wrap (k : Int) = (k : Int) := IntWalk.i64_in _ (by omega)
          have hs2 : (k0 : Int) + (xx : Int) = (k : Int) := by omega
          have HK := Lib.hid hk
          have HS2 := Lib.hid hs2
          have HCx := Lib.hid HCx
          have hN := HN1.out k hkn
          have HN := Lib.hid hN
          have hll := HL1.out k (by omega)
          clear hk hN
          go_wp2_with fail
          refine wp_region_held_drew (S := (fun w' : World => w'.cell? ⟨gA, 0, none⟩ = some (.int .i64 x) ∧ w'.cell? ⟨gA, 1, none⟩ = some (.int .i64 y) ∧ w'.cell? ⟨gA, 2, none⟩ = some (.int .i64 X) ∧ w'.cell? ⟨gA, 3, none⟩ = some (.int .i64 Y) ∧ w'.cell? ⟨gA, 4, none⟩ = some (.int .i64 s) ∧ w'.cell? ⟨gA, 5, none⟩ = some (.slice a n cap))) (by kernel_rfl) (⟨c0, c1, c2, c3, c4, c5⟩) (fun hHeld => ?_)
          refine tkT 0 ?v37 ?hy37 hHeld ?rest37
          case hy37 => (intro w' hSw; (try dsimp only at hSw); go_simp; (try with_reducible rfl))
          try simp only [Act.put, puts]
          refine tkT 1 ?v38 ?hy38 hHeld ?rest38
          case hy38 => (intro w' hSw; (try dsimp only at hSw); go_simp; (try with_reducible rfl))
          try simp only [Act.put, puts]
          refine tkT 2 ?v39 ?hy39 hHeld ?rest39
          case hy39 => (intro w' hSw; (try dsimp only at hSw); go_simp; (try with_reducible rfl))
          try simp only [Act.put, puts]
          refine tkT 3 ?v40 ?hy40 hHeld ?rest40
          case hy40 => (intro w' hSw; (try dsimp only at hSw); go_simp; (try with_reducible rfl))
          try simp only [Act.put, puts]
          refine tkT 4 ?v41 ?hy41 hHeld ?rest41
          case hy41 => (intro w' hSw; (try dsimp only at hSw); go_simp; (try with_reducible rfl))
          try simp only [Act.put, puts]
          refine tkT 5 ?v42 ?hy42 hHeld ?rest42
          case hy42 => (intro w' hSw; (try dsimp only at hSw); go_simp; (try with_reducible rfl))
          try simp only [Act.put, puts]
          refine tkT 6 ?v43 ?hy43 hHeld ?rest43
          case hy43 => (intro w' hSw; (try dsimp only at hSw); go_simp; (try with_reducible rfl))
          try simp only [Act.put, puts]
          refine tkT 7 ?v44 ?hy44 hHeld ?rest44
          case hy44 => (intro w' hSw; (try dsimp only at hSw); go_simp; (try with_reducible rfl))
          try simp only [Act.put, puts]
          refine tkT 8 ?v45 ?hy45 hHeld ?rest45
          case hy45 => (intro w' hSw; (try dsimp only at hSw); go_simp; (try with_reducible rfl))
          try simp only [Act.put, puts]
          refine tkT 9 ?v46 ?hy46 hHeld ?rest46
          case hy46 => (intro w' hSw; (try dsimp only at hSw); go_simp; (try with_reducible rfl))
          try simp only [Act.put, puts]
          refine tkT 10 ?v47 ?hy47 hHeld ?rest47
          case hy47 => (intro w' hSw; (try dsimp only at hSw); go_simp; (try with_reducible rfl))
          try simp only [Act.put, puts]
          refine tkT 11 ?v48 ?hy48 hHeld ?rest48
          case hy48 => (intro w' hSw; (try dsimp only at hSw); go_simp; (try with_reducible rfl))
          try simp only [Act.put, puts]
          refine tkT 12 ?v49 ?hy49 hHeld ?rest49
          case hy49 => (intro w' hSw; (try dsimp only at hSw); go_simp; (try with_reducible rfl))
          try simp only [Act.put, puts]
          refine tkT 13 ?v50 ?hy50 hHeld ?rest50
          case hy50 => (intro w' hSw; (try dsimp only at hSw); go_simp; (try with_reducible rfl))
          try simp only [Act.put, puts]
          refine tkT 14 ?v51 ?hy51 hHeld ?rest51
          case hy51 => (intro w' hSw; (try dsimp only at hSw); go_simp; (try with_reducible rfl))
          try simp only [Act.put, puts]
          refine tkT 15 ?v52 ?hy52 hHeld ?rest52
          case hy52 => (intro w' hSw; (try dsimp only at hSw); go_simp; (try with_reducible rfl))
          try simp only [Act.put, puts]
          refine tkT 16 ?v53 ?hy53 hHeld ?rest53
          case hy53 => (intro w' hSw; (try dsimp only at hSw); go_simp; (try with_reducible rfl))
          try simp only [Act.put, puts]
          refine tkT 17 ?v54 ?hy54 hHeld ?rest54
          case hy54 => (intro w' hSw; (try dsimp only at hSw); go_simp; (try with_reducible rfl))
          try simp only [Act.put, puts]
          refine wpAnyH_ready (rs := [18]) (by kernel_rfl) (by simp) ?_
          refine AllReadyH.cons rfl (fun K hK => ?_) AllReadyH.nil
          go_simp
          refine (HCx.out _ (HSC.out.below M.drew.below)).mono ?_
          rintro e w6 ⟨rfl, hA⟩
          have M6 := M.drew.call hA
          obtain ⟨u0, hu0⟩ : ∃ u0, w6.cell? ⟨B1, k, none⟩ = some (.int .i64 u0) := ⟨_, M6.cell (.tail _ _ _ _ _ (Has.head _ _ _ _)) (i64s_at _ k (by rw [hll]; exact hkn))⟩
          have hf0 := M6.free (.tail _ _ _ _ _ (Has.head _ _ _ _)) k
          try go_wp2_with fail
          refine hK.out _ _ (gcells (M6.has (.tail _ _ _ _ _ (.tail _ _ _ _ _ (.tail _ _ _ _ _ (Has.head _ _ _ _)))))) (fun hHeld => ?_)
          clear hK K
          try simp only [Act.put, puts]
          refine tkT 19 ?v56 ?hy56 hHeld ?rest56
          case hy56 => (intro w' hSw; (try dsimp only at hSw); go_simp; (try with_reducible rfl))
          try simp only [Act.put, puts]
          refine wpAnyH_ready (rs := [20]) (by kernel_rfl) (by simp) ?_
          refine AllReadyH.cons rfl (fun K hK => ?_) AllReadyH.nil
          go_simp
          have M7 := M6.set k (.int .i64 (f1 k)) (.tail _ _ _ _ _ _ _ (Upd.head _ _ _ _ _)) (by rw [i64s_length, hll]; exact hkn)
          try go_wp2_with fail
          refine hK.out _ _ (gcells (M7.has (.tail _ _ _ _ _ (.tail _ _ _ _ _ (.tail _ _ _ _ _ (Has.head _ _ _ _)))))) (fun hHeld => ?_)
          clear hK K
          try simp only [Act.put, puts]
          refine wpAnyH_done (by kernel_rfl) ?_ _
          rw [i64s_set, HN.out] at M7
          clear c0 c1 c2 c3 c4 c5 M M6 hu0 hf0 hA
          go_wp2_with fail
          go_roundw
          case rel => exact ⟨xx + 1, by omega, by go_num, by rw [← Nat.add_assoc, ← HK.out]; exact M7⟩
          case measure => simp [intOf]; omega
        · have e : k0 + xx = (yy + 1) * x := by rw [HK1.out]; omega
          rw [e] at M
          clear e
          go_wp2_with fail
          go_roundw
          case rel => exact ⟨yy + 1, by omega, by go_num, M⟩
          case measure => simp [intOf]; omega
    · have e : yy * x = n := by rw [HYX.out]; congr 1; omega
      rw [e, lay_n, HT1.out] at M
      have M5' := M
      clear M e HM1 HV1 HL1 HN1 HT1 HS
      go_wp2_with fail
      go_loopw [67] (fun c wx => ∃ yy : Nat, yy ≤ y ∧ c = .int .i64 yy ∧ Mem w wx [(B2, 2, i64s (lay f2 (yy * x) n)), (B1, 2, i64s r), (gB, 28, gc 0 0 0 0 0 (.slice none 0 0)), (gA, 28, gc x y X Y s (.slice a n cap))]) (fun c _ => y - (intOf c).toNat)
      case atStart => exact ⟨0, Nat.zero_le _, rfl, M5'⟩
      case round =>
        clear M5' c0 c1 c2 c3 c4 c5 hyy hlt
        obtain ⟨yy, hyy, rfl, M⟩ := hrel
        obtain ⟨c0, c1, c2, c3, c4, c5⟩ := gcells (M.has (.tail _ _ _ _ _ (.tail _ _ _ _ _ (.tail _ _ _ _ _ (Has.head _ _ _ _)))))
        by_cases hlt : yy < y
        · obtain ⟨k0, hk0⟩ : ∃ k0, k0 = yy * x := ⟨_, rfl⟩
          have hk1 : (yy + 1) * x = k0 + x := by rw [hk0, Nat.succ_mul]
          have hmul : (yy : Int) * (x : Int) = (k0 : Int) := by rw [hk0]; simp
          have hfit := fun xx (h : xx < x) => HAT.out yy xx hlt h
          have HC := fun xx (h : xx < x) a' cap' wx hs => HM2.out yy xx hlt h a' cap' wx hs
          have HV := fun xx (h : xx < x) => HV2.out yy xx hlt h
          rw [← hk0] at M hfit HV
          have hk0n : k0 < n := by have := hfit 0 (by omega); omega
          have HFIT := Lib.hid hfit
          have HC := Lib.hid HC
          have HV := Lib.hid HV
          have HK0 := Lib.hid hk0
          have HK1 := Lib.hid hk1
          have hqw : IntKind.i64.wrap (k0 : Int) = (k0 : Int) := IntWalk.i64_in _ (by omega)
          clear hk0 hk1 hfit
          go_wp2_with fail
          go_loopw [72] (fun c wx => ∃ xx : Nat, xx ≤ x ∧ c = .int .i64 xx ∧ Mem w wx [(B2, 2, i64s (lay f2 (k0 + xx) n)), (B1, 2, i64s r), (gB, 28, gc 0 0 0 0 0 (.slice none 0 0)), (gA, 28, gc x y X Y s (.slice a n cap))]) (fun c _ => x - (intOf c).toNat)
          case atStart => exact ⟨0, Nat.zero_le _, rfl, M⟩
          case round =>
            clear M c0 c1 c2 c3 c4 c5
            obtain ⟨xx, hxx, rfl, M⟩ := hrel
            obtain ⟨c0, c1, c2, c3, c4, c5⟩ := gcells (M.has (.tail _ _ _ _ _ (.tail _ _ _ _ _ (.tail _ _ _ _ _ (Has.head _ _ _ _)))))
            by_cases hlt2 : xx < x
            · have hRS := (M.has (.tail _ _ _ _ _ (Has.head _ _ _ _))).sl n (by rw [i64s_length, HRL.out]) (by unfold maxLen; omega)
              obtain ⟨ac, capc, hcut, hSc, _, _⟩ := Sl.cut_off E64 hRS xx (by have := HFIT.out xx hlt2; omega) (xx : Int) rfl
              rw [i64s_drop] at hSc
              have HSC := Lib.hid hSc
              have HCx := HC.out xx hlt2 ac capc
              rw [← HK0.out, HV.out xx hlt2] at HCx
              have hkn := HFIT.out xx hlt2
              obtain ⟨k, hk⟩ : ∃ k, k = k0 + xx := ⟨_, rfl⟩
              rw [← hk] at HCx hkn M
              have hs1 : IntKind.i64.wrap ((k0 : Int) + (xx : Int)) = (k : Int) := by
                have := IntWalk.i64_in (k : Int) (by omega)
                rw [hk] at this ⊢
                simpa using this
              have hkw : IntKind.i64.wrap (k : Int) = (k : Int) := IntWalk.i64_in _ (by omega)
              have hs2 : (k0 : Int) + (xx : Int) = (k : Int) := by omega
              have HK := Lib.hid hk
              have HS2 := Lib.hid hs2
              have HCx := Lib.hid HCx
              have hN := HN2.out k hkn
              have HN := Lib.hid hN
              have hll := HL2.out k (by omega)
              clear hk hN hRS hSc
              go_wp2_with fail
              refine wp_region_held_drew (S := (fun w' : World => w'.cell? ⟨gA, 0, none⟩ = some (.int .i64 x) ∧ w'.cell? ⟨gA, 1, none⟩ = some (.int .i64 y) ∧ w'.cell? ⟨gA, 2, none⟩ = some (.int .i64 X) ∧ w'.cell? ⟨gA, 3, none⟩ = some (.int .i64 Y) ∧ w'.cell? ⟨gA, 4, none⟩ = some (.int .i64 s) ∧ w'.cell? ⟨gA, 5, none⟩ = some (.slice a n cap))) (by kernel_rfl) (⟨c0, c1, c2, c3, c4, c5⟩) (fun hHeld => ?_)
              refine tkT 0 ?v58 ?hy58 hHeld ?rest58
              case hy58 => (intro w' hSw; (try dsimp only at hSw); go_simp; (try with_reducible rfl))
              try simp only [Act.put, puts]
              refine tkT 1 ?v59 ?hy59 hHeld ?rest59
              case hy59 => (intro w' hSw; (try dsimp only at hSw); go_simp; (try with_reducible rfl))
              try simp only [Act.put, puts]
              refine tkT 2 ?v60 ?hy60 hHeld ?rest60
              case hy60 => (intro w' hSw; (try dsimp only at hSw); go_simp; (try with_reducible rfl))
              try simp only [Act.put, puts]
              refine tkT 3 ?v61 ?hy61 hHeld ?rest61
              case hy61 => (intro w' hSw; (try dsimp only at hSw); go_simp; (try with_reducible rfl))
              try simp only [Act.put, puts]
              refine tkT 4 ?v62 ?hy62 hHeld ?rest62
              case hy62 => (intro w' hSw; (try dsimp only at hSw); go_simp; (try with_reducible rfl))
              try simp only [Act.put, puts]
              refine tkT 5 ?v63 ?hy63 hHeld ?rest63
              case hy63 => (intro w' hSw; (try dsimp only at hSw); go_simp; (try with_reducible rfl))
              try simp only [Act.put, puts]
              refine tkT 6 ?v64 ?hy64 hHeld ?rest64
              case hy64 => (intro w' hSw; (try dsimp only at hSw); go_simp; (try with_reducible rfl))
              try simp only [Act.put, puts]
              refine tkT 7 ?v65 ?hy65 hHeld ?rest65
              case hy65 => (intro w' hSw; (try dsimp only at hSw); go_simp; (try with_reducible rfl))
              try simp only [Act.put, puts]
              refine tkT 8 ?v66 ?hy66 hHeld ?rest66
              case hy66 => (intro w' hSw; (try dsimp only at hSw); go_simp; (try with_reducible rfl))
              try simp only [Act.put, puts]
              refine tkT 9 ?v67 ?hy67 hHeld ?rest67
              case hy67 => (intro w' hSw; (try dsimp only at hSw); go_simp; (try with_reducible rfl))
              try simp only [Act.put, puts]
              refine tkT 10 ?v68 ?hy68 hHeld ?rest68
              case hy68 => (intro w' hSw; (try dsimp only at hSw); go_simp; (try with_reducible rfl))
              try simp only [Act.put, puts]
              refine tkT 11 ?v69 ?hy69 hHeld ?rest69
              case hy69 => (intro w' hSw; (try dsimp only at hSw); go_simp; (try with_reducible rfl))
              try simp only [Act.put, puts]
              refine tkT 12 ?v70 ?hy70 hHeld ?rest70
              case hy70 => (intro w' hSw; (try dsimp only at hSw); go_simp; (try with_reducible rfl))
              try simp only [Act.put, puts]
              refine tkT 13 ?v71 ?hy71 hHeld ?rest71
              case hy71 => (intro w' hSw; (try dsimp only at hSw); go_simp; (try with_reducible rfl))
              try simp only [Act.put, puts]
              refine tkT 14 ?v72 ?hy72 hHeld ?rest72
              case hy72 => (intro w' hSw; (try dsimp only at hSw); go_simp; (try with_reducible rfl))
              try simp only [Act.put, puts]
              refine tkT 15 ?v73 ?hy73 hHeld ?rest73
              case hy73 => (intro w' hSw; (try dsimp only at hSw); go_simp; (try with_reducible rfl))
              try simp only [Act.put, puts]
              refine wpAnyH_ready (rs := [16]) (by kernel_rfl) (by simp) ?_
              refine AllReadyH.cons rfl (fun K hK => ?_) AllReadyH.nil
              go_simp
              refine (HCx.out _ (HSC.out.below ((Below.refl _ _).drew))).mono ?_
              rintro e w6 ⟨rfl, hA⟩
              have M6 := M.drew.call hA
              obtain ⟨u0, hu0⟩ : ∃ u0, w6.cell? ⟨B2, k, none⟩ = some (.int .i64 u0) := ⟨_, M6.cell (Has.head _ _ _ _) (i64s_at _ k (by rw [hll]; exact hkn))⟩
              have hf0 := M6.free (Has.head _ _ _ _) k
              try go_wp2_with fail
              refine hK.out _ _ (gcells (M6.has (.tail _ _ _ _ _ (.tail _ _ _ _ _ (.tail _ _ _ _ _ (Has.head _ _ _ _)))))) (fun hHeld => ?_)
              clear hK K
              try simp only [Act.put, puts]
              refine tkT 17 ?v75 ?hy75 hHeld ?rest75
              case hy75 => (intro w' hSw; (try dsimp only at hSw); go_simp; (try with_reducible rfl))
              try simp only [Act.put, puts]
              refine wpAnyH_ready (rs := [18]) (by kernel_rfl) (by simp) ?_
              refine AllReadyH.cons rfl (fun K hK => ?_) AllReadyH.nil
              go_simp
              have M7 := M6.set k (.int .i64 (f2 k)) (Upd.head _ _ _ _ _) (by rw [i64s_length, hll]; exact hkn)
              try go_wp2_with fail
              refine hK.out _ _ (gcells (M7.has (.tail _ _ _ _ _ (.tail _ _ _ _ _ (.tail _ _ _ _ _ (Has.head _ _ _ _)))))) (fun hHeld => ?_)
              clear hK K
              try simp only [Act.put, puts]
              refine wpAnyH_done (by kernel_rfl) ?_ _
              rw [i64s_set, HN.out] at M7
              clear c0 c1 c2 c3 c4 c5 M M6 hu0 hf0 hA
              go_wp2_with fail
              go_roundw
              case rel => exact ⟨xx + 1, by omega, by go_num, by rw [← Nat.add_assoc, ← HK.out]; exact M7⟩
              case measure => simp [intOf]; omega
            · have e : k0 + xx = (yy + 1) * x := by rw [HK1.out]; omega
              rw [e] at M
              clear e
              go_wp2_with fail
              go_roundw
              case rel => exact ⟨yy + 1, by omega, by go_num, M⟩
              case measure => simp [intOf]; omega
        · have e : yy * x = n := by rw [HYX.out]; congr 1; omega
          rw [e, lay_n] at M
          have M3 := M
          have hl2 : (tab f2 n).length = n := tab_length _ _
          clear M e HM2 HV2 HL2 HN2
          go_wp2_with fail
          refine (CW.out _ _ _).mono ?_
          rintro e w4 ⟨rfl, hA⟩
          replace M3 := M3.call hA
          clear hA c0 c1 c2 c3 c4 c5
          go_wp2_with ((with_reducible refine (?_ : Go.wpList _ _ _ (_ :: _) _ _)); (first | go_skip | (refine wpL_stM (v := gv x y X Y s (.slice (some ⟨B2, 0, none⟩) n n)) M3 rfl rfl rfl rfl (wr_g _ _ _ _ _ _ _ _ _ _ _ _ _ _) (.tail _ _ _ _ _ _ _ (.tail _ _ _ _ _ _ _ (Upd.head _ _ _ _ _))) ?_; intro w4 M4 hT4)))
          ((try simp only [Exit.inBlock, Exit.then]); refine bodyPost_ret (res_cell_tmp rfl M4 rfl (.tail _ _ _ _ _ (.tail _ _ _ _ _ (Has.head _ _ _ _))) (rd_g _ _ _ _ _ _) rfl) rfl ?_)
          exact ⟨_, _, rfl, blk_own (M4.has (Has.head _ _ _ _)) (M4.from (Has.head _ _ _ _)) (by rw [i64s_length]; exact hl2) (by unfold maxLen; omega), M4.below⟩
end Go.Proofs.YtallbegibdlpaaaGreat
