/-
  Texts in one: GridSpec, GridA, GridB, GridC, GridD, GridE, GridF.
-/
import Derived.Test.YtanblpfpkohghaaDoorRows
import Derived.Test.YtanblpfpkohghaaDoorI64s
import Derived.Test.YtanblpfpkohghaaDoorPackBits
import Derived.Deep.Cut
import Derived.Deep.QuietTactic
import Derived.BigQuiet
import Derived.OwnWalk
import Derived.Laws.OwnMore
import Derived.Test.YtanblpfpkohghaaDoorPackWide
set_option linter.unusedVariables false
set_option linter.unusedSimpArgs false

/-
  Grids: rows made place by place, sums, parts of a whole; plain.
-/
namespace Go.Th.Grid

/-- Numbers together. -/
def sm : List Int → Int
  | [] => 0
  | x :: r => x + sm r
theorem sm_app (a b : List Int) : sm (a ++ b) = sm a + sm b := by
  induction a with
  | nil => simp [sm]
  | cons x r ih => simp only [List.cons_append, sm, ih]; omega
theorem getD_at (l : List Int) (i : Nat) (h : i < l.length) : l.getD i 0 = l[i] := by simp [List.getD, h]
theorem sm_take (l : List Int) (i : Nat) (h : i < l.length) : sm (l.take (i + 1)) = sm (l.take i) + l.getD i 0 := by
  rw [List.take_add_one, List.getElem?_eq_getElem h, sm_app, getD_at _ _ h]
  simp [sm]
theorem sm_rng {l : List Int} {M : Int} (h : ∀ x ∈ l, 0 ≤ x ∧ x ≤ M) : 0 ≤ sm l ∧ sm l ≤ M * (l.length : Int) := by
  induction l with
  | nil => simp [sm]
  | cons y r ih =>
    have h1 := ih (fun z hz => h z (by simp [hz]))
    have h2 := h y (by simp)
    rw [sm, List.length_cons]
    push_cast
    rw [Int.mul_add]
    omega
theorem sm_pos {l : List Int} (h : ∀ x ∈ l, 0 ≤ x) : 0 ≤ sm l := by
  induction l with
  | nil => simp [sm]
  | cons y r ih =>
    have h1 := ih (fun z hz => h z (by simp [hz]))
    have h2 := h y (by simp)
    rw [sm]; omega
theorem sm_ge {l : List Int} (h : ∀ x ∈ l, 0 ≤ x) : ∀ x ∈ l, x ≤ sm l := by
  induction l with
  | nil => intro x hx; cases hx
  | cons y r ih =>
    intro x hx
    have h1 := sm_pos (l := r) (fun z hz => h z (by simp [hz]))
    have h2 := h y (by simp)
    rw [sm]
    rcases List.mem_cons.1 hx with rfl | hx
    · omega
    · have := ih (fun z hz => h z (by simp [hz])) x hx
      omega
theorem sm_take_le {l : List Int} (h : ∀ x ∈ l, 0 ≤ x) (i : Nat) : 0 ≤ sm (l.take i) ∧ sm (l.take i) ≤ sm l := by
  have h1 := sm_pos (l := l.take i) (fun x hx => h x (List.mem_of_mem_take hx))
  have h2 := sm_pos (l := l.drop i) (fun x hx => h x (List.mem_of_mem_drop hx))
  have h3 := sm_app (l.take i) (l.drop i)
  rw [List.take_append_drop] at h3
  omega
theorem sm_zero (n : Nat) : sm (List.replicate n 0) = 0 := by
  induction n with
  | zero => rfl
  | succ n ih => rw [List.replicate_succ, sm, ih]; rfl

/-- A row made place by place. -/
def tab (f : Nat → Int) : Nat → List Int
  | 0 => []
  | k + 1 => tab f k ++ [f k]
theorem tab_next (f : Nat → Int) (k : Nat) : tab f (k + 1) = tab f k ++ [f k] := rfl
theorem tab_length (f : Nat → Int) : ∀ k, (tab f k).length = k
  | 0 => rfl
  | k + 1 => by rw [tab, List.length_append, tab_length f k]; rfl
theorem tab_getD (f : Nat → Int) {i : Nat} : ∀ k, i < k → (tab f k).getD i 0 = f i
  | 0, h => by omega
  | k + 1, h => by
    by_cases hi : i < k
    · have := tab_getD f k hi
      rw [tab, List.getD_eq_getElem?_getD, List.getElem?_append_left (by rw [tab_length]; exact hi), ← List.getD_eq_getElem?_getD]
      exact this
    · obtain rfl : i = k := by omega
      rw [tab, List.getD_eq_getElem?_getD, List.getElem?_append_right (by rw [tab_length]; exact Nat.le_refl _), tab_length, Nat.sub_self]
      rfl
theorem tab_congr {f g : Nat → Int} : ∀ k : Nat, (∀ i, i < k → f i = g i) → tab f k = tab g k
  | 0, _ => rfl
  | k + 1, h => by rw [tab, tab, tab_congr k (fun i hi => h i (by omega)), h k (by omega)]
theorem tab_mem {f : Nat → Int} {P : Int → Prop} : ∀ k : Nat, (∀ i, i < k → P (f i)) → ∀ x ∈ tab f k, P x
  | 0, _, x, hx => by cases hx
  | k + 1, h, x, hx => by
    rw [tab] at hx
    rcases List.mem_append.1 hx with hx | hx
    · exact tab_mem k (fun i hi => h i (by omega)) x hx
    · rw [List.mem_singleton.1 hx]; exact h k (by omega)
theorem tab_take (l : List Int) : ∀ k, k ≤ l.length → tab (fun i => l.getD i 0) k = l.take k
  | 0, _ => by simp [tab]
  | k + 1, h => by
    rw [tab, tab_take l k (by omega), List.take_add_one, List.getElem?_eq_getElem (by omega), getD_at _ _ (by omega)]
    rfl
theorem tab_self (l : List Int) : tab (fun i => l.getD i 0) l.length = l := by rw [tab_take l _ (Nat.le_refl _), List.take_length]
theorem tab_map (l : List Int) (f : Int → Int) : tab (fun i => f (l.getD i 0)) l.length = l.map f := by
  have h : ∀ k, tab (fun i => f (l.getD i 0)) k = (tab (fun i => l.getD i 0) k).map f := by
    intro k
    induction k with
    | zero => rfl
    | succ k ih => rw [tab, tab, ih, List.map_append]; rfl
  rw [h, tab_self]
theorem getD_mem {P : Int → Prop} {l : List Int} (h : ∀ x ∈ l, P x) {i : Nat} (hi : i < l.length) : P (l.getD i 0) := by
  rw [getD_at _ _ hi]; exact h _ (List.getElem_mem hi)

/-- So many places of it, noughts behind. -/
def lay (f : Nat → Int) (k n : Nat) : List Int := tab f k ++ List.replicate (n - k) 0
theorem lay_0 (f : Nat → Int) (n : Nat) : lay f 0 n = List.replicate n 0 := rfl
theorem lay_n (f : Nat → Int) (n : Nat) : lay f n n = tab f n := by unfold lay; rw [Nat.sub_self, List.replicate_zero, List.append_nil]
theorem lay_length (f : Nat → Int) (k n : Nat) (h : k ≤ n) : (lay f k n).length = n := by
  unfold lay; rw [List.length_append, tab_length, List.length_replicate]; omega
theorem lay_set (f : Nat → Int) (k n : Nat) (h : k < n) : (lay f k n).set k (f k) = lay f (k + 1) n := by
  unfold lay
  rw [List.set_append_right _ _ (by rw [tab_length]; exact Nat.le_refl _), tab_length, Nat.sub_self, show n - k = (n - (k + 1)) + 1 by omega, List.replicate_succ, tab, List.append_assoc]
  rfl

/-! ### Sums by places -/
def su (f : Nat → Int) : Nat → Int
  | 0 => 0
  | k + 1 => su f k + f k
theorem sm_tab (f : Nat → Int) : ∀ k, sm (tab f k) = su f k
  | 0 => rfl
  | k + 1 => by rw [tab, sm_app, sm_tab f k, su]; simp [sm]
theorem sm_su (l : List Int) : sm l = su (fun i => l.getD i 0) l.length := by rw [← sm_tab, tab_self]
theorem su_congr {f g : Nat → Int} : ∀ k : Nat, (∀ i, i < k → f i = g i) → su f k = su g k
  | 0, _ => rfl
  | k + 1, h => by rw [su, su, su_congr k (fun i hi => h i (by omega)), h k (by omega)]
theorem su_zero : ∀ k : Nat, su (fun _ => 0) k = 0
  | 0 => rfl
  | k + 1 => by rw [su, su_zero k]; rfl
theorem su_add (f g : Nat → Int) : ∀ k : Nat, su (fun i => f i + g i) k = su f k + su g k
  | 0 => rfl
  | k + 1 => by rw [su, su, su, su_add f g k]; omega
theorem su_mul (c : Int) (f : Nat → Int) : ∀ k : Nat, su (fun i => c * f i) k = c * su f k
  | 0 => by simp [su]
  | k + 1 => by rw [su, su, su_mul c f k, Int.mul_add]
theorem su_swap (g : Nat → Nat → Int) (m : Nat) : ∀ k : Nat, su (fun j => su (fun i => g i j) m) k = su (fun i => su (fun j => g i j) k) m
  | 0 => by rw [show su (fun i => su (fun j => g i j) 0) m = su (fun _ => 0) m from rfl, su_zero]; rfl
  | k + 1 => by
    rw [su, su_swap g m k]
    rw [show su (fun i => su (fun j => g i j) (k + 1)) m = su (fun i => su (fun j => g i j) k + g i k) m from rfl, su_add]
theorem su_le {f g : Nat → Int} : ∀ k : Nat, (∀ i, i < k → f i ≤ g i) → su f k ≤ su g k
  | 0, _ => Int.le_refl _
  | k + 1, h => by
    have h1 := su_le k (fun i hi => h i (by omega))
    have h2 := h k (by omega)
    rw [su, su]; omega
theorem su_const (c : Int) : ∀ k : Nat, su (fun _ => c) k = c * (k : Int)
  | 0 => by simp [su]
  | k + 1 => by rw [su, su_const c k]; push_cast; rw [Int.mul_add]; omega
theorem su_len (f : Nat → Int) (a : Nat) : ∀ b : Nat, su f (a + b) = su f a + su (fun i => f (a + i)) b
  | 0 => by simp [su]
  | b + 1 => by rw [← Nat.add_assoc, su, su_len f a b, su]; omega
/-- Row by row. -/
theorem su_rows (f : Nat → Int) (w : Nat) : ∀ h : Nat, su f (h * w) = su (fun y => su (fun x => f (y * w + x)) w) h
  | 0 => by rw [Nat.zero_mul]; rfl
  | h + 1 => by rw [Nat.succ_mul, su_len, su_rows f w h, su]
/-- Each place is ahead of one, and behind one, or at an end. -/
theorem su_nb (g : Nat → Int) (n : Nat) : su (fun i => g (i - 1) + g (min (i + 1) (n - 1))) n = 2 * su g n := by
  cases n with
  | zero => rfl
  | succ m =>
    rw [su_add]
    have h1 : ∀ k, su (fun i => g (i - 1)) (k + 1) = g 0 + su g k := by
      intro k
      induction k with
      | zero => simp [su]
      | succ k ih => rw [su, ih, su]; simp; omega
    have h2 : su (fun i => g (min (i + 1) (m + 1 - 1))) (m + 1) = su (fun i => g (i + 1)) m + g m := by
      rw [su, Nat.add_sub_cancel, Nat.min_eq_right (by omega : m ≤ m + 1)]
      congr 1
      refine su_congr m (fun i hi => ?_)
      rw [Nat.min_eq_left (by omega)]
    have h3 : ∀ k, su g (k + 1) = g 0 + su (fun i => g (i + 1)) k := by
      intro k
      induction k with
      | zero => simp [su]
      | succ k ih => rw [su, ih, su]; omega
    have h4 : su g (m + 1) = su g m + g m := rfl
    have h5 := h3 m
    rw [h1 m, h2]
    omega

/-! ### Columns and rows -/
theorem div_at {w x : Nat} (y : Nat) (hx : x < w) : (y * w + x) / w = y := by
  rw [Nat.mul_comm, Nat.mul_add_div (by omega), Nat.div_eq_of_lt hx, Nat.add_zero]
theorem mod_at {w x : Nat} (y : Nat) (hx : x < w) : (y * w + x) % w = x := by
  rw [Nat.mul_comm, Nat.mul_add_mod, Nat.mod_eq_of_lt hx]
theorem at_lt {w h x y : Nat} (hx : x < w) (hy : y < h) : y * w + x < h * w := by
  have := Nat.mul_le_mul_right w (Nat.succ_le_of_lt hy)
  rw [Nat.succ_mul] at this
  omega
theorem row_lt {w h k : Nat} (hk : k < h * w) : k / w < h := Nat.div_lt_of_lt_mul (by rw [Nat.mul_comm]; exact hk)
theorem col_lt {w h k : Nat} (hk : k < h * w) : k % w < w := Nat.mod_lt _ (by
  rcases Nat.eq_zero_or_pos w with h0 | h0
  · subst h0; simp at hk
  · exact h0)

/-! ### Spread -/
def mix (q a b c : Int) : Int := (q * a + (256 - 2 * q) * b + q * c) / 256
theorem mix_sum {q a b c M : Int} (hq : 0 ≤ q ∧ q ≤ 85) (ha : 0 ≤ a ∧ a ≤ M) (hb : 0 ≤ b ∧ b ≤ M) (hc : 0 ≤ c ∧ c ≤ M) :
    0 ≤ q * a ∧ q * a ≤ q * M ∧ 0 ≤ (256 - 2 * q) * b ∧ (256 - 2 * q) * b ≤ 256 * M - 2 * (q * M) ∧ 0 ≤ q * c ∧ q * c ≤ q * M ∧ 0 ≤ q * M ∧ q * M ≤ 85 * M := by
  have h1 := Int.mul_nonneg hq.1 ha.1
  have h2 := Int.mul_nonneg hq.1 hc.1
  have h3 := Int.mul_nonneg (by omega : 0 ≤ 256 - 2 * q) hb.1
  have h4 := Int.mul_le_mul_of_nonneg_left ha.2 hq.1
  have h5 := Int.mul_le_mul_of_nonneg_left hc.2 hq.1
  have h6 := Int.mul_le_mul_of_nonneg_left hb.2 (by omega : 0 ≤ 256 - 2 * q)
  have h7 : (256 - 2 * q) * M = 256 * M - 2 * (q * M) := by rw [Int.sub_mul, Int.mul_assoc]
  have h8 := Int.mul_le_mul_of_nonneg_right hq.2 (by omega : 0 ≤ M)
  have h9 := Int.mul_nonneg hq.1 (by omega : 0 ≤ M)
  omega
theorem mix_rng {q a b c M : Int} (hq : 0 ≤ q ∧ q ≤ 85) (ha : 0 ≤ a ∧ a ≤ M) (hb : 0 ≤ b ∧ b ≤ M) (hc : 0 ≤ c ∧ c ≤ M) : 0 ≤ mix q a b c ∧ mix q a b c ≤ M := by
  have h := mix_sum hq ha hb hc
  unfold mix
  omega

def mixAt (p : List Int) (w h : Nat) (q : Int) (dx dy k : Nat) : Int :=
  mix q (p.getD ((k / w - dy) * w + (k % w - dx)) 0) (p.getD k 0) (p.getD (min (k / w + dy) (h - 1) * w + min (k % w + dx) (w - 1)) 0)
def pass (p : List Int) (w h : Nat) (q : Int) (dx dy : Nat) : List Int := tab (mixAt p w h q dx dy) (h * w)
def spread (p : List Int) (w h : Nat) (q : Int) : List Int := pass (pass p w h q 1 0) w h q 0 1
theorem pass_length (p : List Int) (w h : Nat) (q : Int) (dx dy : Nat) : (pass p w h q dx dy).length = h * w := tab_length _ _
theorem spread_length (p : List Int) (w h : Nat) (q : Int) : (spread p w h q).length = h * w := tab_length _ _
theorem pass_rng {p : List Int} {w h : Nat} {q M : Int} (dx dy : Nat) (hq : 0 ≤ q ∧ q ≤ 85) (hl : p.length = h * w) (hp : ∀ x ∈ p, 0 ≤ x ∧ x ≤ M) : ∀ x ∈ pass p w h q dx dy, 0 ≤ x ∧ x ≤ M := by
  refine tab_mem _ (fun k hk => ?_)
  have h1 := row_lt hk
  have h2 := col_lt hk
  have e1 : (k / w - dy) * w + (k % w - dx) < h * w := at_lt (Nat.lt_of_le_of_lt (Nat.sub_le _ _) h2) (Nat.lt_of_le_of_lt (Nat.sub_le _ _) h1)
  have e2 : min (k / w + dy) (h - 1) * w + min (k % w + dx) (w - 1) < h * w := at_lt (Nat.lt_of_le_of_lt (Nat.min_le_right _ _) (Nat.sub_lt (Nat.lt_of_le_of_lt (Nat.zero_le _) h2) Nat.zero_lt_one)) (Nat.lt_of_le_of_lt (Nat.min_le_right _ _) (Nat.sub_lt (Nat.lt_of_le_of_lt (Nat.zero_le _) h1) Nat.zero_lt_one))
  rw [← hl] at hk e1 e2
  exact mix_rng hq (getD_mem hp e1) (getD_mem hp hk) (getD_mem hp e2)
theorem spread_rng {p : List Int} {w h : Nat} {q M : Int} (hq : 0 ≤ q ∧ q ≤ 85) (hl : p.length = h * w) (hp : ∀ x ∈ p, 0 ≤ x ∧ x ≤ M) : ∀ x ∈ spread p w h q, 0 ≤ x ∧ x ≤ M :=
  pass_rng 0 1 hq (pass_length ..) (pass_rng 1 0 hq hl hp)

theorem nb_sum (p : List Int) (w h dx dy : Nat) (hd : (dx = 1 ∧ dy = 0) ∨ (dx = 0 ∧ dy = 1)) :
    su (fun k => p.getD ((k / w - dy) * w + (k % w - dx)) 0 + p.getD (min (k / w + dy) (h - 1) * w + min (k % w + dx) (w - 1)) 0) (h * w) = 2 * su (fun k => p.getD k 0) (h * w) := by
  rw [su_rows, su_rows]
  rcases hd with ⟨rfl, rfl⟩ | ⟨rfl, rfl⟩
  · rw [← su_mul]
    refine su_congr h (fun y hy => ?_)
    rw [← su_nb (fun x => p.getD (y * w + x) 0) w]
    refine su_congr w (fun x hx => ?_)
    rw [div_at y hx, mod_at y hx, Nat.sub_zero, Nat.add_zero, Nat.min_eq_left (by omega : y ≤ h - 1)]
  · rw [su_swap (fun x y => p.getD (((y * w + x) / w - 1) * w + ((y * w + x) % w - 0)) 0 + p.getD (min ((y * w + x) / w + 1) (h - 1) * w + min ((y * w + x) % w + 0) (w - 1)) 0) w h, su_swap (fun x y => p.getD (y * w + x) 0) w h, ← su_mul]
    refine su_congr w (fun x hx => ?_)
    rw [← su_nb (fun y => p.getD (y * w + x) 0) h]
    refine su_congr h (fun y hy => ?_)
    rw [div_at y hx, mod_at y hx, Nat.sub_zero, Nat.add_zero x, Nat.min_eq_left (by omega : x ≤ w - 1)]
theorem pass_sum {p : List Int} {w h : Nat} {q : Int} (dx dy : Nat) (hd : (dx = 1 ∧ dy = 0) ∨ (dx = 0 ∧ dy = 1)) (hl : p.length = h * w) :
    sm (pass p w h q dx dy) ≤ sm p ∧ sm p - sm (pass p w h q dx dy) ≤ ((h * w : Nat) : Int) := by
  unfold pass
  rw [sm_tab, sm_su p, hl]
  obtain ⟨n, hn⟩ : ∃ n, n = h * w := ⟨_, rfl⟩
  have hs := nb_sum p w h dx dy hd
  rw [← hn] at hs ⊢
  obtain ⟨A, hA⟩ : ∃ A : Nat → Int, A = fun k => p.getD ((k / w - dy) * w + (k % w - dx)) 0 := ⟨_, rfl⟩
  obtain ⟨B, hB⟩ : ∃ B : Nat → Int, B = fun k => p.getD k 0 := ⟨_, rfl⟩
  obtain ⟨C, hC⟩ : ∃ C : Nat → Int, C = fun k => p.getD (min (k / w + dy) (h - 1) * w + min (k % w + dx) (w - 1)) 0 := ⟨_, rfl⟩
  have e1 : mixAt p w h q dx dy = fun k => mix q (A k) (B k) (C k) := by rw [hA, hB, hC]; rfl
  have e2 : su (fun k => A k + C k) n = 2 * su B n := by rw [hA, hB, hC]; exact hs
  rw [show (fun i => p.getD i 0) = B from hB.symm, e1]
  have e3 : su (fun k => q * (A k + C k) + (256 - 2 * q) * B k) n = 256 * su B n := by
    rw [su_add, su_mul, su_mul, e2, Int.sub_mul, Int.mul_assoc, ← Int.mul_assoc q 2, Int.mul_comm q 2, Int.mul_assoc]
    omega
  have e4 : ∀ k, q * (A k + C k) + (256 - 2 * q) * B k = q * A k + (256 - 2 * q) * B k + q * C k := by
    intro k; rw [Int.mul_add]; omega
  have h1 : su (fun k => 256 * mix q (A k) (B k) (C k)) n ≤ 256 * su B n := by
    rw [← e3]
    refine su_le n (fun k _ => ?_)
    rw [e4]; unfold mix; omega
  have h2 : 256 * su B n ≤ su (fun k => 256 * mix q (A k) (B k) (C k) + 256) n := by
    rw [← e3]
    refine su_le n (fun k _ => ?_)
    rw [e4]; unfold mix; omega
  rw [su_mul] at h1
  rw [su_add, su_mul, su_const] at h2
  omega
theorem spread_sum {p : List Int} {w h : Nat} {q : Int} (hl : p.length = h * w) : 0 ≤ sm p - sm (spread p w h q) ∧ sm p - sm (spread p w h q) ≤ 2 * ((h * w : Nat) : Int) := by
  have h1 := pass_sum (q := q) 1 0 (.inl ⟨rfl, rfl⟩) hl
  have h2 := pass_sum (p := pass p w h q 1 0) (q := q) 0 1 (.inr ⟨rfl, rfl⟩) (pass_length ..)
  unfold spread
  omega

/-! ### Parts of the whole -/
def share (s x : Int) : Int := x * 1073741824 / s
theorem share_rng {s x : Int} (hs : 0 < s) (h : 0 ≤ x ∧ x ≤ s) : 0 ≤ share s x ∧ share s x ≤ 1073741824 := by
  unfold share
  refine ⟨Int.ediv_nonneg (by omega) (by omega), ?_⟩
  refine Int.ediv_le_of_le_mul hs ?_
  have := Int.mul_le_mul_of_nonneg_right h.2 (by omega : (0 : Int) ≤ 1073741824)
  rw [Int.mul_comm 1073741824]
  exact this
theorem share_sum {s : Int} (hs : 0 < s) (p : List Int) : s * sm (p.map (share s)) ≤ 1073741824 * sm p ∧ 1073741824 * sm p ≤ s * sm (p.map (share s)) + s * (p.length : Int) := by
  induction p with
  | nil => simp [sm]
  | cons x r ih =>
    rw [List.map_cons, sm, sm, List.length_cons]
    push_cast
    rw [Int.mul_add, Int.mul_add, Int.mul_add]
    have h1 := Int.mul_ediv_add_emod (x * 1073741824) s
    have h2 := Int.emod_nonneg (x * 1073741824) (by omega : s ≠ 0)
    have h3 := Int.emod_lt_of_pos (x * 1073741824) hs
    unfold share
    unfold share at ih
    omega
theorem shares_sum {p : List Int} (hs : 0 < sm p) : 1073741824 - (p.length : Int) ≤ sm (p.map (share (sm p))) ∧ sm (p.map (share (sm p))) ≤ 1073741824 := by
  obtain ⟨h1, h2⟩ := share_sum hs p
  have e : 1073741824 * sm p = sm p * 1073741824 := Int.mul_comm _ _
  rw [e] at h1 h2
  rw [← Int.mul_add] at h2
  have a := Int.le_of_mul_le_mul_left h1 hs
  have b := Int.le_of_mul_le_mul_left h2 hs
  omega
def norm (p : List Int) : List Int := if sm p = 0 then p else p.map (share (sm p))
def normC (p : List Int) : Int := if sm p = 0 then 7 else 0
theorem norm_length (p : List Int) : (norm p).length = p.length := by unfold norm; split <;> simp
theorem norm_rng {p : List Int} (hp : ∀ x ∈ p, 0 ≤ x) : ∀ x ∈ norm p, 0 ≤ x ∧ (0 < sm p → x ≤ 1073741824) := by
  intro x hx
  unfold norm at hx
  by_cases h : sm p = 0
  · rw [if_pos h] at hx
    exact ⟨hp x hx, fun h' => by omega⟩
  · rw [if_neg h] at hx
    obtain ⟨y, hy, rfl⟩ := List.mem_map.1 hx
    have h1 := sm_pos hp
    have h2 := share_rng (by omega : 0 < sm p) ⟨hp y hy, sm_ge hp y hy⟩
    exact ⟨h2.1, fun _ => h2.2⟩

/-! ### Checked -/
def sidesG (W H S : Int) : Bool := decide ((1 ≤ W ∧ W ≤ 64) ∧ (1 ≤ H ∧ H ≤ 64) ∧ 16 ≤ S ∧ S ≤ 4096)
def allIn (l : List Int) (m : Int) : Bool := l.all fun x => decide (0 ≤ x ∧ x ≤ m)
def chk (W H S : Int) (p : List Int) : Int :=
  if sidesG W H S = false then 2 else if (p.length : Int) ≠ W * H then 5 else if allIn p 1073741824 = false then 1 else if 1073741824 - (p.length : Int) ≤ sm p ∧ sm p ≤ 1073741824 then 0 else 11
theorem sidesG_iff {W H S : Int} : sidesG W H S = true ↔ (1 ≤ W ∧ W ≤ 64) ∧ (1 ≤ H ∧ H ≤ 64) ∧ 16 ≤ S ∧ S ≤ 4096 := by unfold sidesG; rw [decide_eq_true_eq]
theorem allIn_iff {l : List Int} {m : Int} : allIn l m = true ↔ ∀ x ∈ l, 0 ≤ x ∧ x ≤ m := by unfold allIn; simp
theorem chk_ok {W H S : Int} {p : List Int} (h : chk W H S p = 0) : sidesG W H S = true ∧ (p.length : Int) = W * H ∧ (∀ x ∈ p, 0 ≤ x ∧ x ≤ 1073741824) ∧ 1073741824 - (p.length : Int) ≤ sm p ∧ sm p ≤ 1073741824 := by
  unfold chk at h
  by_cases h1 : sidesG W H S = false
  · rw [if_pos h1] at h; omega
  · rw [if_neg h1] at h
    by_cases h2 : (p.length : Int) ≠ W * H
    · rw [if_pos h2] at h; omega
    · rw [if_neg h2] at h
      by_cases h3 : allIn p 1073741824 = false
      · rw [if_pos h3] at h; omega
      · rw [if_neg h3] at h
        by_cases h4 : 1073741824 - (p.length : Int) ≤ sm p ∧ sm p ≤ 1073741824
        · exact ⟨by simpa using h1, by simpa using h2, allIn_iff.1 (by simpa using h3), h4⟩
        · rw [if_neg h4] at h; omega
theorem chk_of {W H S : Int} {p : List Int} (h1 : sidesG W H S = true) (h2 : (p.length : Int) = W * H) (h3 : ∀ x ∈ p, 0 ≤ x ∧ x ≤ 1073741824) (h4 : 1073741824 - (p.length : Int) ≤ sm p ∧ sm p ≤ 1073741824) : chk W H S p = 0 := by
  unfold chk
  rw [if_neg (by rw [h1]; simp), if_neg (by simpa using h2), if_neg (by rw [allIn_iff.2 h3]; simp), if_pos h4]
theorem chk_norm {W H S : Int} {p : List Int} (h1 : sidesG W H S = true) (h2 : (p.length : Int) = W * H) (h3 : ∀ x ∈ p, 0 ≤ x) (h4 : sm p ≠ 0) : chk W H S (norm p) = 0 := by
  have h5 := sm_pos h3
  refine chk_of h1 (by rw [norm_length]; exact h2) (fun x hx => ?_) ?_
  · have := norm_rng h3 x hx
    exact ⟨this.1, this.2 (by omega)⟩
  · rw [norm_length]
    unfold norm
    rw [if_neg h4]
    exact shares_sum (by omega)

/-! ### Even -/
def even (n : Nat) : List Int := tab (fun _ => 1073741824 / (n : Int)) n
theorem chk_even {x y n : Nat} {S : Int} (h1 : sidesG x y S = true) (hn : n = x * y) : chk x y S (even n) = 0 := by
  obtain ⟨a, b, c⟩ := sidesG_iff.1 h1
  have hle : x * y ≤ 64 * 64 := Nat.mul_le_mul (by omega) (by omega)
  have hpos : 0 < x * y := Nat.mul_pos (by omega) (by omega)
  rw [← hn] at hle hpos
  have e1 := Int.mul_ediv_add_emod 1073741824 (n : Int)
  have e2 := Int.emod_nonneg 1073741824 (by omega : (n : Int) ≠ 0)
  have e3 := Int.emod_lt_of_pos 1073741824 (by omega : (0 : Int) < (n : Int))
  have e4 : 0 ≤ 1073741824 / (n : Int) := Int.ediv_nonneg (by omega) (by omega)
  have e5 : 1073741824 / (n : Int) ≤ 1073741824 := Int.ediv_le_self _ (by omega)
  refine chk_of h1 (by unfold even; rw [tab_length, hn]; simp) (tab_mem _ (fun _ _ => ⟨e4, e5⟩)) ?_
  unfold even
  rw [tab_length, sm_tab, su_const, Int.mul_comm]
  omega
end Go.Th.Grid

/-
  Grids as values; rows of numbers; whether numbers lie within bounds; numbers together: the code's.
-/
namespace Go.Th.Grid
open Go Go.RowKit Go.Th

/-- A slice of noughts is made. -/
theorem gmk {P : Program} {w : World} {ops : Array Oper} {rest : List Oper} {o : Oper} {a : Act} {Q : Exit → Act → World → Prop} {t e : TypeId} {z : Value} {bytes : Nat}
    (hU : P.underlying t = some (.slice e)) (hI : (P.info? e).map (fun i => (i.zero, i.size, i.bytes)) = some (some z, 1, bytes)) (hz : z.cells = #[z])
    (hg : o.guard = none) (l c : Operand) (hop : o.op = Op.makeSlice t l c) (base n : Nat) (kl kc : IntKind) (hl : a.eval l = .int kl (n : Int)) (hc : a.eval c = .int kc (n : Int))
    (b2 : bytes * n ≤ 281474976710656) (b3 : n ≤ maxLen) (b4 : base ≤ w.heap.size)
    (hK : ∀ w', w'.ownsRow base e 1 (.slice (some ⟨w.heap.size, 0, none⟩) n n) n (List.replicate n z) → w.grownBy w' none → wpList P ops Q rest (a.put o.dst (.slice (some ⟨w.heap.size, 0, none⟩) n n)) w') : wpList P ops Q (o :: rest) a w := by
  obtain ⟨i, hi, h1, h2, h3⟩ := info_parts hI
  refine wpList_make_full w hg l c t hop base e i z 1 hU hi h1 h2 kl kc n n n hl hc rfl rfl (by rw [h3]; exact b2) b3 b4 fun w' h hg => ?_
  rw [hz, Nat.mul_one, toList_madeCells_one] at h
  exact hK w' h hg
theorem ggrown {w w' : World} (h : w.grownBy w' none) : Below w.heap.size w w' := (Below.refl _ _).grown h (Nat.le_refl _) (fun j hj => by cases hj)
/-- A struct that is handed back out of its block, alone, and beside a code. -/
theorem gres_blk {P : Program} {fn : Func} {p : Tmp} {ty : TypeId} (h : fn.results = #[.cell p ty]) {tmps : Array Value} {w : World} {g : Nat} {t : TypeId} {cs : List Value} {d : TypeDesc}
    (hp : tmps.getD p undef = .pointer (some ⟨g, 0, none⟩)) (K : Blk w g t cs) (hu : P.underlying ty = some d) (hd : (match d with | .struct _ | .array _ _ => true | _ => false) = true) (hi : (P.info? ty).map (·.size) = some cs.length) :
    (results fn tmps).run P w = .ok (.agg cs.toArray) w :=
  results_cell_row h tmps w g t cs.toArray (0, 0) d hp K hu hd (by simpa using hi)
end Go.Th.Grid
namespace Go.Proofs.YtanblpfpkohghaaDoor
open Go Go.RowKit Go.Th Go.Th.Grid

/-- The world is as it was. -/
abbrev PureG (f : Nat) (args : Array Value) (v : Value) : Prop := ∀ w : World, Calls Tryd.prog f args w fun e w' => e = .returned v ∧ w = w'
theorem PureG.ans {f : Nat} {args : Array Value} {v : Value} (h : PureG f args v) : Ans f args v := fun w => (h w).mono fun e w' ⟨a, b⟩ => ⟨a, by subst b; exact Below.refl _ _⟩

/-- A grid as a value. -/
abbrev gv (W H X Y S : Int) (v : Value) : Value := .agg #[.int .i64 W, .int .i64 H, .int .i64 X, .int .i64 Y, .int .i64 S, v]
abbrev gc (W H X Y S : Int) (v : Value) : List Value := [.int .i64 W, .int .i64 H, .int .i64 X, .int .i64 Y, .int .i64 S, v]

theorem E64 : ElemOf Tryd.prog 26 2 1 8 := ElemOf.mk' Tryd.underlying26 (z := .int .i64 0) (by kernel_rfl) rfl (by decide)
theorem i64s_length (l : List Int) : (i64s l).length = l.length := by simp [i64s]
theorem i64s_snoc (l : List Int) (z : Int) : i64s (l ++ [z]) = i64s l ++ [.int .i64 z] := by simp [i64s]
theorem i64s_set (l : List Int) (i : Nat) (z : Int) : (i64s l).set i (.int .i64 z) = i64s (l.set i z) := by simp [i64s, List.map_set]
theorem i64s_rep (n : Nat) : List.replicate n (Value.int .i64 0) = i64s (List.replicate n 0) := by simp [i64s]
theorem oneCell_i64s (l : List Int) : ∀ u ∈ i64s l, u.oneCell' = true := by
  intro u hu
  simp only [i64s, List.mem_map] at hu
  obtain ⟨_, _, rfl⟩ := hu
  rfl
theorem cell64 {W : World} {a : Option Addr} {n cap : Nat} {l : List Int} (hS : Sl W 1 (.slice a n cap) n (i64s l)) (k : Nat) (hk : k < l.length) :
    ∃ b o, a = some ⟨b, o, none⟩ ∧ b < W.heap.size ∧ W.cell? ⟨b, o + k, none⟩ = some (.int .i64 (l.getD k 0)) := by
  obtain ⟨a', c', he, _, _, _, _, h5⟩ := hS
  cases he
  obtain ⟨b, o, ea, hc⟩ := h5 k _ (i64s_at l k hk)
  rw [← getD_at l k hk] at hc
  exact ⟨b, o, ea, World.block_lt_of_cell? W _ hc, hc⟩
/-- A cell of a row of the call's own. -/
theorem own64 {w : World} {base g n cap : Nat} {l : List Int} (h : w.ownsRow base 2 1 (.slice (some ⟨g, 0, none⟩) n cap) n (i64s l)) (k : Nat) (hk : k < l.length) : w.cell? ⟨g, k, none⟩ = some (.int .i64 (l.getD k 0)) := by
  have := ownsRow_cell h (i64s_at l k hk)
  rwa [← getD_at l k hk] at this

/-! ### Within bounds -/
def inR (x a b : Int) : Bool := decide (a ≤ x ∧ x ≤ b)
theorem inR_t {x a b : Int} (h : inR x a b = true) : a ≤ x ∧ x ≤ b := by unfold inR at h; exact of_decide_eq_true h
theorem inR_of {x a b : Int} (h : a ≤ x ∧ x ≤ b) : inR x a b = true := by unfold inR; exact decide_eq_true h
theorem inR_no {x a b : Int} (h : ¬ (a ≤ x ∧ x ≤ b)) : inR x a b = false := by unfold inR; exact decide_eq_false h

def sdG (W H : Int) : Bool := inR W 1 64 && inR H 1 64
theorem sdG_t {W H : Int} (h : sdG W H = true) : (1 ≤ W ∧ W ≤ 64) ∧ 1 ≤ H ∧ H ≤ 64 := by
  unfold sdG at h
  rw [Bool.and_eq_true] at h
  exact ⟨inR_t h.1, inR_t h.2⟩
theorem sdG_of {W H : Int} (h : (1 ≤ W ∧ W ≤ 64) ∧ 1 ≤ H ∧ H ≤ 64) : sdG W H = true := by unfold sdG; rw [inR_of h.1, inR_of h.2]; rfl
theorem sidesG_is (W H S : Int) : sidesG W H S = (sdG W H && inR S 16 4096) := by
  unfold sidesG sdG inR
  rw [← Bool.decide_and, ← Bool.decide_and, decide_eq_decide]
  constructor
  · rintro ⟨a, b, c⟩; exact ⟨⟨a, b⟩, c⟩
  · rintro ⟨⟨a, b⟩, c⟩; exact ⟨a, b, c⟩
/-! ### Numbers together -/
set_option maxRecDepth 20000 in
theorem refSumG_any (a : Option Addr) (n cap : Nat) (p : List Int) (hp : p.length = n) (hb : ∀ i, -9223372036854775808 ≤ sm (p.take i) ∧ sm (p.take i) ≤ 9223372036854775807) (w : World) (hS : Sl w 1 (.slice a n cap) n (i64s p)) :
    Calls Tryd.prog 25 #[.slice a n cap] w fun e w' => e = .returned (.int .i64 (sm p)) ∧ w = w' := by
  have hst := fun i (hi : i < n) => sm_take p i (by omega)
  have hall : sm (p.take n) = sm p := by rw [List.take_of_length_le (by omega)]
  have HB := Lib.hid hb
  have HST := Lib.hid hst
  have HALL := Lib.hid hall
  have HP := Lib.hid hp
  have HS := Lib.hid hS
  have hmx := hS.max
  clear hb hst hall hp hS
  go_enter Tryd.func25, Tryd.ntmps25
  go_wp2_with fail
  go_loopw [3, 4] (fun v c wx => ∃ i : Nat, i ≤ n ∧ c = .int .i64 i ∧ v = .int .i64 (sm (p.take i)) ∧ wx = w) (fun _ c _ => n - (intOf c).toNat)
  case atStart => exact ⟨0, Nat.zero_le _, rfl, rfl, rfl⟩
  case round =>
    obtain ⟨i, hi, rfl, rfl, rfl⟩ := hrel
    by_cases hlt : i < n
    · obtain ⟨b, o, rfl, _, hc⟩ := cell64 HS.out i (by rw [HP.out]; exact hlt)
      have h1 := HB.out i
      have h2 := HB.out (i + 1)
      have h3 := HST.out i hlt
      rw [h3] at h2
      obtain ⟨u, hu⟩ : ∃ u, u = p.getD i 0 := ⟨_, rfl⟩
      obtain ⟨s, hs⟩ : ∃ s, s = sm (p.take i) := ⟨_, rfl⟩
      rw [← hu, ← hs] at h2 h3
      rw [← hu] at hc
      rw [← hs] at h1 ⊢
      have H3 := Lib.hid h3
      clear hu hs h3
      go_wp2_with fail
      go_roundw
      case rel => exact ⟨i + 1, by omega, by go_num, by rw [H3.out], by first | rfl | trivial⟩
      case measure => simp [intOf]; omega
    · obtain rfl : i = n := by omega
      rw [HALL.out]
      go_wp2_with fail
      go_ret
      exact ⟨rfl, rfl⟩
/-- Of a row with no number below 0 all are no less than some. -/
theorem sm_fits {p : List Int} (h : ∀ x ∈ p, 0 ≤ x) (hs : sm p ≤ 9223372036854775807) : ∀ i, -9223372036854775808 ≤ sm (p.take i) ∧ sm (p.take i) ≤ 9223372036854775807 := fun i => by
  have := sm_take_le h i
  omega

/-! ### All within bounds -/
end Go.Proofs.YtanblpfpkohghaaDoor

/-
  How many places a grid has, and what all are together; what is wrong with it; one that lies where another one does; a copy: the code's.
-/
namespace Go.Proofs.YtanblpfpkohghaaDoor
open Go Go.RowKit Go.Th Go.Th.Grid

/-- A grid that lies in a variable reads so. -/
theorem gcells {w : World} {gA : Nat} {x y X Y s : Int} {v : Value} (K : Blk w gA 28 (gc x y X Y s v)) :
    w.cell? ⟨gA, 0, none⟩ = some (.int .i64 x) ∧ w.cell? ⟨gA, 1, none⟩ = some (.int .i64 y) ∧ w.cell? ⟨gA, 2, none⟩ = some (.int .i64 X) ∧ w.cell? ⟨gA, 3, none⟩ = some (.int .i64 Y) ∧ w.cell? ⟨gA, 4, none⟩ = some (.int .i64 s) ∧ w.cell? ⟨gA, 5, none⟩ = some v :=
  ⟨K.cell (i := 0) rfl, K.cell (i := 1) rfl, K.cell (i := 2) rfl, K.cell (i := 3) rfl, K.cell (i := 4) rfl, K.cell (i := 5) rfl⟩

/-! ### What is wrong with a grid -/
def shp (x y : Int) (n : Nat) : Int := if sdG x y = false then 2 else if (n : Int) ≠ x * y then 5 else 0
theorem shp_ok {x y n : Nat} (h : sdG x y = true) (hn : n = x * y) : shp x y n = 0 := by
  unfold shp; rw [if_neg (by rw [h]; simp), if_neg (by rw [hn]; simp)]
/-! ### With other numbers; a copy -/
end Go.Proofs.YtanblpfpkohghaaDoor

/-
  Stores whose world is told; what is wrong with a grid; a copy; parts of the whole: the code's.
-/
namespace Go.Th.Grid
open Go Go.RowKit Go.Th
section
variable {P : Program} {ops : Array Oper} {rest : List Oper} {o : Oper} {a : Act} {w w0 : World} {Q : Exit → Act → World → Prop} {K : Act → World → Prop} {bs bs' : List (Nat × TypeId × List Value)}
  {g off : Nat} {t ty : TypeId} {cs cs' : List Value} {v : Value} {x y : Operand}
theorem turned_row (w : World) (g : Nat) (ds : Array Value) : Turned (fun k => k = g) w (w.setRow g ds) := ⟨rfl, rfl, rfl, by simp [World.setRow], fun j hj hs => setRow_other w g j _ hs⟩
theorem turned_cell (w : World) (g i : Nat) (u : Value) : Turned (fun k => k = g) w (w.setCell ⟨g, i, none⟩ u) := (Turned.refl (fun k => k = g) w).setCell (a := ⟨g, i, none⟩) (.inl rfl) u
theorem wp_stM (M : Mem w0 w bs) (ho : o.op = .store ty x y) (hx : a.eval x = .pointer (some ⟨g, off, none⟩)) (hy : a.eval y = v) (hr : Wr P ty off cs v cs') (hu : Upd bs g t cs cs' bs')
    (h : ∀ w', Mem w0 w' bs' → Turned (fun k => k = g) w w' → K (a.put o.dst undef) w') : o.wp P a w K Q := by
  unfold Oper.wp execOp
  simp only [ho, hx, hy, Instr.storeAt, Instr.sureAddr, Sem.run_bind, Sem.run_pure, Result.andThen_ok, hr.run w g t (M.has hu.has)]
  exact h _ (M.row hu) (turned_row _ _ _)
theorem wpL_stM (M : Mem w0 w bs) (hgd : o.guard = none) (ho : o.op = .store ty x y) (hx : a.eval x = .pointer (some ⟨g, off, none⟩)) (hy : a.eval y = v) (hr : Wr P ty off cs v cs') (hu : Upd bs g t cs cs' bs')
    (h : ∀ w', Mem w0 w' bs' → Turned (fun k => k = g) w w' → wpList P ops Q rest (a.put o.dst undef) w') : wpList P ops Q (o :: rest) a w := wpList_plain hgd fun _ hK => wp_stM M ho hx hy hr hu fun w' h' ht => hK _ _ (h w' h' ht)
/-- An owned row is not a block of another type. -/
theorem gown_ne {w : World} {g : Nat} {t : TypeId} {cs : List Value} {base : Nat} {e : TypeId} {size n : Nat} {v : Value} {xs : List Value} (K : Blk w g t cs) (ho : w.ownsRow base e size v n xs) (hne : t ≠ e) : ∀ k, v.ownBlock = some k → k ≠ g := by
  rintro k hk rfl
  obtain ⟨h1, h2⟩ := ho
  rcases h2 with ⟨rfl, _⟩ | ⟨g', cap, cur, rfl, hb, hh, _⟩
  · cases hk
  · cases hk
    unfold Blk at K
    rw [hh] at K
    cases K
    exact hne rfl
/-- .. and lies as it lay, where such a block has turned. -/
theorem gown_turned {w w' : World} {g : Nat} {t : TypeId} {cs : List Value} {base : Nat} {e : TypeId} {size n : Nat} {v : Value} {xs : List Value} (ho : w.ownsRow base e size v n xs) (K : Blk w g t cs) (hne : t ≠ e) (ht : Turned (fun k => k = g) w w') : w'.ownsRow base e size v n xs :=
  ht.own ho (gown_ne K ho hne)
end
end Go.Th.Grid
namespace Go.Proofs.YtanblpfpkohghaaDoor
open Go Go.RowKit Go.Th Go.Th.Grid Go.Th.Wide

theorem size6g : (Tryd.prog.info? 28).map (·.size) = some 6 := by kernel_rfl
theorem rd_g (x y X Y s : Int) (v : Value) : Rd Tryd.prog 28 0 (gc x y X Y s v) (gv x y X Y s v) :=
  Rd.agg (ds := gc x y X Y s v) Tryd.underlying28 rfl size6g (fun j u hj => by rw [Nat.zero_add]; exact hj)
theorem wr_g (x y X Y s x' y' X' Y' s' : Int) (v' : Value) (a : Option Addr) (n cap : Nat) : Wr Tryd.prog 28 0 (gc x' y' X' Y' s' v') (gv x y X Y s (.slice a n cap)) (gc x y X Y s (.slice a n cap)) :=
  Wr.whole (ds := gc x y X Y s (.slice a n cap)) size6g rfl (by intro u hu; simp at hu; rcases hu with rfl | rfl | rfl | rfl | rfl | rfl <;> rfl)

instance bRow : BsI Tryd.prog 26 := ⟨fun h => Rd.one Tryd.underlying26 rfl h⟩
instance rG (x y X Y s : Int) (v : Value) : RdI Tryd.prog 28 0 (gc x y X Y s v) (gv x y X Y s v) := ⟨rd_g x y X Y s v⟩
instance kG : SzI Tryd.prog 28 6 := ⟨size6g⟩
instance zG : ZrI Tryd.prog 28 (gv 0 0 0 0 0 (.slice none 0 0)) (gc 0 0 0 0 0 (.slice none 0 0)) := ⟨by kernel_rfl, rfl⟩
/-- A grid is answered, with a code; its places lie in memory of its own. -/
def GRes (x y X Y s : Int) (n : Nat) (l : List Int) (c : Int) (w : World) (e : Ending) (w' : World) : Prop :=
  ∃ a cap, e = .returned (.tuple #[gv x y X Y s (.slice a n cap), .int .i64 c]) ∧ w'.ownsRow w.heap.size 2 1 (.slice a n cap) n (i64s l) ∧ Below w.heap.size w w'
/-- .., wherever they lie. -/
def GSaid (x y X Y s : Int) (n : Nat) (l : List Int) (c : Int) (w : World) (e : Ending) (w' : World) : Prop :=
  ∃ a cap, e = .returned (.tuple #[gv x y X Y s (.slice a n cap), .int .i64 c]) ∧ Sl w' 1 (.slice a n cap) n (i64s l) ∧ Below w.heap.size w w'
theorem GRes.said {x y X Y s : Int} {n : Nat} {l : List Int} {c : Int} {w w' : World} {e : Ending} (h : GRes x y X Y s n l c w e w') : GSaid x y X Y s n l c w e w' := by
  obtain ⟨a, cap, h1, h2, h3⟩ := h
  exact ⟨a, cap, h1, Sl.of_own h2, h3⟩

end Go.Proofs.YtanblpfpkohghaaDoor

/-
  What is wrong with any grid; a grid made whole again: the code's.
-/
namespace Go.Proofs.YtanblpfpkohghaaDoor
open Go Go.RowKit Go.Th Go.Th.Grid Go.Th.Wide

end Go.Proofs.YtanblpfpkohghaaDoor

/-
  A place of which parts went to either side, and came from there: the code's.
-/
namespace Go.Proofs.YtanblpfpkohghaaDoor
open Go Go.RowKit Go.Th Go.Th.Grid Go.Th.Wide

end Go.Proofs.YtanblpfpkohghaaDoor

/-
  A grid that is spread: the code's.
-/
namespace Go.Th.Grid
open Go Go.RowKit Go.Th
theorem own_blk {w : World} {base g n : Nat} {e : TypeId} {xs : List Value} (h : w.ownsRow base e 1 (.slice (some ⟨g, 0, none⟩) n n) n xs) : Blk w g e xs := by
  obtain ⟨h1, h2⟩ := h
  rcases h2 with ⟨he, _⟩ | ⟨g', cap, cur, he, hb, hh, hnc, hcm, hcs, ht⟩
  · cases he
  · cases he
    unfold Blk
    rw [Nat.mul_one] at hcs ht
    have e : cur.toList = xs := by rw [← ht, List.take_of_length_le (by simp; omega)]
    rw [← e]
    simpa using hh
theorem blk_own {w : World} {base g n : Nat} {e : TypeId} {xs : List Value} (h : Blk w g e xs) (hb : base ≤ g) (hn : xs.length = n) (hm : n ≤ maxLen) : w.ownsRow base e 1 (.slice (some ⟨g, 0, none⟩) n n) n xs := by
  refine ⟨by rw [hn, Nat.mul_one], .inr ⟨g, n, xs.toArray, rfl, hb, h, Nat.le_refl _, hm, by simp [hn], by rw [Nat.mul_one]; simp [← hn]⟩⟩
theorem mem_new {w0 w w' : World} {bs : List (Nat × TypeId × List Value)} {g : Nat} {e : TypeId} {xs : List Value} (M : Mem w0 w bs) (hb : Below w.heap.size w w') (hk : Blk w' g e xs) (hg : w.heap.size ≤ g) : Mem w0 w' ((g, e, xs) :: bs) where
  below := M.below.trans (hb.mono M.below.size)
  nodup := by
    simp only [List.map_cons, List.nodup_cons]
    refine ⟨fun h => ?_, M.nodup⟩
    obtain ⟨e, he, h'⟩ := List.mem_map.1 h
    have := (M.blk e he).lt
    omega
  old := by
    intro e he
    rcases List.mem_cons.1 he with rfl | he
    · exact Nat.le_trans M.below.size hg
    · exact M.old e he
  blk := by
    intro e he
    rcases List.mem_cons.1 he with rfl | he
    · exact hk
    · exact (M.call hb).blk e he
/-- A slice of noughts is made; its block is known. -/
theorem wpL_mkM {P : Program} {w w0 : World} {bs : List (Nat × TypeId × List Value)} {ops : Array Oper} {rest : List Oper} {o : Oper} {a : Act} {Q : Exit → Act → World → Prop} {t e : TypeId} {z : Value} {bytes : Nat} (M : Mem w0 w bs)
    (hU : P.underlying t = some (.slice e)) (hI : (P.info? e).map (fun i => (i.zero, i.size, i.bytes)) = some (some z, 1, bytes)) (hz : z.cells = #[z])
    (hg : o.guard = none) (l c : Operand) (hop : o.op = Op.makeSlice t l c) (n : Nat) (kl kc : IntKind) (hl : a.eval l = .int kl (n : Int)) (hc : a.eval c = .int kc (n : Int))
    (b2 : bytes * n ≤ 281474976710656) (b3 : n ≤ maxLen)
    (hK : ∀ g w', Mem w0 w' ((g, e, List.replicate n z) :: bs) → wpList P ops Q rest (a.put o.dst (.slice (some ⟨g, 0, none⟩) n n)) w') : wpList P ops Q (o :: rest) a w :=
  gmk hU hI hz hg l c hop w.heap.size n kl kc hl hc b2 b3 (Nat.le_refl _) fun w' h hg' => hK _ _ (mem_new M (ggrown hg') (own_blk h) (Nat.le_refl _))
theorem getD_drop (l : List Int) (k j : Nat) : (l.drop k).getD j 0 = l.getD (k + j) 0 := by
  rw [List.getD_eq_getElem?_getD, List.getD_eq_getElem?_getD, List.getElem?_drop]
end Go.Th.Grid
namespace Go.Proofs.YtanblpfpkohghaaDoor
open Go Go.RowKit Go.Th Go.Th.Grid Go.Th.Wide

theorem i64s_drop (l : List Int) (k : Nat) : (i64s l).drop k = i64s (l.drop k) := by simp [i64s, List.map_drop]

end Go.Proofs.YtanblpfpkohghaaDoor
