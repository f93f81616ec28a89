/-
  Where a grid is believed: sums over its places, the place that is believed most; plain.
-/
import Derived.Test.YtbjhbbiahmhdeaaPackGridA
set_option linter.unusedVariables false
set_option linter.unusedSimpArgs false
namespace Go.Th.Moment
open Go.Th.Grid

/-- A place that may be: which one, and how much it is believed. -/
def PlOk (N : Nat) (q : Nat × Int) : Prop := q.1 < N ∧ 0 ≤ q.2 ∧ q.2 ≤ 1073741824
abbrev Pl (N : Nat) := { q : Nat × Int // PlOk N q }
theorem exists_pl {N : Nat} (l : List (Nat × Int)) (h : ∀ q ∈ l, PlOk N q) : ∃ ys : List (Pl N), ys.map (·.1) = l := by
  induction l with
  | nil => exact ⟨[], rfl⟩
  | cons x r ih =>
    obtain ⟨ys, hy⟩ := ih (fun y hy => h y (by simp [hy]))
    exact ⟨⟨x, h x (by simp)⟩ :: ys, by simp [hy]⟩

/-- The first places of a row of numbers. -/
def en (p : List Int) : Nat → List (Nat × Int)
  | 0 => []
  | k + 1 => en p k ++ [(k, p.getD k 0)]
theorem en_next (p : List Int) (k : Nat) : en p (k + 1) = en p k ++ [(k, p.getD k 0)] := rfl
theorem en_length (p : List Int) : ∀ k, (en p k).length = k
  | 0 => rfl
  | k + 1 => by rw [en, List.length_append, en_length p k]; rfl
theorem en_mem {p : List Int} : ∀ {k : Nat} {q : Nat × Int}, q ∈ en p k → q.1 < k ∧ q.2 = p.getD q.1 0
  | 0, q, h => by cases h
  | k + 1, q, h => by
    rw [en] at h
    rcases List.mem_append.1 h with h | h
    · have := en_mem h
      exact ⟨by omega, this.2⟩
    · rw [List.mem_singleton.1 h]
      exact ⟨Nat.lt_succ_self _, rfl⟩
theorem en_has {p : List Int} : ∀ {k i : Nat}, i < k → (i, p.getD i 0) ∈ en p k
  | 0, i, h => by omega
  | k + 1, i, h => by
    rw [en]
    by_cases hi : i < k
    · exact List.mem_append.2 (.inl (en_has hi))
    · obtain rfl : i = k := by omega
      exact List.mem_append.2 (.inr (List.mem_singleton.2 rfl))
theorem en_ok {p : List Int} {k : Nat} (hk : k ≤ p.length) (h : ∀ u ∈ p, 0 ≤ u ∧ u ≤ 1073741824) : ∀ q ∈ en p k, PlOk k q := by
  intro q hq
  obtain ⟨h1, h2⟩ := en_mem hq
  have := getD_mem (P := fun u => 0 ≤ u ∧ u ≤ 1073741824) h (by omega : q.1 < p.length)
  rw [← h2] at this
  exact ⟨by omega, this.1, this.2⟩
theorem en_take (p : List Int) : ∀ {n k : Nat}, k ≤ n → (en p n).take k = en p k
  | 0, k, h => by
    obtain rfl : k = 0 := by omega
    rfl
  | n + 1, k, h => by
    by_cases hk : k ≤ n
    · rw [en, List.take_append_of_le_length (by rw [en_length]; exact hk), en_take p hk]
    · obtain rfl : k = n + 1 := by omega
      rw [List.take_of_length_le (by rw [en_length]; exact Nat.le_refl _)]

theorem en_at (p : List Int) : ∀ {n k : Nat}, k < n → (en p n)[k]? = some (k, p.getD k 0)
  | 0, k, h => by omega
  | n + 1, k, h => by
    rw [en]
    by_cases hk : k < n
    · rw [List.getElem?_append_left (by rw [en_length]; exact hk)]; exact en_at p hk
    · obtain rfl : k = n := by omega
      rw [List.getElem?_append_right (by rw [en_length]; exact Nat.le_refl _), en_length, Nat.sub_self]
      rfl
theorem pl_at {p : List Int} {N n k : Nat} {ys : List (Pl N)} (h : ys.map (·.1) = en p n) (hk : k < n) (hl : k < ys.length) : ys[k].1 = (k, p.getD k 0) := by
  have h1 := en_at p hk
  rw [← h, List.getElem?_map, List.getElem?_eq_getElem hl] at h1
  simpa using h1
theorem pl_length {p : List Int} {N n : Nat} {ys : List (Pl N)} (h : ys.map (·.1) = en p n) : ys.length = n := by
  have := congrArg List.length h
  rwa [List.length_map, en_length] at this

/-! ### Sums -/
/-- How much places are believed, each times what is told of it. -/
def mo (f : Nat → Int) (l : List (Nat × Int)) : Int := sm (l.map fun q => q.2 * f q.1)
theorem mo_nil (f : Nat → Int) : mo f [] = 0 := rfl
theorem mo_snoc (f : Nat → Int) (l : List (Nat × Int)) (q : Nat × Int) : mo f (l ++ [q]) = mo f l + q.2 * f q.1 := by
  unfold mo; rw [List.map_append, sm_app]; simp [sm]
theorem mo_en (f : Nat → Int) (p : List Int) : ∀ k, mo f (en p k) = su (fun i => p.getD i 0 * f i) k
  | 0 => rfl
  | k + 1 => by rw [en, mo_snoc, mo_en f p k, su]
theorem mo_rng {f : Nat → Int} {F : Int} {N : Nat} {l : List (Nat × Int)} (hl : ∀ q ∈ l, PlOk N q) (hf : ∀ i, i < N → 0 ≤ f i ∧ f i ≤ F) : 0 ≤ mo f l ∧ mo f l ≤ 1073741824 * F * (l.length : Int) := by
  induction l with
  | nil => simp [mo, sm]
  | cons q r ih =>
    obtain ⟨h1, h2⟩ := ih (fun x hx => hl x (by simp [hx]))
    obtain ⟨g1, g2, g3⟩ := hl q (by simp)
    obtain ⟨k1, k2⟩ := hf q.1 g1
    have e : mo f (q :: r) = q.2 * f q.1 + mo f r := rfl
    have m1 : 0 ≤ q.2 * f q.1 := Int.mul_nonneg g2 k1
    have m2 : q.2 * f q.1 ≤ 1073741824 * F := Int.mul_le_mul g3 k2 k1 (by omega)
    rw [e, List.length_cons]
    push_cast
    rw [Int.mul_add, Int.mul_one]
    omega

/-- How much the places that count are believed. -/
def so (c : Nat → Bool) (l : List (Nat × Int)) : Int := sm (l.map fun q => if c q.1 = true then q.2 else 0)
theorem so_nil (c : Nat → Bool) : so c [] = 0 := rfl
theorem so_snoc (c : Nat → Bool) (l : List (Nat × Int)) (q : Nat × Int) : so c (l ++ [q]) = so c l + if c q.1 = true then q.2 else 0 := by
  unfold so; rw [List.map_append, sm_app]; simp [sm]
theorem so_yes {c : Nat → Bool} {l : List (Nat × Int)} {q : Nat × Int} (h : c q.1 = true) : so c (l ++ [q]) = so c l + q.2 := by rw [so_snoc, if_pos h]
theorem so_no {c : Nat → Bool} {l : List (Nat × Int)} {q : Nat × Int} (h : c q.1 = false) : so c (l ++ [q]) = so c l := by rw [so_snoc, if_neg (by rw [h]; simp), Int.add_zero]
theorem so_rng {c : Nat → Bool} {N : Nat} {l : List (Nat × Int)} (hl : ∀ q ∈ l, PlOk N q) : 0 ≤ so c l ∧ so c l ≤ 1073741824 * (l.length : Int) := by
  induction l with
  | nil => simp [so, sm]
  | cons q r ih =>
    obtain ⟨h1, h2⟩ := ih (fun x hx => hl x (by simp [hx]))
    obtain ⟨g1, g2, g3⟩ := hl q (by simp)
    have e : so c (q :: r) = (if c q.1 = true then q.2 else 0) + so c r := rfl
    rw [e, List.length_cons]
    push_cast
    rw [Int.mul_add, Int.mul_one]
    split <;> omega
theorem so_congr {c d : Nat → Bool} {l : List (Nat × Int)} (h : ∀ q ∈ l, c q.1 = d q.1) : so c l = so d l := by
  unfold so
  congr 1
  exact List.map_congr_left fun q hq => by rw [h q hq]

/-- The squares together. -/
def sqs (l : List (Nat × Int)) : Int := sm (l.map fun q => q.2 * q.2)
theorem sqs_nil : sqs [] = 0 := rfl
theorem sqs_snoc (l : List (Nat × Int)) (q : Nat × Int) : sqs (l ++ [q]) = sqs l + q.2 * q.2 := by
  unfold sqs; rw [List.map_append, sm_app]; simp [sm]
theorem sqs_en (p : List Int) : ∀ k, sqs (en p k) = su (fun i => p.getD i 0 * p.getD i 0) k
  | 0 => rfl
  | k + 1 => by rw [en, sqs_snoc, sqs_en p k, su]

/-! ### The place that is believed most -/
def most : Option (Nat × Int) → Int
  | none => 0
  | some q => q.2
def tpS (c : Nat → Bool) (o : Option (Nat × Int)) (q : Nat × Int) : Option (Nat × Int) := if most o < q.2 ∧ c q.1 = true then some q else o
/-- Of the places that count and are believed at all, the one that is believed most, the first one of several. -/
def tp (c : Nat → Bool) (l : List (Nat × Int)) : Option (Nat × Int) := l.foldl (tpS c) none
theorem tp_nil (c : Nat → Bool) : tp c [] = none := rfl
theorem tp_snoc (c : Nat → Bool) (l : List (Nat × Int)) (q : Nat × Int) : tp c (l ++ [q]) = tpS c (tp c l) q := by unfold tp; rw [List.foldl_append]; rfl
theorem tp_yes {c : Nat → Bool} {l : List (Nat × Int)} {q : Nat × Int} (h1 : most (tp c l) < q.2) (h2 : c q.1 = true) : tp c (l ++ [q]) = some q := by rw [tp_snoc, tpS, if_pos ⟨h1, h2⟩]
theorem tp_no1 {c : Nat → Bool} {l : List (Nat × Int)} {q : Nat × Int} (h1 : ¬ most (tp c l) < q.2) : tp c (l ++ [q]) = tp c l := by rw [tp_snoc, tpS, if_neg (fun h => h1 h.1)]
theorem tp_no2 {c : Nat → Bool} {l : List (Nat × Int)} {q : Nat × Int} (h2 : c q.1 = false) : tp c (l ++ [q]) = tp c l := by rw [tp_snoc, tpS, if_neg (fun h => by rw [h2] at h; cases h.2)]
/-- What is true of whatever is found. -/
theorem list_snoc {P : List (Nat × Int) → Prop} (h0 : P []) (h1 : ∀ l q, P l → P (l ++ [q])) (l : List (Nat × Int)) : P l := by
  have h : ∀ r : List (Nat × Int), P r.reverse := by
    intro r
    induction r with
    | nil => exact h0
    | cons q r ih => rw [List.reverse_cons]; exact h1 _ _ ih
  have := h l.reverse
  rwa [List.reverse_reverse] at this
theorem tp_mem {c : Nat → Bool} (l : List (Nat × Int)) : ∀ q, tp c l = some q → q ∈ l ∧ 0 < q.2 ∧ c q.1 = true ∧ q.2 = most (tp c l) := by
  refine list_snoc (P := fun l => ∀ q, tp c l = some q → q ∈ l ∧ 0 < q.2 ∧ c q.1 = true ∧ q.2 = most (tp c l)) ?_ ?_ l
  · intro q h; cases h
  · intro l x ih q h
    rw [tp_snoc] at h ⊢
    unfold tpS at h ⊢
    split at h
    · rename_i hc
      rw [if_pos hc]
      cases h
      refine ⟨by simp, ?_, hc.2, rfl⟩
      have : 0 ≤ most (tp c l) := by
        cases ht : tp c l with
        | none => exact Int.le_refl _
        | some y => exact Int.le_of_lt (ih y ht).2.1
      omega
    · rename_i hc
      rw [if_neg hc]
      obtain ⟨h1, h2, h3, h4⟩ := ih q h
      exact ⟨by simp [h1], h2, h3, h4⟩
theorem most_pos {c : Nat → Bool} (l : List (Nat × Int)) : 0 ≤ most (tp c l) := by
  cases ht : tp c l with
  | none => exact Int.le_refl _
  | some y => exact Int.le_of_lt (tp_mem l y ht).2.1
theorem tp_max {c : Nat → Bool} (l : List (Nat × Int)) : ∀ q ∈ l, c q.1 = true → q.2 ≤ most (tp c l) := by
  refine list_snoc (P := fun l => ∀ q ∈ l, c q.1 = true → q.2 ≤ most (tp c l)) ?_ ?_ l
  · intro q h; cases h
  · intro l x ih q hq hc
    rw [tp_snoc]
    unfold tpS
    have h2 : q ∈ l → q.2 ≤ most (tp c l) := fun h => ih q h hc
    rcases List.mem_append.1 hq with h | h
    · split
      · rename_i hx
        have := h2 h
        show q.2 ≤ x.2
        omega
      · exact h2 h
    · rw [List.mem_singleton] at h
      subst h
      split
      · exact Int.le_refl _
      · rename_i hx
        have : ¬ most (tp c l) < q.2 := fun h => hx ⟨h, hc⟩
        omega
/-- Where nothing is believed, nothing is found. -/
theorem tp_none {c : Nat → Bool} (l : List (Nat × Int)) (h : ∀ q ∈ l, q.2 ≤ 0) : tp c l = none := by
  cases ht : tp c l with
  | none => rfl
  | some y =>
    obtain ⟨h1, h2, _⟩ := tp_mem l y ht
    have := h y h1
    omega
theorem none_all {l : List (Nat × Int)} (h : tp (fun _ => true) l = none) : ∀ q ∈ l, q.2 ≤ 0 := by
  intro q hq
  have := tp_max (c := fun _ => true) l q hq rfl
  rw [h] at this
  exact this

/-! ### Columns, rows, near ones -/
def apart (a b : Int) : Int := max (a - b) (b - a)
def near (W : Nat) (far : Int) (i j : Nat) : Bool := decide (apart ((i % W : Nat) : Int) ((j % W : Nat) : Int) ≤ far) && decide (apart ((i / W : Nat) : Int) ((j / W : Nat) : Int) ≤ far)
def edge (W H : Nat) (i : Nat) : Bool := decide (i % W = 0) || decide (i % W = W - 1) || decide (i / W = 0) || decide (i / W = H - 1)
/-- Where one is believed most, and where, further away than so many steps. -/
def pk (p : List Int) (n : Nat) : Option (Nat × Int) := tp (fun _ => true) (en p n)
def sec (W : Nat) (far : Int) (p : List Int) (n : Nat) : Option (Nat × Int) :=
  match pk p n with
  | none => none
  | some t => tp (fun i => !near W far i t.1) (en p n)
def ix : Option (Nat × Int) → Int
  | none => -1
  | some q => (q.1 : Int)
def aro (W : Nat) (p : List Int) (n : Nat) (at_ far : Int) : Int :=
  if 0 ≤ at_ ∧ at_ < (n : Int) then so (fun i => near W far i at_.toNat) (en p n) else 0

/-! ### How far about -/
theorem sq0 (x : Int) : 0 ≤ x * x := by
  rcases Int.le_total 0 x with h | h
  · exact Int.mul_nonneg h h
  · exact Int.mul_nonneg_of_nonpos_of_nonpos h h
/-- For whatever number: twice it times the middle is no more than its square, and the squares, together. -/
theorem mid_le {p f : Nat → Int} (c : Int) (k : Nat) (hp : ∀ i, i < k → 0 ≤ p i) : 2 * (c * su (fun i => p i * f i) k) ≤ c * c * su p k + su (fun i => p i * f i * f i) k := by
  have e1 : 2 * (c * su (fun i => p i * f i) k) = su (fun i => 2 * c * (p i * f i)) k := by rw [su_mul, Int.mul_assoc]
  have e2 : c * c * su p k + su (fun i => p i * f i * f i) k = su (fun i => c * c * p i + p i * f i * f i) k := by rw [su_add, su_mul]
  rw [e1, e2]
  refine su_le k fun i hi => ?_
  have h := Int.mul_nonneg (hp i hi) (sq0 (c - f i))
  have e : p i * ((c - f i) * (c - f i)) = c * c * p i + p i * f i * f i - 2 * c * (p i * f i) := by
    rw [Int.sub_mul, Int.mul_sub, Int.mul_sub, Int.mul_sub, Int.mul_sub, Int.mul_sub]
    have a1 : p i * (c * c) = c * c * p i := by ac_rfl
    have a2 : p i * (c * f i) = c * (p i * f i) := by ac_rfl
    have a3 : p i * (f i * c) = c * (p i * f i) := by ac_rfl
    have a4 : p i * (f i * f i) = p i * f i * f i := by ac_rfl
    rw [a1, a2, a3, a4, Int.mul_assoc 2 c]
    omega
  omega
/-- The square of the middle is no more than the squares' middle. -/
theorem cauchy {p f : Nat → Int} : ∀ (k : Nat), (∀ i, i < k → 0 ≤ p i) → su (fun i => p i * f i) k * su (fun i => p i * f i) k ≤ su p k * su (fun i => p i * f i * f i) k
  | 0, _ => Int.le_refl _
  | k + 1, h => by
    have ih := cauchy (p := p) (f := f) k (fun i hi => h i (by omega))
    have hm := Int.mul_le_mul_of_nonneg_left (mid_le (p := p) (f := f) (f k) k (fun i hi => h i (by omega))) (h k (by omega))
    simp only [su]
    obtain ⟨A, hA⟩ : ∃ A, A = su (fun i => p i * f i) k := ⟨_, rfl⟩
    obtain ⟨S, hS⟩ : ∃ S, S = su p k := ⟨_, rfl⟩
    obtain ⟨B, hB⟩ : ∃ B, B = su (fun i => p i * f i * f i) k := ⟨_, rfl⟩
    rw [← hA, ← hS, ← hB] at ih
    rw [← hA, ← hS, ← hB] at hm
    rw [← hA, ← hS, ← hB]
    obtain ⟨u, hu⟩ : ∃ u, u = p k := ⟨_, rfl⟩
    obtain ⟨v, hv⟩ : ∃ v, v = f k := ⟨_, rfl⟩
    rw [← hu, ← hv] at hm ⊢
    have e1 : (A + u * v) * (A + u * v) = A * A + 2 * (u * (v * A)) + u * v * (u * v) := by
      rw [Int.add_mul, Int.mul_add, Int.mul_add]
      have a1 : A * (u * v) = u * (v * A) := by ac_rfl
      have a2 : u * v * A = u * (v * A) := by ac_rfl
      rw [a1, a2]; omega
    have e2 : (S + u) * (B + u * v * v) = S * B + u * (v * v * S) + u * B + u * v * (u * v) := by
      rw [Int.add_mul, Int.mul_add, Int.mul_add]
      have a1 : S * (u * v * v) = u * (v * v * S) := by ac_rfl
      have a2 : u * (u * v * v) = u * v * (u * v) := by ac_rfl
      rw [a1, a2]; omega
    have e3 : u * (2 * (v * A)) = 2 * (u * (v * A)) := by ac_rfl
    rw [Int.mul_add, e3] at hm
    rw [e1, e2]
    omega
/-- The squares together are no more than the square of all. -/
theorem sq_le {p : Nat → Int} : ∀ (k : Nat), (∀ i, i < k → 0 ≤ p i) → 0 ≤ su p k ∧ su (fun i => p i * p i) k ≤ su p k * su p k
  | 0, _ => ⟨Int.le_refl _, Int.le_refl _⟩
  | k + 1, h => by
    obtain ⟨h1, h2⟩ := sq_le (p := p) k (fun i hi => h i (by omega))
    have h3 := h k (by omega)
    have h4 := Int.mul_nonneg h1 h3
    simp only [su]
    refine ⟨by omega, ?_⟩
    rw [Int.add_mul, Int.mul_add, Int.mul_add, Int.mul_comm (p k) (su p k)]
    omega
theorem su_one' : ∀ k : Nat, su (fun _ => 1) k = (k : Int)
  | 0 => rfl
  | k + 1 => by rw [su, su_one' k]; omega
/-- The square of all is no more than so many times the squares together. -/
theorem all_le {p : Nat → Int} (k : Nat) : su p k * su p k ≤ (k : Int) * su (fun i => p i * p i) k := by
  have h := cauchy (p := fun _ => 1) (f := p) k (fun _ _ => by omega)
  simp only [Int.one_mul] at h
  rw [su_one'] at h
  exact h
end Go.Th.Moment
