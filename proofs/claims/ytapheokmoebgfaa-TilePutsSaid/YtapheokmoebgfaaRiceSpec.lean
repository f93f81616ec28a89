/-
  Folded numbers, their codes, rows of them, and how they are read: plain.
-/
import Derived.Test.YtapheokmoebgfaaBitsSpec
set_option linter.unusedVariables false
set_option linter.unusedSimpArgs false
namespace Go.Th

/-! ### Numbers folded -/
/-- A number with a sign as one without. -/
def fold (x : Int) : Nat := if x < 0 then (-2 * x - 1).toNat else (2 * x).toNat
/-- The number that was folded. -/
def unfold (n : Nat) : Int := if n % 2 = 0 then (n / 2 : Nat) else -((n / 2 : Nat) : Int) - 1

theorem fold_neg (x : Int) (h : x < 0) : (fold x : Int) = -2 * x - 1 := by simp only [fold, if_pos h]; omega
theorem fold_pos (x : Int) (h : ¬ x < 0) : (fold x : Int) = 2 * x := by simp only [fold, if_neg h]; omega
theorem unfold_fold (x : Int) : unfold (fold x) = x := by
  by_cases h : x < 0
  · have := fold_neg x h
    unfold unfold; rw [if_neg (by omega)]; omega
  · have := fold_pos x h
    unfold unfold; rw [if_pos (by omega)]; omega
theorem fold_unfold (n : Nat) : fold (unfold n) = n := by
  unfold unfold
  split
  · have := fold_pos ((n / 2 : Nat) : Int) (by omega); omega
  · have := fold_neg (-((n / 2 : Nat) : Int) - 1) (by omega); omega
theorem fold_inj (x y : Int) (h : fold x = fold y) : x = y := by rw [← unfold_fold x, ← unfold_fold y, h]
/-- Has a number room in a code? -/
def Rm (x : Int) : Prop := -65536 ≤ x ∧ x ≤ 65535
theorem rm_def {x : Int} (h : Rm x) : -65536 ≤ x ∧ x ≤ 65535 := h
theorem fold_room (x : Int) (h : Rm x) : fold x < 131072 := by
  obtain ⟨h1, h2⟩ := h
  by_cases h : x < 0
  · have := fold_neg x h; omega
  · have := fold_pos x h; omega
theorem unfold_room (n : Nat) (h : n < 131072) : Rm (unfold n) := by
  unfold unfold Rm
  split <;> omega
theorem fold_max (x : Int) (h1 : -2147483648 ≤ x) (h2 : x ≤ 2147483647) : fold x < 4294967296 := by
  by_cases h : x < 0
  · have := fold_neg x h; omega
  · have := fold_pos x h; omega
theorem unfold_range (n : Nat) (h : n < 4294967296) : -2147483648 ≤ unfold n ∧ unfold n ≤ 2147483647 := by
  unfold unfold
  split <;> omega

/-! ### Codes -/
def code (n k : Nat) : List Bool := if n / 2 ^ k < 20 then onesBits (n / 2 ^ k) ++ numBits n k else onesBits 20 ++ numBits n 17
def size (n k : Nat) : Nat := if n / 2 ^ k < 20 then n / 2 ^ k + 1 + k else 38

theorem onesBits_length (n : Nat) : (onesBits n).length = n + 1 := by simp [onesBits]
theorem code_length (n k : Nat) : (code n k).length = size n k := by
  unfold code size
  split
  · rw [List.length_append, onesBits_length, numBits_length]
  · rw [List.length_append, onesBits_length, numBits_length]
theorem size_le (n k : Nat) (hk : k ≤ 16) : size n k ≤ 38 := by unfold size; generalize n / 2 ^ k = q; split <;> omega
theorem size_pos (n k : Nat) : 0 < size n k := by unfold size; generalize n / 2 ^ k = q; split <;> omega

def codes (l : List Int) (k : Nat) : List Bool := l.flatMap fun x => code (fold x) k
def sizes (l : List Int) (k : Nat) : Nat := (codes l k).length

theorem codes_nil (k : Nat) : codes [] k = [] := rfl
theorem codes_snoc (l : List Int) (x : Int) (k : Nat) : codes (l ++ [x]) k = codes l k ++ code (fold x) k := by simp [codes]
theorem sizes_nil (k : Nat) : sizes [] k = 0 := rfl
theorem sizes_snoc (l : List Int) (x : Int) (k : Nat) : sizes (l ++ [x]) k = sizes l k + size (fold x) k := by
  simp only [sizes, codes_snoc, List.length_append, code_length]
theorem sizes_le (l : List Int) (k : Nat) (hk : k ≤ 16) : sizes l k ≤ 38 * l.length := by
  induction l with
  | nil => simp [sizes_nil]
  | cons x r ih =>
    have h : sizes (x :: r) k = size (fold x) k + sizes r k := by simp [sizes, codes, code_length]
    have := size_le (fold x) k hk
    simp only [List.length_cons]
    omega
theorem take_snoc {α : Type} (xs : List α) (i : Nat) (h : i < xs.length) : xs.take (i + 1) = xs.take i ++ [xs[i]] := by
  rw [List.take_add_one, List.getElem?_eq_getElem h]; rfl
theorem codes_split (l : List Int) (k i : Nat) (h : i < l.length) : codes l k = codes (l.take i) k ++ (code (fold l[i]) k ++ codes (l.drop (i + 1)) k) := by
  have e : l = l.take i ++ (l[i] :: l.drop (i + 1)) := by simp
  conv => lhs; rw [e]
  simp only [codes, List.flatMap_append, List.flatMap_cons]

/-- The parameter with the fewest bits, up to j. -/
def bestTo (l : List Int) : Nat → Nat
  | 0 => 0
  | j + 1 => if sizes l (j + 1) < sizes l (bestTo l j) then j + 1 else bestTo l j
def best (l : List Int) : Nat := bestTo l 16
theorem bestTo_le (l : List Int) (j : Nat) : bestTo l j ≤ j := by
  induction j with
  | zero => exact Nat.le_refl _
  | succ j ih => unfold bestTo; split <;> omega
theorem best_le (l : List Int) : best l ≤ 16 := bestTo_le l 16
theorem bestTo_yes (l : List Int) (j : Nat) (h : sizes l (j + 1) < sizes l (bestTo l j)) : bestTo l (j + 1) = j + 1 := by
  show (if _ then _ else _) = _; rw [if_pos h]
theorem bestTo_no (l : List Int) (j : Nat) (h : ¬ sizes l (j + 1) < sizes l (bestTo l j)) : bestTo l (j + 1) = bestTo l j := by
  show (if _ then _ else _) = _; rw [if_neg h]
theorem best_nil : best [] = 0 := by decide

def row (l : List Int) : List Bool := numBits (best l) 5 ++ codes l (best l)
theorem row_length (l : List Int) : (row l).length = 5 + sizes l (best l) := by simp [row, numBits_length, sizes]

/-! ### What is read -/
/-- So many bits from one on. -/
def seg (bs : List Nat) (at_ n : Nat) : List Bool := (List.range n).map fun j => bitAt bs (at_ + j)
theorem seg_length (bs : List Nat) (at_ n : Nat) : (seg bs at_ n).length = n := by simp [seg]
theorem seg_get (bs : List Nat) (at_ n j : Nat) (h : j < n) : (seg bs at_ n)[j]? = some (bitAt bs (at_ + j)) := by
  simp [seg, h]
theorem seg_add (bs : List Nat) (at_ m n : Nat) : seg bs at_ (m + n) = seg bs at_ m ++ seg bs (at_ + m) n := by
  unfold seg
  rw [List.range_add, List.map_append, List.map_map]
  congr 1
  refine List.map_congr_left fun j _ => ?_
  simp [Nat.add_assoc]

/-- Do these bits come next? -/
def Here (bs : List Nat) (at_ : Nat) (l : List Bool) : Prop := at_ + l.length ≤ 8 * bs.length ∧ seg bs at_ l.length = l
theorem here_app (bs : List Nat) (at_ : Nat) (l m : List Bool) : Here bs at_ (l ++ m) ↔ Here bs at_ l ∧ Here bs (at_ + l.length) m := by
  unfold Here
  rw [List.length_append, seg_add]
  constructor
  · rintro ⟨h1, h2⟩
    have := List.append_inj h2 (by rw [seg_length])
    exact ⟨⟨by omega, this.1⟩, by omega, this.2⟩
  · rintro ⟨⟨h1, h2⟩, h3, h4⟩
    exact ⟨by omega, by rw [h2, h4]⟩
theorem here_nil (bs : List Nat) (at_ : Nat) (h : at_ ≤ 8 * bs.length) : Here bs at_ [] := ⟨by simpa using h, rfl⟩
theorem here_get {bs : List Nat} {at_ : Nat} {l : List Bool} (h : Here bs at_ l) (j : Nat) (hj : j < l.length) : bitAt bs (at_ + j) = l[j] := by
  have h1 := seg_get bs at_ l.length j hj
  rw [h.2, List.getElem?_eq_getElem hj] at h1
  exact (Option.some.inj h1).symm

theorem here_ones (bs : List Nat) (at_ q : Nat) : Here bs at_ (onesBits q) ↔ at_ + q < 8 * bs.length ∧ (∀ j, j < q → bitAt bs (at_ + j) = true) ∧ bitAt bs (at_ + q) = false := by
  constructor
  · intro h
    have hl := h.1
    rw [onesBits_length] at hl
    refine ⟨by omega, fun j hj => ?_, ?_⟩
    · rw [here_get h j (by rw [onesBits_length]; omega)]
      simp only [onesBits]
      rw [List.getElem_append_left (by simpa using hj)]
      simp
    · rw [here_get h q (by rw [onesBits_length]; omega)]
      simp [onesBits]
  · rintro ⟨h1, h2, h3⟩
    refine ⟨by rw [onesBits_length]; omega, ?_⟩
    rw [onesBits_length, seg_add]
    unfold onesBits
    congr 1
    · apply List.ext_getElem?
      intro j
      by_cases hj : j < q
      · rw [seg_get _ _ _ _ hj, h2 j hj, List.getElem?_replicate, if_pos hj]
      · rw [List.getElem?_eq_none (by rw [seg_length]; omega), List.getElem?_eq_none (by simp; omega)]
    · simp [seg, h3]
theorem ones_only {bs : List Nat} {at_ q r : Nat} (h : Here bs at_ (onesBits q)) (k : Here bs at_ (onesBits r)) : q = r := by
  rw [here_ones] at h k
  obtain ⟨_, h2, h3⟩ := h
  obtain ⟨_, k2, k3⟩ := k
  rcases Nat.lt_trichotomy q r with e | e | e
  · rw [k2 q e] at h3; cases h3
  · exact e
  · rw [h2 r e] at k3; cases k3

theorem valAt_small (bs : List Nat) (at_ k : Nat) (hk : k ≤ 64) : valAt bs at_ k < 2 ^ k := by
  induction k with
  | zero => simp [valAt]
  | succ k ih =>
    have := ih (by omega)
    have hb : (bitAt bs (at_ + k)).toNat ≤ 1 := by cases bitAt bs (at_ + k) <;> decide
    have hp : 2 ^ (k + 1) ≤ 2 ^ 64 := Nat.pow_le_pow_right (by decide) hk
    have h64 : (2 : Nat) ^ 64 = 18446744073709551616 := by decide
    rw [Nat.pow_succ] at hp ⊢
    simp only [valAt]
    omega
theorem bits_valAt (bs : List Nat) (at_ k : Nat) (hk : k ≤ 64) : numBits (valAt bs at_ k) k = seg bs at_ k := by
  induction k with
  | zero => rfl
  | succ k ih =>
    have hs := valAt_small bs at_ k (by omega)
    have hb : (bitAt bs (at_ + k)).toNat ≤ 1 := by cases bitAt bs (at_ + k) <;> decide
    have hp : 2 ^ (k + 1) ≤ 2 ^ 64 := Nat.pow_le_pow_right (by decide) hk
    have h64 : (2 : Nat) ^ 64 = 18446744073709551616 := by decide
    rw [Nat.pow_succ] at hp
    have e : valAt bs at_ (k + 1) = 2 * valAt bs at_ k + (bitAt bs (at_ + k)).toNat := by simp only [valAt]; omega
    rw [numBits_succ, e, seg_add, show (2 * valAt bs at_ k + (bitAt bs (at_ + k)).toNat) / 2 = valAt bs at_ k from by omega, ih (by omega)]
    congr 1
    simp only [seg, List.range_one, List.map_cons, List.map_nil, Nat.add_zero, List.cons.injEq, and_true]
    cases bitAt bs (at_ + k)
    · rw [Bool.eq_iff_iff]; simp
    · rw [Bool.eq_iff_iff]; simp
theorem numBits_mod (n k : Nat) : numBits n k = numBits (n % 2 ^ k) k := by
  induction k generalizing n with
  | zero => rfl
  | succ k ih =>
    rw [numBits_succ, numBits_succ, ih (n / 2), ih (n % 2 ^ (k + 1) / 2)]
    have e1 : n % 2 ^ (k + 1) / 2 % 2 ^ k = n / 2 % 2 ^ k := by
      rw [Nat.pow_succ, Nat.mul_comm, Nat.mod_mul_right_div_self, Nat.mod_mod]
    have e2 : n % 2 ^ (k + 1) % 2 = n % 2 := Nat.mod_mod_of_dvd _ ⟨2 ^ k, by rw [Nat.pow_succ, Nat.mul_comm]⟩
    rw [e1, e2]
theorem numBits_only {m n k : Nat} (hm : m < 2 ^ k) (hn : n < 2 ^ k) (h : numBits m k = numBits n k) : m = n := by
  induction k generalizing m n with
  | zero => simp at hm hn; omega
  | succ k ih =>
    rw [numBits_succ, numBits_succ] at h
    rw [Nat.pow_succ] at hm hn
    have hh := List.append_inj h (by rw [numBits_length, numBits_length])
    have h1 := ih (m := m / 2) (n := n / 2) (by omega) (by omega) hh.1
    have h2 := hh.2
    simp only [List.cons.injEq, and_true] at h2
    rw [Bool.eq_iff_iff] at h2
    simp only [beq_iff_eq] at h2
    omega
/-- The lowest bits of a number come next just if the number of so many bits is its rest. -/
theorem here_num (bs : List Nat) (at_ n k : Nat) (hk : k ≤ 64) : Here bs at_ (numBits n k) ↔ at_ + k ≤ 8 * bs.length ∧ valAt bs at_ k = n % 2 ^ k := by
  unfold Here
  rw [numBits_length, ← bits_valAt bs at_ k hk]
  constructor
  · rintro ⟨h1, h2⟩
    refine ⟨h1, numBits_only (valAt_small bs at_ k hk) (Nat.mod_lt _ (Nat.pow_pos (by decide))) ?_⟩
    rw [h2, numBits_mod]
  · rintro ⟨h1, h2⟩
    exact ⟨h1, by rw [h2, ← numBits_mod]⟩

/-- A code comes next: by few ones .. -/
theorem here_few (bs : List Nat) (at_ n k : Nat) (hk : k ≤ 16) (h : n / 2 ^ k < 20) : Here bs at_ (code n k) ↔ Here bs at_ (onesBits (n / 2 ^ k)) ∧ at_ + n / 2 ^ k + 1 + k ≤ 8 * bs.length ∧ valAt bs (at_ + n / 2 ^ k + 1) k = n % 2 ^ k := by
  unfold code
  rw [if_pos h, here_app, onesBits_length, here_num _ _ _ _ (by omega)]
  simp only [Nat.add_assoc]
/-- .. by many. -/
theorem here_many (bs : List Nat) (at_ n k : Nat) (h : ¬ n / 2 ^ k < 20) (hn : n < 131072) : Here bs at_ (code n k) ↔ Here bs at_ (onesBits 20) ∧ at_ + 21 + 17 ≤ 8 * bs.length ∧ valAt bs (at_ + 21) 17 = n := by
  unfold code
  rw [if_neg h, here_app, onesBits_length, here_num _ _ _ _ (by omega), show (2 : Nat) ^ 17 = 131072 by decide, Nat.mod_eq_of_lt hn]
theorem code_ones {bs : List Nat} {at_ n k : Nat} (hk : k ≤ 16) (h : Here bs at_ (code n k)) : Here bs at_ (onesBits (if n / 2 ^ k < 20 then n / 2 ^ k else 20)) := by
  unfold code at h
  by_cases e : n / 2 ^ k < 20
  · rw [if_pos e] at h ⊢; exact ((here_app _ _ _ _).1 h).1
  · rw [if_neg e] at h ⊢; exact ((here_app _ _ _ _).1 h).1
/-- No two codes come next. -/
theorem code_only {bs : List Nat} {at_ m n k : Nat} (hk : k ≤ 16) (hm : m < 131072) (hn : n < 131072) (h : Here bs at_ (code m k)) (h' : Here bs at_ (code n k)) : m = n := by
  have e := ones_only (code_ones hk h) (code_ones hk h')
  have hp : 0 < 2 ^ k := Nat.pow_pos (by decide)
  have dm := Nat.div_add_mod m (2 ^ k)
  have dn := Nat.div_add_mod n (2 ^ k)
  by_cases c : m / 2 ^ k < 20
  · by_cases c' : n / 2 ^ k < 20
    · rw [if_pos c, if_pos c'] at e
      rw [here_few _ _ _ _ hk c] at h
      rw [here_few _ _ _ _ hk c'] at h'
      have v := h.2.2
      have v' := h'.2.2
      rw [e] at v dm
      rw [v] at v'
      rw [v'] at dm
      omega
    · rw [if_pos c, if_neg c'] at e; omega
  · by_cases c' : n / 2 ^ k < 20
    · rw [if_neg c, if_pos c'] at e; omega
    · rw [here_many _ _ _ _ c hm] at h
      rw [here_many _ _ _ _ c' hn] at h'
      omega

/-- Of n numbers that have room a row comes next. -/
structure RowAt (bs : List Nat) (at_ n : Nat) (l : List Int) : Prop where
  len : l.length = n
  room : ∀ x ∈ l, Rm x
  here : Here bs at_ (row l)

theorem RowAt.num {bs : List Nat} {at_ n : Nat} {l : List Int} (h : RowAt bs at_ n l) : at_ + 5 ≤ 8 * bs.length ∧ valAt bs at_ 5 = best l := by
  have h1 := ((here_app _ _ _ _).1 h.here).1
  rw [here_num _ _ _ _ (by omega), show (2 : Nat) ^ 5 = 32 by decide] at h1
  have := best_le l
  refine ⟨h1.1, ?_⟩
  rw [h1.2]; omega
theorem RowAt.codes {bs : List Nat} {at_ n : Nat} {l : List Int} (h : RowAt bs at_ n l) : Here bs (at_ + 5) (codes l (best l)) := by
  have h1 := ((here_app _ _ _ _).1 h.here).2
  rwa [numBits_length] at h1
theorem here_next {bs : List Nat} {at_ k : Nat} {l : List Int} (h : Here bs at_ (codes l k)) (i : Nat) (hi : i < l.length) : Here bs (at_ + sizes (l.take i) k) (code (fold l[i]) k) := by
  rw [codes_split l k i hi, here_app] at h
  exact ((here_app _ _ _ _).1 h.2).1
theorem rowAt_of {bs : List Nat} {at_ n k : Nat} {l : List Int} (hl : l.length = n) (hr : ∀ x ∈ l, Rm x) (h5 : at_ + 5 ≤ 8 * bs.length) (hv : valAt bs at_ 5 = k) (hc : Here bs (at_ + 5) (codes l k)) (hb : best l = k) : RowAt bs at_ n l := by
  refine ⟨hl, hr, ?_⟩
  unfold row
  rw [here_app, numBits_length, hb]
  refine ⟨?_, hc⟩
  rw [here_num _ _ _ _ (by omega), show (2 : Nat) ^ 5 = 32 by decide]
  have := best_le l
  exact ⟨h5, by omega⟩
theorem here_pack (l r : List Bool) : (∀ (bs : List Nat) (at_ : Nat), bs = pack (l ++ r) → at_ = 0 → (∀ j, j < l.length → bitAt bs j = l.getD j false) → Here bs at_ l) := by
  rintro bs at_ rfl rfl h
  refine ⟨by rw [pack_length]; simp; omega, ?_⟩
  apply List.ext_getElem?
  intro j
  by_cases hj : j < l.length
  · rw [seg_get _ _ _ _ hj, Nat.zero_add, h j hj, List.getD, List.getElem?_eq_getElem hj]; rfl
  · rw [List.getElem?_eq_none (by rw [seg_length]; omega), List.getElem?_eq_none (by omega)]
end Go.Th
