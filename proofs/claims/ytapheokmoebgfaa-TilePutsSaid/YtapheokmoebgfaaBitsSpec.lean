/-
  Bits as a row, and bytes: plain.
-/
set_option linter.unusedVariables false
set_option linter.unusedSimpArgs false
namespace Go.Th

/-- The byte number i of a row of bits, with noughts at the end. -/
def byteAt (l : List Bool) (i : Nat) : Nat := (List.range 8).foldl (fun n k => 2 * n + (l.getD (8 * i + k) false).toNat) 0
/-- A row of bits as bytes. -/
def pack (l : List Bool) : List Nat := (List.range ((l.length + 7) / 8)).map (byteAt l)

theorem pack_length (l : List Bool) : (pack l).length = (l.length + 7) / 8 := by simp [pack]

theorem byteAt_lt (l : List Bool) (i : Nat) : byteAt l i < 256 := by
  have h : ∀ b : Bool, b.toNat ≤ 1 := fun b => by cases b <;> decide
  simp only [byteAt, List.range, List.range.loop, List.foldl]
  have := h (l.getD (8 * i + 0) false); have := h (l.getD (8 * i + 1) false); have := h (l.getD (8 * i + 2) false); have := h (l.getD (8 * i + 3) false)
  have := h (l.getD (8 * i + 4) false); have := h (l.getD (8 * i + 5) false); have := h (l.getD (8 * i + 6) false); have := h (l.getD (8 * i + 7) false)
  omega

theorem byteAt_snoc_other (l : List Bool) (x : Bool) (i : Nat) (h : i ≠ l.length / 8) : byteAt (l ++ [x]) i = byteAt l i := by
  have hk : ∀ k, k < 8 → (l ++ [x]).getD (8 * i + k) false = l.getD (8 * i + k) false := by
    intro k hk
    simp only [List.getD]
    by_cases h1 : 8 * i + k < l.length
    · rw [List.getElem?_append_left h1]
    · rw [List.getElem?_append_right (by omega), List.getElem?_eq_none (l := l) (by omega), List.getElem?_eq_none]
      simp; omega
  simp only [byteAt, List.range, List.range.loop, List.foldl]
  rw [hk 0, hk 1, hk 2, hk 3, hk 4, hk 5, hk 6, hk 7] <;> omega

theorem getD_snoc (l : List Bool) (x : Bool) (j : Nat) : (l ++ [x]).getD j false = if j < l.length then l.getD j false else if j = l.length then x else false := by
  simp only [List.getD]
  by_cases h1 : j < l.length
  · rw [List.getElem?_append_left h1, if_pos h1]
  · rw [if_neg h1]
    by_cases h2 : j = l.length
    · subst h2; simp
    · rw [if_neg h2, List.getElem?_append_right (by omega), List.getElem?_eq_none]
      · rfl
      · simp; omega

theorem or_bit : ∀ (b0 b1 b2 b3 b4 b5 b6 : Bool) (r : Fin 8),
    (List.range 8).foldl (fun n k => 2 * n + (if k < r.1 then ([b0, b1, b2, b3, b4, b5, b6, false].getD k false) else if k = r.1 then true else false).toNat) 0 =
    ((List.range 8).foldl (fun n k => 2 * n + (if k < r.1 then ([b0, b1, b2, b3, b4, b5, b6, false].getD k false) else false).toNat) 0) ||| (128 >>> r.1) := by
  decide +kernel

theorem fold8 (f : Nat → Bool) : (List.range 8).foldl (fun n k => 2 * n + (f k).toNat) 0 =
    2 * (2 * (2 * (2 * (2 * (2 * (2 * (2 * 0 + (f 0).toNat) + (f 1).toNat) + (f 2).toNat) + (f 3).toNat) + (f 4).toNat) + (f 5).toNat) + (f 6).toNat) + (f 7).toNat := rfl

theorem fold8_congr (f g : Nat → Bool) (h : ∀ k, k < 8 → f k = g k) : (List.range 8).foldl (fun n k => 2 * n + (f k).toNat) 0 = (List.range 8).foldl (fun n k => 2 * n + (g k).toNat) 0 := by
  simp only [fold8]
  rw [h 0, h 1, h 2, h 3, h 4, h 5, h 6, h 7] <;> omega

theorem byteAt_snoc_false (l : List Bool) (i : Nat) : byteAt (l ++ [false]) i = byteAt l i := by
  unfold byteAt
  refine fold8_congr _ _ fun k _ => ?_
  rw [getD_snoc]
  split
  · rfl
  · rename_i h
    rw [List.getD, List.getElem?_eq_none (by omega)]
    split <;> rfl

theorem byteAt_snoc_true (l : List Bool) : byteAt (l ++ [true]) (l.length / 8) = byteAt l (l.length / 8) ||| (128 >>> (l.length % 8)) := by
  have hr : l.length % 8 < 8 := Nat.mod_lt _ (by omega)
  have hd : l.length = 8 * (l.length / 8) + l.length % 8 := by omega
  have e := or_bit (l.getD (8 * (l.length / 8)) false) (l.getD (8 * (l.length / 8) + 1) false) (l.getD (8 * (l.length / 8) + 2) false) (l.getD (8 * (l.length / 8) + 3) false)
    (l.getD (8 * (l.length / 8) + 4) false) (l.getD (8 * (l.length / 8) + 5) false) (l.getD (8 * (l.length / 8) + 6) false) ⟨l.length % 8, hr⟩
  have hlist : ∀ k, k < 7 → [l.getD (8 * (l.length / 8)) false, l.getD (8 * (l.length / 8) + 1) false, l.getD (8 * (l.length / 8) + 2) false, l.getD (8 * (l.length / 8) + 3) false,
      l.getD (8 * (l.length / 8) + 4) false, l.getD (8 * (l.length / 8) + 5) false, l.getD (8 * (l.length / 8) + 6) false, false].getD k false = l.getD (8 * (l.length / 8) + k) false := by
    intro k hk
    match k, hk with
    | 0, _ => rfl
    | 1, _ => rfl
    | 2, _ => rfl
    | 3, _ => rfl
    | 4, _ => rfl
    | 5, _ => rfl
    | 6, _ => rfl
  have e1 : byteAt (l ++ [true]) (l.length / 8) = (List.range 8).foldl (fun n k => 2 * n + (if k < l.length % 8 then ([l.getD (8 * (l.length / 8)) false, l.getD (8 * (l.length / 8) + 1) false, l.getD (8 * (l.length / 8) + 2) false, l.getD (8 * (l.length / 8) + 3) false,
      l.getD (8 * (l.length / 8) + 4) false, l.getD (8 * (l.length / 8) + 5) false, l.getD (8 * (l.length / 8) + 6) false, false].getD k false) else if k = l.length % 8 then true else false).toNat) 0 := by
    unfold byteAt
    refine fold8_congr _ _ fun k hk => ?_
    rw [getD_snoc]
    by_cases h : k < l.length % 8
    · rw [if_pos (by omega), if_pos h, hlist k (by omega)]
    · rw [if_neg (by omega), if_neg h]
      by_cases h2 : k = l.length % 8
      · rw [if_pos (by omega), if_pos h2]
      · rw [if_neg (by omega), if_neg h2]
  have e2 : byteAt l (l.length / 8) = (List.range 8).foldl (fun n k => 2 * n + (if k < l.length % 8 then ([l.getD (8 * (l.length / 8)) false, l.getD (8 * (l.length / 8) + 1) false, l.getD (8 * (l.length / 8) + 2) false, l.getD (8 * (l.length / 8) + 3) false,
      l.getD (8 * (l.length / 8) + 4) false, l.getD (8 * (l.length / 8) + 5) false, l.getD (8 * (l.length / 8) + 6) false, false].getD k false) else false).toNat) 0 := by
    unfold byteAt
    refine fold8_congr _ _ fun k hk => ?_
    by_cases h : k < l.length % 8
    · rw [if_pos h, hlist k (by omega)]
    · rw [if_neg h, List.getD, List.getElem?_eq_none (by omega)]
      rfl
  rw [e1, e2]
  exact e

theorem byteAt_end (l : List Bool) (i : Nat) (h : l.length ≤ 8 * i) : byteAt l i = 0 := by
  have : byteAt l i = (List.range 8).foldl (fun n k => 2 * n + (false).toNat) 0 := by
    unfold byteAt
    refine fold8_congr _ (fun _ => false) fun k hk => ?_
    rw [List.getD, List.getElem?_eq_none (by omega)]; rfl
  rw [this]; rfl

/-- One bit more, behind whole bytes: a byte more. -/
theorem pack_snoc_new (l : List Bool) (x : Bool) (h : l.length % 8 = 0) : pack (l ++ [x]) = pack l ++ [byteAt (l ++ [x]) (l.length / 8)] := by
  unfold pack
  have h1 : ((l ++ [x]).length + 7) / 8 = (l.length + 7) / 8 + 1 := by simp; omega
  rw [h1, List.range_succ, List.map_append, List.map_singleton]
  have h2 : (l.length + 7) / 8 = l.length / 8 := by omega
  rw [h2]
  congr 1
  refine List.map_congr_left fun i hi => ?_
  have := List.mem_range.1 hi
  exact byteAt_snoc_other l x i (by omega)

/-- One bit more, in the last byte. -/
theorem pack_snoc_old (l : List Bool) (x : Bool) (h : l.length % 8 ≠ 0) : pack (l ++ [x]) = (pack l).set (l.length / 8) (byteAt (l ++ [x]) (l.length / 8)) := by
  unfold pack
  have h1 : ((l ++ [x]).length + 7) / 8 = (l.length + 7) / 8 := by simp; omega
  rw [h1]
  apply List.ext_getElem?
  intro j
  rw [List.getElem?_set]
  by_cases hj : j < (l.length + 7) / 8
  · by_cases he : l.length / 8 = j
    · subst he; simp [hj]
    · rw [if_neg he]
      simp [List.getElem?_map, List.getElem?_range hj, byteAt_snoc_other l x j (fun e => he e.symm)]
  · have hn : ¬ (l.length / 8 = j) := by omega
    rw [if_neg hn]
    simp [List.getElem?_map, List.getElem?_eq_none (l := List.range ((l.length + 7) / 8)) (i := j) (by simp; omega)]


theorem pack_set_same (l : List Bool) (i : Nat) : (pack l).set i (byteAt l i) = pack l := by
  apply List.ext_getElem?
  intro j
  rw [List.getElem?_set]
  by_cases he : i = j
  · subst he
    rw [if_pos rfl]
    by_cases h : i < (pack l).length
    · rw [if_pos h]
      simp only [pack, List.getElem?_map]
      rw [List.getElem?_range (by simpa [pack] using h)]; rfl
    · rw [if_neg h, List.getElem?_eq_none (by omega)]
  · rw [if_neg he]

/-- The lowest k bits of a number, the highest first. -/
def numBits (x k : Nat) : List Bool := (List.range k).map fun i => x / 2 ^ (k - 1 - i) % 2 == 1
theorem numBits_length (x k : Nat) : (numBits x k).length = k := by simp [numBits]
theorem numBits_take (x k i : Nat) (h : i < k) : (numBits x k).take (i + 1) = (numBits x k).take i ++ [x / 2 ^ (k - 1 - i) % 2 == 1] := by
  rw [List.take_add_one]
  congr 1
  simp only [numBits, List.getElem?_map]
  rw [List.getElem?_range h]; rfl

theorem numBits_succ (x k : Nat) : numBits x (k + 1) = numBits (x / 2) k ++ [x % 2 == 1] := by
  simp only [numBits, List.range_succ, List.map_append, List.map_singleton]
  congr 1
  · refine List.map_congr_left fun i hi => ?_
    have := List.mem_range.1 hi
    rw [show k + 1 - 1 - i = (k - 1 - i) + 1 from by omega, Nat.pow_succ, Nat.mul_comm, Nat.div_div_eq_div_mul]
  · simp

/-- n ones, and a nought. -/
def onesBits (n : Nat) : List Bool := List.replicate n true ++ [false]

/-- The bit number j of bytes, the highest of each first. -/
def bitAt (bs : List Nat) (j : Nat) : Bool := bs.getD (j / 8) 0 / 2 ^ (7 - j % 8) % 2 == 1
/-- The number of so many bits from one on, modulo 2^64. -/
def valAt (bs : List Nat) (at_ : Nat) : Nat → Nat
  | 0 => 0
  | k + 1 => (2 * valAt bs at_ k + (bitAt bs (at_ + k)).toNat) % 18446744073709551616
theorem valAt_lt (bs : List Nat) (at_ k : Nat) : valAt bs at_ k < 18446744073709551616 := by
  cases k with
  | zero => simp [valAt]
  | succ k => simp only [valAt]; omega

theorem and_bit : ∀ (b : Fin 256) (k : Fin 8), (decide ((b.1 &&& (128 >>> k.1)) ≠ 0)) = (b.1 / 2 ^ (7 - k.1) % 2 == 1) := by decide +kernel


theorem fold_lt (f : Nat → Bool) (j : Nat) : (List.range j).foldl (fun n k => 2 * n + (f k).toNat) 0 < 2 ^ j := by
  induction j with
  | zero => simp
  | succ j ih =>
    rw [List.range_succ, List.foldl_append, Nat.pow_succ]
    have : (f j).toNat ≤ 1 := by cases f j <;> decide
    simp only [List.foldl_cons, List.foldl_nil]
    omega
end Go.Th
