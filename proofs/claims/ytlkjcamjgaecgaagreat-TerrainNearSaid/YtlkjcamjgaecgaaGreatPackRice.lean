/-
  Texts in one: RiceSpec, RiceA, RiceB, RiceC, RiceD, RiceE, RiceF, RiceR, RiceS, RiceT.
-/
import Derived.Test.YtlkjcamjgaecgaaGreatPackBits
import Derived.Test.YtlkjcamjgaecgaaGreatRows
import Derived.Laws.BitsAllLaws
import Derived.BigQuiet
import Derived.Deep.RegionHeld3
import Derived.Deep.RegionWith
import Derived.RangeFuncFrom
import Derived.RangeFuncNested
import Derived.RangeFuncBox
import Derived.RangeFuncBound
import Derived.RangeFuncCalls
import Derived.RangeFuncLeaves
import Derived.Shelf.Abstract
import Derived.Shelf.RegionOpen
import Derived.WalkKit
import Derived.OwnWalkIn
import Derived.TacticsInMore
import Derived.LoopNIn
import Derived.LoopIn
set_option linter.unusedVariables false
set_option linter.unusedSimpArgs false

/-
  Folded numbers, their codes, rows of them, and how they are read: plain.
-/
namespace Go.Th

/-! ### Numbers folded -/
/-- A number with a sign as one without. -/
def fold (x : Int) : Nat := if x < 0 then (-2 * x - 1).toNat else (2 * x).toNat
/-- The number that was folded. -/
def unfold (n : Nat) : Int := if n % 2 = 0 then (n / 2 : Nat) else -((n / 2 : Nat) : Int) - 1

theorem fold_neg (x : Int) (h : x < 0) : (fold x : Int) = -2 * x - 1 := by simp only [fold, if_pos h]; omega
theorem fold_pos (x : Int) (h : ¬ x < 0) : (fold x : Int) = 2 * x := by simp only [fold, if_neg h]; omega
theorem unfold_fold (x : Int) : unfold (fold x) = x := by
  by_cases h : x < 0
  · have := fold_neg x h
    unfold unfold; rw [if_neg (by omega)]; omega
  · have := fold_pos x h
    unfold unfold; rw [if_pos (by omega)]; omega
theorem fold_unfold (n : Nat) : fold (unfold n) = n := by
  unfold unfold
  split
  · have := fold_pos ((n / 2 : Nat) : Int) (by omega); omega
  · have := fold_neg (-((n / 2 : Nat) : Int) - 1) (by omega); omega
theorem fold_inj (x y : Int) (h : fold x = fold y) : x = y := by rw [← unfold_fold x, ← unfold_fold y, h]
/-- Has a number room in a code? -/
def Rm (x : Int) : Prop := -65536 ≤ x ∧ x ≤ 65535
theorem rm_def {x : Int} (h : Rm x) : -65536 ≤ x ∧ x ≤ 65535 := h
theorem fold_room (x : Int) (h : Rm x) : fold x < 131072 := by
  obtain ⟨h1, h2⟩ := h
  by_cases h : x < 0
  · have := fold_neg x h; omega
  · have := fold_pos x h; omega
theorem unfold_room (n : Nat) (h : n < 131072) : Rm (unfold n) := by
  unfold unfold Rm
  split <;> omega
theorem fold_max (x : Int) (h1 : -2147483648 ≤ x) (h2 : x ≤ 2147483647) : fold x < 4294967296 := by
  by_cases h : x < 0
  · have := fold_neg x h; omega
  · have := fold_pos x h; omega
theorem unfold_range (n : Nat) (h : n < 4294967296) : -2147483648 ≤ unfold n ∧ unfold n ≤ 2147483647 := by
  unfold unfold
  split <;> omega

/-! ### Codes -/
def code (n k : Nat) : List Bool := if n / 2 ^ k < 20 then onesBits (n / 2 ^ k) ++ numBits n k else onesBits 20 ++ numBits n 17
def size (n k : Nat) : Nat := if n / 2 ^ k < 20 then n / 2 ^ k + 1 + k else 38

theorem onesBits_length (n : Nat) : (onesBits n).length = n + 1 := by simp [onesBits]
theorem code_length (n k : Nat) : (code n k).length = size n k := by
  unfold code size
  split
  · rw [List.length_append, onesBits_length, numBits_length]
  · rw [List.length_append, onesBits_length, numBits_length]
theorem size_le (n k : Nat) (hk : k ≤ 16) : size n k ≤ 38 := by unfold size; generalize n / 2 ^ k = q; split <;> omega
theorem size_pos (n k : Nat) : 0 < size n k := by unfold size; generalize n / 2 ^ k = q; split <;> omega

def codes (l : List Int) (k : Nat) : List Bool := l.flatMap fun x => code (fold x) k
def sizes (l : List Int) (k : Nat) : Nat := (codes l k).length

theorem codes_nil (k : Nat) : codes [] k = [] := rfl
theorem codes_snoc (l : List Int) (x : Int) (k : Nat) : codes (l ++ [x]) k = codes l k ++ code (fold x) k := by simp [codes]
theorem sizes_nil (k : Nat) : sizes [] k = 0 := rfl
theorem sizes_snoc (l : List Int) (x : Int) (k : Nat) : sizes (l ++ [x]) k = sizes l k + size (fold x) k := by
  simp only [sizes, codes_snoc, List.length_append, code_length]
theorem sizes_le (l : List Int) (k : Nat) (hk : k ≤ 16) : sizes l k ≤ 38 * l.length := by
  induction l with
  | nil => simp [sizes_nil]
  | cons x r ih =>
    have h : sizes (x :: r) k = size (fold x) k + sizes r k := by simp [sizes, codes, code_length]
    have := size_le (fold x) k hk
    simp only [List.length_cons]
    omega
theorem take_snoc {α : Type} (xs : List α) (i : Nat) (h : i < xs.length) : xs.take (i + 1) = xs.take i ++ [xs[i]] := by
  rw [List.take_add_one, List.getElem?_eq_getElem h]; rfl
theorem codes_split (l : List Int) (k i : Nat) (h : i < l.length) : codes l k = codes (l.take i) k ++ (code (fold l[i]) k ++ codes (l.drop (i + 1)) k) := by
  have e : l = l.take i ++ (l[i] :: l.drop (i + 1)) := by simp
  conv => lhs; rw [e]
  simp only [codes, List.flatMap_append, List.flatMap_cons]

/-- The parameter with the fewest bits, up to j. -/
def bestTo (l : List Int) : Nat → Nat
  | 0 => 0
  | j + 1 => if sizes l (j + 1) < sizes l (bestTo l j) then j + 1 else bestTo l j
def best (l : List Int) : Nat := bestTo l 16
theorem bestTo_le (l : List Int) (j : Nat) : bestTo l j ≤ j := by
  induction j with
  | zero => exact Nat.le_refl _
  | succ j ih => unfold bestTo; split <;> omega
theorem best_le (l : List Int) : best l ≤ 16 := bestTo_le l 16
theorem bestTo_yes (l : List Int) (j : Nat) (h : sizes l (j + 1) < sizes l (bestTo l j)) : bestTo l (j + 1) = j + 1 := by
  show (if _ then _ else _) = _; rw [if_pos h]
theorem bestTo_no (l : List Int) (j : Nat) (h : ¬ sizes l (j + 1) < sizes l (bestTo l j)) : bestTo l (j + 1) = bestTo l j := by
  show (if _ then _ else _) = _; rw [if_neg h]
theorem best_nil : best [] = 0 := by decide

def row (l : List Int) : List Bool := numBits (best l) 5 ++ codes l (best l)
theorem row_length (l : List Int) : (row l).length = 5 + sizes l (best l) := by simp [row, numBits_length, sizes]

/-! ### What is read -/
/-- So many bits from one on. -/
def seg (bs : List Nat) (at_ n : Nat) : List Bool := (List.range n).map fun j => bitAt bs (at_ + j)
theorem seg_length (bs : List Nat) (at_ n : Nat) : (seg bs at_ n).length = n := by simp [seg]
theorem seg_get (bs : List Nat) (at_ n j : Nat) (h : j < n) : (seg bs at_ n)[j]? = some (bitAt bs (at_ + j)) := by
  simp [seg, h]
theorem seg_add (bs : List Nat) (at_ m n : Nat) : seg bs at_ (m + n) = seg bs at_ m ++ seg bs (at_ + m) n := by
  unfold seg
  rw [List.range_add, List.map_append, List.map_map]
  congr 1
  refine List.map_congr_left fun j _ => ?_
  simp [Nat.add_assoc]

/-- Do these bits come next? -/
def Here (bs : List Nat) (at_ : Nat) (l : List Bool) : Prop := at_ + l.length ≤ 8 * bs.length ∧ seg bs at_ l.length = l
theorem here_app (bs : List Nat) (at_ : Nat) (l m : List Bool) : Here bs at_ (l ++ m) ↔ Here bs at_ l ∧ Here bs (at_ + l.length) m := by
  unfold Here
  rw [List.length_append, seg_add]
  constructor
  · rintro ⟨h1, h2⟩
    have := List.append_inj h2 (by rw [seg_length])
    exact ⟨⟨by omega, this.1⟩, by omega, this.2⟩
  · rintro ⟨⟨h1, h2⟩, h3, h4⟩
    exact ⟨by omega, by rw [h2, h4]⟩
theorem here_nil (bs : List Nat) (at_ : Nat) (h : at_ ≤ 8 * bs.length) : Here bs at_ [] := ⟨by simpa using h, rfl⟩
theorem here_get {bs : List Nat} {at_ : Nat} {l : List Bool} (h : Here bs at_ l) (j : Nat) (hj : j < l.length) : bitAt bs (at_ + j) = l[j] := by
  have h1 := seg_get bs at_ l.length j hj
  rw [h.2, List.getElem?_eq_getElem hj] at h1
  exact (Option.some.inj h1).symm

theorem here_ones (bs : List Nat) (at_ q : Nat) : Here bs at_ (onesBits q) ↔ at_ + q < 8 * bs.length ∧ (∀ j, j < q → bitAt bs (at_ + j) = true) ∧ bitAt bs (at_ + q) = false := by
  constructor
  · intro h
    have hl := h.1
    rw [onesBits_length] at hl
    refine ⟨by omega, fun j hj => ?_, ?_⟩
    · rw [here_get h j (by rw [onesBits_length]; omega)]
      simp only [onesBits]
      rw [List.getElem_append_left (by simpa using hj)]
      simp
    · rw [here_get h q (by rw [onesBits_length]; omega)]
      simp [onesBits]
  · rintro ⟨h1, h2, h3⟩
    refine ⟨by rw [onesBits_length]; omega, ?_⟩
    rw [onesBits_length, seg_add]
    unfold onesBits
    congr 1
    · apply List.ext_getElem?
      intro j
      by_cases hj : j < q
      · rw [seg_get _ _ _ _ hj, h2 j hj, List.getElem?_replicate, if_pos hj]
      · rw [List.getElem?_eq_none (by rw [seg_length]; omega), List.getElem?_eq_none (by simp; omega)]
    · simp [seg, h3]
theorem ones_only {bs : List Nat} {at_ q r : Nat} (h : Here bs at_ (onesBits q)) (k : Here bs at_ (onesBits r)) : q = r := by
  rw [here_ones] at h k
  obtain ⟨_, h2, h3⟩ := h
  obtain ⟨_, k2, k3⟩ := k
  rcases Nat.lt_trichotomy q r with e | e | e
  · rw [k2 q e] at h3; cases h3
  · exact e
  · rw [h2 r e] at k3; cases k3

theorem valAt_small (bs : List Nat) (at_ k : Nat) (hk : k ≤ 64) : valAt bs at_ k < 2 ^ k := by
  induction k with
  | zero => simp [valAt]
  | succ k ih =>
    have := ih (by omega)
    have hb : (bitAt bs (at_ + k)).toNat ≤ 1 := by cases bitAt bs (at_ + k) <;> decide
    have hp : 2 ^ (k + 1) ≤ 2 ^ 64 := Nat.pow_le_pow_right (by decide) hk
    have h64 : (2 : Nat) ^ 64 = 18446744073709551616 := by decide
    rw [Nat.pow_succ] at hp ⊢
    simp only [valAt]
    omega
theorem bits_valAt (bs : List Nat) (at_ k : Nat) (hk : k ≤ 64) : numBits (valAt bs at_ k) k = seg bs at_ k := by
  induction k with
  | zero => rfl
  | succ k ih =>
    have hs := valAt_small bs at_ k (by omega)
    have hb : (bitAt bs (at_ + k)).toNat ≤ 1 := by cases bitAt bs (at_ + k) <;> decide
    have hp : 2 ^ (k + 1) ≤ 2 ^ 64 := Nat.pow_le_pow_right (by decide) hk
    have h64 : (2 : Nat) ^ 64 = 18446744073709551616 := by decide
    rw [Nat.pow_succ] at hp
    have e : valAt bs at_ (k + 1) = 2 * valAt bs at_ k + (bitAt bs (at_ + k)).toNat := by simp only [valAt]; omega
    rw [numBits_succ, e, seg_add, show (2 * valAt bs at_ k + (bitAt bs (at_ + k)).toNat) / 2 = valAt bs at_ k from by omega, ih (by omega)]
    congr 1
    simp only [seg, List.range_one, List.map_cons, List.map_nil, Nat.add_zero, List.cons.injEq, and_true]
    cases bitAt bs (at_ + k)
    · rw [Bool.eq_iff_iff]; simp
    · rw [Bool.eq_iff_iff]; simp
theorem numBits_mod (n k : Nat) : numBits n k = numBits (n % 2 ^ k) k := by
  induction k generalizing n with
  | zero => rfl
  | succ k ih =>
    rw [numBits_succ, numBits_succ, ih (n / 2), ih (n % 2 ^ (k + 1) / 2)]
    have e1 : n % 2 ^ (k + 1) / 2 % 2 ^ k = n / 2 % 2 ^ k := by
      rw [Nat.pow_succ, Nat.mul_comm, Nat.mod_mul_right_div_self, Nat.mod_mod]
    have e2 : n % 2 ^ (k + 1) % 2 = n % 2 := Nat.mod_mod_of_dvd _ ⟨2 ^ k, by rw [Nat.pow_succ, Nat.mul_comm]⟩
    rw [e1, e2]
theorem numBits_only {m n k : Nat} (hm : m < 2 ^ k) (hn : n < 2 ^ k) (h : numBits m k = numBits n k) : m = n := by
  induction k generalizing m n with
  | zero => simp at hm hn; omega
  | succ k ih =>
    rw [numBits_succ, numBits_succ] at h
    rw [Nat.pow_succ] at hm hn
    have hh := List.append_inj h (by rw [numBits_length, numBits_length])
    have h1 := ih (m := m / 2) (n := n / 2) (by omega) (by omega) hh.1
    have h2 := hh.2
    simp only [List.cons.injEq, and_true] at h2
    rw [Bool.eq_iff_iff] at h2
    simp only [beq_iff_eq] at h2
    omega
/-- The lowest bits of a number come next just if the number of so many bits is its rest. -/
theorem here_num (bs : List Nat) (at_ n k : Nat) (hk : k ≤ 64) : Here bs at_ (numBits n k) ↔ at_ + k ≤ 8 * bs.length ∧ valAt bs at_ k = n % 2 ^ k := by
  unfold Here
  rw [numBits_length, ← bits_valAt bs at_ k hk]
  constructor
  · rintro ⟨h1, h2⟩
    refine ⟨h1, numBits_only (valAt_small bs at_ k hk) (Nat.mod_lt _ (Nat.pow_pos (by decide))) ?_⟩
    rw [h2, numBits_mod]
  · rintro ⟨h1, h2⟩
    exact ⟨h1, by rw [h2, ← numBits_mod]⟩

/-- A code comes next: by few ones .. -/
theorem here_few (bs : List Nat) (at_ n k : Nat) (hk : k ≤ 16) (h : n / 2 ^ k < 20) : Here bs at_ (code n k) ↔ Here bs at_ (onesBits (n / 2 ^ k)) ∧ at_ + n / 2 ^ k + 1 + k ≤ 8 * bs.length ∧ valAt bs (at_ + n / 2 ^ k + 1) k = n % 2 ^ k := by
  unfold code
  rw [if_pos h, here_app, onesBits_length, here_num _ _ _ _ (by omega)]
  simp only [Nat.add_assoc]
/-- .. by many. -/
theorem here_many (bs : List Nat) (at_ n k : Nat) (h : ¬ n / 2 ^ k < 20) (hn : n < 131072) : Here bs at_ (code n k) ↔ Here bs at_ (onesBits 20) ∧ at_ + 21 + 17 ≤ 8 * bs.length ∧ valAt bs (at_ + 21) 17 = n := by
  unfold code
  rw [if_neg h, here_app, onesBits_length, here_num _ _ _ _ (by omega), show (2 : Nat) ^ 17 = 131072 by decide, Nat.mod_eq_of_lt hn]
theorem code_ones {bs : List Nat} {at_ n k : Nat} (hk : k ≤ 16) (h : Here bs at_ (code n k)) : Here bs at_ (onesBits (if n / 2 ^ k < 20 then n / 2 ^ k else 20)) := by
  unfold code at h
  by_cases e : n / 2 ^ k < 20
  · rw [if_pos e] at h ⊢; exact ((here_app _ _ _ _).1 h).1
  · rw [if_neg e] at h ⊢; exact ((here_app _ _ _ _).1 h).1
/-- No two codes come next. -/
theorem code_only {bs : List Nat} {at_ m n k : Nat} (hk : k ≤ 16) (hm : m < 131072) (hn : n < 131072) (h : Here bs at_ (code m k)) (h' : Here bs at_ (code n k)) : m = n := by
  have e := ones_only (code_ones hk h) (code_ones hk h')
  have hp : 0 < 2 ^ k := Nat.pow_pos (by decide)
  have dm := Nat.div_add_mod m (2 ^ k)
  have dn := Nat.div_add_mod n (2 ^ k)
  by_cases c : m / 2 ^ k < 20
  · by_cases c' : n / 2 ^ k < 20
    · rw [if_pos c, if_pos c'] at e
      rw [here_few _ _ _ _ hk c] at h
      rw [here_few _ _ _ _ hk c'] at h'
      have v := h.2.2
      have v' := h'.2.2
      rw [e] at v dm
      rw [v] at v'
      rw [v'] at dm
      omega
    · rw [if_pos c, if_neg c'] at e; omega
  · by_cases c' : n / 2 ^ k < 20
    · rw [if_neg c, if_pos c'] at e; omega
    · rw [here_many _ _ _ _ c hm] at h
      rw [here_many _ _ _ _ c' hn] at h'
      omega

/-- Of n numbers that have room a row comes next. -/
structure RowAt (bs : List Nat) (at_ n : Nat) (l : List Int) : Prop where
  len : l.length = n
  room : ∀ x ∈ l, Rm x
  here : Here bs at_ (row l)

theorem RowAt.num {bs : List Nat} {at_ n : Nat} {l : List Int} (h : RowAt bs at_ n l) : at_ + 5 ≤ 8 * bs.length ∧ valAt bs at_ 5 = best l := by
  have h1 := ((here_app _ _ _ _).1 h.here).1
  rw [here_num _ _ _ _ (by omega), show (2 : Nat) ^ 5 = 32 by decide] at h1
  have := best_le l
  refine ⟨h1.1, ?_⟩
  rw [h1.2]; omega
theorem RowAt.codes {bs : List Nat} {at_ n : Nat} {l : List Int} (h : RowAt bs at_ n l) : Here bs (at_ + 5) (codes l (best l)) := by
  have h1 := ((here_app _ _ _ _).1 h.here).2
  rwa [numBits_length] at h1
theorem here_next {bs : List Nat} {at_ k : Nat} {l : List Int} (h : Here bs at_ (codes l k)) (i : Nat) (hi : i < l.length) : Here bs (at_ + sizes (l.take i) k) (code (fold l[i]) k) := by
  rw [codes_split l k i hi, here_app] at h
  exact ((here_app _ _ _ _).1 h.2).1
theorem rowAt_of {bs : List Nat} {at_ n k : Nat} {l : List Int} (hl : l.length = n) (hr : ∀ x ∈ l, Rm x) (h5 : at_ + 5 ≤ 8 * bs.length) (hv : valAt bs at_ 5 = k) (hc : Here bs (at_ + 5) (codes l k)) (hb : best l = k) : RowAt bs at_ n l := by
  refine ⟨hl, hr, ?_⟩
  unfold row
  rw [here_app, numBits_length, hb]
  refine ⟨?_, hc⟩
  rw [here_num _ _ _ _ (by omega), show (2 : Nat) ^ 5 = 32 by decide]
  have := best_le l
  exact ⟨h5, by omega⟩
theorem here_pack (l r : List Bool) : (∀ (bs : List Nat) (at_ : Nat), bs = pack (l ++ r) → at_ = 0 → (∀ j, j < l.length → bitAt bs j = l.getD j false) → Here bs at_ l) := by
  rintro bs at_ rfl rfl h
  refine ⟨by rw [pack_length]; simp; omega, ?_⟩
  apply List.ext_getElem?
  intro j
  by_cases hj : j < l.length
  · rw [seg_get _ _ _ _ hj, Nat.zero_add, h j hj, List.getD, List.getElem?_eq_getElem hj]; rfl
  · rw [List.getElem?_eq_none (by rw [seg_length]; omega), List.getElem?_eq_none (by omega)]
end Go.Th

/-
  Folded numbers and sizes: the code's.
-/
namespace Go.Proofs.YtlkjcamjgaecgaaGreat
open Go Go.RowKit Go.Th

/-- What a call answers, whatever the world is, which stays as it was. -/
abbrev Pure (f : Nat) (args : Array Value) (v : Value) : Prop := ∀ w : World, Calls Tryz.prog f args w fun e w' => e = .returned v ∧ w = w'

theorem xor_all32 (a : Nat) (ha : a < 4294967296) : bits .xor .u32 (a : Int) 4294967295 = ((4294967295 - a : Nat) : Int) := by
  show IntKind.u32.wrap ((BitVec.ofInt 32 (a : Int) ^^^ BitVec.ofInt 32 4294967295).toNat : Int) = _
  have h1 : BitVec.ofInt 32 4294967295 = BitVec.allOnes 32 := by decide
  rw [h1, BitVec.xor_allOnes, BitVec.toNat_not, ofInt_u32 a ha, IntKind.wrap_u32']
  omega
theorem xor_zero32 (a : Nat) (ha : a < 4294967296) : bits .xor .u32 (a : Int) 0 = (a : Int) := by
  have := u32_xor_nat a 0 ha (by decide)
  simpa using this
theorem xor_alli (a : Nat) (ha : a < 2147483648) : bits .xor .i32 (a : Int) (-1) = -(a : Int) - 1 := by
  show IntKind.i32.wrap ((BitVec.ofInt 32 (a : Int) ^^^ BitVec.ofInt 32 (-1)).toNat : Int) = _
  have h1 : BitVec.ofInt 32 (-1) = BitVec.allOnes 32 := by decide
  rw [h1, BitVec.xor_allOnes, BitVec.toNat_not, ofInt_u32 a (by omega)]
  simp [IntKind.wrap, IntKind.bits, IntKind.signed]
  omega
theorem xor_zeroi (a : Nat) (ha : a < 2147483648) : bits .xor .i32 (a : Int) 0 = (a : Int) := by
  show IntKind.i32.wrap ((BitVec.ofInt 32 (a : Int) ^^^ BitVec.ofInt 32 0).toNat : Int) = _
  have h1 : BitVec.ofInt 32 0 = 0#32 := by decide
  rw [h1, BitVec.xor_zero, ofInt_u32 a (by omega)]
  simp [IntKind.wrap, IntKind.bits, IntKind.signed]
  omega

theorem nat_quo (n k : Nat) : (n : Int) / 2 ^ k = ((n / 2 ^ k : Nat) : Int) := by simp

theorem fold_go (x : Int) (h1 : -2147483648 ≤ x) (h2 : x ≤ 2147483647) : Pure 129 #[.int .i32 x] (.int .u32 (fold x : Nat)) := by
  intro w
  go_enter Tryz.func129, Tryz.ntmps129
  go_wp2
  go_ret
  refine ⟨ret_int ?_, rfl⟩
  by_cases hx : x < 0
  · have hf := fold_neg x hx
    have e1 : x / 2147483648 % 4294967296 = 4294967295 := by omega
    obtain ⟨a, ha⟩ := Int.eq_ofNat_of_zero_le (by omega : 0 ≤ x % 4294967296 * 2 % 4294967296)
    rw [e1, ha, xor_all32 a (by omega)]
    omega
  · have hf := fold_pos x hx
    have e1 : x / 2147483648 % 4294967296 = 0 := by omega
    obtain ⟨a, ha⟩ := Int.eq_ofNat_of_zero_le (by omega : 0 ≤ x % 4294967296 * 2 % 4294967296)
    rw [e1, ha, xor_zero32 a (by omega)]
    omega

theorem unfold_go (n : Nat) (h : n < 4294967296) : Pure 136 #[.int .u32 n] (.int .i32 (unfold n)) := by
  intro w
  go_enter Tryz.func136, Tryz.ntmps136
  go_wp2
  go_ret
  refine ⟨ret_int ?_, rfl⟩
  have e : bits BinOp.and IntKind.u32 (n : Int) 1 = ((n % 2 : Nat) : Int) := by
    have := u32_and_nat n 1 h (by decide)
    rwa [nat_mask1] at this
  have e2 : ((n : Int) / 2) = ((n / 2 : Nat) : Int) := by omega
  rw [e, e2]
  unfold unfold
  by_cases h0 : n % 2 = 0
  · rw [if_pos h0, h0, show wrap32 (-wrap32 ((0 : Nat) : Int)) = 0 by decide +kernel]
    exact xor_zeroi (n / 2) (by omega)
  · have h1 : n % 2 = 1 := by omega
    rw [if_neg h0, h1, show wrap32 (-wrap32 ((1 : Nat) : Int)) = -1 by decide +kernel]
    exact xor_alli (n / 2) (by omega)

theorem param_yes (k : Int) (h1 : 0 ≤ k) (h2 : k ≤ 16) : Pure 130 #[.int .i64 k] (.bool true) := by
  intro w
  go_enter Tryz.func130, Tryz.ntmps130
  go_wp2
  go_ret
  exact ⟨rfl, rfl⟩
theorem param_no (k : Int) (h1 : 0 ≤ k) (h2 : 16 < k) : Pure 130 #[.int .i64 k] (.bool false) := by
  intro w
  have h3 : ¬ k ≤ 16 := by omega
  go_enter Tryz.func130, Tryz.ntmps130
  go_wp2
  go_ret
  exact ⟨rfl, rfl⟩

theorem wide_go (n k : Nat) (hn : n < 4294967296) (hk : k ≤ 16) : Pure 131 #[.int .u32 n, .int .i64 k] (.bool (decide (20 ≤ n / 2 ^ k))) := by
  intro w
  go_enter Tryz.func131, Tryz.ntmps131
  go_wp2
  go_ret
  refine ⟨ret_bool ?_, rfl⟩
  rw [nat_quo]
  generalize n / 2 ^ k = q
  rw [Bool.eq_iff_iff]; simp; omega

theorem size_go (n k : Nat) (hn : n < 4294967296) (hk : k ≤ 16) : Pure 138 #[.int .u32 n, .int .i64 k] (.int .i64 (size n k : Nat)) := by
  intro w
  have C1 := param_yes (k : Int) (by omega) (by omega)
  have C2 := wide_go n k hn hk
  by_cases hw : n / 2 ^ k < 20
  · rw [decide_eq_false (by omega)] at C2
    have HS := Lib.hid (show size n k = n / 2 ^ k + 1 + k by unfold size; rw [if_pos hw])
    obtain ⟨q, hq⟩ : ∃ q, q = n / 2 ^ k := ⟨_, rfl⟩
    have hq' : (n : Int) / 2 ^ k = (q : Int) := by rw [hq, nat_quo]
    rw [← hq] at hw HS
    clear hq
    go_enter Tryz.func138, Tryz.ntmps138
    go_wp2_with fail
    refine (C1 _).mono ?_
    rintro e w1 ⟨rfl, rfl⟩
    go_wp2_with fail
    refine (C2 _).mono ?_
    rintro e w1 ⟨rfl, rfl⟩
    go_wp2_with fail
    go_ret
    exact ⟨ret_int (by rw [HS.out]; omega), rfl⟩
  · rw [decide_eq_true (by omega)] at C2
    have HS := Lib.hid (show size n k = 38 by unfold size; rw [if_neg hw])
    clear hw
    go_enter Tryz.func138, Tryz.ntmps138
    go_wp2_with fail
    refine (C1 _).mono ?_
    rintro e w1 ⟨rfl, rfl⟩
    go_wp2_with fail
    refine (C2 _).mono ?_
    rintro e w1 ⟨rfl, rfl⟩
    go_wp2_with fail
    go_ret
    exact ⟨ret_int (by rw [HS.out]; rfl), rfl⟩

theorem put_go (n k : Nat) (hn : n < 4294967296) (hk : k ≤ 16) (pb po base : Nat) (v : Value) (l : List Bool) (w : World) (h : WInv w pb po base v l) (hl : l.length ≤ 1000000) (hb : base ≤ w.heap.size) :
    Calls Tryz.prog 120 #[.pointer (some ⟨pb, po, none⟩), .int .u32 n, .int .i64 k] w fun e w' => e = .returned (.tuple #[]) ∧ ∃ v', WInv w' pb po base v' (l ++ code n k) ∧ WGo pb w w' v v' := by
  have C1 := param_yes (k : Int) (by omega) (by omega)
  have C2 := wide_go n k hn hk
  by_cases hw : n / 2 ^ k < 20
  · rw [decide_eq_false (by omega)] at C2
    have HC := Lib.hid (show code n k = onesBits (n / 2 ^ k) ++ numBits n k by unfold code; rw [if_pos hw])
    obtain ⟨q, hq⟩ : ∃ q, q = n / 2 ^ k := ⟨_, rfl⟩
    have hq' : (n : Int) / 2 ^ k = (q : Int) := by rw [hq, nat_quo]
    rw [← hq] at hw HC
    clear hq
    go_enter Tryz.func120, Tryz.ntmps120
    go_wp2_with fail
    refine (C1 _).mono ?_
    rintro e w1 ⟨rfl, rfl⟩
    go_wp2_with fail
    refine (C2 _).mono ?_
    rintro e w1 ⟨rfl, rfl⟩
    clear C1 C2
    go_wp2_with fail
    refine (ones_any q (by omega) pb po base v l _ h (by omega) hb).mono ?_
    rintro e w1 ⟨rfl, v1, hW1, hG1⟩
    have hb1 := Nat.le_trans hb hG1.turned.size
    have hl1 : (l ++ onesBits q).length ≤ 1000100 := by rw [List.length_append, onesBits_length]; omega
    go_wp2_with fail
    refine (num_any n k (by omega) (by omega) pb po base v1 _ _ hW1 (by omega) hb1).mono ?_
    rintro e w2 ⟨rfl, v2, hW2, hG2⟩
    clear hW1 h
    go_wp2_with fail
    go_end0
    exact ⟨rfl, v2, by rw [HC.out, ← List.append_assoc]; exact hW2, hG1.trans hG2⟩
  · rw [decide_eq_true (by omega)] at C2
    have HC := Lib.hid (show code n k = onesBits 20 ++ numBits n 17 by unfold code; rw [if_neg hw])
    clear hw
    go_enter Tryz.func120, Tryz.ntmps120
    go_wp2_with fail
    refine (C1 _).mono ?_
    rintro e w1 ⟨rfl, rfl⟩
    go_wp2_with fail
    refine (C2 _).mono ?_
    rintro e w1 ⟨rfl, rfl⟩
    clear C1 C2
    go_wp2_with fail
    refine (ones_any 20 (by omega) pb po base v l _ h (by omega) hb).mono ?_
    rintro e w1 ⟨rfl, v1, hW1, hG1⟩
    have hb1 := Nat.le_trans hb hG1.turned.size
    have hl1 : (l ++ onesBits 20).length ≤ 1000100 := by rw [List.length_append, onesBits_length]; omega
    go_wp2_with fail
    refine (num_any n 17 (by omega) (by omega) pb po base v1 _ _ hW1 (by omega) hb1).mono ?_
    rintro e w2 ⟨rfl, v2, hW2, hG2⟩
    clear hW1 h
    go_wp2_with fail
    go_end0
    exact ⟨rfl, v2, by rw [HC.out, ← List.append_assoc]; exact hW2, hG1.trans hG2⟩

/-- Reading from a failed reader: nothing, and it has failed still. -/
theorem rnum_bad (pb po base : Nat) (k : Nat) (w : World) (h : RInv w pb po base (.slice none 0 0) [] 0 true) :
    Calls Tryz.prog 133 #[.pointer (some ⟨pb, po, none⟩), .int .i64 k] w fun e w' => e = .returned (.int .u64 0) ∧ RInv w' pb po base (.slice none 0 0) [] 0 true ∧ Turned (fun k => k = pb) w w' := by
  by_cases hk : k = 0
  · subst hk
    exact rnum_yes pb po base _ [] 0 true 0 w h (by simp)
  · exact rnum_no pb po base _ [] 0 true k w h (by simp; omega)
end Go.Proofs.YtlkjcamjgaecgaaGreat

/-
  A code read: the code's.
-/
namespace Go.Proofs.YtlkjcamjgaecgaaGreat
open Go Go.RowKit Go.Th

theorem or_code (q k v : Nat) (hk : k ≤ 16) (hq : q < 20) (hv : v < 2 ^ k) : bits BinOp.or IntKind.u32 (IntKind.u32.wrap (IntKind.u32.wrap (q : Int) * 2 ^ k)) (IntKind.u32.wrap (v : Int)) = ((q * 2 ^ k + v : Nat) : Int) := by
  have hp : 2 ^ k ≤ 2 ^ 16 := Nat.pow_le_pow_right (by decide) hk
  have h16 : (2 : Nat) ^ 16 = 65536 := by decide
  have hm : q * 2 ^ k ≤ 19 * 65536 := Nat.mul_le_mul (by omega) (by omega)
  have e1 : IntKind.u32.wrap (q : Int) = (q : Int) := by rw [IntKind.wrap_u32']; omega
  have e2 : (q : Int) * 2 ^ k = ((q * 2 ^ k : Nat) : Int) := by simp
  have e3 : IntKind.u32.wrap ((q * 2 ^ k : Nat) : Int) = ((q * 2 ^ k : Nat) : Int) := by rw [IntKind.wrap_u32']; omega
  have e4 : IntKind.u32.wrap (v : Int) = (v : Int) := by rw [IntKind.wrap_u32']; omega
  rw [e1, e2, e3, e4, u32_or_nat _ _ (by omega) (by omega)]
  have := Nat.shiftLeft_add_eq_or_of_lt (i := k) (b := v) hv q
  rw [Nat.shiftLeft_eq] at this
  rw [this]

theorem ret_ub {a b : Int} {p : Bool} (h : a = b) : Ending.returned (.tuple #[.int .u32 a, .bool p]) = .returned (.tuple #[.int .u32 b, .bool p]) := by rw [h]

set_option maxRecDepth 20000 in
theorem few_yes (n k q v : Nat) (hk : k ≤ 16) (hq : q < 20) (hn : n < 131072) (pb po base : Nat) (vr : Value) (bs : List Nat) (at_ : Nat) (w : World) (h : RInv w pb po base vr bs at_ false)
    (hones : Here bs at_ (onesBits q)) (hfit : at_ + q + 1 + k ≤ 8 * bs.length) (hv : valAt bs (at_ + q + 1) k = v) (hvk : v < 2 ^ k) (e : n = q * 2 ^ k + v) :
    Calls Tryz.prog 135 #[.pointer (some ⟨pb, po, none⟩), .int .i64 k] w fun e w' => e = .returned (.tuple #[.int .u32 n, .bool true]) ∧ RInv w' pb po base vr bs (at_ + q + 1 + k) false ∧ Turned (fun k => k = pb) w w' := by
  have C1 := param_yes (k : Int) (by omega) (by omega)
  obtain ⟨o1, o2, o3⟩ := (here_ones _ _ _).1 hones
  have O2 := Lib.hid o2; clear o2
  have hor := or_code q k v hk hq hvk
  rw [← e] at hor
  obtain ⟨N, hN⟩ : ∃ N : Int, N = (n : Int) := ⟨_, rfl⟩
  rw [← hN] at hor
  have hn' : N < 131072 := by omega
  have HN := Lib.hid hN; clear hN
  have HO := Lib.hid hor; clear hor
  clear hvk e hn
  go_enter Tryz.func135, Tryz.ntmps135
  go_wp2_with fail
  refine (C1 _).mono ?_
  rintro e w1 ⟨rfl, rfl⟩
  clear C1
  go_wp2_with fail
  refine (rones_yes pb po base vr bs at_ false q 20 _ h o1 O2.out o3 (by omega)).mono ?_
  rintro e w1 ⟨rfl, hR1, hT1⟩
  have C2 := rnum_yes pb po base vr bs (at_ + q + 1) false k w1.drew hR1.drew hfit
  rw [hv] at C2
  go_wp2_with fail
  refine wp_region_held_drew (S := (fun _ : World => True)) (by kernel_rfl) (trivial) (fun hHeld => ?_)
  refine wpAnyH_take (i := 0) (v := ?v1) rfl (by kernel_rfl) (by kernel_rfl) (by kernel_rfl) (fun _ _ _ h => h) (Or.inl ⟨by rfl, ?hy1⟩) hHeld ?rest1
  case hy1 => (intro w' hSw; (try dsimp only at hSw); go_simp; (try with_reducible rfl))
  try simp only [Act.put, List.setIfInBounds_toArray, List.set_cons_zero, List.set_cons_succ, List.getElem_toArray, List.getElem_cons_zero, List.getElem_cons_succ]
  refine wpAnyH_take (i := 1) (v := ?v2) rfl (by kernel_rfl) (by kernel_rfl) (by kernel_rfl) (fun _ _ _ h => h) (Or.inl ⟨by rfl, ?hy2⟩) hHeld ?rest2
  case hy2 => (intro w' hSw; (try dsimp only at hSw); go_simp; (try with_reducible rfl))
  try simp only [Act.put, List.setIfInBounds_toArray, List.set_cons_zero, List.set_cons_succ, List.getElem_toArray, List.getElem_cons_zero, List.getElem_cons_succ]
  refine wpAnyH_take (i := 2) (v := ?v3) rfl (by kernel_rfl) (by kernel_rfl) (by kernel_rfl) (fun _ _ _ h => h) (Or.inl ⟨by rfl, ?hy3⟩) hHeld ?rest3
  case hy3 => (intro w' hSw; (try dsimp only at hSw); go_simp; (try with_reducible rfl))
  try simp only [Act.put, List.setIfInBounds_toArray, List.set_cons_zero, List.set_cons_succ, List.getElem_toArray, List.getElem_cons_zero, List.getElem_cons_succ]
  refine wpAnyH_take (i := 3) (v := ?v4) rfl (by kernel_rfl) (by kernel_rfl) (by kernel_rfl) (fun _ _ _ h => h) (Or.inl ⟨by rfl, ?hy4⟩) hHeld ?rest4
  case hy4 => (intro w' hSw; (try dsimp only at hSw); go_simp; (try with_reducible rfl))
  try simp only [Act.put, List.setIfInBounds_toArray, List.set_cons_zero, List.set_cons_succ, List.getElem_toArray, List.getElem_cons_zero, List.getElem_cons_succ]
  refine wpAnyH_take (i := 4) (v := ?v5) rfl (by kernel_rfl) (by kernel_rfl) (by kernel_rfl) (fun _ _ _ h => h) (Or.inl ⟨by rfl, ?hy5⟩) hHeld ?rest5
  case hy5 => (intro w' hSw; (try dsimp only at hSw); go_simp; (try with_reducible rfl))
  try simp only [Act.put, List.setIfInBounds_toArray, List.set_cons_zero, List.set_cons_succ, List.getElem_toArray, List.getElem_cons_zero, List.getElem_cons_succ]
  refine wpAnyH_take (i := 5) (v := ?v6) rfl (by kernel_rfl) (by kernel_rfl) (by kernel_rfl) (fun _ _ _ h => h) (Or.inl ⟨by rfl, ?hy6⟩) hHeld ?rest6
  case hy6 => (intro w' hSw; (try dsimp only at hSw); go_simp; (try with_reducible rfl))
  try simp only [Act.put, List.setIfInBounds_toArray, List.set_cons_zero, List.set_cons_succ, List.getElem_toArray, List.getElem_cons_zero, List.getElem_cons_succ]
  refine wpAnyH_ready (rs := [6]) (by kernel_rfl) (by simp) ?_
  refine AllReadyH.cons rfl (fun K hK => ?_) AllReadyH.nil
  go_simp
  refine C2.mono ?_
  rintro e w2 ⟨rfl, hR2, hT2⟩
  try go_wp2_with fail
  refine hK.out _ _ (trivial) (fun hHeld => ?_)
  clear hK K
  try simp only [Act.put, List.setIfInBounds_toArray, List.set_cons_zero, List.set_cons_succ, List.getElem_toArray, List.getElem_cons_zero, List.getElem_cons_succ]
  refine wpAnyH_take (i := 7) (v := ?v8) rfl (by kernel_rfl) (by kernel_rfl) (by kernel_rfl) (fun _ _ _ h => h) (Or.inl ⟨by rfl, ?hy8⟩) hHeld ?rest8
  case hy8 => (intro w' hSw; (try dsimp only at hSw); go_simp; (try with_reducible rfl))
  try simp only [Act.put, List.setIfInBounds_toArray, List.set_cons_zero, List.set_cons_succ, List.getElem_toArray, List.getElem_cons_zero, List.getElem_cons_succ]
  refine wpAnyH_take (i := 8) (v := ?v9) rfl (by kernel_rfl) (by kernel_rfl) (by kernel_rfl) (fun _ _ _ h => h) (Or.inl ⟨by rfl, ?hy9⟩) hHeld ?rest9
  case hy9 => (intro w' hSw; (try dsimp only at hSw); go_simp; (try with_reducible rfl))
  try simp only [Act.put, List.setIfInBounds_toArray, List.set_cons_zero, List.set_cons_succ, List.getElem_toArray, List.getElem_cons_zero, List.getElem_cons_succ]
  refine wpAnyH_take (i := 9) (v := ?v10) rfl (by kernel_rfl) (by kernel_rfl) (by kernel_rfl) (fun _ _ _ h => h) (Or.inl ⟨by rfl, ?hy10⟩) hHeld ?rest10
  case hy10 => (intro w' hSw; (try dsimp only at hSw); go_simp; (try with_reducible rfl))
  try simp only [Act.put, List.setIfInBounds_toArray, List.set_cons_zero, List.set_cons_succ, List.getElem_toArray, List.getElem_cons_zero, List.getElem_cons_succ]
  refine wpAnyH_done (by kernel_rfl) ?_ _
  have hT := hT1.trans (⟨hT2.os, hT2.tape, hT2.output, hT2.size, hT2.block⟩ : Turned (fun k => k = pb) w1 w2) (fun _ _ h => h)
  rw [HO.out]
  go_wp2_with fail
  refine (right_any pb po base vr bs _ false _ hR2).mono ?_
  rintro e w3 ⟨rfl, rfl⟩
  go_wp2_with fail
  go_ret2
  exact ⟨ret_ub HN.out, hR2, hT⟩

set_option maxRecDepth 20000 in
theorem few_no (n k q v : Nat) (hk : k ≤ 16) (hq : q < 20) (hn : ¬ n < 131072) (pb po base : Nat) (vr : Value) (bs : List Nat) (at_ : Nat) (w : World) (h : RInv w pb po base vr bs at_ false)
    (hones : Here bs at_ (onesBits q)) (hfit : at_ + q + 1 + k ≤ 8 * bs.length) (hv : valAt bs (at_ + q + 1) k = v) (hvk : v < 2 ^ k) (e : n = q * 2 ^ k + v) :
    Calls Tryz.prog 135 #[.pointer (some ⟨pb, po, none⟩), .int .i64 k] w fun e w' => e = .returned (.tuple #[.int .u32 0, .bool false]) ∧ Turned (fun k => k = pb) w w' := by
  have C1 := param_yes (k : Int) (by omega) (by omega)
  obtain ⟨o1, o2, o3⟩ := (here_ones _ _ _).1 hones
  have O2 := Lib.hid o2; clear o2
  have hor := or_code q k v hk hq hvk
  rw [← e] at hor
  obtain ⟨N, hN⟩ : ∃ N : Int, N = (n : Int) := ⟨_, rfl⟩
  rw [← hN] at hor
  have hn' : ¬ N < 131072 := by omega
  have HN := Lib.hid hN; clear hN
  have HO := Lib.hid hor; clear hor
  clear hvk e hn
  go_enter Tryz.func135, Tryz.ntmps135
  go_wp2_with fail
  refine (C1 _).mono ?_
  rintro e w1 ⟨rfl, rfl⟩
  clear C1
  go_wp2_with fail
  refine (rones_yes pb po base vr bs at_ false q 20 _ h o1 O2.out o3 (by omega)).mono ?_
  rintro e w1 ⟨rfl, hR1, hT1⟩
  have C2 := rnum_yes pb po base vr bs (at_ + q + 1) false k w1.drew hR1.drew hfit
  rw [hv] at C2
  go_wp2_with fail
  refine wp_region_held_drew (S := (fun _ : World => True)) (by kernel_rfl) (trivial) (fun hHeld => ?_)
  refine wpAnyH_take (i := 0) (v := ?v11) rfl (by kernel_rfl) (by kernel_rfl) (by kernel_rfl) (fun _ _ _ h => h) (Or.inl ⟨by rfl, ?hy11⟩) hHeld ?rest11
  case hy11 => (intro w' hSw; (try dsimp only at hSw); go_simp; (try with_reducible rfl))
  try simp only [Act.put, List.setIfInBounds_toArray, List.set_cons_zero, List.set_cons_succ, List.getElem_toArray, List.getElem_cons_zero, List.getElem_cons_succ]
  refine wpAnyH_take (i := 1) (v := ?v12) rfl (by kernel_rfl) (by kernel_rfl) (by kernel_rfl) (fun _ _ _ h => h) (Or.inl ⟨by rfl, ?hy12⟩) hHeld ?rest12
  case hy12 => (intro w' hSw; (try dsimp only at hSw); go_simp; (try with_reducible rfl))
  try simp only [Act.put, List.setIfInBounds_toArray, List.set_cons_zero, List.set_cons_succ, List.getElem_toArray, List.getElem_cons_zero, List.getElem_cons_succ]
  refine wpAnyH_take (i := 2) (v := ?v13) rfl (by kernel_rfl) (by kernel_rfl) (by kernel_rfl) (fun _ _ _ h => h) (Or.inl ⟨by rfl, ?hy13⟩) hHeld ?rest13
  case hy13 => (intro w' hSw; (try dsimp only at hSw); go_simp; (try with_reducible rfl))
  try simp only [Act.put, List.setIfInBounds_toArray, List.set_cons_zero, List.set_cons_succ, List.getElem_toArray, List.getElem_cons_zero, List.getElem_cons_succ]
  refine wpAnyH_take (i := 3) (v := ?v14) rfl (by kernel_rfl) (by kernel_rfl) (by kernel_rfl) (fun _ _ _ h => h) (Or.inl ⟨by rfl, ?hy14⟩) hHeld ?rest14
  case hy14 => (intro w' hSw; (try dsimp only at hSw); go_simp; (try with_reducible rfl))
  try simp only [Act.put, List.setIfInBounds_toArray, List.set_cons_zero, List.set_cons_succ, List.getElem_toArray, List.getElem_cons_zero, List.getElem_cons_succ]
  refine wpAnyH_take (i := 4) (v := ?v15) rfl (by kernel_rfl) (by kernel_rfl) (by kernel_rfl) (fun _ _ _ h => h) (Or.inl ⟨by rfl, ?hy15⟩) hHeld ?rest15
  case hy15 => (intro w' hSw; (try dsimp only at hSw); go_simp; (try with_reducible rfl))
  try simp only [Act.put, List.setIfInBounds_toArray, List.set_cons_zero, List.set_cons_succ, List.getElem_toArray, List.getElem_cons_zero, List.getElem_cons_succ]
  refine wpAnyH_take (i := 5) (v := ?v16) rfl (by kernel_rfl) (by kernel_rfl) (by kernel_rfl) (fun _ _ _ h => h) (Or.inl ⟨by rfl, ?hy16⟩) hHeld ?rest16
  case hy16 => (intro w' hSw; (try dsimp only at hSw); go_simp; (try with_reducible rfl))
  try simp only [Act.put, List.setIfInBounds_toArray, List.set_cons_zero, List.set_cons_succ, List.getElem_toArray, List.getElem_cons_zero, List.getElem_cons_succ]
  refine wpAnyH_ready (rs := [6]) (by kernel_rfl) (by simp) ?_
  refine AllReadyH.cons rfl (fun K hK => ?_) AllReadyH.nil
  go_simp
  refine C2.mono ?_
  rintro e w2 ⟨rfl, hR2, hT2⟩
  try go_wp2_with fail
  refine hK.out _ _ (trivial) (fun hHeld => ?_)
  clear hK K
  try simp only [Act.put, List.setIfInBounds_toArray, List.set_cons_zero, List.set_cons_succ, List.getElem_toArray, List.getElem_cons_zero, List.getElem_cons_succ]
  refine wpAnyH_take (i := 7) (v := ?v18) rfl (by kernel_rfl) (by kernel_rfl) (by kernel_rfl) (fun _ _ _ h => h) (Or.inl ⟨by rfl, ?hy18⟩) hHeld ?rest18
  case hy18 => (intro w' hSw; (try dsimp only at hSw); go_simp; (try with_reducible rfl))
  try simp only [Act.put, List.setIfInBounds_toArray, List.set_cons_zero, List.set_cons_succ, List.getElem_toArray, List.getElem_cons_zero, List.getElem_cons_succ]
  refine wpAnyH_take (i := 8) (v := ?v19) rfl (by kernel_rfl) (by kernel_rfl) (by kernel_rfl) (fun _ _ _ h => h) (Or.inl ⟨by rfl, ?hy19⟩) hHeld ?rest19
  case hy19 => (intro w' hSw; (try dsimp only at hSw); go_simp; (try with_reducible rfl))
  try simp only [Act.put, List.setIfInBounds_toArray, List.set_cons_zero, List.set_cons_succ, List.getElem_toArray, List.getElem_cons_zero, List.getElem_cons_succ]
  refine wpAnyH_take (i := 9) (v := ?v20) rfl (by kernel_rfl) (by kernel_rfl) (by kernel_rfl) (fun _ _ _ h => h) (Or.inl ⟨by rfl, ?hy20⟩) hHeld ?rest20
  case hy20 => (intro w' hSw; (try dsimp only at hSw); go_simp; (try with_reducible rfl))
  try simp only [Act.put, List.setIfInBounds_toArray, List.set_cons_zero, List.set_cons_succ, List.getElem_toArray, List.getElem_cons_zero, List.getElem_cons_succ]
  refine wpAnyH_done (by kernel_rfl) ?_ _
  have hT := hT1.trans (⟨hT2.os, hT2.tape, hT2.output, hT2.size, hT2.block⟩ : Turned (fun k => k = pb) w1 w2) (fun _ _ h => h)
  rw [HO.out]
  go_wp2_with fail
  go_ret2
  exact ⟨rfl, hT⟩

set_option maxRecDepth 20000 in
theorem few_cut (k q : Nat) (hk : k ≤ 16) (hq : q < 20) (pb po base : Nat) (vr : Value) (bs : List Nat) (at_ : Nat) (w : World) (h : RInv w pb po base vr bs at_ false)
    (hones : Here bs at_ (onesBits q)) (hfit : 8 * bs.length < at_ + q + 1 + k) :
    Calls Tryz.prog 135 #[.pointer (some ⟨pb, po, none⟩), .int .i64 k] w fun e w' => e = .returned (.tuple #[.int .u32 0, .bool false]) ∧ Turned (fun k => k = pb) w w' := by
  have C1 := param_yes (k : Int) (by omega) (by omega)
  obtain ⟨o1, o2, o3⟩ := (here_ones _ _ _).1 hones
  have O2 := Lib.hid o2; clear o2
  go_enter Tryz.func135, Tryz.ntmps135
  go_wp2_with fail
  refine (C1 _).mono ?_
  rintro e w1 ⟨rfl, rfl⟩
  clear C1
  go_wp2_with fail
  refine (rones_yes pb po base vr bs at_ false q 20 _ h o1 O2.out o3 (by omega)).mono ?_
  rintro e w1 ⟨rfl, hR1, hT1⟩
  have C2 := rnum_no pb po base vr bs (at_ + q + 1) false k w1.drew hR1.drew hfit
  go_wp2_with fail
  refine wp_region_held_drew (S := (fun _ : World => True)) (by kernel_rfl) (trivial) (fun hHeld => ?_)
  refine wpAnyH_take (i := 0) (v := ?v21) rfl (by kernel_rfl) (by kernel_rfl) (by kernel_rfl) (fun _ _ _ h => h) (Or.inl ⟨by rfl, ?hy21⟩) hHeld ?rest21
  case hy21 => (intro w' hSw; (try dsimp only at hSw); go_simp; (try with_reducible rfl))
  try simp only [Act.put, List.setIfInBounds_toArray, List.set_cons_zero, List.set_cons_succ, List.getElem_toArray, List.getElem_cons_zero, List.getElem_cons_succ]
  refine wpAnyH_take (i := 1) (v := ?v22) rfl (by kernel_rfl) (by kernel_rfl) (by kernel_rfl) (fun _ _ _ h => h) (Or.inl ⟨by rfl, ?hy22⟩) hHeld ?rest22
  case hy22 => (intro w' hSw; (try dsimp only at hSw); go_simp; (try with_reducible rfl))
  try simp only [Act.put, List.setIfInBounds_toArray, List.set_cons_zero, List.set_cons_succ, List.getElem_toArray, List.getElem_cons_zero, List.getElem_cons_succ]
  refine wpAnyH_take (i := 2) (v := ?v23) rfl (by kernel_rfl) (by kernel_rfl) (by kernel_rfl) (fun _ _ _ h => h) (Or.inl ⟨by rfl, ?hy23⟩) hHeld ?rest23
  case hy23 => (intro w' hSw; (try dsimp only at hSw); go_simp; (try with_reducible rfl))
  try simp only [Act.put, List.setIfInBounds_toArray, List.set_cons_zero, List.set_cons_succ, List.getElem_toArray, List.getElem_cons_zero, List.getElem_cons_succ]
  refine wpAnyH_take (i := 3) (v := ?v24) rfl (by kernel_rfl) (by kernel_rfl) (by kernel_rfl) (fun _ _ _ h => h) (Or.inl ⟨by rfl, ?hy24⟩) hHeld ?rest24
  case hy24 => (intro w' hSw; (try dsimp only at hSw); go_simp; (try with_reducible rfl))
  try simp only [Act.put, List.setIfInBounds_toArray, List.set_cons_zero, List.set_cons_succ, List.getElem_toArray, List.getElem_cons_zero, List.getElem_cons_succ]
  refine wpAnyH_take (i := 4) (v := ?v25) rfl (by kernel_rfl) (by kernel_rfl) (by kernel_rfl) (fun _ _ _ h => h) (Or.inl ⟨by rfl, ?hy25⟩) hHeld ?rest25
  case hy25 => (intro w' hSw; (try dsimp only at hSw); go_simp; (try with_reducible rfl))
  try simp only [Act.put, List.setIfInBounds_toArray, List.set_cons_zero, List.set_cons_succ, List.getElem_toArray, List.getElem_cons_zero, List.getElem_cons_succ]
  refine wpAnyH_take (i := 5) (v := ?v26) rfl (by kernel_rfl) (by kernel_rfl) (by kernel_rfl) (fun _ _ _ h => h) (Or.inl ⟨by rfl, ?hy26⟩) hHeld ?rest26
  case hy26 => (intro w' hSw; (try dsimp only at hSw); go_simp; (try with_reducible rfl))
  try simp only [Act.put, List.setIfInBounds_toArray, List.set_cons_zero, List.set_cons_succ, List.getElem_toArray, List.getElem_cons_zero, List.getElem_cons_succ]
  refine wpAnyH_ready (rs := [6]) (by kernel_rfl) (by simp) ?_
  refine AllReadyH.cons rfl (fun K hK => ?_) AllReadyH.nil
  go_simp
  refine C2.mono ?_
  rintro e w2 ⟨rfl, hR2, hT2⟩
  try go_wp2_with fail
  refine hK.out _ _ (trivial) (fun hHeld => ?_)
  clear hK K
  try simp only [Act.put, List.setIfInBounds_toArray, List.set_cons_zero, List.set_cons_succ, List.getElem_toArray, List.getElem_cons_zero, List.getElem_cons_succ]
  refine wpAnyH_take (i := 7) (v := ?v28) rfl (by kernel_rfl) (by kernel_rfl) (by kernel_rfl) (fun _ _ _ h => h) (Or.inl ⟨by rfl, ?hy28⟩) hHeld ?rest28
  case hy28 => (intro w' hSw; (try dsimp only at hSw); go_simp; (try with_reducible rfl))
  try simp only [Act.put, List.setIfInBounds_toArray, List.set_cons_zero, List.set_cons_succ, List.getElem_toArray, List.getElem_cons_zero, List.getElem_cons_succ]
  refine wpAnyH_take (i := 8) (v := ?v29) rfl (by kernel_rfl) (by kernel_rfl) (by kernel_rfl) (fun _ _ _ h => h) (Or.inl ⟨by rfl, ?hy29⟩) hHeld ?rest29
  case hy29 => (intro w' hSw; (try dsimp only at hSw); go_simp; (try with_reducible rfl))
  try simp only [Act.put, List.setIfInBounds_toArray, List.set_cons_zero, List.set_cons_succ, List.getElem_toArray, List.getElem_cons_zero, List.getElem_cons_succ]
  refine wpAnyH_take (i := 9) (v := ?v30) rfl (by kernel_rfl) (by kernel_rfl) (by kernel_rfl) (fun _ _ _ h => h) (Or.inl ⟨by rfl, ?hy30⟩) hHeld ?rest30
  case hy30 => (intro w' hSw; (try dsimp only at hSw); go_simp; (try with_reducible rfl))
  try simp only [Act.put, List.setIfInBounds_toArray, List.set_cons_zero, List.set_cons_succ, List.getElem_toArray, List.getElem_cons_zero, List.getElem_cons_succ]
  refine wpAnyH_done (by kernel_rfl) ?_ _
  have hT := hT1.trans (⟨hT2.os, hT2.tape, hT2.output, hT2.size, hT2.block⟩ : Turned (fun k => k = pb) w1 w2) (fun _ _ h => h)
  obtain ⟨N, hN⟩ : ∃ N : Int, N = bits BinOp.or IntKind.u32 (IntKind.u32.wrap (IntKind.u32.wrap (q : Int) * 2 ^ k)) (IntKind.u32.wrap 0) := ⟨_, rfl⟩
  rw [← hN]
  clear hN
  by_cases hn : N < 131072
  · go_wp2_with fail
    refine (right_any pb po base _ _ _ true _ hR2).mono ?_
    rintro e w3 ⟨rfl, rfl⟩
    go_wp2_with fail
    go_ret2
    exact ⟨rfl, hT⟩
  · go_wp2_with fail
    go_ret2
    exact ⟨rfl, hT⟩

set_option maxRecDepth 20000 in
theorem none_go (k : Nat) (hk : k ≤ 16) (pb po base : Nat) (vr : Value) (bs : List Nat) (at_ : Nat) (w : World) (h : RInv w pb po base vr bs at_ false) (H : ∀ q, q ≤ 20 → ¬ Here bs at_ (onesBits q)) :
    Calls Tryz.prog 135 #[.pointer (some ⟨pb, po, none⟩), .int .i64 k] w fun e w' => e = .returned (.tuple #[.int .u32 0, .bool false]) ∧ Turned (fun k => k = pb) w w' := by
  have C1 := param_yes (k : Int) (by omega) (by omega)
  have HH := Lib.hid H; clear H
  go_enter Tryz.func135, Tryz.ntmps135
  go_wp2_with fail
  refine (C1 _).mono ?_
  rintro e w1 ⟨rfl, rfl⟩
  clear C1
  go_wp2_with fail
  refine (rones_no pb po base vr bs at_ false 20 _ h (fun n a b c => Int.not_le.1 (fun h20 => HH.out n (by omega) ((here_ones _ _ _).2 ⟨a, b, c⟩)))).mono ?_
  rintro e w1 ⟨rfl, hR1, hT1⟩
  have C2 := rnum_bad pb po base k w1.drew hR1.drew
  go_wp2_with fail
  refine wp_region_held_drew (S := (fun _ : World => True)) (by kernel_rfl) (trivial) (fun hHeld => ?_)
  refine wpAnyH_take (i := 0) (v := ?v31) rfl (by kernel_rfl) (by kernel_rfl) (by kernel_rfl) (fun _ _ _ h => h) (Or.inl ⟨by rfl, ?hy31⟩) hHeld ?rest31
  case hy31 => (intro w' hSw; (try dsimp only at hSw); go_simp; (try with_reducible rfl))
  try simp only [Act.put, List.setIfInBounds_toArray, List.set_cons_zero, List.set_cons_succ, List.getElem_toArray, List.getElem_cons_zero, List.getElem_cons_succ]
  refine wpAnyH_take (i := 1) (v := ?v32) rfl (by kernel_rfl) (by kernel_rfl) (by kernel_rfl) (fun _ _ _ h => h) (Or.inl ⟨by rfl, ?hy32⟩) hHeld ?rest32
  case hy32 => (intro w' hSw; (try dsimp only at hSw); go_simp; (try with_reducible rfl))
  try simp only [Act.put, List.setIfInBounds_toArray, List.set_cons_zero, List.set_cons_succ, List.getElem_toArray, List.getElem_cons_zero, List.getElem_cons_succ]
  refine wpAnyH_take (i := 2) (v := ?v33) rfl (by kernel_rfl) (by kernel_rfl) (by kernel_rfl) (fun _ _ _ h => h) (Or.inl ⟨by rfl, ?hy33⟩) hHeld ?rest33
  case hy33 => (intro w' hSw; (try dsimp only at hSw); go_simp; (try with_reducible rfl))
  try simp only [Act.put, List.setIfInBounds_toArray, List.set_cons_zero, List.set_cons_succ, List.getElem_toArray, List.getElem_cons_zero, List.getElem_cons_succ]
  refine wpAnyH_take (i := 3) (v := ?v34) rfl (by kernel_rfl) (by kernel_rfl) (by kernel_rfl) (fun _ _ _ h => h) (Or.inl ⟨by rfl, ?hy34⟩) hHeld ?rest34
  case hy34 => (intro w' hSw; (try dsimp only at hSw); go_simp; (try with_reducible rfl))
  try simp only [Act.put, List.setIfInBounds_toArray, List.set_cons_zero, List.set_cons_succ, List.getElem_toArray, List.getElem_cons_zero, List.getElem_cons_succ]
  refine wpAnyH_take (i := 4) (v := ?v35) rfl (by kernel_rfl) (by kernel_rfl) (by kernel_rfl) (fun _ _ _ h => h) (Or.inl ⟨by rfl, ?hy35⟩) hHeld ?rest35
  case hy35 => (intro w' hSw; (try dsimp only at hSw); go_simp; (try with_reducible rfl))
  try simp only [Act.put, List.setIfInBounds_toArray, List.set_cons_zero, List.set_cons_succ, List.getElem_toArray, List.getElem_cons_zero, List.getElem_cons_succ]
  refine wpAnyH_take (i := 5) (v := ?v36) rfl (by kernel_rfl) (by kernel_rfl) (by kernel_rfl) (fun _ _ _ h => h) (Or.inl ⟨by rfl, ?hy36⟩) hHeld ?rest36
  case hy36 => (intro w' hSw; (try dsimp only at hSw); go_simp; (try with_reducible rfl))
  try simp only [Act.put, List.setIfInBounds_toArray, List.set_cons_zero, List.set_cons_succ, List.getElem_toArray, List.getElem_cons_zero, List.getElem_cons_succ]
  refine wpAnyH_ready (rs := [6]) (by kernel_rfl) (by simp) ?_
  refine AllReadyH.cons rfl (fun K hK => ?_) AllReadyH.nil
  go_simp
  refine C2.mono ?_
  rintro e w2 ⟨rfl, hR2, hT2⟩
  try go_wp2_with fail
  refine hK.out _ _ (trivial) (fun hHeld => ?_)
  clear hK K
  try simp only [Act.put, List.setIfInBounds_toArray, List.set_cons_zero, List.set_cons_succ, List.getElem_toArray, List.getElem_cons_zero, List.getElem_cons_succ]
  refine wpAnyH_take (i := 7) (v := ?v38) rfl (by kernel_rfl) (by kernel_rfl) (by kernel_rfl) (fun _ _ _ h => h) (Or.inl ⟨by rfl, ?hy38⟩) hHeld ?rest38
  case hy38 => (intro w' hSw; (try dsimp only at hSw); go_simp; (try with_reducible rfl))
  try simp only [Act.put, List.setIfInBounds_toArray, List.set_cons_zero, List.set_cons_succ, List.getElem_toArray, List.getElem_cons_zero, List.getElem_cons_succ]
  refine wpAnyH_take (i := 8) (v := ?v39) rfl (by kernel_rfl) (by kernel_rfl) (by kernel_rfl) (fun _ _ _ h => h) (Or.inl ⟨by rfl, ?hy39⟩) hHeld ?rest39
  case hy39 => (intro w' hSw; (try dsimp only at hSw); go_simp; (try with_reducible rfl))
  try simp only [Act.put, List.setIfInBounds_toArray, List.set_cons_zero, List.set_cons_succ, List.getElem_toArray, List.getElem_cons_zero, List.getElem_cons_succ]
  refine wpAnyH_take (i := 9) (v := ?v40) rfl (by kernel_rfl) (by kernel_rfl) (by kernel_rfl) (fun _ _ _ h => h) (Or.inl ⟨by rfl, ?hy40⟩) hHeld ?rest40
  case hy40 => (intro w' hSw; (try dsimp only at hSw); go_simp; (try with_reducible rfl))
  try simp only [Act.put, List.setIfInBounds_toArray, List.set_cons_zero, List.set_cons_succ, List.getElem_toArray, List.getElem_cons_zero, List.getElem_cons_succ]
  refine wpAnyH_done (by kernel_rfl) ?_ _
  have hT := hT1.trans (⟨hT2.os, hT2.tape, hT2.output, hT2.size, hT2.block⟩ : Turned (fun k => k = pb) w1 w2) (fun _ _ h => h)
  obtain ⟨N, hN⟩ : ∃ N : Int, N = bits BinOp.or IntKind.u32 (IntKind.u32.wrap (IntKind.u32.wrap 0 * 2 ^ k)) (IntKind.u32.wrap 0) := ⟨_, rfl⟩
  rw [← hN]
  clear hN
  by_cases hn : N < 131072
  · go_wp2_with fail
    refine (right_any pb po base _ _ _ true _ hR2).mono ?_
    rintro e w3 ⟨rfl, rfl⟩
    go_wp2_with fail
    go_ret2
    exact ⟨rfl, hT⟩
  · go_wp2_with fail
    go_ret2
    exact ⟨rfl, hT⟩

set_option maxRecDepth 20000 in
theorem many_yes (n k : Nat) (hk : k ≤ 16) (hv17 : n < 131072) (hn : ¬ n / 2 ^ k < 20) (pb po base : Nat) (vr : Value) (bs : List Nat) (at_ : Nat) (w : World) (h : RInv w pb po base vr bs at_ false)
    (hones : Here bs at_ (onesBits 20)) (hfit : at_ + 21 + 17 ≤ 8 * bs.length) (hv : valAt bs (at_ + 21) 17 = n) :
    Calls Tryz.prog 135 #[.pointer (some ⟨pb, po, none⟩), .int .i64 k] w fun e w' => e = .returned (.tuple #[.int .u32 n, .bool true]) ∧ RInv w' pb po base vr bs (at_ + 21 + 17) false ∧ Turned (fun k => k = pb) w w' := by
  have C3 := wide_go n k (by omega) hk
  rw [decide_eq_true (by omega)] at C3
  have C1 := param_yes (k : Int) (by omega) (by omega)
  obtain ⟨o1, o2, o3⟩ := (here_ones _ _ _).1 hones
  have O2 := Lib.hid o2; clear o2
  have hw : IntKind.u32.wrap (n : Int) = (n : Int) := by rw [IntKind.wrap_u32']; omega
  clear hv17 hn
  go_enter Tryz.func135, Tryz.ntmps135
  go_wp2_with fail
  refine (C1 _).mono ?_
  rintro e w1 ⟨rfl, rfl⟩
  clear C1
  go_wp2_with fail
  refine (rones_yes pb po base vr bs at_ false 20 20 _ h o1 O2.out o3 (by omega)).mono ?_
  rintro e w1 ⟨rfl, hR1, hT1⟩
  have C2 := rnum_yes pb po base vr bs (at_ + 21) false 17 w1 hR1 hfit
  rw [hv] at C2
  go_wp2_with fail
  refine C2.mono ?_
  rintro e w2 ⟨rfl, hR2, hT2⟩
  have hT := hT1.trans hT2 (fun _ _ h => h)
  clear C2
  go_wp2_with fail
  refine (C3 _).mono ?_
  rintro e w3 ⟨rfl, rfl⟩
  go_wp2_with fail
  refine (right_any pb po base vr bs _ false _ hR2).mono ?_
  rintro e w3 ⟨rfl, rfl⟩
  go_wp2_with fail
  go_ret2
  exact ⟨rfl, hR2, hT⟩

set_option maxRecDepth 20000 in
theorem many_no (n k : Nat) (hk : k ≤ 16) (hv17 : n < 131072) (hn : n / 2 ^ k < 20) (pb po base : Nat) (vr : Value) (bs : List Nat) (at_ : Nat) (w : World) (h : RInv w pb po base vr bs at_ false)
    (hones : Here bs at_ (onesBits 20)) (hfit : at_ + 21 + 17 ≤ 8 * bs.length) (hv : valAt bs (at_ + 21) 17 = n) :
    Calls Tryz.prog 135 #[.pointer (some ⟨pb, po, none⟩), .int .i64 k] w fun e w' => e = .returned (.tuple #[.int .u32 0, .bool false]) ∧ Turned (fun k => k = pb) w w' := by
  have C3 := wide_go n k (by omega) hk
  rw [decide_eq_false (by omega)] at C3
  have C1 := param_yes (k : Int) (by omega) (by omega)
  obtain ⟨o1, o2, o3⟩ := (here_ones _ _ _).1 hones
  have O2 := Lib.hid o2; clear o2
  have hw : IntKind.u32.wrap (n : Int) = (n : Int) := by rw [IntKind.wrap_u32']; omega
  clear hv17 hn
  go_enter Tryz.func135, Tryz.ntmps135
  go_wp2_with fail
  refine (C1 _).mono ?_
  rintro e w1 ⟨rfl, rfl⟩
  clear C1
  go_wp2_with fail
  refine (rones_yes pb po base vr bs at_ false 20 20 _ h o1 O2.out o3 (by omega)).mono ?_
  rintro e w1 ⟨rfl, hR1, hT1⟩
  have C2 := rnum_yes pb po base vr bs (at_ + 21) false 17 w1 hR1 hfit
  rw [hv] at C2
  go_wp2_with fail
  refine C2.mono ?_
  rintro e w2 ⟨rfl, hR2, hT2⟩
  have hT := hT1.trans hT2 (fun _ _ h => h)
  clear C2
  go_wp2_with fail
  refine (C3 _).mono ?_
  rintro e w3 ⟨rfl, rfl⟩
  go_wp2_with fail
  go_ret2
  exact ⟨rfl, hT⟩

set_option maxRecDepth 20000 in
theorem many_cut (k : Nat) (hk : k ≤ 16) (pb po base : Nat) (vr : Value) (bs : List Nat) (at_ : Nat) (w : World) (h : RInv w pb po base vr bs at_ false)
    (hones : Here bs at_ (onesBits 20)) (hfit : 8 * bs.length < at_ + 21 + 17) :
    Calls Tryz.prog 135 #[.pointer (some ⟨pb, po, none⟩), .int .i64 k] w fun e w' => e = .returned (.tuple #[.int .u32 0, .bool false]) ∧ Turned (fun k => k = pb) w w' := by
  have C3 := wide_go 0 k (by omega) hk
  rw [Nat.zero_div, decide_eq_false (by omega)] at C3
  have C1 := param_yes (k : Int) (by omega) (by omega)
  obtain ⟨o1, o2, o3⟩ := (here_ones _ _ _).1 hones
  have O2 := Lib.hid o2; clear o2
  go_enter Tryz.func135, Tryz.ntmps135
  go_wp2_with fail
  refine (C1 _).mono ?_
  rintro e w1 ⟨rfl, rfl⟩
  clear C1
  go_wp2_with fail
  refine (rones_yes pb po base vr bs at_ false 20 20 _ h o1 O2.out o3 (by omega)).mono ?_
  rintro e w1 ⟨rfl, hR1, hT1⟩
  have C2 := rnum_no pb po base vr bs (at_ + 21) false 17 w1 hR1 hfit
  go_wp2_with fail
  refine C2.mono ?_
  rintro e w2 ⟨rfl, hR2, hT2⟩
  have hT := hT1.trans hT2 (fun _ _ h => h)
  clear C2
  go_wp2_with fail
  refine (C3 _).mono ?_
  rintro e w3 ⟨rfl, rfl⟩
  go_wp2_with fail
  go_ret2
  exact ⟨rfl, hT⟩

/-- No such parameter. -/
theorem get_bad (k : Int) (h0 : 0 ≤ k) (hk : 16 < k) (p : Option Addr) (w : World) :
    Calls Tryz.prog 135 #[.pointer p, .int .i64 k] w fun e w' => e = .returned (.tuple #[.int .u32 0, .bool false]) ∧ w = w' := by
  have C1 := param_no k h0 hk
  go_enter Tryz.func135, Tryz.ntmps135
  go_wp2_with fail
  refine (C1 _).mono ?_
  rintro e w1 ⟨rfl, rfl⟩
  go_wp2_with fail
  go_ret2
  exact ⟨rfl, rfl⟩

/-- Where a code comes next it is read. -/
theorem get_yes (n k : Nat) (hk : k ≤ 16) (hn : n < 131072) (pb po base : Nat) (vr : Value) (bs : List Nat) (at_ : Nat) (w : World) (h : RInv w pb po base vr bs at_ false) (H : Here bs at_ (code n k)) :
    Calls Tryz.prog 135 #[.pointer (some ⟨pb, po, none⟩), .int .i64 k] w fun e w' => e = .returned (.tuple #[.int .u32 n, .bool true]) ∧ RInv w' pb po base vr bs (at_ + size n k) false ∧ Turned (fun k => k = pb) w w' := by
  by_cases c : n / 2 ^ k < 20
  · have hs : size n k = n / 2 ^ k + 1 + k := by unfold size; rw [if_pos c]
    obtain ⟨h1, h2, h3⟩ := (here_few _ _ _ _ hk c).1 H
    have := few_yes n k (n / 2 ^ k) (n % 2 ^ k) hk c hn pb po base vr bs at_ w h h1 h2 h3 (Nat.mod_lt _ (Nat.pow_pos (by decide))) (by rw [Nat.mul_comm]; exact (Nat.div_add_mod n (2 ^ k)).symm)
    rwa [hs, ← Nat.add_assoc, ← Nat.add_assoc]
  · have hs : size n k = 38 := by unfold size; rw [if_neg c]
    obtain ⟨h1, h2, h3⟩ := (here_many _ _ _ _ c hn).1 H
    have := many_yes n k hk hn c pb po base vr bs at_ w h h1 h2 h3
    rwa [hs]
/-- Where none comes next it is told. -/
theorem get_no (k : Nat) (hk : k ≤ 16) (pb po base : Nat) (vr : Value) (bs : List Nat) (at_ : Nat) (w : World) (h : RInv w pb po base vr bs at_ false) (H : ∀ n, n < 131072 → ¬ Here bs at_ (code n k)) :
    Calls Tryz.prog 135 #[.pointer (some ⟨pb, po, none⟩), .int .i64 k] w fun e w' => e = .returned (.tuple #[.int .u32 0, .bool false]) ∧ Turned (fun k => k = pb) w w' := by
  by_cases hq : ∃ q, q ≤ 20 ∧ Here bs at_ (onesBits q)
  · obtain ⟨q, hq, ho⟩ := hq
    by_cases h20 : q = 20
    · subst h20
      by_cases hf : at_ + 21 + 17 ≤ 8 * bs.length
      · have hv := valAt_small bs (at_ + 21) 17 (by omega)
        rw [show (2 : Nat) ^ 17 = 131072 by decide] at hv
        refine many_no _ k hk hv ?_ pb po base vr bs at_ w h ho hf rfl
        by_cases c : valAt bs (at_ + 21) 17 / 2 ^ k < 20
        · exact c
        · exact absurd ((here_many _ _ _ _ c hv).2 ⟨ho, hf, rfl⟩) (H _ hv)
      · exact many_cut k hk pb po base vr bs at_ w h ho (by omega)
    · by_cases hf : at_ + q + 1 + k ≤ 8 * bs.length
      · have hv := valAt_small bs (at_ + q + 1) k (by omega)
        have hp : 0 < 2 ^ k := Nat.pow_pos (by decide)
        have d1 : (q * 2 ^ k + valAt bs (at_ + q + 1) k) / 2 ^ k = q := by
          rw [Nat.mul_comm, Nat.mul_add_div hp, Nat.div_eq_of_lt hv]; rfl
        have d2 : (q * 2 ^ k + valAt bs (at_ + q + 1) k) % 2 ^ k = valAt bs (at_ + q + 1) k := by
          rw [Nat.mul_comm, Nat.mul_add_mod, Nat.mod_eq_of_lt hv]
        refine few_no _ k q _ hk (by omega) ?_ pb po base vr bs at_ w h ho hf rfl hv rfl
        intro hn
        refine H _ hn ((here_few _ _ _ _ hk (by rw [d1]; omega)).2 ?_)
        rw [d1, d2]
        exact ⟨ho, hf, rfl⟩
      · exact few_cut k q hk (by omega) pb po base vr bs at_ w h ho (by omega)
  · exact none_go k hk pb po base vr bs at_ w h (fun q h1 h2 => hq ⟨q, h1, h2⟩)
end Go.Proofs.YtlkjcamjgaecgaaGreat

/-
  Folded numbers gone through: the iterator, and the sum of their sizes.
-/
namespace Go.Proofs.YtlkjcamjgaecgaaGreat
open Go Go.RowKit Go.Shelf Go.Th
attribute [local go_sem] Oper.semAt_some

/-- Numbers of 32 bits with a sign. -/
def In32 (x : Int) : Prop := -2147483648 ≤ x ∧ x ≤ 2147483647
abbrev I32 := { x : Int // In32 x }
theorem exists_i32 (xs : List Int) (h : ∀ x ∈ xs, In32 x) : ∃ ys : List I32, ys.map (·.1) = xs := by
  induction xs with
  | nil => exact ⟨[], rfl⟩
  | cons x r ih =>
    obtain ⟨ys, hy⟩ := ih (fun y hy => h y (by simp [hy]))
    exact ⟨⟨x, h x (by simp)⟩ :: ys, by simp [hy]⟩
def i32s (xs : List Int) : List Value := xs.map (.int .i32)
theorem i32s_at (xs : List Int) (i : Nat) (h : i < xs.length) : (i32s xs)[i]? = some (.int .i32 xs[i]) := by simp [i32s, h]

/-- These blocks lie as they lay. -/
def Kept (K : Nat → Prop) (W W' : World) : Prop := ∀ k, K k → W'.heap[k]? = W.heap[k]?
theorem Kept.refl (K : Nat → Prop) (W : World) : Kept K W W := fun _ _ => rfl
theorem Kept.trans {K : Nat → Prop} {A B C : World} (h : Kept K A B) (k : Kept K B C) : Kept K A C := fun j hj => (k j hj).trans (h j hj)
theorem kept_b {K : Nat → Prop} {w : World} (hK : ∀ k, K k → k < w.heap.size) (W : World) (l : Nat) (o o' : Obj) (hl : w.heap.size ≤ l) (_ : W.heap[l]? = some o) (_ : o.isCells = false) (_ : o.isWalk = false) : Kept K W (W.putObj l o') :=
  fun k hk => World.putObj_heap_other (by have := hK k hk; omega)
theorem Kept.cell {K : Nat → Prop} {W W' : World} (h : Kept K W W') {p : Addr} (hp : K p.block) : W'.cell? p = W.cell? p := World.cell?_of_block (w := W) (h p.block hp)

set_option maxRecDepth 100000 in
set_option maxHeartbeats 2000000 in
theorem seq_in (l Bx : Nat) (a : Option Addr) (n cap : Nat) (xs : List I32) (hn : n = xs.length) (hmax : n ≤ 1000000) (J Jx : List I32 → World → Prop) (K : Nat → Prop) (hK : ∀ p, a = some p → 0 < n → K p.block)
    (hY : ∀ pre x W, J pre W → pre.length < xs.length → YieldAt Fence.wide 8 Tryz.prog l #[.int .u32 (fold x.1 : Nat)] W fun e W' =>
      (e = .returned (.bool true) ∧ J (pre ++ [x]) W' ∧ Kept K W W') ∨ (e = .returned (.bool false) ∧ Jx (pre ++ [x]) W'))
    (W : World) (hBx : W.cell? ⟨Bx, 0, none⟩ = some (.slice a n cap)) (hS : Sl W 1 (.slice a n cap) n (i32s (xs.map (·.1)))) (h0 : J [] W) :
    CallsIn Fence.wide 9 Tryz.prog 128 #[.func (.yield l) #[] #[], .pointer (some ⟨Bx, 0, none⟩)] W fun e W' => (∃ v, e = .returned v) ∧
      ((∃ ys, ys = xs ∧ J ys W') ∨ (∃ pre, pre <+: xs ∧ Jx pre W')) := by
  obtain ⟨a', c', he, hl, hcap, hcm, hnil, hcell⟩ := hS
  cases he
  refine callsIn_of_wp Tryz.func128 rfl trivial ?_ rfl
  simp only [Tryz.ntmps128, List.size_toArray, List.length_cons, List.length_nil, Nat.reduceAdd, Nat.reduceSub, Array.replicate_succ, Array.replicate_zero, List.push_toArray, List.append_toArray, List.nil_append, List.cons_append]
  have HY := Lib.hid hY; clear hY
  have HC := Lib.hid hcell; clear hcell
  have HK := Lib.hid hK; clear hK
  gi_wp2
  gi_loopw [7] (fun i wr => ∃ k : Nat, k ≤ n ∧ i = .int .i64 k ∧ J (xs.take k) wr ∧ Kept K W wr)
    (fun i _ => n - (intOf i).toNat)
  case atStart => exact ⟨0, Nat.zero_le _, rfl, h0, Kept.refl _ _⟩
  case round =>
    obtain ⟨k, hk, rfl, hJs, hnx⟩ := hrel
    by_cases hlt : k < n
    · have hkl : k < xs.length := by omega
      obtain ⟨b, o, rfl, hc⟩ := HC.out k _ (i32s_at (xs.map (·.1)) k (by simpa using hkl))
      have hcx := (hnx.cell (p := ⟨b, o + k, none⟩) (HK.out ⟨b, o, none⟩ rfl (by omega))).trans hc
      rw [List.getElem_map] at hcx
      obtain ⟨fn, tmps, assign, body, hy, hR⟩ := HY.out _ (xs[k]) wr hJs (by simp; omega)
      have hts : xs.take (k + 1) = xs.take k ++ [xs[k]] := take_snoc xs k hkl
      obtain ⟨x, hx⟩ : ∃ x : I32, x = xs[k] := ⟨_, rfl⟩
      rw [← hx] at hcx hy hR hts
      have HT := Lib.hid hts; clear hts
      have CF := fold_go x.1 x.2.1 x.2.2
      clear hx hc
      gi_wp2
      refine ⟨trivial, (callsIn_wide.2 (CF _)).mono ?_⟩
      rintro e w' ⟨rfl, rfl⟩
      clear CF
      gi_wp2
      refine hR.mono ?_
      rintro e W3 (⟨rfl, hJ3, hk3⟩ | ⟨rfl, hJx3⟩)
      · gi_wp2
        go_roundw
        case rel => exact ⟨k + 1, by omega, by go_num, by rw [HT.out]; exact hJ3, hnx.trans hk3⟩
        case measure => simp [intOf]; omega
      · gi_wp2
        refine bodyPost_ret (results_none rfl _ _ _) rfl ?_
        exact ⟨⟨_, rfl⟩, .inr ⟨_, by rw [← HT.out]; exact List.take_prefix _ _, hJx3⟩⟩
    · obtain rfl : k = n := by omega
      gi_wp2
      go_end0
      refine ⟨⟨_, rfl⟩, .inl ⟨_, ?_, hJs⟩⟩
      rw [hn, List.take_length]

theorem folded_stops (Bx : Nat) (a : Option Addr) (n cap : Nat) (xs : List I32) (hn : n = xs.length) (hmax : n ≤ 1000000) (K : Nat → Prop) (hK : ∀ p, a = some p → 0 < n → K p.block)
    (w : World) (hBl : Bx < w.heap.size) (hBx : w.cell? ⟨Bx, 0, none⟩ = some (.slice a n cap)) (hS : Sl w 1 (.slice a n cap) n (i32s (xs.map (·.1)))) :
    SeqStopsK Fence.wide 9 Tryz.prog 128 #[.pointer (some ⟨Bx, 0, none⟩)] (fun x : I32 => #[.int .u32 (fold x.1 : Nat)]) (Kept K) (fun ys => ys = xs) (fun pre => pre <+: xs) xs.length w :=
  fun l J Jx W hW _ _ hY h0 => seq_in l Bx a n cap xs hn hmax J Jx K hK hY W ((hW.cell (p := ⟨Bx, 0, none⟩) hBl).trans hBx) (hS.below hW) h0

theorem folded_any (a : Option Addr) (n cap : Nat) (w : World) :
    Calls Tryz.prog 119 #[.slice a n cap] w fun e w' => e = .returned (.func (.func 128) #[] #[.pointer (some ⟨w.heap.size, 0, none⟩)]) ∧ w' = w.alloc (.cells #[.slice a n cap] 162) := by
  go_enter Tryz.func119, Tryz.ntmps119
  go_wp2
  go_ret
  exact ⟨rfl, rfl⟩

set_option maxRecDepth 100000 in
set_option maxHeartbeats 2000000 in
theorem total_any (a : Option Addr) (n cap k : Nat) (xs : List I32) (hn : n = xs.length) (hmax : n ≤ 1000000) (hk : k ≤ 16) (w : World) (hS : Sl w 1 (.slice a n cap) n (i32s (xs.map (·.1)))) :
    Calls Tryz.prog 126 #[.slice a n cap, .int .i64 k] w fun e w' => e = .returned (.int .i64 (sizes (xs.map (·.1)) k : Nat)) ∧ Below w.heap.size w w' := by
  refine (callsIn_wide (n := 10)).1 ?_
  refine callsIn_of_wp_marks Tryz.func126 rfl trivial ?_ rfl
  simp only [Tryz.ntmps126, List.size_toArray, List.length_cons, List.length_nil, Nat.reduceAdd, Nat.reduceSub, Array.replicate_succ, Array.replicate_zero, List.push_toArray, List.append_toArray, List.nil_append, List.cons_append]
  have HN := Lib.hid hn; clear hn
  gi_wp2
  refine ⟨trivial, (callsIn_wide.2 (folded_any a n cap _)).mono ?_⟩
  rintro e w' ⟨rfl, rfl⟩
  gi_wp2
  have hSb : ∀ p, a = some p → 0 < n → p.block < w.heap.size := by
    rintro p rfl hn0
    obtain ⟨a', c', he, h1, _, _, _, h5⟩ := hS
    cases he
    have hl : 0 < (i32s (xs.map (·.1))).length := by omega
    obtain ⟨b, o, e, hc⟩ := h5 0 _ (List.getElem?_eq_getElem hl)
    cases e
    have := World.block_lt_of_cell? w _ hc
    simpa using this
  have b0 := Boxed.new w 3 (.int .i64 k)
  have b1 := Boxed.new (w.alloc (.cells #[.int .i64 k] 3)) 3 (.int .i64 0)
  have b2 := Boxed.new ((w.alloc (.cells #[.int .i64 k] 3)).alloc (.cells #[.int .i64 0] 3)) 162 (.slice a n cap)
  replace b0 := (b0.alloc (.cells #[.int .i64 0] 3)).alloc (.cells #[.slice a n cap] 162)
  replace b1 := b1.alloc (.cells #[.slice a n cap] 162)
  have hB0 : Below w.heap.size w (((w.alloc (.cells #[.int .i64 k] 3)).alloc (.cells #[.int .i64 0] 3)).alloc (.cells #[.slice a n cap] 162)) := (((Below.refl _ w).alloc (Nat.le_refl _) _).alloc (by simp) _).alloc (by simp; omega) _
  simp only [World.size_alloc] at b1 b2
  have hz : (((w.alloc (.cells #[.int .i64 k] 3)).alloc (.cells #[.int .i64 0] 3)).alloc (.cells #[.slice a n cap] 162)).heap.size = w.heap.size + 1 + 1 + 1 := by simp
  have hS0 := hS.below hB0
  obtain ⟨W0, hW0⟩ : ∃ W0, ((w.alloc (.cells #[.int .i64 k] 3)).alloc (.cells #[.int .i64 0] 3)).alloc (.cells #[.slice a n cap] 162) = W0 := ⟨_, rfl⟩
  rw [hW0] at b0 b1 b2 hB0 hz hS0 ⊢
  clear hW0
  refine wpIn_rangeFunc_ownF rfl (by omega) (gf := 128) (lb := #[.pointer (some ⟨w.heap.size + 1 + 1, 0, none⟩)]) rfl trivial (enters_of Tryz.func128 (by kernel_rfl) rfl)
    (folded_stops (w.heap.size + 1 + 1) a n cap xs HN.out hmax (fun j => (∃ p, a = some p ∧ p.block = j) ∧ 0 < n) (fun p hp h0 => ⟨⟨p, hp, rfl⟩, h0⟩) W0 b2.lt b2.cell hS0) (fun h k => h.trans k) (kept_b (by rintro j ⟨⟨p, hp, rfl⟩, h0⟩; have := hSb p hp h0; omega)) (Below.refl _ _) (fun _ => rfl)
    (fun pre W => (Boxed W w.heap.size 3 (.int .i64 k) ∧ Boxed W (w.heap.size + 1) 3 (.int .i64 (sizes (pre.map (·.1)) k : Nat))) ∧ Below w.heap.size w W)
    (fun _ _ _ => False)
    (OwnFrom.and (Own.from (fun s A B row hs hg hr => ⟨boxed_own _ _ (fun _ => _) s A B row hs.1 hg hr, boxed_own _ _ (fun _ => _) s A B row hs.2 hg hr⟩) _) (ownFrom_below (Nat.le_refl _) (by omega)))
    (fun _ _ _ _ _ hs _ _ => hs)
    ⟨⟨b0, b1⟩, hB0⟩
    (fun x => { tmps := #[.slice a n cap, .int .i64 k, undef, .pointer (some ⟨w.heap.size, 0, none⟩), .int .i64 0, .pointer (some ⟨w.heap.size + 1, 0, none⟩), .int .u32 (fold x.1 : Nat), .slice a n cap, .func (.func 128) #[] #[.pointer (some ⟨w.heap.size + 1 + 1, 0, none⟩)], .int .u32 (fold x.1 : Nat), undef, undef, undef, undef, undef, undef], defers := [] }) ?assign ?body ?done ?stop
  case assign =>
    intro l x W K hK
    gi_wp2
    exact hK
  case body =>
    rintro l pre x W ⟨⟨d0, d1⟩, hB⟩ hlen
    have c0 := d0.cell
    have c1 := d1.cell
    have f1 := d1.frozen
    have hmx : Tryz.prog.follows .mixedOrders = true := by kernel_rfl
    have CS := size_go (fold x.1) k (fold_max x.1 x.2.1 x.2.2) hk
    have hs1 := sizes_le (pre.map (·.1)) k hk
    rw [List.length_map] at hs1
    have hs2 := size_le (fold x.1) k hk
    have hs3 := sizes_snoc (pre.map (·.1)) x.1 k
    have hpre : pre.length < 1000000 := by have := HN.out; omega
    obtain ⟨s, hs⟩ : ∃ s, s = sizes (pre.map (·.1)) k := ⟨_, rfl⟩
    obtain ⟨z, hz'⟩ : ∃ z, z = size (fold x.1) k := ⟨_, rfl⟩
    rw [← hs] at c1 hs1 hs3 d1
    rw [← hz'] at CS hs2 hs3
    have HS := Lib.hid hs3
    have hsb : s ≤ 38000000 := by omega
    clear hs hz' hs1 hs3
    gi_wp2
    gi_region_with_o (refine ⟨trivial, ?_⟩; gi_at_call 138; refine (CallsIn.inRound l (callsIn_wide.2 (CS _))).mono ?_; rintro e w' ⟨rfl, rfl⟩)
    all_goals gi_wp2
    all_goals (try go_bits)
    all_goals
      refine ⟨(KeepsOthers.setCell _ _ _).trans (KeepsOthers.drew _), ?_, ⟨d0.other (by omega) _, ?_⟩, (hB.setCell (p := ⟨w.heap.size + 1, 0, none⟩) (by simp) _).drew⟩
      · rintro j ⟨⟨p, hp, rfl⟩, hn0⟩
        have := hSb p hp hn0
        exact Below.heap_setCell _ _ _ _ (by simp; omega)
      · rw [List.map_append, List.map_singleton, HS.out, Int.natCast_add]
        exact d1.set _
  case done =>
    rintro D ys W hD rfl ⟨⟨_, d1⟩, hB⟩ hK
    have c1 := d1.cell
    gi_wp2
    refine ⟨by simp, .inl ⟨_, _, rfl, run_takeDeferred hK, ?_⟩⟩
    exact ⟨_, results_tmp rfl _ _ _, rfl, hB.trans (belowK_b (w := w) (Nat.le_refl _) W D _ _ (by omega) hK rfl rfl)⟩
  case stop =>
    rintro D c pre W _ _ h _
    exact h.elim
end Go.Proofs.YtlkjcamjgaecgaaGreat

/-
  The best parameter, and a row written: the code's.
-/
namespace Go.Proofs.YtlkjcamjgaecgaaGreat
open Go Go.RowKit Go.Shelf Go.Th
attribute [local go_sem] Oper.semAt_some

set_option maxRecDepth 20000 in
set_option maxHeartbeats 1600000 in
theorem best_any (a : Option Addr) (n cap : Nat) (xs : List I32) (hn : n = xs.length) (hmax : n ≤ 1000000) (w : World) (hS : Sl w 1 (.slice a n cap) n (i32s (xs.map (·.1)))) :
    Calls Tryz.prog 117 #[.slice a n cap] w fun e w' => e = .returned (.tuple #[.int .i64 (best (xs.map (·.1)) : Nat), .int .i64 (sizes (xs.map (·.1)) (best (xs.map (·.1))) : Nat)]) ∧ Below w.heap.size w w' := by
  obtain ⟨m, hm⟩ : ∃ m, m = xs.map (·.1) := ⟨_, rfl⟩
  have HM := Lib.hid hm
  have CT := fun k hk wx hx => total_any a n cap k xs hn hmax hk wx hx
  rw [← hm] at hS CT ⊢
  have hml : m.length ≤ 1000000 := by rw [hm, List.length_map]; omega
  have hsz : ∀ k, k ≤ 16 → sizes m k ≤ 38000000 := fun k hk => by have := sizes_le m k hk; omega
  have HZ := Lib.hid hsz
  have HC := Lib.hid CT
  have HS := Lib.hid hS
  clear hm hn hmax hml hsz CT hS
  go_enter Tryz.func117, Tryz.ntmps117
  go_wp2_with fail
  refine (HC.out 0 (by omega) _ HS.out).mono ?_
  rintro e w1 ⟨rfl, hB1⟩
  go_wp2_with fail
  go_loopw [4, 5, 6] (fun b f c wr => ∃ j : Nat, j ≤ 16 ∧ c = .int .i64 ((j + 1 : Nat) : Int) ∧ b = .int .i64 (bestTo m j : Nat) ∧ f = .int .i64 (sizes m (bestTo m j) : Nat) ∧ Below w.heap.size w wr) (fun _ _ c _ => 18 - (intOf c).toNat)
  case atStart => exact ⟨0, by omega, rfl, rfl, rfl, hB1⟩
  case round =>
    clear hB1
    obtain ⟨j, hj, rfl, rfl, rfl, hB⟩ := hrel
    have hbl := bestTo_le m j
    by_cases hlt : j < 16
    · have C1 := HC.out (j + 1) (by omega) wr (HS.out.below hB)
      have hs1 := HZ.out (j + 1) (by omega)
      have hs2 := HZ.out (bestTo m j) (by omega)
      by_cases hc : sizes m (j + 1) < sizes m (bestTo m j)
      · have HB := Lib.hid (bestTo_yes m j hc)
        obtain ⟨s, hs⟩ : ∃ s, s = sizes m (j + 1) := ⟨_, rfl⟩
        obtain ⟨t, ht⟩ : ∃ t, t = sizes m (bestTo m j) := ⟨_, rfl⟩
        obtain ⟨b, hb⟩ : ∃ b, b = bestTo m j := ⟨_, rfl⟩
        rw [← hs, ← ht] at hc
        rw [← hs] at C1 hs1
        rw [← ht] at hs2 ⊢
        rw [← hb] at hbl ⊢
        have HH := Lib.hid hs
        clear hs ht hb
        go_wp2_with fail
        refine C1.mono ?_
        rintro e w2 ⟨rfl, hB2⟩
        go_wp2_with fail
        go_roundw
        case rel => exact ⟨j + 1, by omega, by go_num, by rw [HB.out, Int.natCast_add]; rfl, by rw [HB.out, HH.out], hB.trans (hB2.mono hB.size)⟩
        case measure => simp [intOf]; omega
      · have HB := Lib.hid (bestTo_no m j hc)
        obtain ⟨s, hs⟩ : ∃ s, s = sizes m (j + 1) := ⟨_, rfl⟩
        obtain ⟨t, ht⟩ : ∃ t, t = sizes m (bestTo m j) := ⟨_, rfl⟩
        rw [← hs, ← ht] at hc
        rw [← hs] at C1 hs1
        rw [← ht] at hs2 ⊢
        have HH := Lib.hid ht
        clear hs ht
        go_wp2_with fail
        refine C1.mono ?_
        rintro e w2 ⟨rfl, hB2⟩
        go_wp2_with fail
        go_roundw
        case rel => exact ⟨j + 1, by omega, by go_num, by rw [HB.out], by rw [HB.out, HH.out], hB.trans (hB2.mono hB.size)⟩
        case measure => simp [intOf]; omega
    · obtain rfl : j = 16 := by omega
      go_wp2_with fail
      go_ret2
      exact ⟨rfl, hB⟩

/-! ### A writer through a range over a function -/
theorem box_below {w w' : World} {B : Nat} {t : TypeId} {v : Value} (h : Boxed w B t v) (hb : Below w.heap.size w w') : Boxed w' B t v := (hb.block B h.lt).trans h

theorem box_turned {S : Nat → Prop} {w w' : World} {B : Nat} {t : TypeId} {v : Value} (h : Boxed w B t v) (ht : Turned S w w') (hS : ¬ S B) : Boxed w' B t v := (ht.block B h.lt hS).trans h

/-- Between two rounds: the writer, and two boxes. -/
structure RowI (w W : World) (pb po base B0 B1 k : Nat) (v0 : Value) (l : List Bool) : Prop where
  wr : ∃ v, WInv W pb po base v l ∧ WGo pb w W v0 v
  b0 : Boxed W B0 167 (.pointer (some ⟨pb, po, none⟩))
  b1 : Boxed W B1 3 (.int .i64 k)

theorem rowI_from {w : World} {pb po base B0 B1 k : Nat} {v0 : Value} {B : Nat} (hB : w.heap.size ≤ B) (f : List I32 → List Bool) : OwnFrom B (fun pre W => RowI w W pb po base B0 B1 k v0 (f pre)) := by
  intro s X Y row hs hg hr
  have hr' : ∀ r, row = some r → ∃ o : Obj, X.heap[r]? = some o ∧ o.isCells = false := fun r e => (hr r e).2
  obtain ⟨⟨v, hW, hG⟩, h0, h1⟩ := hs
  exact ⟨⟨v, hW.other hg hr', hG.turned.grown hg (fun r e hl => absurd (hr r e).1 (by omega)), hG.new⟩, boxed_own _ _ (fun _ => _) () X Y row h0 hg hr', boxed_own _ _ (fun _ => _) () X Y row h1 hg hr'⟩

set_option maxRecDepth 100000 in
set_option maxHeartbeats 2000000 in
theorem row_any (a : Option Addr) (n cap : Nat) (xs : List I32) (hn : n = xs.length) (hmax : n ≤ 1000) (pb po base : Nat) (v : Value) (l : List Bool) (w : World) (h : WInv w pb po base v l) (hl : l.length ≤ 100000) (hb : base ≤ w.heap.size)
    (hS : Sl w 1 (.slice a n cap) n (i32s (xs.map (·.1)))) (hA : ∀ p, a = some p → 0 < n → p.block < base ∧ p.block ≠ pb) :
    Calls Tryz.prog 101 #[.pointer (some ⟨pb, po, none⟩), .slice a n cap] w fun e w' => e = .returned (.tuple #[]) ∧ ∃ v', WInv w' pb po base v' (l ++ row (xs.map (·.1))) ∧ WGo pb w w' v v' := by
  refine (callsIn_wide (n := 10)).1 ?_
  refine callsIn_of_wp_marks Tryz.func101 rfl trivial ?_ rfl
  simp only [Tryz.ntmps101, List.size_toArray, List.length_cons, List.length_nil, Nat.reduceAdd, Nat.reduceSub, Array.replicate_succ, Array.replicate_zero, List.push_toArray, List.append_toArray, List.nil_append, List.cons_append]
  obtain ⟨m, hm⟩ : ∃ m, m = xs.map (·.1) := ⟨_, rfl⟩
  have hml : m.length ≤ 1000 := by rw [hm, List.length_map]; omega
  rw [← hm] at hS ⊢
  have C1 := fun W hW => best_any a n cap xs hn (by omega) W hW
  rw [← hm] at C1
  have HM := Lib.hid hm; clear hm
  have HN := Lib.hid hn; clear hn
  have b0 := Boxed.new w 167 (.pointer (some ⟨pb, po, none⟩))
  have hbl := best_le m
  obtain ⟨k, hk⟩ : ∃ k, k = best m := ⟨_, rfl⟩
  rw [← hk] at hbl C1
  have HK := Lib.hid hk; clear hk
  obtain ⟨W1, hW1⟩ : ∃ W1, w.alloc (.cells #[.pointer (some ⟨pb, po, none⟩)] 167) = W1 := ⟨_, rfl⟩
  have hB1 : Below w.heap.size w W1 := by rw [← hW1]; exact (Below.refl _ w).alloc (Nat.le_refl _) _
  rw [hW1] at b0
  replace C1 := C1 W1 (hS.below hB1)
  obtain ⟨z, hz⟩ : ∃ z, z = sizes m k := ⟨_, rfl⟩
  rw [← hz] at C1
  clear hz
  have C1 := Lib.hid C1
  gi_wp2
  clear hW1
  refine ⟨trivial, (callsIn_wide.2 C1.out).mono ?_⟩
  rintro e W2 ⟨rfl, hB2⟩
  clear C1
  replace b0 := box_below b0 hB2
  replace hB2 := hB1.trans (hB2.mono hB1.size)
  clear hB1
  have hs2 := b0.lt
  replace b0 := b0.alloc (.cells #[.int .i64 k] 3)
  have b1 := Boxed.new W2 3 (.int .i64 k)
  have c0 := b0.cell
  have c1 := b1.cell
  have hB3 : Below w.heap.size w (W2.alloc (.cells #[.int .i64 k] 3)) := hB2.alloc hB2.size _
  gi_wp2
  obtain ⟨W3, hW3⟩ : ∃ W3, W2.alloc (.cells #[.int .i64 k] 3) = W3 := ⟨_, rfl⟩
  rw [hW3] at b0 b1 c0 c1 hB3 ⊢
  clear hW3 c0 c1
  obtain ⟨B1, hB1⟩ : ∃ B1, B1 = W2.heap.size := ⟨_, rfl⟩
  rw [← hB1] at b1 hs2 ⊢
  clear hB1 hB2
  have hsz3 := hB3.size
  have b1lt := b1.lt
  have hW3 := h.below hB3
  have hpb := h.lt
  have hvb : ∀ j, v.ownBlock = some j → base ≤ j ∧ j < w.heap.size := h.own.lt
  have hS3 := hS.below hB3
  have hG0 : WGo pb w W3 v v := ⟨Turned.below hB3, .inl rfl⟩
  refine ⟨trivial, (callsIn_wide.2 (num_any k 5 (by omega) (by omega) pb po base v l W3 hW3 (by omega) (by omega))).mono ?_⟩
  rintro e W4 ⟨rfl, v4, hW4, hG4⟩
  replace b0 := box_turned b0 hG4.turned (by rintro (e | e); · omega
                                             · have := hvb _ e; omega)
  replace b1 := box_turned b1 hG4.turned (by rintro (e | e); · omega
                                             · have := hvb _ e; omega)
  replace hS3 := hS3.apart hG4.turned (by
    rintro p hp h0 (e | e)
    · exact (hA p hp h0).2 e
    · have := hvb _ e; have := (hA p hp h0).1; omega)
  replace hG4 := hG0.trans hG4
  clear hW3 hG0
  have hsz4 := hG4.turned.size
  have b0lt := b0.lt
  have b1lt' := b1.lt
  gi_wp2
  refine ⟨trivial, (callsIn_wide.2 (folded_any a n cap W4)).mono ?_⟩
  rintro e W5 ⟨rfl, hW5⟩
  have b2 := Boxed.new W4 162 (.slice a n cap)
  have hB5 : Below W4.heap.size W4 W5 := by rw [hW5]; exact (Below.refl _ W4).alloc (Nat.le_refl _) _
  rw [← hW5] at b2
  clear hW5
  replace b0 := box_below b0 hB5
  replace b1 := box_below b1 hB5
  replace hS3 := hS3.below hB5
  replace hW4 := hW4.below hB5
  replace hG4 : WGo pb w W5 v v4 := hG4.trans ⟨Turned.below hB5, .inl rfl⟩
  have hsz5 := hG4.turned.size
  have hln5 : (l ++ numBits k 5).length ≤ 100005 := by rw [List.length_append, numBits_length]; omega
  obtain ⟨B2, hB2⟩ : ∃ B2, B2 = W4.heap.size := ⟨_, rfl⟩
  rw [← hB2] at b2 ⊢
  clear hB2
  gi_wp2
  refine wpIn_rangeFunc_ownF rfl (by omega) (gf := 128) (lb := #[.pointer (some ⟨B2, 0, none⟩)]) rfl trivial (enters_of Tryz.func128 (by kernel_rfl) rfl)
    (folded_stops B2 a n cap xs HN.out (by omega) (fun j => (∃ p, a = some p ∧ p.block = j) ∧ 0 < n) (fun p hp h0 => ⟨⟨p, hp, rfl⟩, h0⟩) W5 b2.lt b2.cell (by rw [← HM.out]; exact hS3)) (fun h k => h.trans k) (kept_b (by rintro j ⟨⟨p, hp, rfl⟩, h0⟩; have := hA p hp h0; omega)) (Below.refl _ _) (fun _ => rfl)
    (fun pre W => RowI w W pb po base w.heap.size B1 k v ((l ++ numBits k 5) ++ codes (pre.map (·.1)) k))
    (fun _ _ _ => False)
    (rowI_from (by omega) (fun pre => (l ++ numBits k 5) ++ codes (pre.map (·.1)) k))
    (fun _ _ _ _ _ hs _ _ => hs)
    ⟨⟨v4, by simpa [codes_nil] using hW4, hG4⟩, b0, b1⟩
    (fun x => { tmps := #[.pointer (some ⟨pb, po, none⟩), .slice a n cap, .pointer (some ⟨w.heap.size, 0, none⟩), undef, .pointer (some ⟨B1, 0, none⟩), .int .i64 z, .int .u32 (fold x.1 : Nat), .tuple #[.int .i64 k, .int .i64 z], .slice a n cap, .tuple #[.int .i64 k, .int .i64 z], .int .i64 k, .int .i64 z, .pointer (some ⟨pb, po, none⟩), .int .i64 k, .int .u64 k, .tuple #[], .slice a n cap, .func (.func 128) #[] #[.pointer (some ⟨B2, 0, none⟩)], .int .u32 (fold x.1 : Nat), undef, undef, undef, undef], defers := [] }) ?assign ?body ?done ?stop
  case assign =>
    intro l x W K hK
    gi_wp2
    exact hK
  case body =>
    rintro l' pre x W ⟨⟨v6, hW6, hG6⟩, d0, d1⟩ hlen
    have c0 := d0.cell
    have c1 := d1.cell
    have hpre : pre.length < 1000 := by have := HN.out; omega
    have hcl := sizes_le (pre.map (·.1)) k hbl
    rw [List.length_map] at hcl
    have hsz6 := hG6.turned.size
    have hll : ((l ++ numBits k 5) ++ codes (pre.map (·.1)) k).length ≤ 1000000 := by
      rw [List.length_append]; unfold sizes at hcl; omega
    have CP := put_go (fold x.1) k (fold_max x.1 x.2.1 x.2.2) hbl pb po base v6 _ W hW6 hll (by omega)
    have CP := Lib.hid CP
    have hv6 : ∀ j, v6.ownBlock = some j → base ≤ j := fun j e => (hW6.own.lt j e).1
    have hbox : ∀ B, w.heap.size ≤ B → Boxed W B 167 (.pointer (some ⟨pb, po, none⟩)) ∨ Boxed W B 3 (.int .i64 k) → ¬ (B = pb ∨ v6.ownBlock = some B) := by
      rintro B hB hx (e | e)
      · omega
      · rcases hx with hx | hx
        · exact hx.not_row (by decide) hW6.own e.symm
        · exact hx.not_row (by decide) hW6.own e.symm
    clear hcl hll
    gi_wp2
    refine ⟨trivial, (CallsIn.inRound l' (callsIn_wide.2 CP.out)).mono ?_⟩
    rintro e W7 ⟨rfl, v7, hW7, hG7⟩
    gi_wp2
    refine ⟨hG7.turned.others ?_, ?_, ⟨v7, ?_, hG6.trans hG7⟩, box_turned d0 hG7.turned (hbox _ (Nat.le_refl _) (.inl d0)), box_turned d1 hG7.turned (hbox _ (by omega) (.inr d1))⟩
    · rintro j (rfl | e) o ho
      · exact block_cells hW6.c0 o ho
      · exact own_cells hW6.own e o ho
    · rintro j ⟨⟨p, hp, rfl⟩, h0⟩
      obtain ⟨h1, h2⟩ := hA p hp h0
      refine hG7.turned.block _ (by omega) ?_
      rintro (e | e)
      · exact h2 e
      · have := hv6 _ e; omega
    · rw [List.map_append, List.map_singleton, codes_snoc, ← List.append_assoc]
      exact hW7
  case done =>
    rintro D ys W hD rfl ⟨⟨v6, hW6, hG6⟩, _, _⟩ hK
    gi_wp2
    refine ⟨by simp, .inl ⟨_, _, rfl, run_takeDeferred hK, ?_⟩⟩
    have hr : ∀ r, some D = some r → ∃ o : Obj, W.heap[r]? = some o ∧ o.isCells = false := fun r e => by cases e; exact ⟨_, hK, rfl⟩
    have hg := grownBy_putObj' W D (.deferred none)
    refine ⟨_, results_none rfl _ _ _, rfl, v6, ?_, hG6.turned.grown hg (fun r e hl => by cases e; omega), hG6.new⟩
    have hW8 := hW6.other hg hr
    unfold row
    rw [← HK.out, ← List.append_assoc, HM.out]
    exact hW8
  case stop =>
    rintro D c pre W _ _ h _
    exact h.elim
end Go.Proofs.YtlkjcamjgaecgaaGreat

/-
  A row read: the code's.
-/
namespace Go.Proofs.YtlkjcamjgaecgaaGreat
open Go Go.RowKit Go.Th

theorem E32 : ElemOf Tryz.prog 162 21 1 4 := ElemOf.mk' Tryz.underlying162 (z := .int .i32 0) (by kernel_rfl) rfl (by decide)

theorem RInv.old {w w' : World} {B pb po base : Nat} {v : Value} {bs : List Nat} {at_ : Nat} {bad : Bool} (h : RInv w pb po base v bs at_ bad) (hp : pb < B) (hv : ∀ k, v.ownBlock = some k → k < B) (hb : Below B w w') : RInv w' pb po base v bs at_ bad :=
  h.turned (S := fun k => B ≤ k) ⟨hb.os, hb.tape, hb.output, hb.size, fun k hk hs => hb.block k (by omega)⟩ (by omega) (fun k e => by have := hv k e; omega)
theorem i32s_snoc (xs : List Int) (x : Int) : i32s (xs ++ [x]) = i32s xs ++ [.int .i32 x] := by simp [i32s]
theorem rm_32 {x : Int} (h : Rm x) : In32 x := by have := rm_def h; constructor <;> omega
theorem i32s_length (xs : List Int) : (i32s xs).length = xs.length := by simp [i32s]

set_option maxRecDepth 20000 in
set_option maxHeartbeats 1600000 in
theorem isrow_yes (n : Nat) (hmax : n ≤ 1000) (m : List Int) (pb po base : Nat) (vr : Value) (bs : List Nat) (at_ : Nat) (w : World) (h : RInv w pb po base vr bs at_ false) (H : RowAt bs at_ n m) :
    Calls Tryz.prog 122 #[.pointer (some ⟨pb, po, none⟩), .int .i64 n] w fun e w' => ∃ v, e = .returned (.tuple #[v, .bool true]) ∧ w'.ownsRow w.heap.size 21 1 v n (i32s m) ∧ RInv w' pb po base vr bs (at_ + (row m).length) false ∧ Turned (fun k => k = pb) w w' := by
  obtain ⟨h5, hv5⟩ := H.num
  have hcs := H.codes
  have hlen := H.len
  have hroom := H.room
  have hbl := best_le m
  have hrl := row_length m
  obtain ⟨k, hk⟩ : ∃ k, k = best m := ⟨_, rfl⟩
  rw [← hk] at hv5 hcs hbl hrl
  have HK := Lib.hid hk; clear hk H
  have HCS := Lib.hid hcs; clear hcs
  have HR := Lib.hid hroom; clear hroom
  have HL := Lib.hid hlen; clear hlen
  have HRL := Lib.hid hrl; clear hrl
  have hpb := h.lt
  have hvb : ∀ j, vr.ownBlock = some j → j < w.heap.size := fun j e => (h.own.lt j e).2
  have HVB := Lib.hid hvb; clear hvb
  have C1 := rnum_yes pb po base vr bs at_ false 5 w h h5
  rw [hv5] at C1
  have C1 := Lib.hid C1
  clear hv5
  go_enter Tryz.func122, Tryz.ntmps122
  go_wp2_with fail
  refine C1.out.mono ?_
  rintro e w1 ⟨rfl, hR1, hT1⟩
  clear C1
  go_wp2_with fail
  refine (right_any pb po base vr bs _ false _ hR1).mono ?_
  rintro e w1' ⟨rfl, rfl⟩
  go_wp2_with fail
  go_loopw [7, 23] (fun x c wx => ∃ i : Nat, i ≤ n ∧ c = .int .i64 i ∧ wx.ownsRow w.heap.size 21 1 x i (i32s (m.take i)) ∧ RInv wx pb po base vr bs (at_ + 5 + sizes (m.take i) k) false ∧ Turned (fun k => k = pb) w wx) (fun _ c _ => n - (intOf c).toNat)
  case atStart => exact ⟨0, Nat.zero_le _, rfl, World.ownsRow_nil _ _ _ _, by simpa [sizes_nil] using hR1, hT1⟩
  case round =>
    clear hR1 hT1
    obtain ⟨i, hi, rfl, ho, hR, hT⟩ := hrel
    have hsz := hT.size
    by_cases hlt : i < n
    · have him : i < m.length := by rw [HL.out]; exact hlt
      have hgo := here_next HCS.out i him
      have hts := take_snoc m i him
      have hrm := HR.out m[i] (List.getElem_mem _)
      obtain ⟨y, hy⟩ : ∃ y, y = m[i] := ⟨_, rfl⟩
      rw [← hy] at hgo hts hrm
      clear hy
      have hfr := fold_room y hrm
      have C2 := get_yes (fold y) k hbl hfr pb po base vr bs _ wr hR hgo
      have C3 := unfold_go (fold y) (by omega)
      rw [unfold_fold] at C3
      have hss := sizes_snoc (m.take i) y k
      rw [← hts] at hss
      have HSS := Lib.hid hss; clear hss
      have HTS := Lib.hid hts; clear hts
      obtain ⟨f, hf⟩ : ∃ f, f = fold y := ⟨_, rfl⟩
      rw [← hf] at C2 C3
      have HF := Lib.hid hf; clear hf hfr hgo
      have C2 := Lib.hid C2
      have C3 := Lib.hid C3
      go_wp2_with fail
      refine C2.out.mono ?_
      rintro e w2 ⟨rfl, hR2, hT2⟩
      clear C2
      have ho2 := hT2.own ho (by rintro q hq rfl; have := (ho.lt _ hq).1; omega)
      have hT3 := hT.trans hT2 (fun _ _ h => h)
      have hsz2 := hT3.size
      clear ho hT hR hT2
      go_wp2_with fail
      refine (C3.out _).mono ?_
      rintro e w2' ⟨rfl, rfl⟩
      clear C3
      go_wp2_with (at_builtin; refine wpList_app E32 rfl (.tmp 33) (.tmp 36) rfl w.heap.size rfl (ho2.alloc _) rfl (Sl.one _ _ _) (by intro u hu; simp at hu; subst hu; rfl) (by unfold maxLen; omega) (by omega) (by simp; omega) ?_)
      intro v2 w3 ho3 hg3 _
      have hB3 := app_below ho2 hsz2 hg3
      have hR3 := hR2.old hpb HVB.out hB3
      have hT4 := hT3.belowB (Nat.le_refl _) hB3
      clear ho2 hg3 hR2 hT3
      go_wp2_with fail
      go_roundw
      case rel =>
        refine ⟨i + 1, by omega, by go_num, ?_, ?_, hT4⟩
        · rw [HTS.out, i32s_snoc]; exact ho3
        · rw [HSS.out, ← Nat.add_assoc, ← HF.out]; exact hR3
      case measure => simp [intOf]; omega
    · obtain rfl : i = n := by omega
      rw [List.take_of_length_le (by rw [HL.out]; exact Nat.le_refl _)] at ho hR
      obtain ⟨a, cap, rfl, hc1, hc2⟩ := ownsRow_slice ho
      obtain ⟨xs, hxs⟩ := exists_i32 m (fun x hx => rm_32 (HR.out x hx))
      have C4 := best_any a i cap xs (by rw [← HL.out, ← hxs, List.length_map]) (by omega) wr (by rw [hxs]; exact Sl.of_own ho)
      rw [hxs, ← HK.out] at C4
      have C4 := Lib.hid C4
      clear hxs
      obtain ⟨z, hz⟩ : ∃ z, z = sizes m k := ⟨_, rfl⟩
      rw [← hz] at C4 hR
      have HZ := Lib.hid hz; clear hz
      go_wp2_with fail
      refine C4.out.mono ?_
      rintro e w2 ⟨rfl, hB2⟩
      clear C4
      have ho2 := ownsRow_below ho hB2
      have hR2 := hR.below hB2
      have hT2 := hT.trans (Turned.below (S := fun k => k = pb) hB2) (fun _ _ h => h)
      clear ho hR hT hB2
      go_wp2_with fail
      go_ret2
      refine ⟨_, rfl, ho2, ?_, hT2⟩
      rw [HRL.out, ← HZ.out, ← Nat.add_assoc]
      exact hR2
end Go.Proofs.YtlkjcamjgaecgaaGreat

/-
  No row read: the code's.
-/
namespace Go.Proofs.YtlkjcamjgaecgaaGreat
open Go Go.RowKit Go.Th

theorem isrow_cut (n : Nat) (pb po base : Nat) (vr : Value) (bs : List Nat) (at_ : Nat) (w : World) (h : RInv w pb po base vr bs at_ false) (H : 8 * bs.length < at_ + 5) :
    Calls Tryz.prog 122 #[.pointer (some ⟨pb, po, none⟩), .int .i64 n] w fun e w' => e = .returned (.tuple #[.slice none 0 0, .bool false]) ∧ Turned (fun k => k = pb) w w' := by
  go_enter Tryz.func122, Tryz.ntmps122
  go_wp2_with fail
  refine (rnum_no pb po base vr bs at_ false 5 w h H).mono ?_
  rintro e w1 ⟨rfl, hR1, hT1⟩
  go_wp2_with fail
  refine (right_any pb po base _ _ _ true _ hR1).mono ?_
  rintro e w1' ⟨rfl, rfl⟩
  go_wp2_with fail
  go_ret2
  exact ⟨rfl, hT1⟩

set_option maxRecDepth 20000 in
set_option maxHeartbeats 1600000 in
theorem isrow_no (n : Nat) (hmax : n ≤ 1000) (pb po base : Nat) (vr : Value) (bs : List Nat) (at_ : Nat) (w : World) (h : RInv w pb po base vr bs at_ false) (H : ∀ m, ¬ RowAt bs at_ n m) :
    Calls Tryz.prog 122 #[.pointer (some ⟨pb, po, none⟩), .int .i64 n] w fun e w' => e = .returned (.tuple #[.slice none 0 0, .bool false]) ∧ Turned (fun k => k = pb) w w' := by
  by_cases h5 : at_ + 5 ≤ 8 * bs.length
  case neg => exact isrow_cut n pb po base vr bs at_ w h (by omega)
  have hk5 := valAt_small bs at_ 5 (by omega)
  rw [show (2 : Nat) ^ 5 = 32 by decide] at hk5
  have C1 := rnum_yes pb po base vr bs at_ false 5 w h h5
  obtain ⟨k, hk⟩ : ∃ k, valAt bs at_ 5 = k := ⟨_, rfl⟩
  rw [hk] at C1 hk5
  have HK := Lib.hid hk; clear hk
  have HH := Lib.hid H; clear H
  have hpb := h.lt
  have hvb : ∀ j, vr.ownBlock = some j → j < w.heap.size := fun j e => (h.own.lt j e).2
  have HVB := Lib.hid hvb; clear hvb
  have H5 := Lib.hid h5; clear h5
  have C1 := Lib.hid C1
  go_enter Tryz.func122, Tryz.ntmps122
  go_wp2_with fail
  refine C1.out.mono ?_
  rintro e w1 ⟨rfl, hR1, hT1⟩
  clear C1
  go_wp2_with fail
  refine (right_any pb po base vr bs _ false _ hR1).mono ?_
  rintro e w1' ⟨rfl, rfl⟩
  go_wp2_with fail
  go_loopw [7, 23] (fun x c wx => ∃ (i : Nat) (l : List Int), i ≤ n ∧ c = .int .i64 i ∧ l.length = i ∧ Hid (∀ x ∈ l, Rm x) ∧ Hid (Here bs (at_ + 5) (codes l k)) ∧ wx.ownsRow w.heap.size 21 1 x i (i32s l) ∧ RInv wx pb po base vr bs (at_ + 5 + sizes l k) false ∧ Turned (fun k => k = pb) w wx) (fun _ c _ => n - (intOf c).toNat)
  case atStart => exact ⟨0, [], Nat.zero_le _, rfl, rfl, Lib.hid (by simp), Lib.hid (here_nil _ _ H5.out), World.ownsRow_nil _ _ _ _, by simpa [sizes_nil] using hR1, hT1⟩
  case round =>
    clear hR1 hT1
    obtain ⟨i, l, hi, rfl, hl, hrm, hhr, ho, hR, hT⟩ := hrel
    have HL := Lib.hid hl; clear hl
    have hsz := hT.size
    by_cases hlt : i < n
    · by_cases hk16 : k ≤ 16
      · by_cases hc : ∃ f, f < 131072 ∧ Here bs (at_ + 5 + sizes l k) (code f k)
        · obtain ⟨f, hf, hgo⟩ := hc
          have C2 := get_yes f k hk16 hf pb po base vr bs _ wr hR hgo
          have C3 := unfold_go f (by omega)
          have hy := unfold_room f hf
          have hfy := fold_unfold f
          obtain ⟨y, hyy⟩ : ∃ y, y = unfold f := ⟨_, rfl⟩
          rw [← hyy] at hy hfy C3
          clear hyy
          have hss := sizes_snoc l y k
          rw [hfy] at hss
          have hcs : Here bs (at_ + 5) (codes (l ++ [y]) k) := by
            rw [codes_snoc, hfy, here_app]
            exact ⟨hhr.out, hgo⟩
          have hrm' : ∀ x ∈ l ++ [y], Rm x := by
            intro x hx
            rcases List.mem_append.1 hx with hx | hx
            · exact hrm.out x hx
            · simp at hx; subst hx; exact hy
          have HSS := Lib.hid hss
          have HCS := Lib.hid hcs
          have HRM := Lib.hid hrm'
          have C2 := Lib.hid C2
          have C3 := Lib.hid C3
          clear hss hcs hrm' hy hfy hgo hf hrm hhr
          go_wp2_with fail
          refine C2.out.mono ?_
          rintro e w2 ⟨rfl, hR2, hT2⟩
          clear C2
          have ho2 := hT2.own ho (by rintro q hq rfl; have := (ho.lt _ hq).1; omega)
          have hT3 := hT.trans hT2 (fun _ _ h => h)
          have hsz2 := hT3.size
          clear ho hT hR hT2
          go_wp2_with fail
          refine (C3.out _).mono ?_
          rintro e w2' ⟨rfl, rfl⟩
          clear C3
          go_wp2_with (at_builtin; refine wpList_app E32 rfl (.tmp 33) (.tmp 36) rfl w.heap.size rfl (ho2.alloc _) rfl (Sl.one _ _ _) (by intro u hu; simp at hu; subst hu; rfl) (by unfold maxLen; omega) (by omega) (by simp; omega) ?_)
          intro v2 w3 ho3 hg3 _
          have hB3 := app_below ho2 hsz2 hg3
          have hR3 := hR2.old hpb HVB.out hB3
          have hT4 := hT3.belowB (Nat.le_refl _) hB3
          clear ho2 hg3 hR2 hT3
          go_wp2_with fail
          go_roundw
          case rel =>
            refine ⟨i + 1, l ++ [y], by omega, by go_num, by rw [List.length_append, HL.out]; rfl, HRM, HCS, ?_, ?_, hT4⟩
            · rw [i32s_snoc]; exact ho3
            · rw [HSS.out, ← Nat.add_assoc]; exact hR3
          case measure => simp [intOf]; omega
        · have C2 := Lib.hid (get_no k hk16 pb po base vr bs _ wr hR (fun f h1 h2 => hc ⟨f, h1, h2⟩))
          clear hc
          go_wp2_with fail
          refine C2.out.mono ?_
          rintro e w2 ⟨rfl, hT2⟩
          have hT3 := hT.trans hT2 (fun _ _ h => h)
          go_wp2_with fail
          go_ret2
          exact ⟨rfl, hT3⟩
      · have C2 := Lib.hid (get_bad (k : Int) (by omega) (by omega) (some ⟨pb, po, none⟩) wr)
        go_wp2_with fail
        refine C2.out.mono ?_
        rintro e w2 ⟨rfl, rfl⟩
        go_wp2_with fail
        go_ret2
        exact ⟨rfl, hT⟩
    · obtain rfl : i = n := by omega
      obtain ⟨a, cap, rfl, hc1, hc2⟩ := ownsRow_slice ho
      obtain ⟨xs, hxs⟩ := exists_i32 l (fun x hx => rm_32 (hrm.out x hx))
      have C4 := best_any a i cap xs (by rw [← HL.out, ← hxs, List.length_map]) (by omega) wr (by rw [hxs]; exact Sl.of_own ho)
      rw [hxs] at C4
      clear hxs
      have hne : best l ≠ k := fun e => HH.out l (rowAt_of HL.out hrm.out H5.out HK.out hhr.out e)
      obtain ⟨b, hb⟩ : ∃ b, b = best l := ⟨_, rfl⟩
      rw [← hb] at C4 hne
      clear hb
      obtain ⟨z, hz⟩ : ∃ z, z = sizes l b := ⟨_, rfl⟩
      rw [← hz] at C4
      clear hz
      have C4 := Lib.hid C4
      have hbk : ((b : Int) == (k : Int)) = false := by simp; omega
      have hbk' : ((b : Int) != (k : Int)) = true := by simp; omega
      go_wp2_with fail
      refine C4.out.mono ?_
      rintro e w2 ⟨rfl, hB2⟩
      clear C4
      have hT2 := hT.trans (Turned.below (S := fun k => k = pb) hB2) (fun _ _ h => h)
      clear ho hR hT hB2
      go_wp2_with fail
      go_ret2
      exact ⟨rfl, hT2⟩
end Go.Proofs.YtlkjcamjgaecgaaGreat

/-
  The reference's codes and rows.
-/
namespace Go.Proofs.YtlkjcamjgaecgaaGreat
open Go Go.RowKit Go.Th

theorem bls_snoc (p : List Bool) (b : Bool) : bls (p ++ [b]) = bls p ++ [.bool b] := by simp only [bls, List.map_append, List.map_cons, List.map_nil]
theorem bls_append (p q : List Bool) : bls (p ++ q) = bls p ++ bls q := by simp only [bls, List.map_append]
theorem bls_length (p : List Bool) : (bls p).length = p.length := by simp [bls]

theorem code_many (n k : Nat) (h : ¬ n / 2 ^ k < 20) : code n k = onesBits 20 ++ numBits n 17 := by unfold code; rw [if_neg h]
theorem code_few (n k : Nat) (h : n / 2 ^ k < 20) : code n k = onesBits (n / 2 ^ k) ++ numBits n k := by unfold code; rw [if_pos h]

end Go.Proofs.YtlkjcamjgaecgaaGreat

/-
  The reference's sizes, best parameter and rows.
-/
namespace Go.Proofs.YtlkjcamjgaecgaaGreat
open Go Go.RowKit Go.Th

theorem cell_i32 {w : World} {a : Option Addr} {n cap : Nat} {m : List Int} (hS : Sl w 1 (.slice a n cap) n (i32s m)) (i : Nat) (hi : i < m.length) :
    ∃ b o, a = some ⟨b, o, none⟩ ∧ b < w.heap.size ∧ w.cell? ⟨b, o + i, none⟩ = some (.int .i32 m[i]) := by
  obtain ⟨a', c', he, _, _, _, _, h5⟩ := hS
  cases he
  obtain ⟨b, o, e, hc⟩ := h5 i _ (i32s_at m i hi)
  exact ⟨b, o, e, by have := World.block_lt_of_cell? w _ hc; simpa using this, hc⟩

end Go.Proofs.YtlkjcamjgaecgaaGreat

/-
  Numbers that have room; what packed rows say.
-/
namespace Go.Proofs.YtlkjcamjgaecgaaGreat
open Go Go.RowKit Go.Th

theorem here_pack0 (l : List Bool) : Here (pack l) 0 l := by
  have h := here_pack l [] (pack l) 0 (by rw [List.append_nil]) rfl
  exact h (fun j hj => bitAt_pack l j hj)
theorem rowAt_pack (m : List Int) (n : Nat) (hn : m.length = n) (hr : ∀ x ∈ m, Rm x) : RowAt (pack (row m)) 0 n m := ⟨hn, hr, here_pack0 _⟩

/-- What 'small' makes of a number. -/
def sm (x : Int) : Int := if x < -65536 ∨ 65535 < x then x.tmod 60000 else x
theorem sm_room (x : Int) : Rm (sm x) := by
  unfold sm Rm
  by_cases h : x < -65536 ∨ 65535 < x
  · rw [if_pos h]
    have h1 := Int.tmod_lt_of_pos x (b := 60000) (by omega)
    have h2 : -60000 < x.tmod 60000 := by
      have := Int.lt_tmod_of_pos x (b := 60000) (by omega); omega
    omega
  · rw [if_neg h]; omega
theorem sm_all (m : List Int) : ∀ x ∈ m.map sm, Rm x := by
  intro x hx
  obtain ⟨y, _, rfl⟩ := List.mem_map.1 hx
  exact sm_room y

end Go.Proofs.YtlkjcamjgaecgaaGreat
