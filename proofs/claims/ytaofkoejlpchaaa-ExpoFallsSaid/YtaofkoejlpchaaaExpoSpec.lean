/-
  Logarithms by squares, powers by roots of a half, logarithms of sums: plain.
-/
import Derived.Test.YtaofkoejlpchaaaRootSpec
import Derived.Lib.BitFns
set_option linter.unusedVariables false
set_option linter.unusedSimpArgs false
namespace Go.Th.Expo
open Go.Th.Root

/-! ### logarithms -/
/-- The place of the highest bit. -/
def pl (x : Nat) : Nat := Nat.log2 x
/-- A number as a mantissa. -/
def mant (x : Nat) : Nat := if pl x = 63 then x / 2 else x * 2 ^ (62 - pl x)
/-- So many rounds more. -/
def lg : Nat → Nat → Nat → Nat
  | 0, n, _ => n
  | k + 1, n, m => if 9223372036854775808 ≤ m * m / 4611686018427387904 then lg k (2 * n + 1) (m * m / 4611686018427387904 / 2) else lg k (2 * n) (m * m / 4611686018427387904)
def logS (x : Nat) : Nat := lg 16 (pl x) (mant x)

theorem pl_le {x : Nat} (h : 0 < x) : 2 ^ pl x ≤ x := Nat.log2_self_le (by omega)
theorem pl_lt (x : Nat) : x < 2 ^ (pl x + 1) := Nat.lt_log2_self
theorem pl_eq {x n : Nat} (h1 : 2 ^ n ≤ x) (h2 : x < 2 ^ (n + 1)) : pl x = n := by
  have a := pl_le (x := x) (Nat.lt_of_lt_of_le (Nat.two_pow_pos n) h1)
  have b := pl_lt x
  rcases Nat.lt_trichotomy (pl x) n with h | h | h
  · have := Nat.pow_le_pow_right (n := 2) (by decide) (show pl x + 1 ≤ n by omega)
    omega
  · exact h
  · have := Nat.pow_le_pow_right (n := 2) (by decide) (show n + 1 ≤ pl x by omega)
    omega
theorem pl_63 {x : Nat} (h0 : 0 < x) (h : x < 18446744073709551616) : pl x ≤ 63 := by
  have a := pl_le h0
  rcases Nat.lt_or_ge 63 (pl x) with b | b
  · have := Nat.pow_le_pow_right (n := 2) (by decide) (show 64 ≤ pl x from b)
    omega
  · exact b
theorem pl_le_pl {x y : Nat} (h0 : 0 < x) (h : x ≤ y) : pl x ≤ pl y := by
  have a := pl_le h0
  have b := pl_lt y
  rcases Nat.lt_or_ge (pl y) (pl x) with c | c
  · have := Nat.pow_le_pow_right (n := 2) (by decide) (show pl y + 1 ≤ pl x from c)
    omega
  · exact c
theorem pl_twice {x : Nat} (h0 : 0 < x) : pl (2 * x) = pl x + 1 := by
  have a := pl_le h0
  have b := pl_lt x
  refine pl_eq ?_ ?_
  · rw [Nat.pow_succ]; omega
  · rw [Nat.pow_succ]; omega
theorem pl_div {x : Nat} (h0 : 0 < x) : x / 2 ^ pl x = 1 := by
  have a := pl_le h0
  have b := pl_lt x
  have c : 0 < 2 ^ pl x := Nat.two_pow_pos _
  rw [Nat.pow_succ] at b
  have d1 : 1 ≤ x / 2 ^ pl x := (Nat.le_div_iff_mul_le c).2 (by omega)
  have d2 : x / 2 ^ pl x < 2 := (Nat.div_lt_iff_lt_mul c).2 (by omega)
  omega
theorem pl_of_div {x n : Nat} (h : x / 2 ^ n = 1) : pl x = n := by
  have c : 0 < 2 ^ n := Nat.two_pow_pos _
  have d1 : 1 * 2 ^ n ≤ x := (Nat.le_div_iff_mul_le c).1 (by omega)
  have d2 : x < 2 * 2 ^ n := (Nat.div_lt_iff_lt_mul c).1 (by omega)
  exact pl_eq (by omega) (by rw [Nat.pow_succ]; omega)
theorem mant_range {x : Nat} (h0 : 0 < x) (h : x < 18446744073709551616) : 4611686018427387904 ≤ mant x ∧ mant x < 9223372036854775808 := by
  have a := pl_le h0
  have b := pl_lt x
  have c := pl_63 h0 h
  unfold mant
  split
  · rename_i e
    rw [e] at a
    omega
  · have e : 2 ^ pl x * 2 ^ (62 - pl x) = 4611686018427387904 := by
      rw [← Nat.pow_add, show pl x + (62 - pl x) = 62 by omega]
    have p : 0 < 2 ^ (62 - pl x) := Nat.two_pow_pos _
    constructor
    · have := Nat.mul_le_mul_right (2 ^ (62 - pl x)) a
      omega
    · rw [Nat.pow_succ, Nat.mul_comm] at b
      have := Nat.mul_lt_mul_of_pos_right b p
      rw [Nat.mul_assoc] at this
      omega
theorem sqm_range {m : Nat} (h1 : 4611686018427387904 ≤ m) (h2 : m < 9223372036854775808) : 4611686018427387904 ≤ m * m / 4611686018427387904 ∧ m * m / 4611686018427387904 < 18446744073709551616 := by
  have a := Nat.mul_le_mul h1 h1
  have b := Nat.mul_lt_mul'' h2 h2
  omega
/-- The whole part. -/
theorem lg_whole : ∀ k n m, n * 2 ^ k ≤ lg k n m ∧ lg k n m < (n + 1) * 2 ^ k
  | 0, n, m => by unfold lg; rw [Nat.pow_zero]; omega
  | k + 1, n, m => by
    unfold lg
    have e : 2 ^ (k + 1) = 2 * 2 ^ k := by rw [Nat.pow_succ, Nat.mul_comm]
    rw [e]
    have e1 : n * (2 * 2 ^ k) = 2 * n * 2 ^ k := by rw [← Nat.mul_assoc, Nat.mul_comm n 2]
    have e2 : (n + 1) * (2 * 2 ^ k) = (2 * n + 2) * 2 ^ k := by rw [← Nat.mul_assoc, Nat.add_mul, Nat.one_mul, Nat.mul_comm n 2]
    rw [e1, e2]
    split
    · have := lg_whole k (2 * n + 1) (m * m / 4611686018427387904 / 2)
      have a1 : (2 * n + 1) * 2 ^ k = 2 * n * 2 ^ k + 2 ^ k := by rw [Nat.add_mul, Nat.one_mul]
      rw [show 2 * n + 1 + 1 = 2 * n + 2 from rfl] at this
      omega
    · have := lg_whole k (2 * n) (m * m / 4611686018427387904)
      have a1 : (2 * n + 2) * 2 ^ k = (2 * n + 1) * 2 ^ k + 2 ^ k := by rw [← Nat.succ_mul]
      omega
theorem lg_more : ∀ k n d m, lg k (n + d) m = lg k n m + d * 2 ^ k
  | 0, n, d, m => by unfold lg; rw [Nat.pow_zero, Nat.mul_one]
  | k + 1, n, d, m => by
    unfold lg
    have e : d * 2 ^ (k + 1) = 2 * d * 2 ^ k := by rw [Nat.pow_succ, Nat.mul_comm (2 ^ k) 2, ← Nat.mul_assoc, Nat.mul_comm d 2]
    rw [e]
    split
    · rw [show 2 * (n + d) + 1 = 2 * n + 1 + 2 * d by omega, lg_more]
    · rw [show 2 * (n + d) = 2 * n + 2 * d by omega, lg_more]
theorem lg_mono : ∀ k n m n' m', n < n' ∨ n = n' ∧ m ≤ m' → lg k n m ≤ lg k n' m'
  | 0, n, m, n', m', h => by unfold lg; omega
  | k + 1, n, m, n', m', h => by
    unfold lg
    have hq : n = n' → m * m / 4611686018427387904 ≤ m' * m' / 4611686018427387904 := by
      intro e
      have hm : m ≤ m' := by omega
      exact Nat.div_le_div_right (Nat.mul_le_mul hm hm)
    generalize m * m / 4611686018427387904 = q at hq ⊢
    generalize m' * m' / 4611686018427387904 = q' at hq ⊢
    split <;> split <;> exact lg_mono k _ _ _ _ (by omega)
theorem logS_mono {x y : Nat} (h0 : 0 < x) (h : x ≤ y) : logS x ≤ logS y := by
  refine lg_mono _ _ _ _ _ ?_
  have a := pl_le_pl h0 h
  rcases Nat.lt_or_ge (pl x) (pl y) with b | b
  · exact .inl b
  · have e : pl x = pl y := by omega
    refine .inr ⟨e, ?_⟩
    unfold mant
    rw [e]
    split
    · exact Nat.div_le_div_right h
    · exact Nat.mul_le_mul_right _ h
theorem logS_twice {x : Nat} (h0 : 0 < x) (h : x < 4611686018427387904) : logS (2 * x) = logS x + 65536 := by
  have a := pl_twice h0
  have b : pl x < 62 := by
    have := pl_le h0
    rcases Nat.lt_or_ge (pl x) 62 with c | c
    · exact c
    · have := Nat.pow_le_pow_right (n := 2) (by decide) c
      omega
  have e : mant (2 * x) = mant x := by
    unfold mant
    rw [a, if_neg (by omega), if_neg (by omega), show 62 - pl x = 62 - (pl x + 1) + 1 by omega, Nat.pow_succ, Nat.mul_comm (2 ^ _) 2, ← Nat.mul_assoc, Nat.mul_comm x 2]
  unfold logS
  rw [a, e, lg_more]
theorem logS_whole (x : Nat) : logS x / 65536 = pl x := by
  have := lg_whole 16 (pl x) (mant x)
  unfold logS
  omega
theorem logS_lt {x : Nat} (h0 : 0 < x) (h : x < 18446744073709551616) : logS x < 4194304 := by
  have := logS_whole x
  have := pl_63 h0 h
  omega
theorem logS_33 : logS 8589934592 = 2162688 := by
  have e : pl 8589934592 = 33 := pl_eq (by decide) (by decide)
  have m : mant 8589934592 = 4611686018427387904 := by unfold mant; rw [e]; decide
  unfold logS
  rw [e, m]
  decide
theorem logS_8 : logS 8 = 196608 := by
  have e : pl 8 = 3 := pl_eq (by decide) (by decide)
  have m : mant 8 = 4611686018427387904 := by unfold mant; rw [e]; decide
  unfold logS
  rw [e, m]
  decide
theorem logS_3 : logS 3 = 103872 := by
  have e : pl 3 = 1 := pl_eq (by decide) (by decide)
  have m : mant 3 = 6917529027641081856 := by unfold mant; rw [e]; decide
  unfold logS
  rw [e, m]
  decide

/-! ### powers -/
/-- So many bits more. -/
def ex : Nat → Nat → Nat → Nat → Nat
  | 0, _, _, m => m
  | k + 1, p, h, m => ex k p (rt 2 (h * 4611686018427387904)) (if p / 2 ^ k % 2 = 1 then m * rt 2 (h * 4611686018427387904) / 4611686018427387904 else m)
def exM (p : Nat) : Nat := ex 16 p 2305843009213693952 4611686018427387904
def expS (d : Nat) : Nat := if 40 < d / 65536 then 0 else exM (d % 65536) / 1073741824 / 2 ^ (d / 65536)

theorem ex_step (k p h m : Nat) : ex (k + 1) p h m = ex k p (rt 2 (h * 4611686018427387904)) (if p / 2 ^ k % 2 = 1 then m * rt 2 (h * 4611686018427387904) / 4611686018427387904 else m) := rfl
theorem ex_low : ∀ k p h m, p % 2 ^ k = 0 → ex k p h m = m
  | 0, p, h, m, _ => rfl
  | k + 1, p, h, m, e => by
    unfold ex
    have e1 : p % 2 ^ k = 0 := by
      rw [← Nat.mod_mod_of_dvd p (Nat.pow_dvd_pow 2 (Nat.le_succ k)), e, Nat.zero_mod]
    have e2 : p / 2 ^ k % 2 = 0 := by
      have := Nat.mod_pow_succ (x := p) (b := 2) (k := k)
      rw [e, e1, Nat.zero_add] at this
      have c : 0 < 2 ^ k := Nat.two_pow_pos _
      rcases Nat.mul_eq_zero.1 this.symm with h' | h'
      · omega
      · exact h'
    rw [if_neg (by omega), ex_low k p _ m e1]
theorem root_le {h : Nat} (hh : h ≤ 4611686018427387904) : rt 2 (h * 4611686018427387904) ≤ 4611686018427387904 := by
  have a := rt_sq (h * 4611686018427387904)
  rcases Nat.lt_or_ge 4611686018427387904 (rt 2 (h * 4611686018427387904)) with b | b
  · have := Nat.mul_le_mul b b
    omega
  · exact b
theorem prod_le {m h : Nat} (hm : m ≤ 4611686018427387904) (hh : h ≤ 4611686018427387904) : m * h / 4611686018427387904 ≤ 4611686018427387904 := by
  have a := Nat.mul_le_mul hm hh
  omega
theorem ex_le : ∀ k p h m, h ≤ 4611686018427387904 → m ≤ 4611686018427387904 → ex k p h m ≤ 4611686018427387904
  | 0, _, _, m, _, hm => hm
  | k + 1, p, h, m, hh, hm => by
    unfold ex
    refine ex_le k _ _ _ (root_le hh) ?_
    split
    · exact prod_le hm (root_le hh)
    · exact hm
theorem exM_le (p : Nat) : exM p ≤ 4611686018427387904 := ex_le _ _ _ _ (by decide) (by decide)
theorem expS_le (d : Nat) : expS d ≤ 4294967296 := by
  unfold expS
  split
  · exact Nat.zero_le _
  · have := exM_le (d % 65536)
    have := Nat.div_le_self (exM (d % 65536) / 1073741824) (2 ^ (d / 65536))
    omega
theorem exM_0 : exM 0 = 4611686018427387904 := ex_low _ _ _ _ rfl
theorem expS_0 : expS 0 = 4294967296 := by
  unfold expS
  rw [if_neg (by decide), show 0 % 65536 = 0 from rfl, exM_0]
theorem expS_one : expS 65536 = 2147483648 := by
  unfold expS
  rw [if_neg (by decide), show 65536 % 65536 = 0 from rfl, exM_0]
theorem expS_far : expS 1099511627776 = 0 := by
  unfold expS
  rw [if_pos (by decide)]
theorem expS_half : expS 32768 = 3037000499 := by
  have e : rt 2 (2305843009213693952 * 4611686018427387904) = 3260954456333195553 := rt_eq (by decide) (by decide) (by decide)
  have e1 : exM 32768 = 3260954456333195553 := by
    unfold exM
    rw [ex_step, e, if_pos (by decide), ex_low _ _ _ _ (by decide)]
  unfold expS
  rw [if_neg (by decide), show 32768 % 65536 = 32768 from rfl, e1]
theorem expS_falls (d n : Nat) : expS (d + n * 65536) = expS d / 2 ^ n := by
  unfold expS
  have e1 : (d + n * 65536) / 65536 = d / 65536 + n := by omega
  have e2 : (d + n * 65536) % 65536 = d % 65536 := by omega
  rw [e1, e2]
  have a := exM_le (d % 65536)
  by_cases h : 40 < d / 65536
  · rw [if_pos h, if_pos (by omega), Nat.zero_div]
  · rw [if_neg h, Nat.div_div_eq_div_mul (exM (d % 65536) / 1073741824), ← Nat.pow_add]
    split
    · rename_i hw
      have b := Nat.pow_le_pow_right (n := 2) (by decide) (show 41 ≤ d / 65536 + n by omega)
      exact (Nat.div_eq_of_lt (by omega)).symm
    · rfl

/-! ### sums -/
/-- How much the logarithm of a sum is more than the greater one. -/
def aboveS (d : Nat) : Nat := logS (4294967296 + expS d) - 2097152
theorem above_le (d : Nat) : logS (4294967296 + expS d) = 2097152 + aboveS d ∧ aboveS d ≤ 65536 := by
  have a := expS_le d
  have b := logS_mono (x := 4294967296 + expS d) (y := 8589934592) (by omega) (by omega)
  have c := logS_mono (x := 4294967296) (y := 4294967296 + expS d) (by decide) (by omega)
  have e : logS (2 * 4294967296) = logS 4294967296 + 65536 := logS_twice (by decide) (by decide)
  rw [show 2 * 4294967296 = 8589934592 from rfl, logS_33] at e
  rw [logS_33] at b
  unfold aboveS
  omega
theorem above_0 : aboveS 0 = 65536 := by
  unfold aboveS
  rw [expS_0, show 4294967296 + 4294967296 = 8589934592 from rfl, logS_33]
/-- The logarithm of a sum, of the greater one and the lesser one. -/
def sumG (x y : Int) : Int :=
  if 9223372036854775807 < x - y then x else if 9223372036854775807 < x + (aboveS (x - y).toNat : Int) then 9223372036854775807 else x + (aboveS (x - y).toNat : Int)
def sumS (a b : Int) : Int := sumG (max a b) (min a b)
theorem sumS_comm (a b : Int) : sumS a b = sumS b a := by unfold sumS; rw [Int.max_comm, Int.min_comm]
theorem sumG_ge (x y : Int) (h : x ≤ 9223372036854775807) : x ≤ sumG x y := by
  unfold sumG
  split
  · omega
  · split <;> omega
theorem sumG_le (x y : Int) (h : x ≤ 9223372036854775807) : sumG x y ≤ 9223372036854775807 := by
  unfold sumG
  split
  · omega
  · split <;> omega
theorem sumS_ge (a b : Int) (ha : a ≤ 9223372036854775807) (hb : b ≤ 9223372036854775807) : a ≤ sumS a b ∧ b ≤ sumS a b := by
  have := sumG_ge (max a b) (min a b) (by omega)
  unfold sumS
  omega
theorem sumS_range (a b : Int) (ha : -9223372036854775808 ≤ a ∧ a ≤ 9223372036854775807) (hb : -9223372036854775808 ≤ b ∧ b ≤ 9223372036854775807) : -9223372036854775808 ≤ sumS a b ∧ sumS a b ≤ 9223372036854775807 := by
  have := sumS_ge a b (by omega) (by omega)
  have := sumG_le (max a b) (min a b) (by omega)
  unfold sumS at *
  omega
theorem sumS_same (a : Int) (h : a ≤ 4611686018427387904) : sumS a a = a + 65536 := by
  unfold sumS sumG
  rw [Int.max_self, Int.min_self, Int.sub_self]
  rw [show (0 : Int).toNat = 0 from rfl, above_0, if_neg (by decide), if_neg (by omega)]
  rfl
theorem sumS_top : sumS 9223372036854775807 9223372036854775807 = 9223372036854775807 := by
  unfold sumS sumG
  rw [Int.max_self, Int.min_self, Int.sub_self]
  rw [show (0 : Int).toNat = 0 from rfl, above_0, if_neg (by decide), if_pos (by decide)]
theorem sumS_min7 : sumS (-9223372036854775808) 7 = 7 := by
  unfold sumS sumG
  rw [if_pos (by decide)]
  decide
/-- Of all, one by one. -/
def sums (x : Int) (l : List Int) : Int := l.foldl sumS x
end Go.Th.Expo
