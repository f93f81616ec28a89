/-
  Texts in one: ExpoSpec, ExpoA, ExpoB.
-/
import Derived.Test.YtolneillcdaibaaPackRoot
import Derived.Lib.BitFns
import Derived.Test.YtolneillcdaibaaPackNum
import Derived.BigQuiet
import Derived.Deep.LoopGhost
import Derived.WalkMore
set_option linter.unusedVariables false
set_option linter.unusedSimpArgs false

/-
  Logarithms by squares, powers by roots of a half, logarithms of sums: plain.
-/
namespace Go.Th.Expo
open Go.Th.Root

/-! ### logarithms -/
/-- The place of the highest bit. -/
def pl (x : Nat) : Nat := Nat.log2 x
/-- A number as a mantissa. -/
def mant (x : Nat) : Nat := if pl x = 63 then x / 2 else x * 2 ^ (62 - pl x)
/-- So many rounds more. -/
def lg : Nat → Nat → Nat → Nat
  | 0, n, _ => n
  | k + 1, n, m => if 9223372036854775808 ≤ m * m / 4611686018427387904 then lg k (2 * n + 1) (m * m / 4611686018427387904 / 2) else lg k (2 * n) (m * m / 4611686018427387904)
def logS (x : Nat) : Nat := lg 16 (pl x) (mant x)

theorem pl_le {x : Nat} (h : 0 < x) : 2 ^ pl x ≤ x := Nat.log2_self_le (by omega)
theorem pl_lt (x : Nat) : x < 2 ^ (pl x + 1) := Nat.lt_log2_self
theorem pl_eq {x n : Nat} (h1 : 2 ^ n ≤ x) (h2 : x < 2 ^ (n + 1)) : pl x = n := by
  have a := pl_le (x := x) (Nat.lt_of_lt_of_le (Nat.two_pow_pos n) h1)
  have b := pl_lt x
  rcases Nat.lt_trichotomy (pl x) n with h | h | h
  · have := Nat.pow_le_pow_right (n := 2) (by decide) (show pl x + 1 ≤ n by omega)
    omega
  · exact h
  · have := Nat.pow_le_pow_right (n := 2) (by decide) (show n + 1 ≤ pl x by omega)
    omega
theorem pl_63 {x : Nat} (h0 : 0 < x) (h : x < 18446744073709551616) : pl x ≤ 63 := by
  have a := pl_le h0
  rcases Nat.lt_or_ge 63 (pl x) with b | b
  · have := Nat.pow_le_pow_right (n := 2) (by decide) (show 64 ≤ pl x from b)
    omega
  · exact b
theorem pl_le_pl {x y : Nat} (h0 : 0 < x) (h : x ≤ y) : pl x ≤ pl y := by
  have a := pl_le h0
  have b := pl_lt y
  rcases Nat.lt_or_ge (pl y) (pl x) with c | c
  · have := Nat.pow_le_pow_right (n := 2) (by decide) (show pl y + 1 ≤ pl x from c)
    omega
  · exact c
theorem pl_twice {x : Nat} (h0 : 0 < x) : pl (2 * x) = pl x + 1 := by
  have a := pl_le h0
  have b := pl_lt x
  refine pl_eq ?_ ?_
  · rw [Nat.pow_succ]; omega
  · rw [Nat.pow_succ]; omega
theorem pl_div {x : Nat} (h0 : 0 < x) : x / 2 ^ pl x = 1 := by
  have a := pl_le h0
  have b := pl_lt x
  have c : 0 < 2 ^ pl x := Nat.two_pow_pos _
  rw [Nat.pow_succ] at b
  have d1 : 1 ≤ x / 2 ^ pl x := (Nat.le_div_iff_mul_le c).2 (by omega)
  have d2 : x / 2 ^ pl x < 2 := (Nat.div_lt_iff_lt_mul c).2 (by omega)
  omega
theorem pl_of_div {x n : Nat} (h : x / 2 ^ n = 1) : pl x = n := by
  have c : 0 < 2 ^ n := Nat.two_pow_pos _
  have d1 : 1 * 2 ^ n ≤ x := (Nat.le_div_iff_mul_le c).1 (by omega)
  have d2 : x < 2 * 2 ^ n := (Nat.div_lt_iff_lt_mul c).1 (by omega)
  exact pl_eq (by omega) (by rw [Nat.pow_succ]; omega)
theorem mant_range {x : Nat} (h0 : 0 < x) (h : x < 18446744073709551616) : 4611686018427387904 ≤ mant x ∧ mant x < 9223372036854775808 := by
  have a := pl_le h0
  have b := pl_lt x
  have c := pl_63 h0 h
  unfold mant
  split
  · rename_i e
    rw [e] at a
    omega
  · have e : 2 ^ pl x * 2 ^ (62 - pl x) = 4611686018427387904 := by
      rw [← Nat.pow_add, show pl x + (62 - pl x) = 62 by omega]
    have p : 0 < 2 ^ (62 - pl x) := Nat.two_pow_pos _
    constructor
    · have := Nat.mul_le_mul_right (2 ^ (62 - pl x)) a
      omega
    · rw [Nat.pow_succ, Nat.mul_comm] at b
      have := Nat.mul_lt_mul_of_pos_right b p
      rw [Nat.mul_assoc] at this
      omega
theorem sqm_range {m : Nat} (h1 : 4611686018427387904 ≤ m) (h2 : m < 9223372036854775808) : 4611686018427387904 ≤ m * m / 4611686018427387904 ∧ m * m / 4611686018427387904 < 18446744073709551616 := by
  have a := Nat.mul_le_mul h1 h1
  have b := Nat.mul_lt_mul'' h2 h2
  omega
/-- The whole part. -/
theorem lg_whole : ∀ k n m, n * 2 ^ k ≤ lg k n m ∧ lg k n m < (n + 1) * 2 ^ k
  | 0, n, m => by unfold lg; rw [Nat.pow_zero]; omega
  | k + 1, n, m => by
    unfold lg
    have e : 2 ^ (k + 1) = 2 * 2 ^ k := by rw [Nat.pow_succ, Nat.mul_comm]
    rw [e]
    have e1 : n * (2 * 2 ^ k) = 2 * n * 2 ^ k := by rw [← Nat.mul_assoc, Nat.mul_comm n 2]
    have e2 : (n + 1) * (2 * 2 ^ k) = (2 * n + 2) * 2 ^ k := by rw [← Nat.mul_assoc, Nat.add_mul, Nat.one_mul, Nat.mul_comm n 2]
    rw [e1, e2]
    split
    · have := lg_whole k (2 * n + 1) (m * m / 4611686018427387904 / 2)
      have a1 : (2 * n + 1) * 2 ^ k = 2 * n * 2 ^ k + 2 ^ k := by rw [Nat.add_mul, Nat.one_mul]
      rw [show 2 * n + 1 + 1 = 2 * n + 2 from rfl] at this
      omega
    · have := lg_whole k (2 * n) (m * m / 4611686018427387904)
      have a1 : (2 * n + 2) * 2 ^ k = (2 * n + 1) * 2 ^ k + 2 ^ k := by rw [← Nat.succ_mul]
      omega
theorem lg_more : ∀ k n d m, lg k (n + d) m = lg k n m + d * 2 ^ k
  | 0, n, d, m => by unfold lg; rw [Nat.pow_zero, Nat.mul_one]
  | k + 1, n, d, m => by
    unfold lg
    have e : d * 2 ^ (k + 1) = 2 * d * 2 ^ k := by rw [Nat.pow_succ, Nat.mul_comm (2 ^ k) 2, ← Nat.mul_assoc, Nat.mul_comm d 2]
    rw [e]
    split
    · rw [show 2 * (n + d) + 1 = 2 * n + 1 + 2 * d by omega, lg_more]
    · rw [show 2 * (n + d) = 2 * n + 2 * d by omega, lg_more]
theorem lg_mono : ∀ k n m n' m', n < n' ∨ n = n' ∧ m ≤ m' → lg k n m ≤ lg k n' m'
  | 0, n, m, n', m', h => by unfold lg; omega
  | k + 1, n, m, n', m', h => by
    unfold lg
    have hq : n = n' → m * m / 4611686018427387904 ≤ m' * m' / 4611686018427387904 := by
      intro e
      have hm : m ≤ m' := by omega
      exact Nat.div_le_div_right (Nat.mul_le_mul hm hm)
    generalize m * m / 4611686018427387904 = q at hq ⊢
    generalize m' * m' / 4611686018427387904 = q' at hq ⊢
    split <;> split <;> exact lg_mono k _ _ _ _ (by omega)
theorem logS_mono {x y : Nat} (h0 : 0 < x) (h : x ≤ y) : logS x ≤ logS y := by
  refine lg_mono _ _ _ _ _ ?_
  have a := pl_le_pl h0 h
  rcases Nat.lt_or_ge (pl x) (pl y) with b | b
  · exact .inl b
  · have e : pl x = pl y := by omega
    refine .inr ⟨e, ?_⟩
    unfold mant
    rw [e]
    split
    · exact Nat.div_le_div_right h
    · exact Nat.mul_le_mul_right _ h
theorem logS_twice {x : Nat} (h0 : 0 < x) (h : x < 4611686018427387904) : logS (2 * x) = logS x + 65536 := by
  have a := pl_twice h0
  have b : pl x < 62 := by
    have := pl_le h0
    rcases Nat.lt_or_ge (pl x) 62 with c | c
    · exact c
    · have := Nat.pow_le_pow_right (n := 2) (by decide) c
      omega
  have e : mant (2 * x) = mant x := by
    unfold mant
    rw [a, if_neg (by omega), if_neg (by omega), show 62 - pl x = 62 - (pl x + 1) + 1 by omega, Nat.pow_succ, Nat.mul_comm (2 ^ _) 2, ← Nat.mul_assoc, Nat.mul_comm x 2]
  unfold logS
  rw [a, e, lg_more]
theorem logS_whole (x : Nat) : logS x / 65536 = pl x := by
  have := lg_whole 16 (pl x) (mant x)
  unfold logS
  omega
theorem logS_lt {x : Nat} (h0 : 0 < x) (h : x < 18446744073709551616) : logS x < 4194304 := by
  have := logS_whole x
  have := pl_63 h0 h
  omega
theorem logS_33 : logS 8589934592 = 2162688 := by
  have e : pl 8589934592 = 33 := pl_eq (by decide) (by decide)
  have m : mant 8589934592 = 4611686018427387904 := by unfold mant; rw [e]; decide
  unfold logS
  rw [e, m]
  decide
theorem logS_8 : logS 8 = 196608 := by
  have e : pl 8 = 3 := pl_eq (by decide) (by decide)
  have m : mant 8 = 4611686018427387904 := by unfold mant; rw [e]; decide
  unfold logS
  rw [e, m]
  decide
theorem logS_3 : logS 3 = 103872 := by
  have e : pl 3 = 1 := pl_eq (by decide) (by decide)
  have m : mant 3 = 6917529027641081856 := by unfold mant; rw [e]; decide
  unfold logS
  rw [e, m]
  decide

/-! ### powers -/
/-- So many bits more. -/
def ex : Nat → Nat → Nat → Nat → Nat
  | 0, _, _, m => m
  | k + 1, p, h, m => ex k p (rt 2 (h * 4611686018427387904)) (if p / 2 ^ k % 2 = 1 then m * rt 2 (h * 4611686018427387904) / 4611686018427387904 else m)
def exM (p : Nat) : Nat := ex 16 p 2305843009213693952 4611686018427387904
def expS (d : Nat) : Nat := if 40 < d / 65536 then 0 else exM (d % 65536) / 1073741824 / 2 ^ (d / 65536)

theorem ex_step (k p h m : Nat) : ex (k + 1) p h m = ex k p (rt 2 (h * 4611686018427387904)) (if p / 2 ^ k % 2 = 1 then m * rt 2 (h * 4611686018427387904) / 4611686018427387904 else m) := rfl
theorem ex_low : ∀ k p h m, p % 2 ^ k = 0 → ex k p h m = m
  | 0, p, h, m, _ => rfl
  | k + 1, p, h, m, e => by
    unfold ex
    have e1 : p % 2 ^ k = 0 := by
      rw [← Nat.mod_mod_of_dvd p (Nat.pow_dvd_pow 2 (Nat.le_succ k)), e, Nat.zero_mod]
    have e2 : p / 2 ^ k % 2 = 0 := by
      have := Nat.mod_pow_succ (x := p) (b := 2) (k := k)
      rw [e, e1, Nat.zero_add] at this
      have c : 0 < 2 ^ k := Nat.two_pow_pos _
      rcases Nat.mul_eq_zero.1 this.symm with h' | h'
      · omega
      · exact h'
    rw [if_neg (by omega), ex_low k p _ m e1]
theorem root_le {h : Nat} (hh : h ≤ 4611686018427387904) : rt 2 (h * 4611686018427387904) ≤ 4611686018427387904 := by
  have a := rt_sq (h * 4611686018427387904)
  rcases Nat.lt_or_ge 4611686018427387904 (rt 2 (h * 4611686018427387904)) with b | b
  · have := Nat.mul_le_mul b b
    omega
  · exact b
theorem prod_le {m h : Nat} (hm : m ≤ 4611686018427387904) (hh : h ≤ 4611686018427387904) : m * h / 4611686018427387904 ≤ 4611686018427387904 := by
  have a := Nat.mul_le_mul hm hh
  omega
theorem ex_le : ∀ k p h m, h ≤ 4611686018427387904 → m ≤ 4611686018427387904 → ex k p h m ≤ 4611686018427387904
  | 0, _, _, m, _, hm => hm
  | k + 1, p, h, m, hh, hm => by
    unfold ex
    refine ex_le k _ _ _ (root_le hh) ?_
    split
    · exact prod_le hm (root_le hh)
    · exact hm
theorem exM_le (p : Nat) : exM p ≤ 4611686018427387904 := ex_le _ _ _ _ (by decide) (by decide)
theorem expS_le (d : Nat) : expS d ≤ 4294967296 := by
  unfold expS
  split
  · exact Nat.zero_le _
  · have := exM_le (d % 65536)
    have := Nat.div_le_self (exM (d % 65536) / 1073741824) (2 ^ (d / 65536))
    omega
theorem exM_0 : exM 0 = 4611686018427387904 := ex_low _ _ _ _ rfl
theorem expS_0 : expS 0 = 4294967296 := by
  unfold expS
  rw [if_neg (by decide), show 0 % 65536 = 0 from rfl, exM_0]
theorem expS_one : expS 65536 = 2147483648 := by
  unfold expS
  rw [if_neg (by decide), show 65536 % 65536 = 0 from rfl, exM_0]
theorem expS_far : expS 1099511627776 = 0 := by
  unfold expS
  rw [if_pos (by decide)]
theorem expS_half : expS 32768 = 3037000499 := by
  have e : rt 2 (2305843009213693952 * 4611686018427387904) = 3260954456333195553 := rt_eq (by decide) (by decide) (by decide)
  have e1 : exM 32768 = 3260954456333195553 := by
    unfold exM
    rw [ex_step, e, if_pos (by decide), ex_low _ _ _ _ (by decide)]
  unfold expS
  rw [if_neg (by decide), show 32768 % 65536 = 32768 from rfl, e1]
theorem expS_falls (d n : Nat) : expS (d + n * 65536) = expS d / 2 ^ n := by
  unfold expS
  have e1 : (d + n * 65536) / 65536 = d / 65536 + n := by omega
  have e2 : (d + n * 65536) % 65536 = d % 65536 := by omega
  rw [e1, e2]
  have a := exM_le (d % 65536)
  by_cases h : 40 < d / 65536
  · rw [if_pos h, if_pos (by omega), Nat.zero_div]
  · rw [if_neg h, Nat.div_div_eq_div_mul (exM (d % 65536) / 1073741824), ← Nat.pow_add]
    split
    · rename_i hw
      have b := Nat.pow_le_pow_right (n := 2) (by decide) (show 41 ≤ d / 65536 + n by omega)
      exact (Nat.div_eq_of_lt (by omega)).symm
    · rfl

/-! ### sums -/
/-- How much the logarithm of a sum is more than the greater one. -/
def aboveS (d : Nat) : Nat := logS (4294967296 + expS d) - 2097152
theorem above_le (d : Nat) : logS (4294967296 + expS d) = 2097152 + aboveS d ∧ aboveS d ≤ 65536 := by
  have a := expS_le d
  have b := logS_mono (x := 4294967296 + expS d) (y := 8589934592) (by omega) (by omega)
  have c := logS_mono (x := 4294967296) (y := 4294967296 + expS d) (by decide) (by omega)
  have e : logS (2 * 4294967296) = logS 4294967296 + 65536 := logS_twice (by decide) (by decide)
  rw [show 2 * 4294967296 = 8589934592 from rfl, logS_33] at e
  rw [logS_33] at b
  unfold aboveS
  omega
theorem above_0 : aboveS 0 = 65536 := by
  unfold aboveS
  rw [expS_0, show 4294967296 + 4294967296 = 8589934592 from rfl, logS_33]
/-- The logarithm of a sum, of the greater one and the lesser one. -/
def sumG (x y : Int) : Int :=
  if 9223372036854775807 < x - y then x else if 9223372036854775807 < x + (aboveS (x - y).toNat : Int) then 9223372036854775807 else x + (aboveS (x - y).toNat : Int)
def sumS (a b : Int) : Int := sumG (max a b) (min a b)
theorem sumS_comm (a b : Int) : sumS a b = sumS b a := by unfold sumS; rw [Int.max_comm, Int.min_comm]
theorem sumG_ge (x y : Int) (h : x ≤ 9223372036854775807) : x ≤ sumG x y := by
  unfold sumG
  split
  · omega
  · split <;> omega
theorem sumG_le (x y : Int) (h : x ≤ 9223372036854775807) : sumG x y ≤ 9223372036854775807 := by
  unfold sumG
  split
  · omega
  · split <;> omega
theorem sumS_ge (a b : Int) (ha : a ≤ 9223372036854775807) (hb : b ≤ 9223372036854775807) : a ≤ sumS a b ∧ b ≤ sumS a b := by
  have := sumG_ge (max a b) (min a b) (by omega)
  unfold sumS
  omega
theorem sumS_range (a b : Int) (ha : -9223372036854775808 ≤ a ∧ a ≤ 9223372036854775807) (hb : -9223372036854775808 ≤ b ∧ b ≤ 9223372036854775807) : -9223372036854775808 ≤ sumS a b ∧ sumS a b ≤ 9223372036854775807 := by
  have := sumS_ge a b (by omega) (by omega)
  have := sumG_le (max a b) (min a b) (by omega)
  unfold sumS at *
  omega
theorem sumS_same (a : Int) (h : a ≤ 4611686018427387904) : sumS a a = a + 65536 := by
  unfold sumS sumG
  rw [Int.max_self, Int.min_self, Int.sub_self]
  rw [show (0 : Int).toNat = 0 from rfl, above_0, if_neg (by decide), if_neg (by omega)]
  rfl
theorem sumS_top : sumS 9223372036854775807 9223372036854775807 = 9223372036854775807 := by
  unfold sumS sumG
  rw [Int.max_self, Int.min_self, Int.sub_self]
  rw [show (0 : Int).toNat = 0 from rfl, above_0, if_neg (by decide), if_pos (by decide)]
theorem sumS_min7 : sumS (-9223372036854775808) 7 = 7 := by
  unfold sumS sumG
  rw [if_pos (by decide)]
  decide
/-- Of all, one by one. -/
def sums (x : Int) (l : List Int) : Int := l.foldl sumS x
end Go.Th.Expo

/-
  Logarithms: the code's.
-/
namespace Go.Proofs.Ytolneillcdaibaa
open Go Go.RowKit Go.Th Go.Th.Root Go.Th.Wide Go.Th.Expo

theorem bitLen_pl {x : Nat} (h0 : 0 < x) (h : x < 18446744073709551616) : Lib.bitLen x = pl x + 1 := by
  have a := Lib.bitLen_shift (pl x) x (pl_le h0) h
  rw [pl_div h0] at a
  rw [a]; rfl
theorem or_low (a b : Nat) (hb : b < 4) : 4 * a ||| b = 4 * a + b := by
  have := Nat.shiftLeft_add_eq_or_of_lt (i := 2) (b := b) hb a
  rw [Nat.shiftLeft_eq, show 2 ^ 2 = 4 from rfl, Nat.mul_comm a 4] at this
  exact this.symm

set_option maxRecDepth 20000 in
set_option maxHeartbeats 1600000 in
theorem split_go (x n m : Nat) (hx : x < 18446744073709551616) (hn : n ≤ 63) (C1 : Ans 52 #[.int .u64 x] (.int .i64 ((n + 1 : Nat) : Int))) (hm : (n = 63 ∧ m = x / 2) ∨ (n ≤ 62 ∧ m = x * 2 ^ (62 - n) ∧ m < 18446744073709551616)) :
    Ans 36 #[.int .u64 x] (.tuple #[.int .i64 n, .int .u64 m]) := by
  intro w
  have M0 := Mem.start w
  rcases hm with ⟨rfl, rfl⟩ | ⟨h1, h2, h3⟩
  · go_enter Try.func36, Try.ntmps36
    go_wp2_with fail
    (refine (C1 _).mono ?_; rintro e w2 ⟨rfl, hBl⟩; replace M0 := M0.call hBl; clear hBl C1)
    go_wp2_with fail
    go_quiet (fail)
    go_wp2_with fail
    go_ret2
    exact ⟨ret_ii rfl (Int.natCast_ediv x 2).symm, below_dN M0.below _⟩
  · obtain ⟨s, hs⟩ : ∃ s, s = 62 - n := ⟨_, rfl⟩
    rw [← hs] at h2
    have e : (62 : Int) - (n : Int) = (s : Int) := by omega
    have h4 : ¬ (62 : Int) < (n : Int) := by omega
    have H2 := Lib.hid h2
    clear hs h2
    go_enter Try.func36, Try.ntmps36
    go_wp2_with fail
    (refine (C1 _).mono ?_; rintro e w2 ⟨rfl, hBl⟩; replace M0 := M0.call hBl; clear hBl C1)
    go_wp2_with fail
    go_quiet (fail)
    go_wp2_with fail
    go_ret2
    refine ⟨ret_ii rfl ?_, below_dN M0.below _⟩
    rw [H2.out, IntKind.wrap_u64]
    have H3 := H2.out
    have e2 : (x : Int) * 2 ^ s = ((x * 2 ^ s : Nat) : Int) := by simp
    rw [e2, ← H3]
    omega
theorem split_any (x : Nat) (h0 : 0 < x) (hx : x < 18446744073709551616) : Ans 36 #[.int .u64 x] (.tuple #[.int .i64 ((pl x : Nat) : Int), .int .u64 ((mant x : Nat) : Int)]) := by
  have C := bits_any x hx
  rw [bitLen_pl h0 hx] at C
  have a := pl_63 h0 hx
  have b := mant_range h0 hx
  refine split_go x (pl x) (mant x) hx a C ?_
  by_cases h : pl x = 63
  · exact .inl ⟨h, by unfold mant; rw [if_pos h]⟩
  · exact .inr ⟨by omega, by unfold mant; rw [if_neg h], by omega⟩

/-- Two mantissas' product. -/
theorem parts_62 (p : Nat) : p / 18446744073709551616 * 4 + p % 18446744073709551616 / 4611686018427387904 = p / 4611686018427387904 := by omega
set_option maxRecDepth 20000 in
set_option maxHeartbeats 1600000 in
theorem times_go (a b h l c v : Nat) (ha : a ≤ 9223372036854775807) (hb : b ≤ 9223372036854775807) (hh : h < 4611686018427387904) (hl : l < 18446744073709551616) (ec : (l : Int) / 4611686018427387904 = (c : Int)) (hc : c < 4) (hv : bits .or .u64 ((h : Int) * 4) (c : Int) = (v : Int))
    (C1 : Ans 30 #[.int .i64 a, .int .i64 b] (wv h l)) : Ans 32 #[.int .u64 a, .int .u64 b] (.int .u64 v) := by
  intro w
  have M0 := Mem.start w
  go_enter Try.func32, Try.ntmps32
  go_wp2_with ((with_reducible refine (?_ : Go.wpList _ _ _ (_ :: _) _ _)); (first | go_skip | (refine wpL_ld M0 rfl rfl rfl (by repeat (first | exact Has.head _ _ _ _ | apply Has.tail)) (by first | exact rd_w _ _ | exact rd_hi _ _ | exact rd_lo _ _ | assumption) ?_) | (refine wpL_ldg M0 rfl rfl rfl (by repeat (first | exact Has.head _ _ _ _ | apply Has.tail)) (by first | exact rd_w _ _ | exact rd_hi _ _ | exact rd_lo _ _ | assumption) ?_) | (refine wpL_st M0 rfl rfl rfl rfl (by repeat (first | exact Has.head _ _ _ _ | apply Has.tail)) (by first | exact wr_w _ rfl _ _ | exact wr_hi _ _ _ | assumption) (by repeat (first | exact Upd.head _ _ _ _ _ | apply Upd.tail)) ?_; clear M0; intro w' M0)))
  (refine (C1 _).mono ?_; rintro e w2 ⟨rfl, hBl⟩; replace M0 := M0.call hBl; clear hBl C1)
  go_wp2_with ((with_reducible refine (?_ : Go.wpList _ _ _ (_ :: _) _ _)); (first | go_skip | (refine wpL_bx M0 rfl rfl rfl rfl ?_; clear M0; intro g1 w1 M1) | (refine wpL_al M0 rfl rfl zero25 rfl ?_; clear M0; intro g1 w1 M1) | (refine wpL_ld M0 rfl rfl rfl (by repeat (first | exact Has.head _ _ _ _ | apply Has.tail)) (by first | exact rd_w _ _ | exact rd_hi _ _ | exact rd_lo _ _ | assumption) ?_) | (refine wpL_ldg M0 rfl rfl rfl (by repeat (first | exact Has.head _ _ _ _ | apply Has.tail)) (by first | exact rd_w _ _ | exact rd_hi _ _ | exact rd_lo _ _ | assumption) ?_) | (refine wpL_st M0 rfl rfl rfl rfl (by repeat (first | exact Has.head _ _ _ _ | apply Has.tail)) (by first | exact wr_w _ rfl _ _ | exact wr_hi _ _ _ | assumption) (by repeat (first | exact Upd.head _ _ _ _ _ | apply Upd.tail)) ?_; clear M0; intro w' M0) | (refine wpL_ld M1 rfl rfl rfl (by repeat (first | exact Has.head _ _ _ _ | apply Has.tail)) (by first | exact rd_w _ _ | exact rd_hi _ _ | exact rd_lo _ _ | assumption) ?_) | (refine wpL_ldg M1 rfl rfl rfl (by repeat (first | exact Has.head _ _ _ _ | apply Has.tail)) (by first | exact rd_w _ _ | exact rd_hi _ _ | exact rd_lo _ _ | assumption) ?_) | (refine wpL_st M1 rfl rfl rfl rfl (by repeat (first | exact Has.head _ _ _ _ | apply Has.tail)) (by first | exact wr_w _ rfl _ _ | exact wr_hi _ _ _ | assumption) (by repeat (first | exact Upd.head _ _ _ _ _ | apply Upd.tail)) ?_; clear M1; intro w' M1)))
  go_ret
  exact ⟨rfl, M1.below⟩
theorem mulW_nat (a b : Nat) (ha : a ≤ 9223372036854775807) (hb : b ≤ 9223372036854775807) : Ans 30 #[.int .i64 a, .int .i64 b] (wv ((a * b / 18446744073709551616 : Nat) : Int) ((a * b % 18446744073709551616 : Nat) : Int)) := by
  have C := Mul_any (a : Int) (b : Int) (by omega) (by omega)
  rw [← Int.natCast_mul] at C
  exact C
theorem times_any (a b : Nat) (ha : a ≤ 9223372036854775807) (hb : b ≤ 9223372036854775807) (h : a * b / 4611686018427387904 < 18446744073709551616) : Ans 32 #[.int .u64 a, .int .u64 b] (.int .u64 ((a * b / 4611686018427387904 : Nat) : Int)) := by
  have C := mulW_nat a b ha hb
  obtain ⟨p, hp⟩ : ∃ p, p = a * b := ⟨_, rfl⟩
  rw [← hp] at C h ⊢
  have e := parts_62 p
  refine times_go a b (p / 18446744073709551616) (p % 18446744073709551616) (p % 18446744073709551616 / 4611686018427387904) _ ha hb (by omega) (by omega) (by omega) (by omega) ?_ C
  rw [show ((p / 18446744073709551616 : Nat) : Int) * 4 = ((4 * (p / 18446744073709551616) : Nat) : Int) by omega, or_u _ _ (by omega) (by omega), or_low _ _ (by omega)]
  omega
theorem sq_any (m : Nat) (h1 : 4611686018427387904 ≤ m) (h2 : m < 9223372036854775808) : Ans 32 #[.int .u64 m, .int .u64 m] (.int .u64 ((m * m / 4611686018427387904 : Nat) : Int)) :=
  times_any m m (by omega) (by omega) (sqm_range h1 h2).2
theorem lg_hi {k n m q : Nat} (hq : q = m * m / 4611686018427387904) (h : 9223372036854775808 ≤ q) : lg (k + 1) n m = lg k (2 * n + 1) (q / 2) := by
  rw [hq] at h ⊢
  conv => lhs; unfold lg
  rw [if_pos h]
theorem lg_lo {k n m q : Nat} (hq : q = m * m / 4611686018427387904) (h : q < 9223372036854775808) : lg (k + 1) n m = lg k (2 * n) q := by
  rw [hq] at h ⊢
  conv => lhs; unfold lg
  rw [if_neg (by omega)]
theorem room_up {n k : Nat} (h : (n + 1) * 2 ^ (k + 1) ≤ 4194304) : (2 * n + 1 + 1) * 2 ^ k ≤ 4194304 ∧ (2 * n + 1) * 2 ^ k ≤ 4194304 ∧ n ≤ 2097151 := by
  have c : 0 < 2 ^ k := Nat.two_pow_pos k
  have e : (n + 1) * 2 ^ (k + 1) = (2 * n + 1 + 1) * 2 ^ k := by
    rw [Nat.pow_succ, Nat.mul_comm (2 ^ k) 2, ← Nat.mul_assoc]
    congr 1
    omega
  rw [e] at h
  refine ⟨h, Nat.le_trans (Nat.mul_le_mul_right _ (by omega)) h, ?_⟩
  have := Nat.le_mul_of_pos_right (2 * n + 1 + 1) c
  omega

set_option maxRecDepth 20000 in
set_option maxHeartbeats 1600000 in
theorem Log_go (x n0 m0 R : Nat) (hx : 0 < x) (hx2 : x < 18446744073709551616) (hn0 : (n0 + 1) * 2 ^ 16 ≤ 4194304) (h1 : 4611686018427387904 ≤ m0) (h2 : m0 < 9223372036854775808) (hR : lg 16 n0 m0 = R)
    (C1 : Ans 36 #[.int .u64 x] (.tuple #[.int .i64 n0, .int .u64 m0]))
    (C2 : ∀ m : Nat, 4611686018427387904 ≤ m → m < 9223372036854775808 → Ans 32 #[.int .u64 m, .int .u64 m] (.int .u64 ((m * m / 4611686018427387904 : Nat) : Int))) :
    Ans 26 #[.int .u64 x] (.tuple #[.int .i64 R, .int .i64 0]) := by
  intro w
  have HR := Lib.hid hR
  have HN := Lib.hid hn0
  have HC := Lib.hid C2
  clear hR hn0 C2
  have bx : ((x : Int) == 0) = false := beq_eq_false_iff_ne.2 (by omega)
  have M0 := Mem.start w
  go_enter Try.func26, Try.ntmps26
  go_wp2_with fail
  (refine (C1 _).mono ?_; rintro e w2 ⟨rfl, hBl⟩; replace M0 := M0.call hBl; clear hBl C1)
  go_wp2_with fail
  clear hx hx2 bx
  go_loopw [4, 5, 13] (fun s4 s5 i wx => ∃ k n m : Nat, k ≤ 16 ∧ i = .int .i64 ((16 - k : Nat) : Int) ∧ s4 = .int .i64 n ∧ s5 = .int .u64 m ∧ 4611686018427387904 ≤ m ∧ m < 9223372036854775808 ∧ Hid ((n + 1) * 2 ^ k ≤ 4194304) ∧ Hid (lg k n m = R) ∧ Mem w wx []) (fun _ _ i _ => 16 - (intOf i).toNat)
  case atStart => exact ⟨16, n0, m0, by omega, rfl, rfl, rfl, h1, h2, HN.out, HR.out, M0⟩
  case round =>
    clear M0 HR HN h1 h2
    obtain ⟨k, n, m, hk, rfl, rfl, rfl, hm1, hm2, HN, HR, M0⟩ := hrel
    cases k with
    | zero =>
      go_wp2_with fail
      go_ret2
      exact ⟨ret_ii (by have := HR.out; rw [← this]; rfl) rfl, M0.below⟩
    | succ k =>
      obtain ⟨r1, r2, r3⟩ := room_up HN.out
      have R1 := Lib.hid r1
      have R2 := Lib.hid r2
      have C := HC.out m hm1 hm2
      obtain ⟨q1, q2⟩ := sqm_range hm1 hm2
      obtain ⟨q, hq⟩ : ∃ q, q = m * m / 4611686018427387904 := ⟨_, rfl⟩
      rw [← hq] at C q1 q2
      have e : ((16 - (k + 1) : Nat) : Int) = ((15 - k : Nat) : Int) := by omega
      have e2 : ((15 - k : Nat) : Int) + 1 = ((16 - k : Nat) : Int) := by omega
      obtain ⟨i, hi⟩ : ∃ i, i = 15 - k := ⟨_, rfl⟩
      rw [e]
      rw [← hi] at e2 ⊢
      have hi2 : i < 16 := by omega
      have E2 := Lib.hid e2
      have HI := Lib.hid hi
      clear hi
      by_cases hc : 9223372036854775808 ≤ q
      · have G := Lib.hid (HR.out ▸ (lg_hi hq hc).symm : lg k (2 * n + 1) (q / 2) = R)
        have HQ := Lib.hid (And.intro hc q2)
        obtain ⟨Q, hQ⟩ : ∃ Q : Int, Q = (q : Int) := ⟨_, rfl⟩
        rw [← hQ] at C
        have hcI : (9223372036854775808 : Int) ≤ Q := by omega
        have q2I : Q < 18446744073709551616 := by omega
        have HQ2 := Lib.hid hQ
        clear hq HR HN r1 r2 hm1 hm2 e e2 hc q1 q2 hQ
        go_wp2_with fail
        (refine (C _).mono ?_; rintro e w2 ⟨rfl, hBl⟩; replace M0 := M0.call hBl; clear hBl C)
        go_wp2_with fail
        go_roundw
        case rel => exact ⟨k, 2 * n + 1, q / 2, by omega, congrArg (Value.int .i64) E2.out, congrArg (Value.int .i64) (by omega), congrArg (Value.int .u64) (by rw [HQ2.out]; omega), by have := HQ.out; omega, by have := HQ.out; omega, R1.out, G.out, M0⟩
        case measure => simp [intOf] <;> omega
      · have G := Lib.hid (HR.out ▸ (lg_lo hq (by omega)).symm : lg k (2 * n) q = R)
        have HQ := Lib.hid (And.intro q1 hc)
        obtain ⟨Q, hQ⟩ : ∃ Q : Int, Q = (q : Int) := ⟨_, rfl⟩
        rw [← hQ] at C
        have hcI : ¬ (9223372036854775808 : Int) ≤ Q := by omega
        have q2I : 0 ≤ Q := by omega
        have HQ2 := Lib.hid hQ
        clear hq HR HN r1 r2 hm1 hm2 e e2 hc q1 q2 hQ
        go_wp2_with fail
        (refine (C _).mono ?_; rintro e w2 ⟨rfl, hBl⟩; replace M0 := M0.call hBl; clear hBl C)
        go_wp2_with fail
        go_roundw
        case rel => exact ⟨k, 2 * n, q, by omega, congrArg (Value.int .i64) E2.out, congrArg (Value.int .i64) (by omega), congrArg (Value.int .u64) HQ2.out, by have := HQ.out; omega, by have := HQ.out; omega, R2.out, G.out, M0⟩
        case measure => simp [intOf] <;> omega
theorem Log_any (x : Nat) (h0 : 0 < x) (hx : x < 18446744073709551616) : Ans 26 #[.int .u64 x] (.tuple #[.int .i64 ((logS x : Nat) : Int), .int .i64 0]) := by
  have a := pl_63 h0 hx
  have b := mant_range h0 hx
  exact Log_go x (pl x) (mant x) _ h0 hx (by omega) b.1 b.2 rfl (split_any x h0 hx) sq_any
set_option maxRecDepth 20000 in
set_option maxHeartbeats 1600000 in
theorem Log_0 : Ans 26 #[.int .u64 0] (.tuple #[.int .i64 0, .int .i64 2]) := by
  intro w
  go_enter Try.func26, Try.ntmps26
  go_wp2_with fail
  go_ret2
  exact ⟨rfl, Below.refl _ _⟩
end Go.Proofs.Ytolneillcdaibaa

/-
  Powers, by a closure that tells roots of a half; logarithms of sums: the code's.
-/
namespace Go.Th
open Go Go.RowKit
section
variable {P : Program}
/-- A variable of one cell is written. -/
theorem wr_cell {ty : TypeId} (hs : (P.info? ty).map (·.size) = some 1) {u v : Value} (hv : v.cells = #[v]) (h1 : v.oneCell' = true)
    (hst : ∀ (w : World) (g : Nat), w.cell? ⟨g, 0, none⟩ = some u → w.frozen? ⟨g, 0, none⟩ = false → (storeCells ⟨g, 0, none⟩ [v] 0).run P w = .ok () (w.setCell ⟨g, 0, none⟩ v)) : Wr P ty 0 [u] v [v] := by
  constructor
  intro w g t hb
  have hc := hb.cell (i := 0) (u := u) rfl
  have hf := hb.free 0
  have e : w.setCell ⟨g, 0, none⟩ v = w.setRow g [v].toArray := by
    rw [setCell_eq_setRow w g 0 _ t (0, 0) _ hb]
    congr 1
  cases hq : P.info? ty with
  | none => simp [hq] at hs
  | some j =>
    have hz : j.size = 1 := by simpa [hq] using hs
    rw [← e]
    simp [storeVar, sizeOf, typeInfo, hq, hz, hv, hst w g hc hf]
end
end Go.Th
namespace Go.Proofs.Ytolneillcdaibaa
open Go Go.RowKit Go.Th Go.Th.Root Go.Th.Wide Go.Th.Expo

theorem zeroQ : (Try.prog.info? 41).map (·.zero) = some (some (.int .u64 0)) := by kernel_rfl
theorem sizeQ : (Try.prog.info? 41).map (·.size) = some 1 := by kernel_rfl
theorem rd_q (x : Int) : Rd Try.prog 41 0 [.int .u64 x] (.int .u64 x) := Rd.one Try.underlying41 rfl rfl
theorem wr_q (x y : Int) : Wr Try.prog 41 0 [.int .u64 x] (.int .u64 y) [.int .u64 y] := by
  refine wr_cell (u := .int .u64 x) sizeQ rfl rfl ?_
  intro w g hc hf
  have hst := run_store Try.prog w ⟨g, 0, none⟩ (.int .u64 y) .plain rfl
  rw [hc] at hst
  simp only [hf, Bool.false_eq_true, if_false] at hst
  simp [storeCells, hst, add_none]

/-- The closure's value: it has captured one variable. -/
abbrev nextV (g : Nat) : Value := .func (.func 46) #[] #[.pointer (some ⟨g, 0, none⟩)]
set_option maxRecDepth 20000 in
set_option maxHeartbeats 1600000 in
theorem roots_any (w : World) : Calls Try.prog 31 #[] w fun e w' => ∃ g, e = .returned (nextV g) ∧ Mem w w' [(g, 41, [.int .u64 2305843009213693952])] := by
  have hmf : ∀ (fn : Fn) (first cap : Array Value) (w : World), (Instr.makeFunc fn first cap).run Try.prog w = .ok (.func fn first cap) w := fun _ _ _ _ => rfl
  have M0 := Mem.start w
  go_enter Try.func31, Try.ntmps31
  go_wp2_with ((with_reducible refine (?_ : Go.wpList _ _ _ (_ :: _) _ _)); (first | go_skip | (refine wpL_al M0 rfl rfl zeroQ rfl ?_; clear M0; intro g1 w1 M1) | (refine wpL_st M1 rfl rfl rfl rfl (by repeat (first | exact Has.head _ _ _ _ | apply Has.tail)) (wr_q _ _) (by repeat (first | exact Upd.head _ _ _ _ _ | apply Upd.tail)) ?_; clear M1; intro w' M1)))
  go_ret
  exact ⟨_, rfl, M1⟩

set_option maxRecDepth 20000 in
set_option maxHeartbeats 1600000 in
theorem enext_any (h g : Nat) (hh : h ≤ 4611686018427387904) (w0 w : World) (r : List (Nat × TypeId × List Value)) (M0 : Mem w0 w ((g, 41, [.int .u64 h]) :: r)) :
    Calls Try.prog 46 #[.pointer (some ⟨g, 0, none⟩)] w fun e w' => e = .returned (.int .u64 ((rt 2 (h * 4611686018427387904) : Nat) : Int)) ∧ Mem w0 w' ((g, 41, [.int .u64 ((rt 2 (h * 4611686018427387904) : Nat) : Int)]) :: r) := by
  have C1 := mulW_nat h 4611686018427387904 (by omega) (by omega)
  have C2 := wide_any (h * 4611686018427387904 / 18446744073709551616) (h * 4611686018427387904 % 18446744073709551616) (by omega) (by omega)
  rw [show h * 4611686018427387904 / 18446744073709551616 * 18446744073709551616 + h * 4611686018427387904 % 18446744073709551616 = h * 4611686018427387904 by omega] at C2
  have hR := root_le hh
  obtain ⟨R, eR⟩ : ∃ R, R = rt 2 (h * 4611686018427387904) := ⟨_, rfl⟩
  obtain ⟨a, ea⟩ : ∃ a, a = h * 4611686018427387904 / 18446744073709551616 := ⟨_, rfl⟩
  obtain ⟨b, eb⟩ : ∃ b, b = h * 4611686018427387904 % 18446744073709551616 := ⟨_, rfl⟩
  rw [← eR] at C2 hR ⊢
  rw [← ea, ← eb] at C1 C2
  clear eR ea eb
  go_enter Try.func46, Try.ntmps46
  go_wp2_with ((with_reducible refine (?_ : Go.wpList _ _ _ (_ :: _) _ _)); (first | go_skip | (refine wpL_ld M0 rfl rfl rfl (by repeat (first | exact Has.head _ _ _ _ | apply Has.tail)) (rd_q _) ?_)))
  (refine (C1 _).mono ?_; rintro e w2 ⟨rfl, hBl⟩; replace M0 := M0.call hBl; clear hBl C1)
  go_wp2_with fail
  (refine (C2 _).mono ?_; rintro e w2 ⟨rfl, hBl⟩; replace M0 := M0.call hBl; clear hBl C2)
  go_wp2_with ((with_reducible refine (?_ : Go.wpList _ _ _ (_ :: _) _ _)); (first | go_skip | (refine wpL_ld M0 rfl rfl rfl (by repeat (first | exact Has.head _ _ _ _ | apply Has.tail)) (rd_q _) ?_) | (refine wpL_st M0 rfl rfl rfl rfl (by repeat (first | exact Has.head _ _ _ _ | apply Has.tail)) (wr_q _ _) (by repeat (first | exact Upd.head _ _ _ _ _ | apply Upd.tail)) ?_; clear M0; intro w' M0)))
  go_ret
  exact ⟨rfl, M0⟩

theorem rest_step {p k : Nat} (hk : k + 1 ≤ 16) : p % 2 ^ (k + 1) * 2 ^ (64 - (k + 1)) / 9223372036854775808 = p / 2 ^ k % 2 ∧ p % 2 ^ (k + 1) * 2 ^ (64 - (k + 1)) * 2 % 18446744073709551616 = p % 2 ^ k * 2 ^ (64 - k) ∧ p % 2 ^ (k + 1) * 2 ^ (64 - (k + 1)) < 18446744073709551616 := by
  have e := Nat.mod_pow_succ (x := p) (b := 2) (k := k)
  have c : 0 < 2 ^ k := Nat.two_pow_pos k
  have l := Nat.mod_lt p c
  have q : 2 ^ k * 2 ^ (63 - k) = 9223372036854775808 := by rw [← Nat.pow_add, show k + (63 - k) = 63 by omega]
  have d : 0 < 2 ^ (63 - k) := Nat.two_pow_pos _
  rw [e, show 64 - (k + 1) = 63 - k by omega, show 64 - k = 63 - k + 1 by omega, Nat.pow_succ]
  have b : p / 2 ^ k % 2 < 2 := Nat.mod_lt _ (by decide)
  generalize p / 2 ^ k % 2 = t at b
  generalize p % 2 ^ k = y at l
  generalize 2 ^ (63 - k) = f at q d
  generalize 2 ^ k = g at q c l
  have l2 := Nat.mul_lt_mul_of_pos_right l d
  rw [q] at l2
  have m : (y + g * t) * f = y * f + 9223372036854775808 * t := by rw [Nat.add_mul, Nat.mul_right_comm, q]
  rw [m, ← Nat.mul_assoc]
  generalize y * f = z at l2
  omega
theorem rest_zero {p k : Nat} (h : p % 2 ^ k * 2 ^ (64 - k) = 0) : p % 2 ^ k = 0 := by
  have d : 0 < 2 ^ (64 - k) := Nat.two_pow_pos _
  rcases Nat.mul_eq_zero.1 h with a | a
  · exact a
  · omega

set_option maxRecDepth 20000 in
set_option maxHeartbeats 1600000 in
theorem Exp_go (d c p R V r0 : Nat) (hd : d < 9223372036854775808) (hc : c ≤ 40) (ec : (d : Int) / 65536 = (c : Int)) (e0 : IntKind.u64.wrap ((d : Int) * 281474976710656) = (r0 : Int)) (h0 : r0 = p % 2 ^ 16 * 2 ^ (64 - 16)) (hR : exM p = R) (hV : R / 1073741824 / 2 ^ c = V)
    (C1 : ∀ a b : Nat, a ≤ 4611686018427387904 → b ≤ 4611686018427387904 → Ans 32 #[.int .u64 a, .int .u64 b] (.int .u64 ((a * b / 4611686018427387904 : Nat) : Int))) :
    Ans 24 #[.int .i64 d] (.tuple #[.int .u64 V, .int .i64 0]) := by
  intro w
  have HR := Lib.hid hR
  have H0 := Lib.hid h0
  have HV := Lib.hid hV
  have HC := Lib.hid C1
  clear hR h0 hV C1
  go_enter Try.func24, Try.ntmps24
  go_wp2_with fail
  refine (roots_any _).mono ?_
  rintro e w2 ⟨g, rfl, M0⟩
  go_wp2_with fail
  clear e0
  go_loopg [4, 6] 16 (fun k s4 s6 wx => ∃ h m rest : Nat, k ≤ 16 ∧ s4 = .int .u64 m ∧ s6 = .int .u64 rest ∧ h ≤ 4611686018427387904 ∧ m ≤ 4611686018427387904 ∧ Hid (rest = p % 2 ^ k * 2 ^ (64 - k)) ∧ Hid (ex k p h m = R) ∧ Mem w wx [(g, 41, [.int .u64 h])])
  case atStart => exact ⟨2305843009213693952, 4611686018427387904, r0, by omega, rfl, rfl, by decide, by decide, H0.out, HR.out, M0⟩
  case round =>
    clear M0 HR H0
    obtain ⟨h, m, rest, hk, rfl, rfl, hh, hm, HT, HR, M0⟩ := hrel
    by_cases hz : rest = 0
    · subst hz
      have hR : m = R := by have a := HR.out; rw [ex_low _ _ _ _ (rest_zero HT.out.symm)] at a; exact a
      clear HR HT
      subst hR
      go_wp2_with fail
      go_ret2
      exact ⟨ret_ii (by rw [← HV.out]; simp) rfl, M0.below⟩
    · cases gk with
      | zero => exact absurd (by have := HT.out; rw [Nat.pow_zero, Nat.mod_one, Nat.zero_mul] at this; exact this) hz
      | succ k =>
        have bz : ((rest : Int) != 0) = true := by simpa using hz
        obtain ⟨t1, t2, t3⟩ := rest_step (p := p) hk
        rw [← HT.out] at t1 t2 t3
        obtain ⟨r2, hr2⟩ : ∃ r2, r2 = rest * 2 % 18446744073709551616 := ⟨_, rfl⟩
        have er : IntKind.u64.wrap ((rest : Int) * 2) = (r2 : Int) := by rw [IntKind.wrap_u64]; omega
        rw [← hr2] at t2
        have T2 := Lib.hid t2
        have hh2 := root_le hh
        have K := enext_any h g hh
        have hb : p / 2 ^ k % 2 < 2 := Nat.mod_lt _ (by decide)
        have hs := ex_step k p h m
        obtain ⟨b, eb⟩ : ∃ b, b = p / 2 ^ k % 2 := ⟨_, rfl⟩
        obtain ⟨h2, eh⟩ : ∃ h2, h2 = rt 2 (h * 4611686018427387904) := ⟨_, rfl⟩
        rw [← eh] at K hs hh2
        rw [← eb] at t1 hb hs
        have et : (rest : Int) / 9223372036854775808 = (b : Int) := by omega
        clear t1 t2 hr2 eb eh HT hz
        have hb2 : b = 0 ∨ b = 1 := by omega
        rcases hb2 with rfl | rfl
        · rw [if_neg (by decide)] at hs
          have G := Lib.hid (HR.out ▸ hs.symm : ex k p h2 m = R)
          clear hs HR
          go_wp2_with fail
          refine (K _ _ _ M0).mono ?_
          rintro e w3 ⟨rfl, M1⟩
          clear M0 K
          go_wp2_with fail
          go_roundg k
          case rel => exact ⟨h2, m, r2, by omega, rfl, rfl, hh2, hm, T2.out, G.out, M1⟩
          case measure => omega
        · rw [if_pos rfl] at hs
          have G := Lib.hid (HR.out ▸ hs.symm : ex k p h2 (m * h2 / 4611686018427387904) = R)
          have hm2 := prod_le hm hh2
          have C := HC.out m h2 hm hh2
          obtain ⟨q, hq⟩ : ∃ q, q = m * h2 / 4611686018427387904 := ⟨_, rfl⟩
          rw [← hq] at G hm2 C
          clear hs HR hq
          go_wp2_with fail
          refine (K _ _ _ M0).mono ?_
          rintro e w3 ⟨rfl, M1⟩
          clear M0 K
          go_wp2_with fail
          (refine (C _).mono ?_; rintro e w2 ⟨rfl, hBl⟩; replace M1 := M1.call hBl; clear hBl C)
          go_wp2_with fail
          go_roundg k
          case rel => exact ⟨h2, q, r2, by omega, rfl, rfl, hh2, hm2, T2.out, G.out, M1⟩
          case measure => omega
theorem exp_r0 (d : Nat) : IntKind.u64.wrap ((d : Int) * 281474976710656) = ((d % 65536 % 2 ^ 16 * 2 ^ (64 - 16) : Nat) : Int) := by rw [IntKind.wrap_u64]; omega
theorem expS_near {d : Nat} (h : ¬ 40 < d / 65536) : exM (d % 65536) / 1073741824 / 2 ^ (d / 65536) = expS d := by unfold expS; rw [if_neg h]
set_option maxRecDepth 20000 in
set_option maxHeartbeats 1600000 in
theorem Exp_far (d c : Nat) (hd : d < 9223372036854775808) (hc : 40 < c) (ec : (d : Int) / 65536 = (c : Int)) : Ans 24 #[.int .i64 d] (.tuple #[.int .u64 0, .int .i64 0]) := by
  intro w
  go_enter Try.func24, Try.ntmps24
  go_wp2_with fail
  go_ret2
  exact ⟨rfl, Below.refl _ _⟩
set_option maxRecDepth 20000 in
set_option maxHeartbeats 1600000 in
theorem Exp_neg (x : Int) (h : x < 0) : Ans 24 #[.int .i64 x] (.tuple #[.int .u64 0, .int .i64 2]) := by
  intro w
  go_enter Try.func24, Try.ntmps24
  go_wp2_with fail
  go_ret2
  exact ⟨rfl, Below.refl _ _⟩
theorem Exp_any (d : Nat) (hd : d < 9223372036854775808) : Ans 24 #[.int .i64 d] (.tuple #[.int .u64 ((expS d : Nat) : Int), .int .i64 0]) := by
  by_cases h : 40 < d / 65536
  · have e : expS d = 0 := by unfold expS; rw [if_pos h]
    rw [e]
    exact Exp_far d (d / 65536) hd h (by omega)
  · exact Exp_go d (d / 65536) (d % 65536) _ (expS d) (d % 65536 % 2 ^ 16 * 2 ^ (64 - 16)) hd (by omega) (by omega) (exp_r0 d) rfl rfl (expS_near h)
      (fun a b ha hb => times_any a b (by omega) (by omega) (by have := prod_le ha hb; omega))

end Go.Proofs.Ytolneillcdaibaa
