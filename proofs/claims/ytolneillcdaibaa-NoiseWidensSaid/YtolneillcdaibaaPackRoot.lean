/-
  Texts in one: RootSpec, RootA, RootB, RootC, RootD.
-/
import Derived.Test.YtolneillcdaibaaPackBits
import Derived.Test.YtolneillcdaibaaLen
import Derived.Outline
import Derived.Test.YtolneillcdaibaaPackWide
set_option linter.unusedVariables false
set_option linter.unusedSimpArgs false

/-
  Roots of whole numbers of any degree, found from the highest bit down, and by halves; how many bits a number has: plain.
-/
namespace Go.Th.Root

/-- The greatest number up to k whose power is no more. -/
def down (d N : Nat) : Nat → Nat
  | 0 => 0
  | k + 1 => if (k + 1) ^ d ≤ N then k + 1 else down d N k
/-- The greatest number whose power of a degree is no more. -/
def rt (d N : Nat) : Nat := down d N N

theorem down_pow (d N : Nat) (hd : 0 < d) : ∀ k, (down d N k) ^ d ≤ N
  | 0 => by unfold down; rw [Nat.zero_pow hd]; exact Nat.zero_le _
  | k + 1 => by
    unfold down
    split
    · assumption
    · exact down_pow d N hd k
theorem down_max (d N : Nat) : ∀ k r, r ≤ k → r ^ d ≤ N → r ≤ down d N k
  | 0, r, h, _ => by have : r = 0 := by omega
                     rw [this]; exact Nat.zero_le _
  | k + 1, r, h, hp => by
    unfold down
    split
    · exact h
    · rename_i hn
      by_cases e : r = k + 1
      · subst e; exact absurd hp hn
      · exact down_max d N k r (by omega) hp
theorem le_self_pow {r d : Nat} (hd : 0 < d) : r ≤ r ^ d := by
  obtain ⟨e, rfl⟩ : ∃ e, d = e + 1 := ⟨d - 1, by omega⟩
  rcases Nat.eq_zero_or_pos r with h | h
  · subst h; exact Nat.zero_le _
  · rw [Nat.pow_succ]
    have := Nat.pow_pos (n := e) h
    exact Nat.le_mul_of_pos_left _ this
theorem rt_pow (d N : Nat) (hd : 0 < d) : (rt d N) ^ d ≤ N := down_pow d N hd N
theorem le_rt {d N r : Nat} (hd : 0 < d) : r ≤ rt d N ↔ r ^ d ≤ N := by
  constructor
  · intro h; exact Nat.le_trans (Nat.pow_le_pow_left h d) (rt_pow d N hd)
  · intro h; exact down_max d N N r (Nat.le_trans (le_self_pow hd) h) h
theorem rt_next {d N : Nat} (hd : 0 < d) : N < (rt d N + 1) ^ d := by
  by_cases h : (rt d N + 1) ^ d ≤ N
  · have := (le_rt hd).2 h; omega
  · omega
theorem rt_eq {d N r : Nat} (hd : 0 < d) (h1 : r ^ d ≤ N) (h2 : N < (r + 1) ^ d) : rt d N = r := by
  have a := (le_rt hd).2 h1
  by_cases b : r + 1 ≤ rt d N
  · have := (le_rt hd).1 b; omega
  · omega
theorem rt_le (d N : Nat) (hd : 0 < d) : rt d N ≤ N := Nat.le_trans (le_self_pow hd) (rt_pow d N hd)
theorem rt_zero (d : Nat) (hd : 0 < d) : rt d 0 = 0 := Nat.eq_zero_of_le_zero (rt_le d 0 hd)
theorem rt_one (N : Nat) : rt 1 N = N := rt_eq (by decide) (by rw [Nat.pow_one]; exact Nat.le_refl _) (by rw [Nat.pow_one]; exact Nat.lt_succ_self _)
theorem rt_sq (N : Nat) : rt 2 N * rt 2 N ≤ N := by have := rt_pow 2 N (by decide); rwa [Nat.pow_two] at this
theorem rt_sq_next (N : Nat) : N < (rt 2 N + 1) * (rt 2 N + 1) := by have := rt_next (d := 2) (N := N) (by decide); rwa [Nat.pow_two] at this
theorem rt_lt {d N s : Nat} (hd : 0 < d) (h : N < 2 ^ (d * s)) : rt d N < 2 ^ s := by
  by_cases b : 2 ^ s ≤ rt d N
  · have := (le_rt hd).1 b
    rw [← Nat.pow_mul, Nat.mul_comm] at this
    omega
  · omega
/-- Above 64 degrees a number of 64 bits has the same root. -/
theorem rt_far {d x : Nat} (hx : x < 2 ^ 64) (hd : 64 ≤ d) : rt d x = rt 64 x := by
  have two : ∀ e r, 64 ≤ e → 2 ≤ r → ¬ r ^ e ≤ x := by
    intro e r he hr h
    have h1 : 2 ^ 64 ≤ 2 ^ e := Nat.pow_le_pow_right (by decide) he
    have h2 : 2 ^ e ≤ r ^ e := Nat.pow_le_pow_left hr e
    omega
  have one : ∀ e r, 64 ≤ e → (r ^ e ≤ x ↔ r = 0 ∨ (r = 1 ∧ 1 ≤ x)) := by
    intro e r he
    rcases Nat.lt_or_ge r 2 with h | h
    · have : r = 0 ∨ r = 1 := by omega
      rcases this with rfl | rfl
      · rw [Nat.zero_pow (by omega)]; simp
      · rw [Nat.one_pow]; simp
    · constructor
      · intro h'; exact absurd h' (two e r he h)
      · intro h'; omega
  apply Nat.le_antisymm
  · rw [le_rt (by decide), one 64 _ (Nat.le_refl _), ← one d _ hd]; exact rt_pow d x (by omega)
  · rw [le_rt (by omega), one d _ hd, ← one 64 _ (Nat.le_refl _)]; exact rt_pow 64 x (by decide)

/-- One bit more of a number: its part above the bit i, and the next one down. -/
theorem part_next (R i q : Nat) (hq : q = R / 2 ^ (i + 1)) : (2 ^ (i + 1) * q + 2 ^ i ≤ R ↔ R / 2 ^ i = 2 * q + 1) ∧ (¬ 2 ^ (i + 1) * q + 2 ^ i ≤ R ↔ R / 2 ^ i = 2 * q) := by
  have h0 : 0 < 2 ^ i := Nat.two_pow_pos i
  have e : q = R / 2 ^ i / 2 := by rw [hq, Nat.pow_succ, Nat.div_div_eq_div_mul]
  have e2 : 2 ^ (i + 1) * q + 2 ^ i = (2 * q + 1) * 2 ^ i := by rw [Nat.pow_succ, Nat.add_mul, Nat.one_mul, Nat.mul_comm (2 ^ i) 2, Nat.mul_assoc, Nat.mul_assoc, Nat.mul_comm (2 ^ i) q]
  rw [e2, ← Nat.le_div_iff_mul_le h0]
  generalize R / 2 ^ i = y at *
  omega
theorem part_or (i q : Nat) : (2 ^ (i + 1) * q) ||| 2 ^ i = 2 ^ (i + 1) * q + 2 ^ i :=
  (Nat.two_pow_add_eq_or_of_lt (Nat.pow_lt_pow_right (by decide) (Nat.lt_succ_self i)) q).symm
theorem part_yes {R i q : Nat} (hq : q = R / 2 ^ (i + 1)) (h : 2 ^ (i + 1) * q + 2 ^ i ≤ R) : 2 ^ (i + 1) * q + 2 ^ i = 2 ^ i * (R / 2 ^ i) := by
  rw [(part_next R i q hq).1.1 h, Nat.pow_succ, Nat.mul_add, Nat.mul_one, Nat.mul_assoc]
theorem part_no {R i q : Nat} (hq : q = R / 2 ^ (i + 1)) (h : ¬ 2 ^ (i + 1) * q + 2 ^ i ≤ R) : 2 ^ (i + 1) * q = 2 ^ i * (R / 2 ^ i) := by
  rw [(part_next R i q hq).2.1 h, Nat.pow_succ, Nat.mul_assoc]

/-- A round of the descent, whole: what is known of the root's bits, and the number that is tried. -/
theorem tried {R i r : Nat} (hr : r = 2 ^ (i + 1) * (R / 2 ^ (i + 1))) (hR : R < 2 ^ 64) (hi : i < 64) : r < 2 ^ 64 ∧ 2 ^ i < 2 ^ 64 ∧ r ||| 2 ^ i < 2 ^ 64 ∧
    (r ||| 2 ^ i ≤ R → r ||| 2 ^ i = 2 ^ i * (R / 2 ^ i)) ∧ (¬ r ||| 2 ^ i ≤ R → r = 2 ^ i * (R / 2 ^ i)) := by
  have h1 : r ≤ R := by rw [hr]; exact Nat.mul_div_le R (2 ^ (i + 1))
  have h2 : 2 ^ i < 2 ^ 64 := Nat.pow_lt_pow_right (by decide) hi
  have h3 : r ||| 2 ^ i < 2 ^ 64 := Nat.or_lt_two_pow (by omega) h2
  refine ⟨by omega, h2, h3, ?_, ?_⟩
  · intro h; rw [hr, part_or] at h ⊢; exact part_yes rfl h
  · intro h; rw [hr, part_or] at h; rw [hr]; exact part_no rfl h

/-- A step of halving. -/
theorem half_pos {n : Nat} (h : 0 < n) : n / 2 < n := Nat.div_lt_self h (by decide)

/-- The greatest divisor of what is left. -/
theorem gcd_left (a b : Nat) (h : 0 < Nat.gcd a b) : Nat.gcd (a / Nat.gcd a b) (b / Nat.gcd a b) = 1 := by
  rw [Nat.gcd_div (Nat.gcd_dvd_left a b) (Nat.gcd_dvd_right a b), Nat.div_self h]
end Go.Th.Root

/-
  Roots: the greatest divisor, how many bits, by halves, a power: the code's and the reference's.
-/
namespace Go.Proofs.Ytolneillcdaibaa
open Go Go.RowKit Go.Th Go.Th.Root

theorem gcd_step {x y g : Nat} (h : Nat.gcd x y = g) : Nat.gcd y (x % y) = g := by rw [Nat.gcd_comm, ← Nat.gcd_rec, Nat.gcd_comm, h]

set_option maxRecDepth 20000 in
set_option maxHeartbeats 1600000 in
theorem bits_any (x : Nat) (hx : x < 18446744073709551616) : Ans 52 #[.int .u64 x] (.int .i64 ((Lib.bitLen x : Nat) : Int)) := by
  intro w
  have C := fun w => Len64_any (x : Int) w (by omega) (by omega)
  rw [Int.toNat_natCast] at C
  go_enter Try.func52, Try.ntmps52
  go_wp2_with fail
  refine (C _).mono ?_
  rintro e w2 ⟨rfl, rfl⟩
  go_wp2
  go_ret
  exact ⟨rfl, Below.refl _ _⟩

theorem bitLen_le64 (x : Nat) (hx : x < 18446744073709551616) : Lib.bitLen x ≤ 64 := Lib.bitLen_le x 64 (by decide) hx
end Go.Proofs.Ytolneillcdaibaa

/-
  Roots, as the reference has them: by halves; a power; is a number the greatest one.
-/
namespace Go.Proofs.Ytolneillcdaibaa
open Go Go.RowKit Go.Th Go.Th.Root

theorem quo_u (x r q : Nat) (hx : x < 18446744073709551616) (hq : q = x / r) : IntKind.u64.wrap ((x : Int) / (r : Int)) = (q : Int) := by
  have h := Nat.div_le_self x r
  rw [← hq] at h
  rw [← Int.natCast_ediv, ← hq, IntKind.wrap_u64]; omega
theorem pow_up (m i : Nat) : m ^ (i + 1) = m ^ i * m := Nat.pow_succ m i
theorem pow_more {m i d x : Nat} (hm : 0 < m) (hi : i + 1 ≤ d) (h : ¬ m ^ i * m ≤ x) : ¬ m ^ d ≤ x := by
  rw [← Nat.pow_succ] at h
  intro h2
  exact h (Nat.le_trans (Nat.pow_le_pow_right hm hi) h2)
theorem pow_64 {m x : Nat} (hm : 2 ≤ m) (hx : x < 18446744073709551616) : ¬ m ^ 64 ≤ x := by
  have h : 2 ^ 64 ≤ m ^ 64 := Nat.pow_le_pow_left hm 64
  omega
theorem pow_small {m d x : Nat} (hm : m < 2) (hd : 0 < d) : (m ^ d ≤ x) = (m ≤ x) := by
  have e : m = 0 ∨ m = 1 := by omega
  rcases e with rfl | rfl
  · rw [Nat.zero_pow hd]
  · rw [Nat.one_pow]

end Go.Proofs.Ytolneillcdaibaa

/-
  Roots: how long a number is, its share, is a square above it.
-/
namespace Go.Proofs.Ytolneillcdaibaa
open Go Go.RowKit Go.Th Go.Th.Root Go.Th.Wide

theorem bitLenAux_lt : ∀ (f x : Nat), x < 2 ^ f → x < 2 ^ Lib.bitLenAux f x
  | 0, x, h => by simpa [Lib.bitLenAux] using h
  | f + 1, x, h => by
    unfold Lib.bitLenAux
    split
    · rename_i h0; subst h0; decide
    · have := bitLenAux_lt f (x / 2) (by rw [Nat.pow_succ] at h; omega)
      rw [Nat.add_comm, Nat.pow_succ]; omega
theorem lt_bitLen (x : Nat) (h : x < 18446744073709551616) : x < 2 ^ Lib.bitLen x := bitLenAux_lt 64 x h
theorem bitLen_le63 (x : Nat) (hx : x < 9223372036854775808) : Lib.bitLen x ≤ 63 := Lib.bitLen_le x 63 (by decide) hx
/-- How long a number of two words is. -/
def lenS (h l : Nat) : Nat := if h = 0 then Lib.bitLen l else 64 + Lib.bitLen h
theorem lenS_lt (h l : Nat) (hh : h < 9223372036854775808) (hl : l < 18446744073709551616) : h * 18446744073709551616 + l < 2 ^ lenS h l := by
  unfold lenS
  split
  · rename_i h0; subst h0; rw [Nat.zero_mul, Nat.zero_add]; exact lt_bitLen l hl
  · have := lt_bitLen h (by omega)
    rw [Nat.pow_add, show (2 : Nat) ^ 64 = 18446744073709551616 by decide]
    omega
theorem lenS_le (h l : Nat) (hh : h < 9223372036854775808) (hl : l < 18446744073709551616) : lenS h l ≤ 127 := by
  unfold lenS
  have := bitLen_le63 h hh
  have := bitLen_le64 l hl
  split <;> omega
def shareS (n d : Nat) : Nat := (n + d - 1) / d
theorem share_le (n d : Nat) (hd : 0 < d) : n ≤ d * shareS n d := by
  unfold shareS
  have := Nat.div_add_mod (n + d - 1) d
  have := Nat.mod_lt (n + d - 1) hd
  omega

set_option maxRecDepth 20000 in
set_option maxHeartbeats 1600000 in
theorem share_any (n d : Nat) (hn : n ≤ 1000) (hd : 0 < d) (hd2 : d ≤ 1000) : Ans 57 #[.int .i64 n, .int .i64 d] (.int .i64 ((shareS n d : Nat) : Int)) := by
  intro w
  have hn0 : ¬ (d : Int) = 0 := by omega
  have hq : shareS n d ≤ n + d - 1 := Nat.div_le_self _ _
  have e : ((n : Int) + (d : Int) - 1).tdiv (d : Int) = ((shareS n d : Nat) : Int) := by
    rw [show (n : Int) + (d : Int) - 1 = ((n + d - 1 : Nat) : Int) by omega]; unfold shareS; rfl
  obtain ⟨s, hs⟩ : ∃ s, s = shareS n d := ⟨_, rfl⟩
  rw [← hs] at e hq ⊢
  clear hs
  go_enter Try.func57, Try.ntmps57
  go_wp2
  go_ret
  exact ⟨rfl, Below.refl _ _⟩

set_option maxRecDepth 20000 in
set_option maxHeartbeats 1600000 in
theorem length_any (h l : Nat) (hh : h < 9223372036854775808) (hl : l < 18446744073709551616) : Ans 58 #[wv h l] (.int .i64 ((lenS h l : Nat) : Int)) := by
  intro w
  have C1 := bits_any h (by omega)
  have C2 := bits_any l hl
  have b1 := bitLen_le63 h hh
  have b2 := bitLen_le64 l hl
  unfold lenS
  have M0 := Mem.start w
  by_cases h0 : h = 0
  · subst h0
    rw [if_pos rfl]
    have d0 : ((((0 : Nat) : Int)) != 0) = false := by decide
    clear C1
    obtain ⟨L, hL⟩ : ∃ L, L = Lib.bitLen l := ⟨_, rfl⟩
    rw [← hL] at C2 b2 ⊢
    clear hL
    go_enter Try.func58, Try.ntmps58
    go_wp2_with ((with_reducible refine (?_ : Go.wpList _ _ _ (_ :: _) _ _)); (first | go_skip | (refine wpL_bx M0 rfl rfl rfl rfl ?_; clear M0; intro g1 w1 M1) | (refine wpL_al M0 rfl rfl zero25 rfl ?_; clear M0; intro g1 w1 M1) | (refine wpL_ld M0 rfl rfl rfl (by repeat (first | exact Has.head _ _ _ _ | apply Has.tail)) (by first | exact rd_w _ _ | exact rd_hi _ _ | exact rd_lo _ _ | assumption) ?_) | (refine wpL_ldg M0 rfl rfl rfl (by repeat (first | exact Has.head _ _ _ _ | apply Has.tail)) (by first | exact rd_w _ _ | exact rd_hi _ _ | exact rd_lo _ _ | assumption) ?_) | (refine wpL_st M0 rfl rfl rfl rfl (by repeat (first | exact Has.head _ _ _ _ | apply Has.tail)) (by first | exact wr_w _ rfl _ _ | exact wr_hi _ _ _ | assumption) (by repeat (first | exact Upd.head _ _ _ _ _ | apply Upd.tail)) ?_; clear M0; intro w' M0) | (refine wpL_ld M1 rfl rfl rfl (by repeat (first | exact Has.head _ _ _ _ | apply Has.tail)) (by first | exact rd_w _ _ | exact rd_hi _ _ | exact rd_lo _ _ | assumption) ?_) | (refine wpL_ldg M1 rfl rfl rfl (by repeat (first | exact Has.head _ _ _ _ | apply Has.tail)) (by first | exact rd_w _ _ | exact rd_hi _ _ | exact rd_lo _ _ | assumption) ?_) | (refine wpL_st M1 rfl rfl rfl rfl (by repeat (first | exact Has.head _ _ _ _ | apply Has.tail)) (by first | exact wr_w _ rfl _ _ | exact wr_hi _ _ _ | assumption) (by repeat (first | exact Upd.head _ _ _ _ _ | apply Upd.tail)) ?_; clear M1; intro w' M1)))
    (refine (C2 _).mono ?_; rintro e w2 ⟨rfl, hBl⟩; replace M1 := M1.call hBl; clear hBl C2)
    go_wp2_with ((with_reducible refine (?_ : Go.wpList _ _ _ (_ :: _) _ _)); (first | go_skip | (refine wpL_ld M1 rfl rfl rfl (by repeat (first | exact Has.head _ _ _ _ | apply Has.tail)) (by first | exact rd_w _ _ | exact rd_hi _ _ | exact rd_lo _ _ | assumption) ?_) | (refine wpL_ldg M1 rfl rfl rfl (by repeat (first | exact Has.head _ _ _ _ | apply Has.tail)) (by first | exact rd_w _ _ | exact rd_hi _ _ | exact rd_lo _ _ | assumption) ?_) | (refine wpL_st M1 rfl rfl rfl rfl (by repeat (first | exact Has.head _ _ _ _ | apply Has.tail)) (by first | exact wr_w _ rfl _ _ | exact wr_hi _ _ _ | assumption) (by repeat (first | exact Upd.head _ _ _ _ _ | apply Upd.tail)) ?_; clear M1; intro w' M1)))
    go_ret
    exact ⟨rfl, M1.below⟩
  · rw [if_neg h0]
    have d0 : ((h : Int) != 0) = true := by simpa using h0
    have wh : IntKind.u64.wrap (h : Int) = (h : Int) := by rw [IntKind.wrap_u64]; omega
    clear C2
    obtain ⟨L, hL⟩ : ∃ L, L = Lib.bitLen h := ⟨_, rfl⟩
    rw [← hL] at C1 b1 ⊢
    clear hL
    go_enter Try.func58, Try.ntmps58
    go_wp2_with ((with_reducible refine (?_ : Go.wpList _ _ _ (_ :: _) _ _)); (first | go_skip | (refine wpL_bx M0 rfl rfl rfl rfl ?_; clear M0; intro g1 w1 M1) | (refine wpL_al M0 rfl rfl zero25 rfl ?_; clear M0; intro g1 w1 M1) | (refine wpL_ld M0 rfl rfl rfl (by repeat (first | exact Has.head _ _ _ _ | apply Has.tail)) (by first | exact rd_w _ _ | exact rd_hi _ _ | exact rd_lo _ _ | assumption) ?_) | (refine wpL_ldg M0 rfl rfl rfl (by repeat (first | exact Has.head _ _ _ _ | apply Has.tail)) (by first | exact rd_w _ _ | exact rd_hi _ _ | exact rd_lo _ _ | assumption) ?_) | (refine wpL_st M0 rfl rfl rfl rfl (by repeat (first | exact Has.head _ _ _ _ | apply Has.tail)) (by first | exact wr_w _ rfl _ _ | exact wr_hi _ _ _ | assumption) (by repeat (first | exact Upd.head _ _ _ _ _ | apply Upd.tail)) ?_; clear M0; intro w' M0) | (refine wpL_ld M1 rfl rfl rfl (by repeat (first | exact Has.head _ _ _ _ | apply Has.tail)) (by first | exact rd_w _ _ | exact rd_hi _ _ | exact rd_lo _ _ | assumption) ?_) | (refine wpL_ldg M1 rfl rfl rfl (by repeat (first | exact Has.head _ _ _ _ | apply Has.tail)) (by first | exact rd_w _ _ | exact rd_hi _ _ | exact rd_lo _ _ | assumption) ?_) | (refine wpL_st M1 rfl rfl rfl rfl (by repeat (first | exact Has.head _ _ _ _ | apply Has.tail)) (by first | exact wr_w _ rfl _ _ | exact wr_hi _ _ _ | assumption) (by repeat (first | exact Upd.head _ _ _ _ _ | apply Upd.tail)) ?_; clear M1; intro w' M1)))
    (refine (C1 _).mono ?_; rintro e w2 ⟨rfl, hBl⟩; replace M1 := M1.call hBl; clear hBl C1)
    go_wp2_with ((with_reducible refine (?_ : Go.wpList _ _ _ (_ :: _) _ _)); (first | go_skip | (refine wpL_ld M1 rfl rfl rfl (by repeat (first | exact Has.head _ _ _ _ | apply Has.tail)) (by first | exact rd_w _ _ | exact rd_hi _ _ | exact rd_lo _ _ | assumption) ?_) | (refine wpL_ldg M1 rfl rfl rfl (by repeat (first | exact Has.head _ _ _ _ | apply Has.tail)) (by first | exact rd_w _ _ | exact rd_hi _ _ | exact rd_lo _ _ | assumption) ?_) | (refine wpL_st M1 rfl rfl rfl rfl (by repeat (first | exact Has.head _ _ _ _ | apply Has.tail)) (by first | exact wr_w _ rfl _ _ | exact wr_hi _ _ _ | assumption) (by repeat (first | exact Upd.head _ _ _ _ _ | apply Upd.tail)) ?_; clear M1; intro w' M1)))
    go_ret
    exact ⟨ret_int (by omega), M1.below⟩

set_option maxRecDepth 20000 in
set_option maxHeartbeats 1600000 in
theorem above_go (v h l : Nat) (hh : h < 9223372036854775808) (hl : l < 18446744073709551616) (H L : Nat) (hH : H < 18446744073709551616) (hL : L < 18446744073709551616)
    (C1 : Ans 45 #[.int .u64 v, .int .u64 v] (.tuple #[.int .u64 H, .int .u64 L])) :
    Ans 59 #[.int .u64 v, wv h l] (.bool (decide (h * 18446744073709551616 + l < H * 18446744073709551616 + L))) := by
  intro w
  have wh : IntKind.u64.wrap (h : Int) = (h : Int) := by rw [IntKind.wrap_u64]; omega
  have M0 := Mem.start w
  by_cases h1 : h < H
  · rw [decide_eq_true (by omega)]
    go_enter Try.func59, Try.ntmps59
    go_wp2_with ((with_reducible refine (?_ : Go.wpList _ _ _ (_ :: _) _ _)); (first | go_skip | (refine wpL_bx M0 rfl rfl rfl rfl ?_; clear M0; intro g1 w1 M1) | (refine wpL_al M0 rfl rfl zero25 rfl ?_; clear M0; intro g1 w1 M1) | (refine wpL_ld M0 rfl rfl rfl (by repeat (first | exact Has.head _ _ _ _ | apply Has.tail)) (by first | exact rd_w _ _ | exact rd_hi _ _ | exact rd_lo _ _ | assumption) ?_) | (refine wpL_ldg M0 rfl rfl rfl (by repeat (first | exact Has.head _ _ _ _ | apply Has.tail)) (by first | exact rd_w _ _ | exact rd_hi _ _ | exact rd_lo _ _ | assumption) ?_) | (refine wpL_st M0 rfl rfl rfl rfl (by repeat (first | exact Has.head _ _ _ _ | apply Has.tail)) (by first | exact wr_w _ rfl _ _ | exact wr_hi _ _ _ | assumption) (by repeat (first | exact Upd.head _ _ _ _ _ | apply Upd.tail)) ?_; clear M0; intro w' M0) | (refine wpL_ld M1 rfl rfl rfl (by repeat (first | exact Has.head _ _ _ _ | apply Has.tail)) (by first | exact rd_w _ _ | exact rd_hi _ _ | exact rd_lo _ _ | assumption) ?_) | (refine wpL_ldg M1 rfl rfl rfl (by repeat (first | exact Has.head _ _ _ _ | apply Has.tail)) (by first | exact rd_w _ _ | exact rd_hi _ _ | exact rd_lo _ _ | assumption) ?_) | (refine wpL_st M1 rfl rfl rfl rfl (by repeat (first | exact Has.head _ _ _ _ | apply Has.tail)) (by first | exact wr_w _ rfl _ _ | exact wr_hi _ _ _ | assumption) (by repeat (first | exact Upd.head _ _ _ _ _ | apply Upd.tail)) ?_; clear M1; intro w' M1)))
    (refine (C1 _).mono ?_; rintro e w2 ⟨rfl, hBl⟩; replace M1 := M1.call hBl; clear hBl C1)
    go_wp2_with ((with_reducible refine (?_ : Go.wpList _ _ _ (_ :: _) _ _)); (first | go_skip | (refine wpL_ld M1 rfl rfl rfl (by repeat (first | exact Has.head _ _ _ _ | apply Has.tail)) (by first | exact rd_w _ _ | exact rd_hi _ _ | exact rd_lo _ _ | assumption) ?_) | (refine wpL_ldg M1 rfl rfl rfl (by repeat (first | exact Has.head _ _ _ _ | apply Has.tail)) (by first | exact rd_w _ _ | exact rd_hi _ _ | exact rd_lo _ _ | assumption) ?_) | (refine wpL_st M1 rfl rfl rfl rfl (by repeat (first | exact Has.head _ _ _ _ | apply Has.tail)) (by first | exact wr_w _ rfl _ _ | exact wr_hi _ _ _ | assumption) (by repeat (first | exact Upd.head _ _ _ _ _ | apply Upd.tail)) ?_; clear M1; intro w' M1)))
    go_ret
    exact ⟨rfl, M1.below⟩
  · by_cases h2 : H = h
    · subst h2
      have b1 : ((H : Int) == (H : Int)) = true := by simp
      obtain ⟨b, hb⟩ : ∃ b, b = decide (H * 18446744073709551616 + l < H * 18446744073709551616 + L) := ⟨_, rfl⟩
      have hb2 : decide (l < L) = b := by rw [hb]; exact decide_eq_decide.2 (by omega)
      rw [← hb]
      clear hb
      go_enter Try.func59, Try.ntmps59
      go_wp2_with ((with_reducible refine (?_ : Go.wpList _ _ _ (_ :: _) _ _)); (first | go_skip | (refine wpL_bx M0 rfl rfl rfl rfl ?_; clear M0; intro g1 w1 M1) | (refine wpL_al M0 rfl rfl zero25 rfl ?_; clear M0; intro g1 w1 M1) | (refine wpL_ld M0 rfl rfl rfl (by repeat (first | exact Has.head _ _ _ _ | apply Has.tail)) (by first | exact rd_w _ _ | exact rd_hi _ _ | exact rd_lo _ _ | assumption) ?_) | (refine wpL_ldg M0 rfl rfl rfl (by repeat (first | exact Has.head _ _ _ _ | apply Has.tail)) (by first | exact rd_w _ _ | exact rd_hi _ _ | exact rd_lo _ _ | assumption) ?_) | (refine wpL_st M0 rfl rfl rfl rfl (by repeat (first | exact Has.head _ _ _ _ | apply Has.tail)) (by first | exact wr_w _ rfl _ _ | exact wr_hi _ _ _ | assumption) (by repeat (first | exact Upd.head _ _ _ _ _ | apply Upd.tail)) ?_; clear M0; intro w' M0) | (refine wpL_ld M1 rfl rfl rfl (by repeat (first | exact Has.head _ _ _ _ | apply Has.tail)) (by first | exact rd_w _ _ | exact rd_hi _ _ | exact rd_lo _ _ | assumption) ?_) | (refine wpL_ldg M1 rfl rfl rfl (by repeat (first | exact Has.head _ _ _ _ | apply Has.tail)) (by first | exact rd_w _ _ | exact rd_hi _ _ | exact rd_lo _ _ | assumption) ?_) | (refine wpL_st M1 rfl rfl rfl rfl (by repeat (first | exact Has.head _ _ _ _ | apply Has.tail)) (by first | exact wr_w _ rfl _ _ | exact wr_hi _ _ _ | assumption) (by repeat (first | exact Upd.head _ _ _ _ _ | apply Upd.tail)) ?_; clear M1; intro w' M1)))
      (refine (C1 _).mono ?_; rintro e w2 ⟨rfl, hBl⟩; replace M1 := M1.call hBl; clear hBl C1)
      go_wp2_with ((with_reducible refine (?_ : Go.wpList _ _ _ (_ :: _) _ _)); (first | go_skip | (refine wpL_ld M1 rfl rfl rfl (by repeat (first | exact Has.head _ _ _ _ | apply Has.tail)) (by first | exact rd_w _ _ | exact rd_hi _ _ | exact rd_lo _ _ | assumption) ?_) | (refine wpL_ldg M1 rfl rfl rfl (by repeat (first | exact Has.head _ _ _ _ | apply Has.tail)) (by first | exact rd_w _ _ | exact rd_hi _ _ | exact rd_lo _ _ | assumption) ?_) | (refine wpL_st M1 rfl rfl rfl rfl (by repeat (first | exact Has.head _ _ _ _ | apply Has.tail)) (by first | exact wr_w _ rfl _ _ | exact wr_hi _ _ _ | assumption) (by repeat (first | exact Upd.head _ _ _ _ _ | apply Upd.tail)) ?_; clear M1; intro w' M1)))
      go_ret
      exact ⟨rfl, M1.below⟩
    · have b1 : ((H : Int) == (h : Int)) = false := by rw [beq_eq_false_iff_ne]; omega
      rw [decide_eq_false (by omega)]
      go_enter Try.func59, Try.ntmps59
      go_wp2_with ((with_reducible refine (?_ : Go.wpList _ _ _ (_ :: _) _ _)); (first | go_skip | (refine wpL_bx M0 rfl rfl rfl rfl ?_; clear M0; intro g1 w1 M1) | (refine wpL_al M0 rfl rfl zero25 rfl ?_; clear M0; intro g1 w1 M1) | (refine wpL_ld M0 rfl rfl rfl (by repeat (first | exact Has.head _ _ _ _ | apply Has.tail)) (by first | exact rd_w _ _ | exact rd_hi _ _ | exact rd_lo _ _ | assumption) ?_) | (refine wpL_ldg M0 rfl rfl rfl (by repeat (first | exact Has.head _ _ _ _ | apply Has.tail)) (by first | exact rd_w _ _ | exact rd_hi _ _ | exact rd_lo _ _ | assumption) ?_) | (refine wpL_st M0 rfl rfl rfl rfl (by repeat (first | exact Has.head _ _ _ _ | apply Has.tail)) (by first | exact wr_w _ rfl _ _ | exact wr_hi _ _ _ | assumption) (by repeat (first | exact Upd.head _ _ _ _ _ | apply Upd.tail)) ?_; clear M0; intro w' M0) | (refine wpL_ld M1 rfl rfl rfl (by repeat (first | exact Has.head _ _ _ _ | apply Has.tail)) (by first | exact rd_w _ _ | exact rd_hi _ _ | exact rd_lo _ _ | assumption) ?_) | (refine wpL_ldg M1 rfl rfl rfl (by repeat (first | exact Has.head _ _ _ _ | apply Has.tail)) (by first | exact rd_w _ _ | exact rd_hi _ _ | exact rd_lo _ _ | assumption) ?_) | (refine wpL_st M1 rfl rfl rfl rfl (by repeat (first | exact Has.head _ _ _ _ | apply Has.tail)) (by first | exact wr_w _ rfl _ _ | exact wr_hi _ _ _ | assumption) (by repeat (first | exact Upd.head _ _ _ _ _ | apply Upd.tail)) ?_; clear M1; intro w' M1)))
      (refine (C1 _).mono ?_; rintro e w2 ⟨rfl, hBl⟩; replace M1 := M1.call hBl; clear hBl C1)
      go_wp2_with ((with_reducible refine (?_ : Go.wpList _ _ _ (_ :: _) _ _)); (first | go_skip | (refine wpL_ld M1 rfl rfl rfl (by repeat (first | exact Has.head _ _ _ _ | apply Has.tail)) (by first | exact rd_w _ _ | exact rd_hi _ _ | exact rd_lo _ _ | assumption) ?_) | (refine wpL_ldg M1 rfl rfl rfl (by repeat (first | exact Has.head _ _ _ _ | apply Has.tail)) (by first | exact rd_w _ _ | exact rd_hi _ _ | exact rd_lo _ _ | assumption) ?_) | (refine wpL_st M1 rfl rfl rfl rfl (by repeat (first | exact Has.head _ _ _ _ | apply Has.tail)) (by first | exact wr_w _ rfl _ _ | exact wr_hi _ _ _ | assumption) (by repeat (first | exact Upd.head _ _ _ _ _ | apply Upd.tail)) ?_; clear M1; intro w' M1)))
      go_ret
      exact ⟨rfl, M1.below⟩
theorem above_any (v h l : Nat) (hv : v < 18446744073709551616) (hh : h < 9223372036854775808) (hl : l < 18446744073709551616) :
    Ans 59 #[.int .u64 v, wv h l] (.bool (decide (h * 18446744073709551616 + l < v * v))) := by
  have hp : v * v / 18446744073709551616 < 18446744073709551616 := by
    rw [Nat.div_lt_iff_lt_mul (by decide)]
    exact Nat.lt_of_le_of_lt (Nat.mul_le_mul (show v ≤ 18446744073709551615 by omega) (show v ≤ 18446744073709551615 by omega)) (by decide)
  have C := above_go v h l hh hl (v * v / 18446744073709551616) (v * v % 18446744073709551616) hp (by omega) (fun w => by
    refine (Mul64_any v v hv hv w).mono ?_
    rintro e w' ⟨he, rfl⟩
    exact ⟨he, Below.refl _ _⟩)
  rw [show v * v / 18446744073709551616 * 18446744073709551616 + v * v % 18446744073709551616 = v * v by omega] at C
  exact C
end Go.Proofs.Ytolneillcdaibaa

/-
  Roots of numbers of 128 bits, from the highest bit down.
-/
namespace Go.Proofs.Ytolneillcdaibaa
open Go Go.RowKit Go.Th Go.Th.Root Go.Th.Wide

set_option maxRecDepth 20000 in
set_option maxHeartbeats 1600000 in
theorem wide_neg (h l : Int) (s : Int) (hs : s < 0) (C1 : Ans 55 #[wv h l] (.int .i64 s)) : Ans 47 #[wv h l] (.int .u64 0) := by
  intro w
  have M0 := Mem.start w
  go_enter Try.func47, Try.ntmps47
  go_wp2_with ((with_reducible refine (?_ : Go.wpList _ _ _ (_ :: _) _ _)); (first | go_skip | (refine wpL_bx M0 rfl rfl rfl rfl ?_; clear M0; intro g1 w1 M1) | (refine wpL_al M0 rfl rfl zero25 rfl ?_; clear M0; intro g1 w1 M1) | (refine wpL_ld M0 rfl rfl rfl (by repeat (first | exact Has.head _ _ _ _ | apply Has.tail)) (by first | exact rd_w _ _ | exact rd_hi _ _ | exact rd_lo _ _ | assumption) ?_) | (refine wpL_ldg M0 rfl rfl rfl (by repeat (first | exact Has.head _ _ _ _ | apply Has.tail)) (by first | exact rd_w _ _ | exact rd_hi _ _ | exact rd_lo _ _ | assumption) ?_) | (refine wpL_st M0 rfl rfl rfl rfl (by repeat (first | exact Has.head _ _ _ _ | apply Has.tail)) (by first | exact wr_w _ rfl _ _ | exact wr_hi _ _ _ | assumption) (by repeat (first | exact Upd.head _ _ _ _ _ | apply Upd.tail)) ?_; clear M0; intro w' M0) | (refine wpL_ld M1 rfl rfl rfl (by repeat (first | exact Has.head _ _ _ _ | apply Has.tail)) (by first | exact rd_w _ _ | exact rd_hi _ _ | exact rd_lo _ _ | assumption) ?_) | (refine wpL_ldg M1 rfl rfl rfl (by repeat (first | exact Has.head _ _ _ _ | apply Has.tail)) (by first | exact rd_w _ _ | exact rd_hi _ _ | exact rd_lo _ _ | assumption) ?_) | (refine wpL_st M1 rfl rfl rfl rfl (by repeat (first | exact Has.head _ _ _ _ | apply Has.tail)) (by first | exact wr_w _ rfl _ _ | exact wr_hi _ _ _ | assumption) (by repeat (first | exact Upd.head _ _ _ _ _ | apply Upd.tail)) ?_; clear M1; intro w' M1)))
  (refine (C1 _).mono ?_; rintro e w2 ⟨rfl, hBl⟩; replace M1 := M1.call hBl; clear hBl C1)
  go_wp2_with ((with_reducible refine (?_ : Go.wpList _ _ _ (_ :: _) _ _)); (first | go_skip | (refine wpL_ld M1 rfl rfl rfl (by repeat (first | exact Has.head _ _ _ _ | apply Has.tail)) (by first | exact rd_w _ _ | exact rd_hi _ _ | exact rd_lo _ _ | assumption) ?_) | (refine wpL_ldg M1 rfl rfl rfl (by repeat (first | exact Has.head _ _ _ _ | apply Has.tail)) (by first | exact rd_w _ _ | exact rd_hi _ _ | exact rd_lo _ _ | assumption) ?_) | (refine wpL_st M1 rfl rfl rfl rfl (by repeat (first | exact Has.head _ _ _ _ | apply Has.tail)) (by first | exact wr_w _ rfl _ _ | exact wr_hi _ _ _ | assumption) (by repeat (first | exact Upd.head _ _ _ _ _ | apply Upd.tail)) ?_; clear M1; intro w' M1)))
  go_ret
  exact ⟨rfl, M1.below⟩

theorem or_u (a b : Nat) (ha : a < 2 ^ 64) (hb : b < 2 ^ 64) : bits .or .u64 (a : Int) (b : Int) = ((a ||| b : Nat) : Int) := bits_or_u64_nat a b ha hb
theorem shl_u (i : Nat) (h : 2 ^ i < 2 ^ 64) : IntKind.u64.wrap ((2 : Int) ^ i) = ((2 ^ i : Nat) : Int) := by
  have e : (2 : Int) ^ i = ((2 ^ i : Nat) : Int) := by simp
  rw [e, IntKind.wrap_u64]
  generalize 2 ^ i = P at h
  omega
theorem tried_u (i r : Nat) (hr : r < 2 ^ 64) (hi : 2 ^ i < 2 ^ 64) : bits .or .u64 (r : Int) (IntKind.u64.wrap ((2 : Int) ^ i)) = ((r ||| 2 ^ i : Nat) : Int) := by rw [shl_u i hi, or_u _ _ hr hi]

set_option maxRecDepth 20000 in
set_option maxHeartbeats 1600000 in
theorem rtwide_go (h l n s R : Nat) (g : Int) (hg : ¬ g < 0) (hn : n ≤ 127) (hs : s ≤ 64) (hR : R / 2 ^ s = 0) (C1 : Ans 55 #[wv h l] (.int .i64 g))
    (C2 : Ans 58 #[wv h l] (.int .i64 n)) (C3 : Ans 57 #[.int .i64 n, .int .i64 2] (.int .i64 s))
    (C4 : ∀ v : Nat, v < 2 ^ 64 → Ans 59 #[.int .u64 v, wv h l] (.bool (decide (¬ v ≤ R)))) (hR2 : R < 2 ^ 64) :
    Ans 47 #[wv h l] (.int .u64 R) := by
  intro w
  have HS := Lib.hid hR
  clear hR
  have HR := Lib.hid hR2
  clear hR2
  have HC := Lib.hid C4
  clear C4
  have M0 := Mem.start w
  go_enter Try.func47, Try.ntmps47
  go_wp2_with ((with_reducible refine (?_ : Go.wpList _ _ _ (_ :: _) _ _)); (first | go_skip | (refine wpL_bx M0 rfl rfl rfl rfl ?_; clear M0; intro g1 w1 M1) | (refine wpL_al M0 rfl rfl zero25 rfl ?_; clear M0; intro g1 w1 M1) | (refine wpL_ld M0 rfl rfl rfl (by repeat (first | exact Has.head _ _ _ _ | apply Has.tail)) (by first | exact rd_w _ _ | exact rd_hi _ _ | exact rd_lo _ _ | assumption) ?_) | (refine wpL_ldg M0 rfl rfl rfl (by repeat (first | exact Has.head _ _ _ _ | apply Has.tail)) (by first | exact rd_w _ _ | exact rd_hi _ _ | exact rd_lo _ _ | assumption) ?_) | (refine wpL_st M0 rfl rfl rfl rfl (by repeat (first | exact Has.head _ _ _ _ | apply Has.tail)) (by first | exact wr_w _ rfl _ _ | exact wr_hi _ _ _ | assumption) (by repeat (first | exact Upd.head _ _ _ _ _ | apply Upd.tail)) ?_; clear M0; intro w' M0) | (refine wpL_ld M1 rfl rfl rfl (by repeat (first | exact Has.head _ _ _ _ | apply Has.tail)) (by first | exact rd_w _ _ | exact rd_hi _ _ | exact rd_lo _ _ | assumption) ?_) | (refine wpL_ldg M1 rfl rfl rfl (by repeat (first | exact Has.head _ _ _ _ | apply Has.tail)) (by first | exact rd_w _ _ | exact rd_hi _ _ | exact rd_lo _ _ | assumption) ?_) | (refine wpL_st M1 rfl rfl rfl rfl (by repeat (first | exact Has.head _ _ _ _ | apply Has.tail)) (by first | exact wr_w _ rfl _ _ | exact wr_hi _ _ _ | assumption) (by repeat (first | exact Upd.head _ _ _ _ _ | apply Upd.tail)) ?_; clear M1; intro w' M1)))
  (refine (C1 _).mono ?_; rintro e w2 ⟨rfl, hBl⟩; replace M1 := M1.call hBl; clear hBl C1)
  go_wp2_with ((with_reducible refine (?_ : Go.wpList _ _ _ (_ :: _) _ _)); (first | go_skip | (refine wpL_ld M1 rfl rfl rfl (by repeat (first | exact Has.head _ _ _ _ | apply Has.tail)) (by first | exact rd_w _ _ | exact rd_hi _ _ | exact rd_lo _ _ | assumption) ?_) | (refine wpL_ldg M1 rfl rfl rfl (by repeat (first | exact Has.head _ _ _ _ | apply Has.tail)) (by first | exact rd_w _ _ | exact rd_hi _ _ | exact rd_lo _ _ | assumption) ?_) | (refine wpL_st M1 rfl rfl rfl rfl (by repeat (first | exact Has.head _ _ _ _ | apply Has.tail)) (by first | exact wr_w _ rfl _ _ | exact wr_hi _ _ _ | assumption) (by repeat (first | exact Upd.head _ _ _ _ _ | apply Upd.tail)) ?_; clear M1; intro w' M1)))
  (refine (C2 _).mono ?_; rintro e w2 ⟨rfl, hBl⟩; replace M1 := M1.call hBl; clear hBl C2)
  go_wp2_with ((with_reducible refine (?_ : Go.wpList _ _ _ (_ :: _) _ _)); (first | go_skip | (refine wpL_ld M1 rfl rfl rfl (by repeat (first | exact Has.head _ _ _ _ | apply Has.tail)) (by first | exact rd_w _ _ | exact rd_hi _ _ | exact rd_lo _ _ | assumption) ?_) | (refine wpL_ldg M1 rfl rfl rfl (by repeat (first | exact Has.head _ _ _ _ | apply Has.tail)) (by first | exact rd_w _ _ | exact rd_hi _ _ | exact rd_lo _ _ | assumption) ?_) | (refine wpL_st M1 rfl rfl rfl rfl (by repeat (first | exact Has.head _ _ _ _ | apply Has.tail)) (by first | exact wr_w _ rfl _ _ | exact wr_hi _ _ _ | assumption) (by repeat (first | exact Upd.head _ _ _ _ _ | apply Upd.tail)) ?_; clear M1; intro w' M1)))
  (refine (C3 _).mono ?_; rintro e w2 ⟨rfl, hBl⟩; replace M1 := M1.call hBl; clear hBl C3)
  go_wp2_with ((with_reducible refine (?_ : Go.wpList _ _ _ (_ :: _) _ _)); (first | go_skip | (refine wpL_ld M1 rfl rfl rfl (by repeat (first | exact Has.head _ _ _ _ | apply Has.tail)) (by first | exact rd_w _ _ | exact rd_hi _ _ | exact rd_lo _ _ | assumption) ?_) | (refine wpL_ldg M1 rfl rfl rfl (by repeat (first | exact Has.head _ _ _ _ | apply Has.tail)) (by first | exact rd_w _ _ | exact rd_hi _ _ | exact rd_lo _ _ | assumption) ?_) | (refine wpL_st M1 rfl rfl rfl rfl (by repeat (first | exact Has.head _ _ _ _ | apply Has.tail)) (by first | exact wr_w _ rfl _ _ | exact wr_hi _ _ _ | assumption) (by repeat (first | exact Upd.head _ _ _ _ _ | apply Upd.tail)) ?_; clear M1; intro w' M1)))
  go_loopw [3, 4] (fun r i wx => ∃ k q : Nat, k ≤ 64 ∧ r = .int .u64 q ∧ i = .int .i64 ((k : Int) - 1) ∧ Hid (q = 2 ^ k * (R / 2 ^ k)) ∧ Mem w wx [(g1, 49, [.int .i64 h, .int .u64 l])]) (fun _ i _ => (intOf i + 1).toNat)
  case atStart => exact ⟨s, 0, hs, rfl, rfl, by have := HS.out; show 0 = _; rw [this, Nat.mul_zero], M1⟩
  case round =>
    clear M1
    obtain ⟨k, q, hk, rfl, rfl, HQ, M1⟩ := hrel
    by_cases h0 : k = 0
    · subst h0
      obtain rfl : q = R := by have := HQ.out; rwa [Nat.pow_zero, Nat.div_one, Nat.one_mul] at this
      go_wp2_with ((with_reducible refine (?_ : Go.wpList _ _ _ (_ :: _) _ _)); (first | go_skip | (refine wpL_ld M1 rfl rfl rfl (by repeat (first | exact Has.head _ _ _ _ | apply Has.tail)) (by first | exact rd_w _ _ | exact rd_hi _ _ | exact rd_lo _ _ | assumption) ?_) | (refine wpL_ldg M1 rfl rfl rfl (by repeat (first | exact Has.head _ _ _ _ | apply Has.tail)) (by first | exact rd_w _ _ | exact rd_hi _ _ | exact rd_lo _ _ | assumption) ?_) | (refine wpL_st M1 rfl rfl rfl rfl (by repeat (first | exact Has.head _ _ _ _ | apply Has.tail)) (by first | exact wr_w _ rfl _ _ | exact wr_hi _ _ _ | assumption) (by repeat (first | exact Upd.head _ _ _ _ _ | apply Upd.tail)) ?_; clear M1; intro w' M1)))
      go_ret
      exact ⟨rfl, M1.below⟩
    · obtain ⟨i, rfl⟩ : ∃ i, k = i + 1 := ⟨k - 1, by omega⟩
      have e : ((i + 1 : Nat) : Int) - 1 = (i : Int) := by omega
      rw [e]
      obtain ⟨t1, t2, t3, t4, t5⟩ := tried HQ.out HR.out (by omega)
      have C4 := HC.out _ t3
      have eo := tried_u i q t1 t2
      have hi : i < 64 := by omega
      obtain ⟨v, hv⟩ : ∃ v, v = q ||| 2 ^ i := ⟨_, rfl⟩
      rw [← hv] at t3 t4 t5 C4 eo
      clear hv t1 t2 e hk h0
      by_cases hc : v ≤ R
      · rw [decide_eq_false (by simpa using hc)] at C4
        have HV := Lib.hid (t4 hc)
        have HV3 := Lib.hid t3
        clear t3 t4 t5 hc
        go_wp2_with ((with_reducible refine (?_ : Go.wpList _ _ _ (_ :: _) _ _)); (first | go_skip | (refine wpL_ld M1 rfl rfl rfl (by repeat (first | exact Has.head _ _ _ _ | apply Has.tail)) (by first | exact rd_w _ _ | exact rd_hi _ _ | exact rd_lo _ _ | assumption) ?_) | (refine wpL_ldg M1 rfl rfl rfl (by repeat (first | exact Has.head _ _ _ _ | apply Has.tail)) (by first | exact rd_w _ _ | exact rd_hi _ _ | exact rd_lo _ _ | assumption) ?_) | (refine wpL_st M1 rfl rfl rfl rfl (by repeat (first | exact Has.head _ _ _ _ | apply Has.tail)) (by first | exact wr_w _ rfl _ _ | exact wr_hi _ _ _ | assumption) (by repeat (first | exact Upd.head _ _ _ _ _ | apply Upd.tail)) ?_; clear M1; intro w' M1)))
        (refine (C4 _).mono ?_; rintro e w2 ⟨rfl, hBl⟩; replace M1 := M1.call hBl; clear hBl C4)
        go_wp2_with ((with_reducible refine (?_ : Go.wpList _ _ _ (_ :: _) _ _)); (first | go_skip | (refine wpL_ld M1 rfl rfl rfl (by repeat (first | exact Has.head _ _ _ _ | apply Has.tail)) (by first | exact rd_w _ _ | exact rd_hi _ _ | exact rd_lo _ _ | assumption) ?_) | (refine wpL_ldg M1 rfl rfl rfl (by repeat (first | exact Has.head _ _ _ _ | apply Has.tail)) (by first | exact rd_w _ _ | exact rd_hi _ _ | exact rd_lo _ _ | assumption) ?_) | (refine wpL_st M1 rfl rfl rfl rfl (by repeat (first | exact Has.head _ _ _ _ | apply Has.tail)) (by first | exact wr_w _ rfl _ _ | exact wr_hi _ _ _ | assumption) (by repeat (first | exact Upd.head _ _ _ _ _ | apply Upd.tail)) ?_; clear M1; intro w' M1)))
        go_roundw
        case rel => exact ⟨i, v, by omega, rfl, by go_num, HV.out, M1⟩
        case measure => simp [intOf] <;> omega
      · rw [decide_eq_true hc] at C4
        have HV := Lib.hid (t5 hc)
        clear t3 t4 t5 hc
        go_wp2_with ((with_reducible refine (?_ : Go.wpList _ _ _ (_ :: _) _ _)); (first | go_skip | (refine wpL_ld M1 rfl rfl rfl (by repeat (first | exact Has.head _ _ _ _ | apply Has.tail)) (by first | exact rd_w _ _ | exact rd_hi _ _ | exact rd_lo _ _ | assumption) ?_) | (refine wpL_ldg M1 rfl rfl rfl (by repeat (first | exact Has.head _ _ _ _ | apply Has.tail)) (by first | exact rd_w _ _ | exact rd_hi _ _ | exact rd_lo _ _ | assumption) ?_) | (refine wpL_st M1 rfl rfl rfl rfl (by repeat (first | exact Has.head _ _ _ _ | apply Has.tail)) (by first | exact wr_w _ rfl _ _ | exact wr_hi _ _ _ | assumption) (by repeat (first | exact Upd.head _ _ _ _ _ | apply Upd.tail)) ?_; clear M1; intro w' M1)))
        (refine (C4 _).mono ?_; rintro e w2 ⟨rfl, hBl⟩; replace M1 := M1.call hBl; clear hBl C4)
        go_wp2_with ((with_reducible refine (?_ : Go.wpList _ _ _ (_ :: _) _ _)); (first | go_skip | (refine wpL_ld M1 rfl rfl rfl (by repeat (first | exact Has.head _ _ _ _ | apply Has.tail)) (by first | exact rd_w _ _ | exact rd_hi _ _ | exact rd_lo _ _ | assumption) ?_) | (refine wpL_ldg M1 rfl rfl rfl (by repeat (first | exact Has.head _ _ _ _ | apply Has.tail)) (by first | exact rd_w _ _ | exact rd_hi _ _ | exact rd_lo _ _ | assumption) ?_) | (refine wpL_st M1 rfl rfl rfl rfl (by repeat (first | exact Has.head _ _ _ _ | apply Has.tail)) (by first | exact wr_w _ rfl _ _ | exact wr_hi _ _ _ | assumption) (by repeat (first | exact Upd.head _ _ _ _ _ | apply Upd.tail)) ?_; clear M1; intro w' M1)))
        go_roundw
        case rel => exact ⟨i, q, by omega, rfl, by go_num, HV.out, M1⟩
        case measure => simp [intOf] <;> omega

theorem wideNeg_any (h l : Int) (hl : 0 ≤ l ∧ l < 18446744073709551616) (hh : h < 0) : Ans 47 #[wv h l] (.int .u64 0) :=
  wide_neg h l _ (by unfold cmpZ; rw [if_pos (by omega)]; decide) (Sign_any h l hl)
/-- The root of a number of 128 bits. -/
theorem wide_any (h l : Nat) (hh : h < 9223372036854775808) (hl : l < 18446744073709551616) : Ans 47 #[wv h l] (.int .u64 ((rt 2 (h * 18446744073709551616 + l) : Nat) : Int)) := by
  have hN := lenS_lt h l hh hl
  have hL := lenS_le h l hh hl
  have hsh := share_le (lenS h l) 2 (by decide)
  have hs64 : shareS (lenS h l) 2 ≤ 64 := by unfold shareS; omega
  have hN2 : h * 18446744073709551616 + l < 2 ^ (2 * shareS (lenS h l) 2) := Nat.lt_of_lt_of_le hN (Nat.pow_le_pow_right (by decide) hsh)
  have hR := rt_lt (d := 2) (by decide) hN2
  have hR64 : rt 2 (h * 18446744073709551616 + l) < 2 ^ 64 := Nat.lt_of_lt_of_le hR (Nat.pow_le_pow_right (by decide) hs64)
  refine rtwide_go h l (lenS h l) (shareS (lenS h l) 2) _ _ ?_ hL hs64 (Nat.div_eq_of_lt hR) (Sign_any h l (by omega)) (length_any h l hh hl) (share_any _ 2 (by omega) (by decide) (by decide)) ?_ hR64
  · unfold cmpZ
    rw [if_neg (by omega)]
    split <;> decide
  · intro v hv
    have C := above_any v h l hv hh hl
    rw [show decide (h * 18446744073709551616 + l < v * v) = decide (¬ v ≤ rt 2 (h * 18446744073709551616 + l)) from decide_eq_decide.2 (by rw [le_rt (by decide), Nat.pow_two]; omega)] at C
    exact C

/-- What is rounded up, and to the nearer one. -/
def ceilS (x : Nat) : Nat := if rt 2 x * rt 2 x = x then rt 2 x else rt 2 x + 1
def nearS (x : Nat) : Nat := if rt 2 x < x - rt 2 x * rt 2 x then rt 2 x + 1 else rt 2 x
theorem rt_32 (x : Nat) (hx : x < 18446744073709551616) : rt 2 x < 4294967296 := rt_lt (d := 2) (s := 32) (by decide) hx

theorem sq_range (a : Int) (ha : -9223372036854775808 ≤ a ∧ a ≤ 9223372036854775807) : 0 ≤ a * a ∧ a * a ≤ 85070591730234615865843651857942052864 := by
  have h1 : a.natAbs ≤ 9223372036854775808 := by omega
  have h3 : a.natAbs * a.natAbs ≤ 9223372036854775808 * 9223372036854775808 := Nat.mul_le_mul h1 h1
  have h4 : ((a.natAbs * a.natAbs : Nat) : Int) = a * a := by rw [Int.natAbs_mul_self' a |>.symm]; rfl
  omega
end Go.Proofs.Ytolneillcdaibaa
