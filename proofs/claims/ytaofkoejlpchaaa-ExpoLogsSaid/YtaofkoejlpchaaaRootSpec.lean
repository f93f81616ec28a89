/-
  Roots of whole numbers of any degree, found from the highest bit down, and by halves; how many bits a number has: plain.
-/
set_option linter.unusedVariables false
set_option linter.unusedSimpArgs false
namespace Go.Th.Root

/-- The greatest number up to k whose power is no more. -/
def down (d N : Nat) : Nat → Nat
  | 0 => 0
  | k + 1 => if (k + 1) ^ d ≤ N then k + 1 else down d N k
/-- The greatest number whose power of a degree is no more. -/
def rt (d N : Nat) : Nat := down d N N

theorem down_pow (d N : Nat) (hd : 0 < d) : ∀ k, (down d N k) ^ d ≤ N
  | 0 => by unfold down; rw [Nat.zero_pow hd]; exact Nat.zero_le _
  | k + 1 => by
    unfold down
    split
    · assumption
    · exact down_pow d N hd k
theorem down_max (d N : Nat) : ∀ k r, r ≤ k → r ^ d ≤ N → r ≤ down d N k
  | 0, r, h, _ => by have : r = 0 := by omega
                     rw [this]; exact Nat.zero_le _
  | k + 1, r, h, hp => by
    unfold down
    split
    · exact h
    · rename_i hn
      by_cases e : r = k + 1
      · subst e; exact absurd hp hn
      · exact down_max d N k r (by omega) hp
theorem le_self_pow {r d : Nat} (hd : 0 < d) : r ≤ r ^ d := by
  obtain ⟨e, rfl⟩ : ∃ e, d = e + 1 := ⟨d - 1, by omega⟩
  rcases Nat.eq_zero_or_pos r with h | h
  · subst h; exact Nat.zero_le _
  · rw [Nat.pow_succ]
    have := Nat.pow_pos (n := e) h
    exact Nat.le_mul_of_pos_left _ this
theorem rt_pow (d N : Nat) (hd : 0 < d) : (rt d N) ^ d ≤ N := down_pow d N hd N
theorem le_rt {d N r : Nat} (hd : 0 < d) : r ≤ rt d N ↔ r ^ d ≤ N := by
  constructor
  · intro h; exact Nat.le_trans (Nat.pow_le_pow_left h d) (rt_pow d N hd)
  · intro h; exact down_max d N N r (Nat.le_trans (le_self_pow hd) h) h
theorem rt_next {d N : Nat} (hd : 0 < d) : N < (rt d N + 1) ^ d := by
  by_cases h : (rt d N + 1) ^ d ≤ N
  · have := (le_rt hd).2 h; omega
  · omega
theorem rt_eq {d N r : Nat} (hd : 0 < d) (h1 : r ^ d ≤ N) (h2 : N < (r + 1) ^ d) : rt d N = r := by
  have a := (le_rt hd).2 h1
  by_cases b : r + 1 ≤ rt d N
  · have := (le_rt hd).1 b; omega
  · omega
theorem rt_le (d N : Nat) (hd : 0 < d) : rt d N ≤ N := Nat.le_trans (le_self_pow hd) (rt_pow d N hd)
theorem rt_zero (d : Nat) (hd : 0 < d) : rt d 0 = 0 := Nat.eq_zero_of_le_zero (rt_le d 0 hd)
theorem rt_one (N : Nat) : rt 1 N = N := rt_eq (by decide) (by rw [Nat.pow_one]; exact Nat.le_refl _) (by rw [Nat.pow_one]; exact Nat.lt_succ_self _)
theorem rt_sq (N : Nat) : rt 2 N * rt 2 N ≤ N := by have := rt_pow 2 N (by decide); rwa [Nat.pow_two] at this
theorem rt_sq_next (N : Nat) : N < (rt 2 N + 1) * (rt 2 N + 1) := by have := rt_next (d := 2) (N := N) (by decide); rwa [Nat.pow_two] at this
theorem rt_lt {d N s : Nat} (hd : 0 < d) (h : N < 2 ^ (d * s)) : rt d N < 2 ^ s := by
  by_cases b : 2 ^ s ≤ rt d N
  · have := (le_rt hd).1 b
    rw [← Nat.pow_mul, Nat.mul_comm] at this
    omega
  · omega
/-- Above 64 degrees a number of 64 bits has the same root. -/
theorem rt_far {d x : Nat} (hx : x < 2 ^ 64) (hd : 64 ≤ d) : rt d x = rt 64 x := by
  have two : ∀ e r, 64 ≤ e → 2 ≤ r → ¬ r ^ e ≤ x := by
    intro e r he hr h
    have h1 : 2 ^ 64 ≤ 2 ^ e := Nat.pow_le_pow_right (by decide) he
    have h2 : 2 ^ e ≤ r ^ e := Nat.pow_le_pow_left hr e
    omega
  have one : ∀ e r, 64 ≤ e → (r ^ e ≤ x ↔ r = 0 ∨ (r = 1 ∧ 1 ≤ x)) := by
    intro e r he
    rcases Nat.lt_or_ge r 2 with h | h
    · have : r = 0 ∨ r = 1 := by omega
      rcases this with rfl | rfl
      · rw [Nat.zero_pow (by omega)]; simp
      · rw [Nat.one_pow]; simp
    · constructor
      · intro h'; exact absurd h' (two e r he h)
      · intro h'; omega
  apply Nat.le_antisymm
  · rw [le_rt (by decide), one 64 _ (Nat.le_refl _), ← one d _ hd]; exact rt_pow d x (by omega)
  · rw [le_rt (by omega), one d _ hd, ← one 64 _ (Nat.le_refl _)]; exact rt_pow 64 x (by decide)

/-- One bit more of a number: its part above the bit i, and the next one down. -/
theorem part_next (R i q : Nat) (hq : q = R / 2 ^ (i + 1)) : (2 ^ (i + 1) * q + 2 ^ i ≤ R ↔ R / 2 ^ i = 2 * q + 1) ∧ (¬ 2 ^ (i + 1) * q + 2 ^ i ≤ R ↔ R / 2 ^ i = 2 * q) := by
  have h0 : 0 < 2 ^ i := Nat.two_pow_pos i
  have e : q = R / 2 ^ i / 2 := by rw [hq, Nat.pow_succ, Nat.div_div_eq_div_mul]
  have e2 : 2 ^ (i + 1) * q + 2 ^ i = (2 * q + 1) * 2 ^ i := by rw [Nat.pow_succ, Nat.add_mul, Nat.one_mul, Nat.mul_comm (2 ^ i) 2, Nat.mul_assoc, Nat.mul_assoc, Nat.mul_comm (2 ^ i) q]
  rw [e2, ← Nat.le_div_iff_mul_le h0]
  generalize R / 2 ^ i = y at *
  omega
theorem part_or (i q : Nat) : (2 ^ (i + 1) * q) ||| 2 ^ i = 2 ^ (i + 1) * q + 2 ^ i :=
  (Nat.two_pow_add_eq_or_of_lt (Nat.pow_lt_pow_right (by decide) (Nat.lt_succ_self i)) q).symm
theorem part_yes {R i q : Nat} (hq : q = R / 2 ^ (i + 1)) (h : 2 ^ (i + 1) * q + 2 ^ i ≤ R) : 2 ^ (i + 1) * q + 2 ^ i = 2 ^ i * (R / 2 ^ i) := by
  rw [(part_next R i q hq).1.1 h, Nat.pow_succ, Nat.mul_add, Nat.mul_one, Nat.mul_assoc]
theorem part_no {R i q : Nat} (hq : q = R / 2 ^ (i + 1)) (h : ¬ 2 ^ (i + 1) * q + 2 ^ i ≤ R) : 2 ^ (i + 1) * q = 2 ^ i * (R / 2 ^ i) := by
  rw [(part_next R i q hq).2.1 h, Nat.pow_succ, Nat.mul_assoc]

/-- A round of the descent, whole: what is known of the root's bits, and the number that is tried. -/
theorem tried {R i r : Nat} (hr : r = 2 ^ (i + 1) * (R / 2 ^ (i + 1))) (hR : R < 2 ^ 64) (hi : i < 64) : r < 2 ^ 64 ∧ 2 ^ i < 2 ^ 64 ∧ r ||| 2 ^ i < 2 ^ 64 ∧
    (r ||| 2 ^ i ≤ R → r ||| 2 ^ i = 2 ^ i * (R / 2 ^ i)) ∧ (¬ r ||| 2 ^ i ≤ R → r = 2 ^ i * (R / 2 ^ i)) := by
  have h1 : r ≤ R := by rw [hr]; exact Nat.mul_div_le R (2 ^ (i + 1))
  have h2 : 2 ^ i < 2 ^ 64 := Nat.pow_lt_pow_right (by decide) hi
  have h3 : r ||| 2 ^ i < 2 ^ 64 := Nat.or_lt_two_pow (by omega) h2
  refine ⟨by omega, h2, h3, ?_, ?_⟩
  · intro h; rw [hr, part_or] at h ⊢; exact part_yes rfl h
  · intro h; rw [hr, part_or] at h; rw [hr]; exact part_no rfl h

/-- A step of halving. -/
theorem half_pos {n : Nat} (h : 0 < n) : n / 2 < n := Nat.div_lt_self h (by decide)

/-- The greatest divisor of what is left. -/
theorem gcd_left (a b : Nat) (h : 0 < Nat.gcd a b) : Nat.gcd (a / Nat.gcd a b) (b / Nat.gcd a b) = 1 := by
  rw [Nat.gcd_div (Nat.gcd_dvd_left a b) (Nat.gcd_dvd_right a b), Nat.div_self h]
end Go.Th.Root
