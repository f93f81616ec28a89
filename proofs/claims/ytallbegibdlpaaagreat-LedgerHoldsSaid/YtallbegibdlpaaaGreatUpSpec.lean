/-
  A quotient rounded up, or 2^40; and how it is found bit by bit: plain.
-/
set_option linter.unusedVariables false
set_option linter.unusedSimpArgs false

namespace Go.Th.Up

/-- The least number of which q times is no less than p, or 2^40. -/
def upD (p q : Nat) : Nat := if q = 0 then 1099511627776 else min ((p + q - 1) / q) 1099511627776
theorem ceil_eq (p q : Nat) (hq : 0 < q) : (p + q - 1) / q = p / q + if p % q = 0 then 0 else 1 := by
  have h := Nat.div_add_mod p q
  have hm := Nat.mod_lt p hq
  obtain ⟨d, hd⟩ : ∃ d, d = p / q := ⟨_, rfl⟩
  obtain ⟨r, hr⟩ : ∃ r, r = p % q := ⟨_, rfl⟩
  rw [← hd, ← hr] at h
  rw [← hr] at hm
  rw [← hd, ← hr]
  split
  · rename_i h0
    rw [show p + q - 1 = q * d + (q - 1) by omega, Nat.mul_add_div hq, Nat.div_eq_of_lt (by omega)]
  · rename_i h0
    rw [show p + q - 1 = q * (d + 1) + (r - 1) by rw [Nat.mul_add]; omega, Nat.mul_add_div hq, Nat.div_eq_of_lt (by omega)]
theorem upD_le (p q : Nat) : upD p q ≤ 1099511627776 := by
  unfold upD
  split
  · exact Nat.le_refl _
  · exact Nat.min_le_right _ _
/-- So many bits are still to come: x were found, r is left. -/
structure Dv (z P n x r : Nat) : Prop where
  sum : P = x * z + r
  most : x + 2 ^ n ≤ 2199023255552
  less : r < z * 2 ^ n ∨ x + 2 ^ n = 2199023255552
theorem Dv.start (z P : Nat) : Dv z P 41 0 P := ⟨by omega, by decide, .inr (by decide)⟩
theorem Dv.yes {z P k x r : Nat} (h : Dv z P (k + 1) x r) (hl : z * 2 ^ k ≤ r) : Dv z P k (x + 2 ^ k) (r - z * 2 ^ k) := by
  have h1 := h.sum
  have h2 := h.most
  have h3 := h.less
  rw [Nat.pow_succ] at h2 h3
  rw [← Nat.mul_assoc] at h3
  refine ⟨?_, by omega, ?_⟩
  · rw [Nat.add_mul, Nat.mul_comm (2 ^ k) z]
    omega
  · rcases h3 with h3 | h3
    · exact .inl (by omega)
    · exact .inr (by omega)
theorem Dv.no {z P k x r : Nat} (h : Dv z P (k + 1) x r) (hl : r < z * 2 ^ k) : Dv z P k x r := by
  have h2 := h.most
  rw [Nat.pow_succ] at h2
  exact ⟨h.sum, by omega, .inl hl⟩
theorem Dv.done {z P x r : Nat} (h : Dv z P 0 x r) (hz : 0 < z) : min (x + if 0 < r then 1 else 0) 1099511627776 = upD P z := by
  have h1 := h.sum
  have h2 := h.most
  have h3 := h.less
  rw [Nat.pow_zero, Nat.mul_one] at h3
  rw [Nat.pow_zero] at h2
  unfold upD
  rw [if_neg (show ¬ z = 0 by omega)]
  by_cases hr : r < z
  · congr 1
    rw [ceil_eq _ _ hz, h1, Nat.add_comm (x * z), Nat.add_mul_div_right _ _ hz, Nat.add_mul_mod_self_right, Nat.div_eq_of_lt hr, Nat.mod_eq_of_lt hr]
    by_cases h0 : 0 < r
    · rw [if_pos h0, if_neg (by omega)]; omega
    · rw [if_neg h0, if_pos (by omega)]; omega
  · have hx : x = 2199023255551 := by omega
    have h4 : 2199023255551 ≤ (P + z - 1) / z := by
      rw [Nat.le_div_iff_mul_le hz, h1, hx]
      omega
    rw [Nat.min_eq_right (by omega), Nat.min_eq_right (by omega)]
theorem Dv.le {z P n x r : Nat} (h : Dv z P n x r) : r ≤ P := by have := h.sum; omega
/-- What rounding costs, of so many places. -/
def costN (n : Nat) : Nat := upD (n * 1099511627776) (1073741824 - 4 * n)
theorem costN_eq {n : Nat} (hn : n ≤ 4096) : costN n = n * 1099511627776 / (1073741824 - 4 * n) + (if n * 1099511627776 % (1073741824 - 4 * n) = 0 then 0 else 1) ∧ costN n ≤ 5000000 := by
  have h2 : n * 1099511627776 / (1073741824 - 4 * n) ≤ 4900000 := by
    have h3 : n * 1099511627776 / (1073741824 - 4 * n) ≤ n * 1099511627776 / 1073700000 := Nat.div_le_div_left (by omega) (by omega)
    omega
  unfold costN upD
  rw [if_neg (by omega), ceil_eq _ _ (by omega)]
  have h4 : n * 1099511627776 / (1073741824 - 4 * n) + (if n * 1099511627776 % (1073741824 - 4 * n) = 0 then 0 else 1) ≤ 5000000 := by split <;> omega
  rw [Nat.min_eq_left (by omega)]
  exact ⟨rfl, h4⟩
end Go.Th.Up
