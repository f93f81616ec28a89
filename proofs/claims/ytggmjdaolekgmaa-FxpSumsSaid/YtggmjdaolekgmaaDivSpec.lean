/-
  A number of two words divided by one, as the library does it: plain.
-/
set_option linter.unusedVariables false
set_option linter.unusedSimpArgs false
namespace Go.Th.Wide

/-- One digit of the quotient: what is tried is not too small; where the test says it is too great, it is. -/
theorem digit_more {U u0 y1 y0 q r : Nat} (hq : q * y1 + r = U) (h : q * y0 > 4294967296 * r + u0) (D : Nat) (hD : D = (U * 4294967296 + u0) / (y1 * 4294967296 + y0)) (hy : 0 < y1) : D + 1 ≤ q := by
  have hY : 0 < y1 * 4294967296 + y0 := by omega
  have h2 : U * 4294967296 + u0 < q * (y1 * 4294967296 + y0) := by
    rw [Nat.mul_add, ← Nat.mul_assoc]
    omega
  have h3 : D * (y1 * 4294967296 + y0) ≤ U * 4294967296 + u0 := by rw [hD]; exact Nat.div_mul_le_self _ _
  rcases Nat.lt_or_ge D q with h4 | h4
  · exact h4
  · have := Nat.mul_le_mul_right (y1 * 4294967296 + y0) h4
    omega
/-- Where the test says it is not, it is the digit. -/
theorem digit_done {U u0 y1 y0 q r D : Nat} (hq : q * y1 + r = U) (h : q * y0 ≤ 4294967296 * r + u0) (hD : D = (U * 4294967296 + u0) / (y1 * 4294967296 + y0)) (hy : 0 < y1) (hle : D ≤ q) : q = D := by
  have hY : 0 < y1 * 4294967296 + y0 := by omega
  have h2 : q * (y1 * 4294967296 + y0) ≤ U * 4294967296 + u0 := by
    rw [Nat.mul_add, ← Nat.mul_assoc]
    omega
  have h3 : q ≤ D := by rw [hD, Nat.le_div_iff_mul_le hY]; exact h2
  omega
/-- The first trial. -/
theorem digit_first {U u0 y1 y0 D : Nat} (hD : D = (U * 4294967296 + u0) / (y1 * 4294967296 + y0)) (hu : u0 < 4294967296) (hy : 0 < y1) : D ≤ U / y1 := by
  have hY : 0 < y1 * 4294967296 + y0 := by omega
  have h3 : D * (y1 * 4294967296 + y0) ≤ U * 4294967296 + u0 := by rw [hD]; exact Nat.div_mul_le_self _ _
  rw [Nat.le_div_iff_mul_le hy]
  rw [Nat.mul_add, ← Nat.mul_assoc] at h3
  omega
/-- The digit is one. -/
theorem digit_lt {U u0 y1 y0 D : Nat} (hD : D = (U * 4294967296 + u0) / (y1 * 4294967296 + y0)) (hu : u0 < 4294967296) (hU : U < y1 * 4294967296 + y0) : D < 4294967296 := by
  rw [hD, Nat.div_lt_iff_lt_mul (by omega)]
  omega
/-- Where the rest is a digit or more, so is nothing left to try. -/
theorem digit_big {U y1 y0 q r : Nat} (hq : q * y1 + r = U) (hr : 4294967296 ≤ r) (hU : U < y1 * 4294967296 + y0) (hy0 : y0 < 4294967296) : q < 4294967296 := by
  rcases Nat.lt_or_ge q 4294967296 with h | h
  · exact h
  · have := Nat.mul_le_mul_right y1 h
    omega
theorem digit_small {q y0 : Nat} (hq : q < 4294967296) (hy0 : y0 < 4294967296) : q * y0 < 18446744073709551616 := Nat.lt_of_le_of_lt (Nat.mul_le_mul (show q ≤ 4294967295 by omega) (show y0 ≤ 4294967295 by omega)) (by decide)
/-- One trial less. -/
theorem digit_next {U y1 q r : Nat} (hq : q * y1 + r = U) (h : 0 < q) : (q - 1) * y1 + (r + y1) = U := by
  obtain ⟨p, rfl⟩ : ∃ p, q = p + 1 := ⟨q - 1, by omega⟩
  rw [Nat.add_mul, Nat.one_mul] at hq
  rw [Nat.add_sub_cancel]
  omega
/-- What is left. -/
theorem left_plain (A u0 P R Y : Nat) (h : P + R = A + u0) (hR : R < Y) (hY : Y < 18446744073709551616) :
    ((A % 18446744073709551616 + u0) % 18446744073709551616 + 18446744073709551616 - P % 18446744073709551616) % 18446744073709551616 = R := by omega
theorem digit_left {U u0 Y D : Nat} (hD : D = (U * 4294967296 + u0) / Y) (hY : 0 < Y) (hlt : Y < 18446744073709551616) :
    ((U * 4294967296 % 18446744073709551616 + u0) % 18446744073709551616 + 18446744073709551616 - D * Y % 18446744073709551616) % 18446744073709551616 = (U * 4294967296 + u0) % Y := by
  have h1 := Nat.div_add_mod (U * 4294967296 + u0) Y
  rw [← hD, Nat.mul_comm] at h1
  exact left_plain _ _ _ _ Y h1 (Nat.mod_lt _ hY) hlt
/-- Both digits. -/
theorem two_digits (U u1 u0 Y : Nat) (hY : 0 < Y) (h0 : u0 < 4294967296) :
    (U * 4294967296 + u1) / Y * 4294967296 + ((U * 4294967296 + u1) % Y * 4294967296 + u0) / Y = (U * 18446744073709551616 + (u1 * 4294967296 + u0)) / Y ∧
      ((U * 4294967296 + u1) % Y * 4294967296 + u0) % Y = (U * 18446744073709551616 + (u1 * 4294967296 + u0)) % Y := by
  have h1 := Nat.div_add_mod (U * 4294967296 + u1) Y
  have e : U * 18446744073709551616 + (u1 * 4294967296 + u0) = ((U * 4294967296 + u1) % Y * 4294967296 + u0) + Y * ((U * 4294967296 + u1) / Y * 4294967296) := by
    rw [← Nat.mul_assoc]
    generalize Y * ((U * 4294967296 + u1) / Y) = P at *
    omega
  rw [e, Nat.add_mul_div_left _ _ hY, Nat.add_mul_mod_self_left]
  exact ⟨Nat.add_comm _ _, rfl⟩
/-- Shifted by as much, the quotient is the same, and the rest as much greater. -/
theorem shifted (N y s : Nat) : N * 2 ^ s / (y * 2 ^ s) = N / y ∧ N * 2 ^ s % (y * 2 ^ s) / 2 ^ s = N % y := by
  have h := Nat.two_pow_pos s
  exact ⟨Nat.mul_div_mul_right _ _ h, by rw [Nat.mul_mod_mul_right, Nat.mul_div_cancel _ h]⟩
end Go.Th.Wide
