/-
  The library's quotient of a number of two words.
-/
import Derived.Test.YtggmjdaolekgmaaWideC
import Derived.Test.YtggmjdaolekgmaaLen
import Derived.Test.YtggmjdaolekgmaaDivSpec
set_option linter.unusedVariables false
set_option linter.unusedSimpArgs false
namespace Go.Proofs.Ytggmjdaolekgmaa
open Go Go.RowKit Go.Th Go.Th.Wide

theorem bitLen_most (x : Nat) (h : x < 18446744073709551616) (h0 : x ≠ 0) : 1 ≤ Lib.bitLen x ∧ Lib.bitLen x ≤ 64 ∧ 2 ^ (Lib.bitLen x - 1) ≤ x ∧ x < 2 ^ Lib.bitLen x := by
  have key : ∀ n x, x < 2 ^ n → n ≤ 64 → x ≠ 0 → 1 ≤ Lib.bitLen x ∧ 2 ^ (Lib.bitLen x - 1) ≤ x ∧ x < 2 ^ Lib.bitLen x := by
    intro n
    induction n with
    | zero => intro x hx _ h0; simp at hx; exact absurd hx h0
    | succ n ih =>
      intro x hx hn h0
      rw [Nat.pow_succ] at hx
      have hx64 : x < 2 ^ 64 := by
        have := Nat.pow_le_pow_right (n := 2) (by decide) (show n + 1 ≤ 64 by omega)
        rw [Nat.pow_succ] at this
        omega
      rw [Lib.bitLen_half x h0 hx64]
      by_cases h2 : x / 2 = 0
      · have : x = 1 := by omega
        subst this
        decide
      · obtain ⟨a, b, c⟩ := ih (x / 2) (by omega) (by omega) h2
        refine ⟨by omega, ?_, ?_⟩
        · rw [show 1 + Lib.bitLen (x / 2) - 1 = (Lib.bitLen (x / 2) - 1) + 1 by omega, Nat.pow_succ]; omega
        · rw [Nat.add_comm, Nat.pow_succ]; omega
  obtain ⟨a, b, c⟩ := key 64 x h (by decide) h0
  exact ⟨a, Lib.bitLen_le x 64 (by decide) h, b, c⟩

/-- So many noughts a word begins with. -/
theorem Lz64_any (y : Nat) (hy : y < 18446744073709551616) (h0 : y ≠ 0) (w : World) :
    Calls Try.prog 69 #[.int .u64 y] w fun e w' => (∃ s : Nat, e = .returned (.int .i64 s) ∧ s ≤ 63 ∧ 9223372036854775808 ≤ y * 2 ^ s ∧ y * 2 ^ s < 18446744073709551616) ∧ w = w' := by
  obtain ⟨h1, h2, h3, h4⟩ := bitLen_most y hy h0
  have C := Len64_any (y : Int) w (by omega) (by omega)
  rw [Int.toNat_natCast] at C
  obtain ⟨b, hb⟩ : ∃ b, b = Lib.bitLen y := ⟨_, rfl⟩
  rw [← hb] at C h1 h2 h3 h4
  have hp1 : 2 ^ (b - 1) * 2 ^ (64 - b) = 9223372036854775808 := by rw [← Nat.pow_add, show b - 1 + (64 - b) = 63 by omega]
  have hp2 : 2 ^ b * 2 ^ (64 - b) = 18446744073709551616 := by rw [← Nat.pow_add, show b + (64 - b) = 64 by omega]
  have k1 := Nat.mul_le_mul_right (2 ^ (64 - b)) h3
  have k2 := Nat.mul_lt_mul_of_pos_right h4 (Nat.two_pow_pos (64 - b))
  rw [hp1] at k1
  rw [hp2] at k2
  have K1 := Lib.hid k1
  have K2 := Lib.hid k2
  clear h3 h4 hp1 hp2 hb k1 k2
  go_enter Try.func69, Try.ntmps69
  go_wp2_with fail
  refine C.mono ?_
  rintro e w1 ⟨rfl, rfl⟩
  go_wp2
  go_ret
  exact ⟨⟨64 - b, ret_int (by omega), by omega, K1.out, K2.out⟩, rfl⟩

theorem ret_two {k k' : IntKind} {a b a' b' : Int} (h : a = a') (h' : b = b') : Ending.returned (.tuple #[.int k a, .int k' b]) = Ending.returned (.tuple #[.int k a', .int k' b']) := by rw [h, h']
theorem shift_two (hi lo y s : Nat) (hs : s ≤ 63) (hlo : lo < 18446744073709551616) (hlt : hi < y) (hY : y * 2 ^ s < 18446744073709551616) :
    bits BinOp.or IntKind.u64 (IntKind.u64.wrap ((hi : Int) * 2 ^ s)) ((lo : Int) / 2 ^ (64 - s)) = ((hi * 2 ^ s + lo / 2 ^ (64 - s) : Nat) : Int) ∧
      IntKind.u64.wrap ((lo : Int) * 2 ^ s) = ((lo * 2 ^ s % 18446744073709551616 : Nat) : Int) ∧
      (hi * 18446744073709551616 + lo) * 2 ^ s = (hi * 2 ^ s + lo / 2 ^ (64 - s)) * 18446744073709551616 + lo * 2 ^ s % 18446744073709551616 := by
  have hp : 2 ^ s * 2 ^ (64 - s) = 18446744073709551616 := by rw [← Nat.pow_add, show s + (64 - s) = 64 by omega]
  have hH : hi * 2 ^ s < 18446744073709551616 := Nat.lt_of_le_of_lt (Nat.mul_le_mul_right _ (Nat.le_of_lt hlt)) hY
  have hL : lo / 2 ^ (64 - s) < 2 ^ s := by rw [Nat.div_lt_iff_lt_mul (Nat.two_pow_pos _), hp]; exact hlo
  have hLow : lo * 2 ^ s % 18446744073709551616 = lo % 2 ^ (64 - s) * 2 ^ s := by rw [← hp, Nat.mul_comm (2 ^ s), Nat.mul_mod_mul_right]
  refine ⟨?_, ?_, ?_⟩
  · have e1 : IntKind.u64.wrap ((hi : Int) * 2 ^ s) = ((hi * 2 ^ s : Nat) : Int) := by
      rw [show (hi : Int) * 2 ^ s = ((hi * 2 ^ s : Nat) : Int) by simp]; exact held _ hH
    have e2 : (lo : Int) / 2 ^ (64 - s) = ((lo / 2 ^ (64 - s) : Nat) : Int) := by simp
    rw [e1, e2, bits_or_u64_nat _ _ hH (Nat.lt_of_lt_of_le hL (by have := Nat.pow_le_pow_right (n := 2) (by decide) (show s ≤ 64 by omega); omega))]
    rw [Nat.mul_comm hi, Nat.two_pow_add_eq_or_of_lt hL]
  · rw [show (lo : Int) * 2 ^ s = ((lo * 2 ^ s : Nat) : Int) by simp]; exact turnedW _
  · rw [hLow, Nat.add_mul, Nat.add_mul, Nat.mul_right_comm]
    have h := Nat.div_add_mod lo (2 ^ (64 - s))
    have h2 : lo * 2 ^ s = lo / 2 ^ (64 - s) * 18446744073709551616 + lo % 2 ^ (64 - s) * 2 ^ s := by
      conv => lhs; rw [← h, Nat.add_mul, Nat.mul_comm (2 ^ (64 - s)), Nat.mul_assoc, Nat.mul_comm (2 ^ (64 - s)), hp]
    omega
theorem shift_less (hi lo y s : Nat) (hs : s ≤ 63) (hlo : lo < 18446744073709551616) (hlt : hi < y) : hi * 2 ^ s + lo / 2 ^ (64 - s) < y * 2 ^ s := by
  have hp : 2 ^ s * 2 ^ (64 - s) = 18446744073709551616 := by rw [← Nat.pow_add, show s + (64 - s) = 64 by omega]
  have hL : lo / 2 ^ (64 - s) < 2 ^ s := by rw [Nat.div_lt_iff_lt_mul (Nat.two_pow_pos _), hp]; exact hlo
  have h := Nat.mul_le_mul_right (2 ^ s) (show hi + 1 ≤ y from hlt)
  rw [Nat.add_mul, Nat.one_mul] at h
  omega

set_option maxRecDepth 200000 in
set_option maxHeartbeats 1600000 in
theorem Div64_small (lo y : Nat) (hlo : lo < 18446744073709551616) (hy : y < 18446744073709551616) (h0 : 0 < y) (w : World) :
    Calls Try.prog 64 #[.int .u64 0, .int .u64 lo, .int .u64 y] w fun e w' =>
      e = .returned (.tuple #[.int .u64 ((lo / y : Nat) : Int), .int .u64 ((lo % y : Nat) : Int)]) ∧ Below w.heap.size w w' := by
  obtain ⟨QV, hQV⟩ : ∃ QV, QV = lo / y := ⟨_, rfl⟩
  obtain ⟨RV, hRV⟩ : ∃ RV, RV = lo % y := ⟨_, rfl⟩
  rw [← hQV, ← hRV]
  have hQ2 : QV < 18446744073709551616 := by have := Nat.div_le_self lo y; omega
  have e3 : (lo : Int) / y = (QV : Int) := by rw [hQV]; simp
  have e4 : (lo : Int) % y = (RV : Int) := by rw [hRV]; simp
  clear hQV hRV
  have e1 : ((y : Int) == 0) = false := by rw [beq_eq_false_iff_ne]; omega
  have e2 : decide ((y : Int) ≤ 0) = false := by simp only [decide_eq_false_iff_not]; omega
  have e5 : (y : Int) ≠ 0 := by omega
  go_enter Try.func64, Try.ntmps64
  go_wp2
  go_quiet (fail)
  go_wp2
  go_ret2
  exact ⟨ret_two (by first | rfl | (rw [IntKind.wrap_u64]; omega)) (by first | rfl | exact e4 | (rw [IntKind.wrap_u64]; omega)), below_dN (Below.refl _ _) _⟩

set_option maxRecDepth 200000 in
set_option maxHeartbeats 6400000 in
theorem Div64_great (hi lo y : Nat) (hlo : lo < 18446744073709551616) (hy : y < 18446744073709551616) (h0 : 0 < hi) (hlt : hi < y) (w : World) :
    Calls Try.prog 64 #[.int .u64 hi, .int .u64 lo, .int .u64 y] w fun e w' =>
      e = .returned (.tuple #[.int .u64 (((hi * 18446744073709551616 + lo) / y : Nat) : Int), .int .u64 (((hi * 18446744073709551616 + lo) % y : Nat) : Int)]) ∧ Below w.heap.size w w' := by
  obtain ⟨QV, hQV⟩ : ∃ QV, QV = (hi * 18446744073709551616 + lo) / y := ⟨_, rfl⟩
  obtain ⟨RV, hRV⟩ : ∃ RV, RV = (hi * 18446744073709551616 + lo) % y := ⟨_, rfl⟩
  rw [← hQV, ← hRV]
  have HQV := Lib.hid hQV
  have HRV := Lib.hid hRV
  clear hQV hRV
  have e1 : ((y : Int) == 0) = false := by rw [beq_eq_false_iff_ne]; omega
  have e2 : decide ((y : Int) ≤ hi) = false := by simp only [decide_eq_false_iff_not]; omega
  have e3 : ((hi : Int) == 0) = false := by rw [beq_eq_false_iff_ne]; omega
  have C := Lz64_any y hy (by omega)
  go_enter Try.func64, Try.ntmps64
  go_wp2_with fail
  refine (C _).mono ?_
  rintro e w1 ⟨⟨s, rfl, hs, hY1, hY2⟩, rfl⟩
  clear C e1 e2 e3
  have hs2 : (s : Int) ≤ 63 := by omega
  have hYc : (y : Int) * 2 ^ s = ((y * 2 ^ s : Nat) : Int) := by simp
  -- what is shifted
  obtain ⟨hU, hV, hUV⟩ := shift_two hi lo y s hs hlo hlt hY2
  obtain ⟨U, hUe⟩ : ∃ U, U = hi * 2 ^ s + lo / 2 ^ (64 - s) := ⟨_, rfl⟩
  obtain ⟨V, hVe⟩ : ∃ V, V = lo * 2 ^ s % 18446744073709551616 := ⟨_, rfl⟩
  obtain ⟨hsh1, hsh2⟩ := shifted (hi * 18446744073709551616 + lo) y s
  rw [hUV] at hsh1 hsh2
  rw [← HQV.out] at hsh1
  rw [← HRV.out] at hsh2
  obtain ⟨Y, hY⟩ : ∃ Y, Y = y * 2 ^ s := ⟨_, rfl⟩
  rw [← hY] at hY1 hY2 hYc hsh1 hsh2
  have hUY : U < Y := by rw [hUe, hY]; exact shift_less hi lo y s hs hlo hlt
  have hVlt : V < 18446744073709551616 := by rw [hVe]; exact Nat.mod_lt _ (by decide)
  rw [← hUe] at hU hsh1 hsh2
  rw [← hVe] at hV hsh1 hsh2
  have HS1 := Lib.hid hsh1
  have HS2 := Lib.hid hsh2
  clear hUV hUe hVe hY hsh1 hsh2
  -- halves
  have hm := low32 Y hY2
  have hv0 := low32 V hVlt
  have hy1 : (Y : Int) / 4294967296 = ((Y / 4294967296 : Nat) : Int) := by omega
  have hv1 : (V : Int) / 4294967296 = ((V / 4294967296 : Nat) : Int) := by omega
  have hYd : Y = Y / 4294967296 * 4294967296 + Y % 4294967296 := by omega
  have hVd : V = V / 4294967296 * 4294967296 + V % 4294967296 := by omega
  obtain ⟨y1, hy1e⟩ : ∃ y1, y1 = Y / 4294967296 := ⟨_, rfl⟩
  obtain ⟨y0, hy0e⟩ : ∃ y0, y0 = Y % 4294967296 := ⟨_, rfl⟩
  obtain ⟨u1, hu1e⟩ : ∃ u1, u1 = V / 4294967296 := ⟨_, rfl⟩
  obtain ⟨u0, hu0e⟩ : ∃ u0, u0 = V % 4294967296 := ⟨_, rfl⟩
  rw [← hy1e] at hy1 hYd
  rw [← hy0e] at hm hYd
  rw [← hu1e] at hv1 hVd
  rw [← hu0e] at hv0 hVd
  have hy0lt : y0 < 4294967296 := by omega
  have hy1lt : y1 < 4294967296 := by omega
  have hy1pos : 0 < y1 := by omega
  have hu0lt : u0 < 4294967296 := by omega
  have hu1lt : u1 < 4294967296 := by omega
  have HUY : Hid (U < y1 * 4294967296 + y0) := by show _ < _; omega
  have HYD := Lib.hid hYd
  have HVD := Lib.hid hVd
  -- the first digit
  obtain ⟨D, hDe⟩ : ∃ D, D = (U * 4294967296 + u1) / (y1 * 4294967296 + y0) := ⟨_, rfl⟩
  have HD := Lib.hid hDe
  have HDl := Lib.hid (digit_lt hDe hu1lt HUY.out)
  have hD1 := digit_first hDe hu1lt hy1pos
  have hUlt : U < 18446744073709551616 := by omega
  have hqd : (U : Int).tdiv (y1 : Int) = ((U / y1 : Nat) : Int) := by rw [Int.tdiv_eq_ediv_of_nonneg (by omega)]; simp
  have hq1 := Nat.div_add_mod U y1
  have hq2 := Nat.mod_lt U hy1pos
  have hq3 : U / y1 ≤ U := Nat.div_le_self _ _
  rw [Nat.mul_comm] at hq1
  obtain ⟨q1, hq1e⟩ : ∃ q1, q1 = U / y1 := ⟨_, rfl⟩
  obtain ⟨r1, hr1e⟩ : ∃ r1, r1 = U % y1 := ⟨_, rfl⟩
  rw [← hq1e] at hqd hq1 hq3 hD1
  rw [← hr1e] at hq1 hq2
  have hP : IntKind.u64.wrap ((q1 : Int) * (y1 : Int)) = ((q1 * y1 : Nat) : Int) := by rw [← Int.natCast_mul]; exact held _ (by omega)
  have hR : IntKind.u64.wrap ((U : Int) - ((q1 * y1 : Nat) : Int)) = (r1 : Int) := by rw [IntKind.wrap_u64]; omega
  have hqw : IntKind.u64.wrap (q1 : Int) = (q1 : Int) := held _ (by omega)
  have HQ1 := Lib.hid hq1
  have HD1' := Lib.hid hD1
  obtain ⟨P1, hP1e⟩ : ∃ P1, P1 = q1 * y1 := ⟨_, rfl⟩
  rw [← hP1e] at hP hR
  -- what is left, and the second digit
  have hYpos : 0 < y1 * 4294967296 + y0 := by omega
  have hl1 := digit_left hDe hYpos (by omega)
  have hRlt := Nat.mod_lt (U * 4294967296 + u1) hYpos
  obtain ⟨A1, hA1⟩ : ∃ A1, A1 = U * 4294967296 % 18446744073709551616 := ⟨_, rfl⟩
  obtain ⟨A2, hA2⟩ : ∃ A2, A2 = (A1 + u1) % 18446744073709551616 := ⟨_, rfl⟩
  rw [← hYd] at hl1 hRlt
  obtain ⟨A3, hA3⟩ : ∃ A3, A3 = D * Y % 18446744073709551616 := ⟨_, rfl⟩
  obtain ⟨R1, hR1⟩ : ∃ R1, R1 = (U * 4294967296 + u1) % Y := ⟨_, rfl⟩
  rw [← hA1, ← hA2, ← hA3, ← hR1] at hl1
  rw [← hR1] at hRlt
  have a1 : IntKind.u64.wrap ((U : Int) * 4294967296) = (A1 : Int) := by rw [IntKind.wrap_u64, hA1]; omega
  have a2 : IntKind.u64.wrap ((A1 : Int) + u1) = (A2 : Int) := by rw [IntKind.wrap_u64, hA2]; omega
  have a3 : IntKind.u64.wrap ((D : Int) * Y) = (A3 : Int) := by rw [← Int.natCast_mul, hA3]; exact turnedW _
  have hA2lt : A2 < 18446744073709551616 := by omega
  have hA3lt : A3 < 18446744073709551616 := by rw [hA3]; exact Nat.mod_lt _ (by decide)
  have a4 : IntKind.u64.wrap ((A2 : Int) - A3) = (R1 : Int) := by rw [IntKind.wrap_u64]; omega
  obtain ⟨E, hEe⟩ : ∃ E, E = (R1 * 4294967296 + u0) / (y1 * 4294967296 + y0) := ⟨_, rfl⟩
  have HE := Lib.hid hEe
  have HR1Y : Hid (R1 < y1 * 4294967296 + y0) := by show _ < _; omega
  have HEl := Lib.hid (digit_lt hEe hu0lt HR1Y.out)
  have hE1 := digit_first hEe hu0lt hy1pos
  have hRd : (R1 : Int).tdiv (y1 : Int) = ((R1 / y1 : Nat) : Int) := by rw [Int.tdiv_eq_ediv_of_nonneg (by omega)]; simp
  have hp1 := Nat.div_add_mod R1 y1
  have hp2 := Nat.mod_lt R1 hy1pos
  have hp3 : R1 / y1 ≤ R1 := Nat.div_le_self _ _
  rw [Nat.mul_comm] at hp1
  obtain ⟨q2, hq2e⟩ : ∃ q2, q2 = R1 / y1 := ⟨_, rfl⟩
  obtain ⟨r2, hr2e⟩ : ∃ r2, r2 = R1 % y1 := ⟨_, rfl⟩
  rw [← hq2e] at hRd hp1 hp3 hE1
  rw [← hr2e] at hp1 hp2
  have hP2 : IntKind.u64.wrap ((q2 : Int) * (y1 : Int)) = ((q2 * y1 : Nat) : Int) := by rw [← Int.natCast_mul]; exact held _ (by omega)
  have hR2 : IntKind.u64.wrap ((R1 : Int) - ((q2 * y1 : Nat) : Int)) = (r2 : Int) := by rw [IntKind.wrap_u64]; omega
  have hqw2 : IntKind.u64.wrap (q2 : Int) = (q2 : Int) := held _ (by omega)
  have HP2 := Lib.hid hp1
  have HE1' := Lib.hid hE1
  obtain ⟨P2, hP2e⟩ : ∃ P2, P2 = q2 * y1 := ⟨_, rfl⟩
  rw [← hP2e] at hP2 hR2
  have hq2lt : q2 < 18446744073709551616 := by omega
  have hr2lt : r2 < 4294967296 := by omega
  have hq1lt : q1 < 18446744073709551616 := by omega
  have hr1lt : r1 < 4294967296 := by omega
  -- the end
  have hl2 := digit_left hEe hYpos (by omega)
  rw [← hYd] at hl2
  obtain ⟨B1, hB1⟩ : ∃ B1, B1 = R1 * 4294967296 % 18446744073709551616 := ⟨_, rfl⟩
  obtain ⟨B2, hB2⟩ : ∃ B2, B2 = (B1 + u0) % 18446744073709551616 := ⟨_, rfl⟩
  obtain ⟨B3, hB3⟩ : ∃ B3, B3 = E * Y % 18446744073709551616 := ⟨_, rfl⟩
  obtain ⟨R2, hR2e⟩ : ∃ R2, R2 = (R1 * 4294967296 + u0) % Y := ⟨_, rfl⟩
  rw [← hB1, ← hB2, ← hB3, ← hR2e] at hl2
  have b1 : IntKind.u64.wrap ((R1 : Int) * 4294967296) = (B1 : Int) := by rw [IntKind.wrap_u64, hB1]; omega
  have b2 : IntKind.u64.wrap ((B1 : Int) + u0) = (B2 : Int) := by rw [IntKind.wrap_u64, hB2]; omega
  have b3 : IntKind.u64.wrap ((E : Int) * Y) = (B3 : Int) := by rw [← Int.natCast_mul, hB3]; exact turnedW _
  have hB2lt : B2 < 18446744073709551616 := by omega
  have hB3lt : B3 < 18446744073709551616 := by rw [hB3]; exact Nat.mod_lt _ (by decide)
  have hR2lt : R2 < 18446744073709551616 := by rw [hR2e]; exact Nat.lt_of_lt_of_le (Nat.mod_lt _ (by omega)) (by omega)
  have b4 : IntKind.u64.wrap ((B2 : Int) - B3) = (R2 : Int) := by rw [IntKind.wrap_u64]; omega
  have hDl := HDl.out
  have hEl := HEl.out
  have c1 : IntKind.u64.wrap ((D : Int) * 4294967296) = ((D * 4294967296 : Nat) : Int) := by rw [IntKind.wrap_u64]; omega
  obtain ⟨D2, hD2⟩ : ∃ D2, D2 = D * 4294967296 := ⟨_, rfl⟩
  rw [← hD2] at c1
  have c2 : IntKind.u64.wrap ((D2 : Int) + E) = ((D2 + E : Nat) : Int) := by rw [IntKind.wrap_u64]; omega
  have hT := two_digits U u1 u0 Y (by omega) hu0lt
  rw [← hR1, ← hR2e, ← hVd] at hT
  have hT1 := hT.1
  have hDY : D = (U * 4294967296 + u1) / Y := by rw [hDe, ← hYd]
  have hEY : E = (R1 * 4294967296 + u0) / Y := by rw [hEe, ← hYd]
  rw [← hDY, ← hEY, HS1.out, ← hD2] at hT1
  have HQ := Lib.hid hT1
  have hT2 := hT.2
  have HT2 : Hid (R2 / 2 ^ s = RV) := by show _ = _; rw [hT2]; exact HS2.out
  obtain ⟨Z, hZ⟩ : ∃ Z, Z = D2 + E := ⟨_, rfl⟩
  rw [← hZ] at c2 HQ
  clear hq1 hD1 hDe hYd hVd hy1e hy0e hu1e hu0e hq1e hr1e hP1e hl1 hA1 hA2 hA3 hR1 hEe hE1 hp1 hq2e hr2e hP2e hl2 hB1 hB2 hB3 hR2e hT hT1 hT2 hDY hEY hD2 hZ hDl hEl hq3 hp3 hUY hRlt hq2 hp2 hlt h0 hYpos hY1
  have HPOS := Lib.hid hy1pos
  go_wp2
  go_loop [15, 16] (fun a b => ∃ q r : Nat, a = .int .u64 q ∧ b = .int .u64 r ∧ Hid (q * y1 + r = U ∧ r < 4294967296 ∧ D ≤ q ∧ q < 18446744073709551616)) (fun _ b => 4294967296 - (intOf b).toNat)
  case atStart => exact ⟨_, _, rfl, rfl, ⟨HQ1.out, hr1lt, HD1'.out, hq1lt⟩⟩
  case round =>
    obtain ⟨q, r, rfl, rfl, HREL⟩ := hrel
    have HQR := Lib.hid HREL.out.1
    have hr := HREL.out.2.1
    have HLE := Lib.hid HREL.out.2.2.1
    have hq64 := HREL.out.2.2.2
    clear HREL
    by_cases hq : 4294967296 ≤ q
    · have hqi : decide ((4294967296 : Int) ≤ (q : Int)) = true := by simp only [decide_eq_true_eq]; omega
      have hD1 : D + 1 ≤ q := by have := HDl.out; omega
      have h1 : IntKind.u64.wrap ((q : Int) - 1) = ((q - 1 : Nat) : Int) := by rw [IntKind.wrap_u64]; omega
      have hN := Lib.hid (digit_next HQR.out (show 0 < q by omega))
      have HD1 := Lib.hid (show D ≤ q - 1 by omega)
      obtain ⟨t, ht⟩ : ∃ t, t = r + y1 := ⟨_, rfl⟩
      have hti : (r : Int) + (y1 : Int) = (t : Int) := by omega
      have htl : t < 18446744073709551616 := by omega
      by_cases hbig : 4294967296 ≤ r + y1
      · have hbi : decide ((4294967296 : Int) ≤ (t : Int)) = true := by simp only [decide_eq_true_eq]; omega
        have hqd : q - 1 = D := digit_done hN.out (Nat.le_trans (Nat.le_of_lt (digit_small (digit_big hN.out hbig HUY.out hy0lt) hy0lt)) (by omega)) HD.out HPOS.out HD1.out
        rw [hqd] at h1
        clear hqd hD1 hbig hq ht
        go_wp2
        go_loop [18, 16] (fun a b => ∃ q r : Nat, a = .int .u64 q ∧ b = .int .u64 r ∧ Hid (q * y1 + r = R1 ∧ r < 4294967296 ∧ E ≤ q ∧ q < 18446744073709551616)) (fun _ b => 4294967296 - (intOf b).toNat)
        case atStart => exact ⟨_, _, rfl, rfl, ⟨HP2.out, hr2lt, HE1'.out, hq2lt⟩⟩
        case round =>
          obtain ⟨q, r, rfl, rfl, HREL⟩ := hrel
          have HQR := Lib.hid HREL.out.1
          have hr := HREL.out.2.1
          have HLE := Lib.hid HREL.out.2.2.1
          have hq64 := HREL.out.2.2.2
          clear HREL
          by_cases hq : 4294967296 ≤ q
          · have hqi : decide ((4294967296 : Int) ≤ (q : Int)) = true := by simp only [decide_eq_true_eq]; omega
            have hD1 : E + 1 ≤ q := by have := HEl.out; omega
            have h1 : IntKind.u64.wrap ((q : Int) - 1) = ((q - 1 : Nat) : Int) := by rw [IntKind.wrap_u64]; omega
            have hN := Lib.hid (digit_next HQR.out (show 0 < q by omega))
            have HD1 := Lib.hid (show E ≤ q - 1 by omega)
            obtain ⟨t, ht⟩ : ∃ t, t = r + y1 := ⟨_, rfl⟩
            have hti : (r : Int) + (y1 : Int) = (t : Int) := by omega
            have htl : t < 18446744073709551616 := by omega
            by_cases hbig : 4294967296 ≤ r + y1
            · have hbi : decide ((4294967296 : Int) ≤ (t : Int)) = true := by simp only [decide_eq_true_eq]; omega
              have hqd : q - 1 = E := digit_done hN.out (Nat.le_trans (Nat.le_of_lt (digit_small (digit_big hN.out hbig HR1Y.out hy0lt) hy0lt)) (by omega)) HE.out HPOS.out HD1.out
              rw [hqd] at h1
              clear hqd hD1 hbig hq ht
              go_wp2
              go_ret2
              exact ⟨ret_two (by rw [HQ.out]) (by rw [← HT2.out]; simp), Below.refl _ _⟩
            · have hbi : decide ((4294967296 : Int) ≤ (t : Int)) = false := by simp only [decide_eq_false_iff_not]; omega
              have HTL := Lib.hid (show t < 4294967296 ∧ r < t by omega)
              obtain ⟨p, hp⟩ : ∃ p, p = q - 1 := ⟨_, rfl⟩
              have hp64 : p < 18446744073709551616 := by omega
              rw [← hp] at h1 hN HD1
              rw [← ht] at hN
              clear hD1 hq hp hbig ht
              go_wp2
              go_round
              case rel => exact ⟨_, _, rfl, by go_num, ⟨hN.out, HTL.out.1, HD1.out, hp64⟩⟩
              case measure => have := HTL.out; simp [intOf] <;> omega
          · have hqi : decide ((4294967296 : Int) ≤ (q : Int)) = false := by simp only [decide_eq_false_iff_not]; omega
            have hT := digit_small (show q < 4294967296 by omega) hy0lt
            have hTe : IntKind.u64.wrap ((q : Int) * (y0 : Int)) = ((q * y0 : Nat) : Int) := by rw [← Int.natCast_mul]; exact held _ hT
            obtain ⟨T, hTd⟩ : ∃ T, T = q * y0 := ⟨_, rfl⟩
            rw [← hTd] at hTe hT
            have hW1 : IntKind.u64.wrap (4294967296 * (r : Int)) = 4294967296 * (r : Int) := by rw [IntKind.wrap_u64]; omega
            have hW2 : IntKind.u64.wrap (4294967296 * (r : Int) + (u0 : Int)) = 4294967296 * (r : Int) + (u0 : Int) := by rw [IntKind.wrap_u64]; omega
            by_cases hc : 4294967296 * r + u0 < T
            · have hci : decide (4294967296 * (r : Int) + (u0 : Int) < (T : Int)) = true := by simp only [decide_eq_true_eq]; omega
              have hD1 : E + 1 ≤ q := digit_more HQR.out (by rw [← hTd]; exact hc) _ HE.out HPOS.out
              have h1 : IntKind.u64.wrap ((q : Int) - 1) = ((q - 1 : Nat) : Int) := by rw [IntKind.wrap_u64]; omega
              have hN := Lib.hid (digit_next HQR.out (show 0 < q by omega))
              have HD1 := Lib.hid (show E ≤ q - 1 by omega)
              obtain ⟨t, ht⟩ : ∃ t, t = r + y1 := ⟨_, rfl⟩
              have hti : (r : Int) + (y1 : Int) = (t : Int) := by omega
              have htl : t < 18446744073709551616 := by omega
              by_cases hbig : 4294967296 ≤ r + y1
              · have hbi : decide ((4294967296 : Int) ≤ (t : Int)) = true := by simp only [decide_eq_true_eq]; omega
                have hqd : q - 1 = E := digit_done hN.out (Nat.le_trans (Nat.le_of_lt (digit_small (digit_big hN.out hbig HR1Y.out hy0lt) hy0lt)) (by omega)) HE.out HPOS.out HD1.out
                rw [hqd] at h1
                clear hqd hD1 hbig hq hc hTd ht
                go_wp2
                go_ret2
                exact ⟨ret_two (by rw [HQ.out]) (by rw [← HT2.out]; simp), Below.refl _ _⟩
              · have hbi : decide ((4294967296 : Int) ≤ (t : Int)) = false := by simp only [decide_eq_false_iff_not]; omega
                have HTL := Lib.hid (show t < 4294967296 ∧ r < t by omega)
                obtain ⟨p, hp⟩ : ∃ p, p = q - 1 := ⟨_, rfl⟩
                have hp64 : p < 18446744073709551616 := by omega
                rw [← hp] at h1 hN HD1
                rw [← ht] at hN
                clear hD1 hq hc hTd hp hbig ht
                go_wp2
                go_round
                case rel => exact ⟨_, _, rfl, by go_num, ⟨hN.out, HTL.out.1, HD1.out, hp64⟩⟩
                case measure => have := HTL.out; simp [intOf] <;> omega
            · have hci : decide (4294967296 * (r : Int) + (u0 : Int) < (T : Int)) = false := by simp only [decide_eq_false_iff_not]; omega
              have hqd : q = E := digit_done HQR.out (by rw [← hTd]; omega) HE.out HPOS.out HLE.out
              rw [hqd] at hTe hqi ⊢
              clear hqd hq hc hTd hT
              go_wp2
              go_ret2
              exact ⟨ret_two (by rw [HQ.out]) (by rw [← HT2.out]; simp), Below.refl _ _⟩
      · have hbi : decide ((4294967296 : Int) ≤ (t : Int)) = false := by simp only [decide_eq_false_iff_not]; omega
        have HTL := Lib.hid (show t < 4294967296 ∧ r < t by omega)
        obtain ⟨p, hp⟩ : ∃ p, p = q - 1 := ⟨_, rfl⟩
        have hp64 : p < 18446744073709551616 := by omega
        rw [← hp] at h1 hN HD1
        rw [← ht] at hN
        clear hD1 hq hp hbig ht
        go_wp2
        go_round
        case rel => exact ⟨_, _, rfl, by go_num, ⟨hN.out, HTL.out.1, HD1.out, hp64⟩⟩
        case measure => have := HTL.out; simp [intOf] <;> omega
    · have hqi : decide ((4294967296 : Int) ≤ (q : Int)) = false := by simp only [decide_eq_false_iff_not]; omega
      have hT := digit_small (show q < 4294967296 by omega) hy0lt
      have hTe : IntKind.u64.wrap ((q : Int) * (y0 : Int)) = ((q * y0 : Nat) : Int) := by rw [← Int.natCast_mul]; exact held _ hT
      obtain ⟨T, hTd⟩ : ∃ T, T = q * y0 := ⟨_, rfl⟩
      rw [← hTd] at hTe hT
      have hW1 : IntKind.u64.wrap (4294967296 * (r : Int)) = 4294967296 * (r : Int) := by rw [IntKind.wrap_u64]; omega
      have hW2 : IntKind.u64.wrap (4294967296 * (r : Int) + (u1 : Int)) = 4294967296 * (r : Int) + (u1 : Int) := by rw [IntKind.wrap_u64]; omega
      by_cases hc : 4294967296 * r + u1 < T
      · have hci : decide (4294967296 * (r : Int) + (u1 : Int) < (T : Int)) = true := by simp only [decide_eq_true_eq]; omega
        have hD1 : D + 1 ≤ q := digit_more HQR.out (by rw [← hTd]; exact hc) _ HD.out HPOS.out
        have h1 : IntKind.u64.wrap ((q : Int) - 1) = ((q - 1 : Nat) : Int) := by rw [IntKind.wrap_u64]; omega
        have hN := Lib.hid (digit_next HQR.out (show 0 < q by omega))
        have HD1 := Lib.hid (show D ≤ q - 1 by omega)
        obtain ⟨t, ht⟩ : ∃ t, t = r + y1 := ⟨_, rfl⟩
        have hti : (r : Int) + (y1 : Int) = (t : Int) := by omega
        have htl : t < 18446744073709551616 := by omega
        by_cases hbig : 4294967296 ≤ r + y1
        · have hbi : decide ((4294967296 : Int) ≤ (t : Int)) = true := by simp only [decide_eq_true_eq]; omega
          have hqd : q - 1 = D := digit_done hN.out (Nat.le_trans (Nat.le_of_lt (digit_small (digit_big hN.out hbig HUY.out hy0lt) hy0lt)) (by omega)) HD.out HPOS.out HD1.out
          rw [hqd] at h1
          clear hqd hD1 hbig hq hc hTd ht
          go_wp2
          go_loop [18, 16] (fun a b => ∃ q r : Nat, a = .int .u64 q ∧ b = .int .u64 r ∧ Hid (q * y1 + r = R1 ∧ r < 4294967296 ∧ E ≤ q ∧ q < 18446744073709551616)) (fun _ b => 4294967296 - (intOf b).toNat)
          case atStart => exact ⟨_, _, rfl, rfl, ⟨HP2.out, hr2lt, HE1'.out, hq2lt⟩⟩
          case round =>
            obtain ⟨q, r, rfl, rfl, HREL⟩ := hrel
            have HQR := Lib.hid HREL.out.1
            have hr := HREL.out.2.1
            have HLE := Lib.hid HREL.out.2.2.1
            have hq64 := HREL.out.2.2.2
            clear HREL
            by_cases hq : 4294967296 ≤ q
            · have hqi : decide ((4294967296 : Int) ≤ (q : Int)) = true := by simp only [decide_eq_true_eq]; omega
              have hD1 : E + 1 ≤ q := by have := HEl.out; omega
              have h1 : IntKind.u64.wrap ((q : Int) - 1) = ((q - 1 : Nat) : Int) := by rw [IntKind.wrap_u64]; omega
              have hN := Lib.hid (digit_next HQR.out (show 0 < q by omega))
              have HD1 := Lib.hid (show E ≤ q - 1 by omega)
              obtain ⟨t, ht⟩ : ∃ t, t = r + y1 := ⟨_, rfl⟩
              have hti : (r : Int) + (y1 : Int) = (t : Int) := by omega
              have htl : t < 18446744073709551616 := by omega
              by_cases hbig : 4294967296 ≤ r + y1
              · have hbi : decide ((4294967296 : Int) ≤ (t : Int)) = true := by simp only [decide_eq_true_eq]; omega
                have hqd : q - 1 = E := digit_done hN.out (Nat.le_trans (Nat.le_of_lt (digit_small (digit_big hN.out hbig HR1Y.out hy0lt) hy0lt)) (by omega)) HE.out HPOS.out HD1.out
                rw [hqd] at h1
                clear hqd hD1 hbig hq ht
                go_wp2
                go_ret2
                exact ⟨ret_two (by rw [HQ.out]) (by rw [← HT2.out]; simp), Below.refl _ _⟩
              · have hbi : decide ((4294967296 : Int) ≤ (t : Int)) = false := by simp only [decide_eq_false_iff_not]; omega
                have HTL := Lib.hid (show t < 4294967296 ∧ r < t by omega)
                obtain ⟨p, hp⟩ : ∃ p, p = q - 1 := ⟨_, rfl⟩
                have hp64 : p < 18446744073709551616 := by omega
                rw [← hp] at h1 hN HD1
                rw [← ht] at hN
                clear hD1 hq hp hbig ht
                go_wp2
                go_round
                case rel => exact ⟨_, _, rfl, by go_num, ⟨hN.out, HTL.out.1, HD1.out, hp64⟩⟩
                case measure => have := HTL.out; simp [intOf] <;> omega
            · have hqi : decide ((4294967296 : Int) ≤ (q : Int)) = false := by simp only [decide_eq_false_iff_not]; omega
              have hT := digit_small (show q < 4294967296 by omega) hy0lt
              have hTe : IntKind.u64.wrap ((q : Int) * (y0 : Int)) = ((q * y0 : Nat) : Int) := by rw [← Int.natCast_mul]; exact held _ hT
              obtain ⟨T, hTd⟩ : ∃ T, T = q * y0 := ⟨_, rfl⟩
              rw [← hTd] at hTe hT
              have hW1 : IntKind.u64.wrap (4294967296 * (r : Int)) = 4294967296 * (r : Int) := by rw [IntKind.wrap_u64]; omega
              have hW2 : IntKind.u64.wrap (4294967296 * (r : Int) + (u0 : Int)) = 4294967296 * (r : Int) + (u0 : Int) := by rw [IntKind.wrap_u64]; omega
              by_cases hc : 4294967296 * r + u0 < T
              · have hci : decide (4294967296 * (r : Int) + (u0 : Int) < (T : Int)) = true := by simp only [decide_eq_true_eq]; omega
                have hD1 : E + 1 ≤ q := digit_more HQR.out (by rw [← hTd]; exact hc) _ HE.out HPOS.out
                have h1 : IntKind.u64.wrap ((q : Int) - 1) = ((q - 1 : Nat) : Int) := by rw [IntKind.wrap_u64]; omega
                have hN := Lib.hid (digit_next HQR.out (show 0 < q by omega))
                have HD1 := Lib.hid (show E ≤ q - 1 by omega)
                obtain ⟨t, ht⟩ : ∃ t, t = r + y1 := ⟨_, rfl⟩
                have hti : (r : Int) + (y1 : Int) = (t : Int) := by omega
                have htl : t < 18446744073709551616 := by omega
                by_cases hbig : 4294967296 ≤ r + y1
                · have hbi : decide ((4294967296 : Int) ≤ (t : Int)) = true := by simp only [decide_eq_true_eq]; omega
                  have hqd : q - 1 = E := digit_done hN.out (Nat.le_trans (Nat.le_of_lt (digit_small (digit_big hN.out hbig HR1Y.out hy0lt) hy0lt)) (by omega)) HE.out HPOS.out HD1.out
                  rw [hqd] at h1
                  clear hqd hD1 hbig hq hc hTd ht
                  go_wp2
                  go_ret2
                  exact ⟨ret_two (by rw [HQ.out]) (by rw [← HT2.out]; simp), Below.refl _ _⟩
                · have hbi : decide ((4294967296 : Int) ≤ (t : Int)) = false := by simp only [decide_eq_false_iff_not]; omega
                  have HTL := Lib.hid (show t < 4294967296 ∧ r < t by omega)
                  obtain ⟨p, hp⟩ : ∃ p, p = q - 1 := ⟨_, rfl⟩
                  have hp64 : p < 18446744073709551616 := by omega
                  rw [← hp] at h1 hN HD1
                  rw [← ht] at hN
                  clear hD1 hq hc hTd hp hbig ht
                  go_wp2
                  go_round
                  case rel => exact ⟨_, _, rfl, by go_num, ⟨hN.out, HTL.out.1, HD1.out, hp64⟩⟩
                  case measure => have := HTL.out; simp [intOf] <;> omega
              · have hci : decide (4294967296 * (r : Int) + (u0 : Int) < (T : Int)) = false := by simp only [decide_eq_false_iff_not]; omega
                have hqd : q = E := digit_done HQR.out (by rw [← hTd]; omega) HE.out HPOS.out HLE.out
                rw [hqd] at hTe hqi ⊢
                clear hqd hq hc hTd hT
                go_wp2
                go_ret2
                exact ⟨ret_two (by rw [HQ.out]) (by rw [← HT2.out]; simp), Below.refl _ _⟩
        · have hbi : decide ((4294967296 : Int) ≤ (t : Int)) = false := by simp only [decide_eq_false_iff_not]; omega
          have HTL := Lib.hid (show t < 4294967296 ∧ r < t by omega)
          obtain ⟨p, hp⟩ : ∃ p, p = q - 1 := ⟨_, rfl⟩
          have hp64 : p < 18446744073709551616 := by omega
          rw [← hp] at h1 hN HD1
          rw [← ht] at hN
          clear hD1 hq hc hTd hp hbig ht
          go_wp2
          go_round
          case rel => exact ⟨_, _, rfl, by go_num, ⟨hN.out, HTL.out.1, HD1.out, hp64⟩⟩
          case measure => have := HTL.out; simp [intOf] <;> omega
      · have hci : decide (4294967296 * (r : Int) + (u1 : Int) < (T : Int)) = false := by simp only [decide_eq_false_iff_not]; omega
        have hqd : q = D := digit_done HQR.out (by rw [← hTd]; omega) HD.out HPOS.out HLE.out
        rw [hqd] at hTe hqi ⊢
        clear hqd hq hc hTd hT
        go_wp2
        go_loop [18, 16] (fun a b => ∃ q r : Nat, a = .int .u64 q ∧ b = .int .u64 r ∧ Hid (q * y1 + r = R1 ∧ r < 4294967296 ∧ E ≤ q ∧ q < 18446744073709551616)) (fun _ b => 4294967296 - (intOf b).toNat)
        case atStart => exact ⟨_, _, rfl, rfl, ⟨HP2.out, hr2lt, HE1'.out, hq2lt⟩⟩
        case round =>
          obtain ⟨q, r, rfl, rfl, HREL⟩ := hrel
          have HQR := Lib.hid HREL.out.1
          have hr := HREL.out.2.1
          have HLE := Lib.hid HREL.out.2.2.1
          have hq64 := HREL.out.2.2.2
          clear HREL
          by_cases hq : 4294967296 ≤ q
          · have hqi : decide ((4294967296 : Int) ≤ (q : Int)) = true := by simp only [decide_eq_true_eq]; omega
            have hD1 : E + 1 ≤ q := by have := HEl.out; omega
            have h1 : IntKind.u64.wrap ((q : Int) - 1) = ((q - 1 : Nat) : Int) := by rw [IntKind.wrap_u64]; omega
            have hN := Lib.hid (digit_next HQR.out (show 0 < q by omega))
            have HD1 := Lib.hid (show E ≤ q - 1 by omega)
            obtain ⟨t, ht⟩ : ∃ t, t = r + y1 := ⟨_, rfl⟩
            have hti : (r : Int) + (y1 : Int) = (t : Int) := by omega
            have htl : t < 18446744073709551616 := by omega
            by_cases hbig : 4294967296 ≤ r + y1
            · have hbi : decide ((4294967296 : Int) ≤ (t : Int)) = true := by simp only [decide_eq_true_eq]; omega
              have hqd : q - 1 = E := digit_done hN.out (Nat.le_trans (Nat.le_of_lt (digit_small (digit_big hN.out hbig HR1Y.out hy0lt) hy0lt)) (by omega)) HE.out HPOS.out HD1.out
              rw [hqd] at h1
              clear hqd hD1 hbig hq ht
              go_wp2
              go_ret2
              exact ⟨ret_two (by rw [HQ.out]) (by rw [← HT2.out]; simp), Below.refl _ _⟩
            · have hbi : decide ((4294967296 : Int) ≤ (t : Int)) = false := by simp only [decide_eq_false_iff_not]; omega
              have HTL := Lib.hid (show t < 4294967296 ∧ r < t by omega)
              obtain ⟨p, hp⟩ : ∃ p, p = q - 1 := ⟨_, rfl⟩
              have hp64 : p < 18446744073709551616 := by omega
              rw [← hp] at h1 hN HD1
              rw [← ht] at hN
              clear hD1 hq hp hbig ht
              go_wp2
              go_round
              case rel => exact ⟨_, _, rfl, by go_num, ⟨hN.out, HTL.out.1, HD1.out, hp64⟩⟩
              case measure => have := HTL.out; simp [intOf] <;> omega
          · have hqi : decide ((4294967296 : Int) ≤ (q : Int)) = false := by simp only [decide_eq_false_iff_not]; omega
            have hT := digit_small (show q < 4294967296 by omega) hy0lt
            have hTe : IntKind.u64.wrap ((q : Int) * (y0 : Int)) = ((q * y0 : Nat) : Int) := by rw [← Int.natCast_mul]; exact held _ hT
            obtain ⟨T, hTd⟩ : ∃ T, T = q * y0 := ⟨_, rfl⟩
            rw [← hTd] at hTe hT
            have hW1 : IntKind.u64.wrap (4294967296 * (r : Int)) = 4294967296 * (r : Int) := by rw [IntKind.wrap_u64]; omega
            have hW2 : IntKind.u64.wrap (4294967296 * (r : Int) + (u0 : Int)) = 4294967296 * (r : Int) + (u0 : Int) := by rw [IntKind.wrap_u64]; omega
            by_cases hc : 4294967296 * r + u0 < T
            · have hci : decide (4294967296 * (r : Int) + (u0 : Int) < (T : Int)) = true := by simp only [decide_eq_true_eq]; omega
              have hD1 : E + 1 ≤ q := digit_more HQR.out (by rw [← hTd]; exact hc) _ HE.out HPOS.out
              have h1 : IntKind.u64.wrap ((q : Int) - 1) = ((q - 1 : Nat) : Int) := by rw [IntKind.wrap_u64]; omega
              have hN := Lib.hid (digit_next HQR.out (show 0 < q by omega))
              have HD1 := Lib.hid (show E ≤ q - 1 by omega)
              obtain ⟨t, ht⟩ : ∃ t, t = r + y1 := ⟨_, rfl⟩
              have hti : (r : Int) + (y1 : Int) = (t : Int) := by omega
              have htl : t < 18446744073709551616 := by omega
              by_cases hbig : 4294967296 ≤ r + y1
              · have hbi : decide ((4294967296 : Int) ≤ (t : Int)) = true := by simp only [decide_eq_true_eq]; omega
                have hqd : q - 1 = E := digit_done hN.out (Nat.le_trans (Nat.le_of_lt (digit_small (digit_big hN.out hbig HR1Y.out hy0lt) hy0lt)) (by omega)) HE.out HPOS.out HD1.out
                rw [hqd] at h1
                clear hqd hD1 hbig hq hc hTd ht
                go_wp2
                go_ret2
                exact ⟨ret_two (by rw [HQ.out]) (by rw [← HT2.out]; simp), Below.refl _ _⟩
              · have hbi : decide ((4294967296 : Int) ≤ (t : Int)) = false := by simp only [decide_eq_false_iff_not]; omega
                have HTL := Lib.hid (show t < 4294967296 ∧ r < t by omega)
                obtain ⟨p, hp⟩ : ∃ p, p = q - 1 := ⟨_, rfl⟩
                have hp64 : p < 18446744073709551616 := by omega
                rw [← hp] at h1 hN HD1
                rw [← ht] at hN
                clear hD1 hq hc hTd hp hbig ht
                go_wp2
                go_round
                case rel => exact ⟨_, _, rfl, by go_num, ⟨hN.out, HTL.out.1, HD1.out, hp64⟩⟩
                case measure => have := HTL.out; simp [intOf] <;> omega
            · have hci : decide (4294967296 * (r : Int) + (u0 : Int) < (T : Int)) = false := by simp only [decide_eq_false_iff_not]; omega
              have hqd : q = E := digit_done HQR.out (by rw [← hTd]; omega) HE.out HPOS.out HLE.out
              rw [hqd] at hTe hqi ⊢
              clear hqd hq hc hTd hT
              go_wp2
              go_ret2
              exact ⟨ret_two (by rw [HQ.out]) (by rw [← HT2.out]; simp), Below.refl _ _⟩
end Go.Proofs.Ytggmjdaolekgmaa
