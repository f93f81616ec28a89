/-
  Roots, as the reference has them: by halves; a power; is a number the greatest one.
-/
import Derived.Test.YtbajkjekpgmmfaaRootA
set_option linter.unusedVariables false
set_option linter.unusedSimpArgs false
namespace Go.Proofs.Ytbajkjekpgmmfaa
open Go Go.RowKit Go.Th Go.Th.Root

theorem quo_u (x r q : Nat) (hx : x < 18446744073709551616) (hq : q = x / r) : IntKind.u64.wrap ((x : Int) / (r : Int)) = (q : Int) := by
  have h := Nat.div_le_self x r
  rw [← hq] at h
  rw [← Int.natCast_ediv, ← hq, IntKind.wrap_u64]; omega
set_option maxRecDepth 20000 in
set_option maxHeartbeats 1600000 in
theorem atMost_any (r x : Nat) (hr : r < 18446744073709551616) (hx : x < 18446744073709551616) : Ans 29 #[.int .u64 r, .int .u64 x] (.bool (decide (r * r ≤ x))) := by
  intro w
  by_cases h0 : r = 0
  · subst h0
    rw [show decide (0 * 0 ≤ x) = true by simp]
    go_enter Try.func29, Try.ntmps29
    go_wp2
    go_ret
    exact ⟨rfl, Below.refl _ _⟩
  · obtain ⟨q, hq⟩ : ∃ q, q = x / r := ⟨_, rfl⟩
    have ew := quo_u x r q hx hq
    have e : decide (r ≤ q) = decide (r * r ≤ x) := by
      rw [decide_eq_decide, hq, Nat.le_div_iff_mul_le (by omega)]
    clear hq
    have hn : ¬ (r : Int) = 0 := by omega
    have hb : ((r : Int) == 0) = false := by simpa using h0
    obtain ⟨b, hB⟩ : ∃ b, b = decide (r * r ≤ x) := ⟨_, rfl⟩
    rw [← hB] at e ⊢
    clear hB
    go_enter Try.func29, Try.ntmps29
    go_wp2
    go_ret
    exact ⟨rfl, Below.refl _ _⟩

set_option maxRecDepth 20000 in
set_option maxHeartbeats 1600000 in
theorem refFloor_any (x : Nat) (hx : x < 18446744073709551616) : Ans 8 #[.int .u64 x] (.int .u64 ((rt 2 x : Nat) : Int)) := by
  intro w
  go_enter Try.func8, Try.ntmps8
  go_wp2
  go_loopw [3, 4] (fun s t wx => ∃ l h : Nat, l < h ∧ h ≤ 4294967296 ∧ s = .int .u64 l ∧ t = .int .u64 h ∧ Hid (l * l ≤ x) ∧ Hid (x < h * h) ∧ Below w.heap.size w wx) (fun s t _ => (intOf t - intOf s).toNat)
  case atStart => exact ⟨0, 4294967296, by omega, by omega, rfl, rfl, Nat.zero_le _, (by omega : x < 4294967296 * 4294967296), Below.refl _ _⟩
  case round =>
    obtain ⟨l, h, hlh, hh, rfl, rfl, HL, HH, B⟩ := hrel
    by_cases h1 : 1 < h - l
    · have C := atMost_any ((l + h) / 2) x (by omega) hx
      obtain ⟨m, hm⟩ : ∃ m, m = (l + h) / 2 := ⟨_, rfl⟩
      rw [← hm] at C
      have hml : l < m := by omega
      have hmh : m < h := by omega
      have em : ((l : Int) + (h : Int)) / 2 = (m : Int) := by omega
      clear hm
      by_cases hc : m * m ≤ x
      · rw [decide_eq_true hc] at C
        have HC := Lib.hid hc; clear hc
        go_wp2_with fail
        refine (C _).mono ?_
        rintro e w2 ⟨rfl, hBl⟩
        clear C
        go_wp2
        go_roundw
        case rel => exact ⟨m, h, hmh, hh, rfl, rfl, HC.out, HH.out, B.trans (hBl.mono B.size)⟩
        case measure => simp [intOf] <;> omega
      · rw [decide_eq_false hc] at C
        have HC := Lib.hid (Nat.lt_of_not_le hc); clear hc
        go_wp2_with fail
        refine (C _).mono ?_
        rintro e w2 ⟨rfl, hBl⟩
        clear C
        go_wp2
        go_roundw
        case rel => exact ⟨l, m, hml, by omega, rfl, rfl, HL.out, HC.out, B.trans (hBl.mono B.size)⟩
        case measure => simp [intOf] <;> omega
    · obtain rfl : h = l + 1 := by omega
      go_wp2
      go_ret
      exact ⟨ret_int (by rw [rt_eq (by decide) (by rw [Nat.pow_two]; exact HL.out) (by rw [Nat.pow_two]; exact HH.out)]), B⟩

theorem pow_up (m i : Nat) : m ^ (i + 1) = m ^ i * m := Nat.pow_succ m i
theorem pow_more {m i d x : Nat} (hm : 0 < m) (hi : i + 1 ≤ d) (h : ¬ m ^ i * m ≤ x) : ¬ m ^ d ≤ x := by
  rw [← Nat.pow_succ] at h
  intro h2
  exact h (Nat.le_trans (Nat.pow_le_pow_right hm hi) h2)
theorem pow_64 {m x : Nat} (hm : 2 ≤ m) (hx : x < 18446744073709551616) : ¬ m ^ 64 ≤ x := by
  have h : 2 ^ 64 ≤ m ^ 64 := Nat.pow_le_pow_left hm 64
  omega
theorem pow_small {m d x : Nat} (hm : m < 2) (hd : 0 < d) : (m ^ d ≤ x) = (m ≤ x) := by
  have e : m = 0 ∨ m = 1 := by omega
  rcases e with rfl | rfl
  · rw [Nat.zero_pow hd]
  · rw [Nat.one_pow]

set_option maxRecDepth 20000 in
set_option maxHeartbeats 1600000 in
/-- A power up to a number: of a number from 2 on. -/
theorem power_big (m d x : Nat) (hm : m < 18446744073709551616) (hm2 : 2 ≤ m) (hd0 : 0 < d) (hd : d < 9223372036854775808) (hx : x < 18446744073709551616) (hx0 : 0 < x) :
    Ans 45 #[.int .u64 m, .int .i64 d, .int .u64 x] (.bool (decide (m ^ d ≤ x))) := by
  intro w
  obtain ⟨b, hb⟩ : ∃ b, b = decide (m ^ d ≤ x) := ⟨_, rfl⟩
  rw [← hb]
  have HB := Lib.hid hb
  clear hb
  have hn : ¬ (m : Int) = 0 := by omega
  obtain ⟨q, hq⟩ : ∃ q, q = x / m := ⟨_, rfl⟩
  have hqx : q ≤ x := by rw [hq]; exact Nat.div_le_self x m
  have ew := quo_u x m q hx hq
  have HQ := Lib.hid hq
  clear hq
  go_enter Try.func45, Try.ntmps45
  go_wp2
  go_loop [7, 8] (fun s t => ∃ i p : Nat, i ≤ d ∧ i ≤ 64 ∧ p ≤ x ∧ s = .int .u64 p ∧ t = .int .i64 i ∧ Hid (p = m ^ i)) (fun _ t => 64 - (intOf t).toNat)
  case atStart => exact ⟨0, 1, by omega, by omega, hx0, rfl, rfl, (Nat.pow_zero m).symm⟩
  case round =>
    obtain ⟨i, p, hid, hi, hpx, rfl, rfl, HP⟩ := hrel
    by_cases h1 : i < d
    · have h64 : i < 64 := by
        have hne : i ≠ 64 := by
          rintro rfl
          have := HP.out
          rw [this] at hpx
          exact pow_64 hm2 hx hpx
        omega
      have e : p ≤ q ↔ p * m ≤ x := by rw [HQ.out, Nat.le_div_iff_mul_le (by omega)]
      by_cases hc : p * m ≤ x
      · have e1 : p ≤ q := e.2 hc
        obtain ⟨r, hr⟩ : ∃ r, r = p * m := ⟨_, rfl⟩
        have e2 : IntKind.u64.wrap ((p : Int) * (m : Int)) = (r : Int) := by rw [← Int.natCast_mul, ← hr, IntKind.wrap_u64]; omega
        rw [← hr] at hc
        have HR := Lib.hid hr
        clear hr e
        go_wp2
        go_round
        case rel => exact ⟨i + 1, r, by omega, by omega, hc, rfl, by go_num, by rw [HR.out, HP.out]; exact (Nat.pow_succ m i).symm⟩
        case measure => simp [intOf] <;> omega
      · have e1 : q < p := by have := mt e.1 hc; omega
        have hb0 : b = false := by rw [HB.out]; exact decide_eq_false (pow_more (m := m) (i := i) (by omega) h1 (by rw [← HP.out]; exact hc))
        subst hb0
        clear hc e
        go_wp2
        go_ret
        exact ⟨rfl, Below.refl _ _⟩
    · obtain rfl : i = d := by omega
      have hb0 : b = true := by rw [HB.out]; exact decide_eq_true (by rw [← HP.out]; exact hpx)
      subst hb0
      go_wp2
      go_ret
      exact ⟨ret_bool (decide_eq_true (by omega)), Below.refl _ _⟩

set_option maxRecDepth 20000 in
set_option maxHeartbeats 1600000 in
theorem power_any (m d x : Nat) (hm : m < 18446744073709551616) (hd0 : 0 < d) (hd : d < 9223372036854775808) (hx : x < 18446744073709551616) (hx0 : 0 < x) :
    Ans 45 #[.int .u64 m, .int .i64 d, .int .u64 x] (.bool (decide (m ^ d ≤ x))) := by
  by_cases h2 : 2 ≤ m
  · exact power_big m d x hm h2 hd0 hd hx hx0
  · intro w
    have h3 : m < 2 := by omega
    rw [show decide (m ^ d ≤ x) = decide (m ≤ x) from decide_eq_decide.2 (Iff.of_eq (pow_small h3 hd0))]
    go_enter Try.func45, Try.ntmps45
    go_wp2
    go_ret
    exact ⟨ret_bool (decide_eq_decide.2 (by omega)), Below.refl _ _⟩

set_option maxRecDepth 20000 in
set_option maxHeartbeats 1600000 in
theorem isPower_low (r : Nat) (x : Nat) (d : Int) (hr : r = 0) (h : d < 1 ∨ x = 0) : Ans 25 #[.int .u64 r, .int .u64 x, .int .i64 d] (.bool true) := by
  intro w
  subst hr
  by_cases h1 : d < 1
  · go_enter Try.func25, Try.ntmps25
    go_wp2
    go_ret
    exact ⟨rfl, Below.refl _ _⟩
  · obtain rfl : x = 0 := by omega
    go_enter Try.func25, Try.ntmps25
    go_wp2
    go_ret
    exact ⟨rfl, Below.refl _ _⟩

set_option maxRecDepth 20000 in
set_option maxHeartbeats 1600000 in
theorem isPower_max (x : Nat) (d : Nat) (hx0 : 0 < x) (hd0 : 0 < d) (C1 : Ans 45 #[.int .u64 18446744073709551615, .int .i64 d, .int .u64 x] (.bool true)) :
    Ans 25 #[.int .u64 18446744073709551615, .int .u64 x, .int .i64 d] (.bool true) := by
  intro w
  go_enter Try.func25, Try.ntmps25
  go_wp2_with fail
  refine (C1 _).mono ?_
  rintro e w2 ⟨rfl, hBl⟩
  clear C1
  go_wp2
  go_ret
  exact ⟨rfl, hBl⟩

set_option maxRecDepth 20000 in
set_option maxHeartbeats 1600000 in
theorem isPower_mid (r x : Nat) (d : Nat) (hr : r < 18446744073709551615) (hx0 : 0 < x) (hd0 : 0 < d) (C1 : Ans 45 #[.int .u64 r, .int .i64 d, .int .u64 x] (.bool true))
    (C2 : Ans 45 #[.int .u64 ((r + 1 : Nat) : Int), .int .i64 d, .int .u64 x] (.bool false)) :
    Ans 25 #[.int .u64 r, .int .u64 x, .int .i64 d] (.bool true) := by
  intro w
  have e : ((r + 1 : Nat) : Int) = (r : Int) + 1 := by omega
  rw [e] at C2
  have hb : ((r : Int) == 18446744073709551615) = false := by rw [beq_eq_false_iff_ne]; omega
  clear e
  go_enter Try.func25, Try.ntmps25
  go_wp2_with fail
  refine (C1 _).mono ?_
  rintro e w2 ⟨rfl, hBl⟩
  clear C1
  go_wp2_with fail
  refine (C2 _).mono ?_
  rintro e w3 ⟨rfl, hBl2⟩
  clear C2
  go_wp2
  go_ret
  exact ⟨rfl, hBl.trans (hBl2.mono hBl.size)⟩

/-- The reference takes the root for the greatest number whose power is no more. -/
theorem isPower_rt (x d : Nat) (hx : x < 18446744073709551616) (hd0 : 0 < d) (hd : d < 9223372036854775808) :
    Ans 25 #[.int .u64 ((rt d x : Nat) : Int), .int .u64 x, .int .i64 d] (.bool true) := by
  by_cases h0 : x = 0
  · subst h0
    exact isPower_low _ _ _ (rt_zero d hd0) (.inr rfl)
  · have hle := rt_le d x hd0
    have C1 := power_any (rt d x) d x (by omega) hd0 hd hx (by omega)
    rw [decide_eq_true (rt_pow d x hd0)] at C1
    by_cases hm : rt d x = 18446744073709551615
    · rw [hm] at C1 ⊢
      exact isPower_max x d (by omega) hd0 C1
    · have C2 := power_any (rt d x + 1) d x (by omega) hd0 hd hx (by omega)
      have hn := rt_next (d := d) (N := x) hd0
      rw [decide_eq_false (by omega)] at C2
      exact isPower_mid _ x d (by omega) (by omega) hd0 C1 C2
end Go.Proofs.Ytbajkjekpgmmfaa
