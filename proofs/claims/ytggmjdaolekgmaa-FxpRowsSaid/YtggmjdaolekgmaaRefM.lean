/-
  The reference: a rounded quotient.
-/
import Derived.Test.YtggmjdaolekgmaaRefE
import Derived.Test.YtggmjdaolekgmaaRefH
import Derived.Test.YtggmjdaolekgmaaRefK
import Derived.Test.YtggmjdaolekgmaaRefL
set_option linter.unusedVariables false
set_option linter.unusedSimpArgs false
namespace Go.Proofs.Ytggmjdaolekgmaa
open Go Go.RowKit Go.Th Go.Th.Wide

/-- The parts of a number that has room in 64 bits. -/
theorem parts_fit (m : Bool) (q : Nat) (hf : fitsS m q 63 = true) (w : World) :
    Calls Try.prog 48 #[.agg (numC m q).toArray] w fun e w' =>
      e = .returned (.tuple #[.int .i64 (signed m q / 18446744073709551616), .int .u64 (signed m q % 18446744073709551616)]) ∧ Below w.heap.size w w' := by
  have hq : q ≤ 9223372036854775808 := by
    unfold fitsS at hf
    rcases Bool.or_eq_true_iff.1 hf with h | h
    · have := of_decide_eq_true h; omega
    · have := of_decide_eq_true (Bool.and_eq_true_iff.1 h).1; omega
  have C := parts_any m 0 q (by omega) (by omega) (fun _ => by omega) (by omega) w
  rw [Nat.zero_mul, Nat.zero_add] at C
  exact C
theorem fit_range (m : Bool) (q : Nat) (hf : fitsS m q 63 = true) : -9223372036854775808 ≤ signed m q ∧ signed m q ≤ 9223372036854775807 := by
  unfold fitsS at hf
  unfold signed
  rcases Bool.or_eq_true_iff.1 hf with h | h
  · have := of_decide_eq_true h; split <;> omega
  · have h1 := of_decide_eq_true (Bool.and_eq_true_iff.1 h).1
    have h2 := (Bool.and_eq_true_iff.1 h).2
    rw [h2, if_pos rfl]; omega

set_option maxRecDepth 20000 in
set_option maxHeartbeats 3200000 in
theorem refDiv_arg (m : Bool) (n : Nat) (b mode : Int) (h : b = 0 ∨ mode < 0 ∨ 3 < mode) (w : World) :
    Calls Try.prog 39 #[.agg (numC m n).toArray, .int .i64 b, .int .i64 mode] w fun e w' =>
      e = .returned (.tuple #[.int .i64 0, .int .i64 1]) ∧ Below w.heap.size w w' := by
  by_cases hb : b = 0
  · subst hb
    clear h
    have M0 := Mem.start w
    go_enter Try.func39, Try.ntmps39
    go_wp2_with ((with_reducible refine (?_ : Go.wpList _ _ _ (_ :: _) _ _)); (first | go_skip | (refine wpL_bx M0 rfl rfl rfl rfl ?_; clear M0; intro g1 w1 M1) | (refine wpL_al M0 rfl rfl zero27 rfl ?_; clear M0; intro g1 w1 M1) | (refine wpL_al M0 rfl rfl zero29 rfl ?_; clear M0; intro g1 w1 M1) | (refine wpL_ld M0 rfl rfl rfl (by repeat (first | exact Has.head _ _ _ _ | apply Has.tail)) (by first | exact rd_num _ _ | exact rd_bits _ | exact rd_part _ _ | exact rd_minus _ _ | assumption) ?_) | (refine wpL_ldg M0 rfl rfl rfl (by repeat (first | exact Has.head _ _ _ _ | apply Has.tail)) (by first | exact rd_num _ _ | exact rd_bits _ | exact rd_part _ _ | exact rd_minus _ _ | assumption) ?_) | (refine wpN_1 rfl rfl rfl ?_) | (refine wpN_0 rfl rfl ?_) | (refine wpN_2 rfl rfl rfl rfl ?_) | (refine wpL_st M0 rfl rfl rfl rfl (by repeat (first | exact Has.head _ _ _ _ | apply Has.tail)) (by first | exact wr_num _ (numC_len _ _) _ _ | exact wr_bits _ (bitsC_len _) _ | exact wr_part _ _ _ | exact wr_minus _ _ _ | assumption) (by repeat (first | exact Upd.head _ _ _ _ _ | apply Upd.tail)) ?_; clear M0; intro w' M0) | (refine wpL_ld M1 rfl rfl rfl (by repeat (first | exact Has.head _ _ _ _ | apply Has.tail)) (by first | exact rd_num _ _ | exact rd_bits _ | exact rd_part _ _ | exact rd_minus _ _ | assumption) ?_) | (refine wpL_ldg M1 rfl rfl rfl (by repeat (first | exact Has.head _ _ _ _ | apply Has.tail)) (by first | exact rd_num _ _ | exact rd_bits _ | exact rd_part _ _ | exact rd_minus _ _ | assumption) ?_) | (refine wpN_1 rfl rfl rfl ?_) | (refine wpN_0 rfl rfl ?_) | (refine wpN_2 rfl rfl rfl rfl ?_) | (refine wpL_st M1 rfl rfl rfl rfl (by repeat (first | exact Has.head _ _ _ _ | apply Has.tail)) (by first | exact wr_num _ (numC_len _ _) _ _ | exact wr_bits _ (bitsC_len _) _ | exact wr_part _ _ _ | exact wr_minus _ _ _ | assumption) (by repeat (first | exact Upd.head _ _ _ _ _ | apply Upd.tail)) ?_; clear M1; intro w' M1)))
    go_ret2
    exact ⟨rfl, M1.below⟩
  · have hb2 : (b == 0) = false := by rw [beq_eq_false_iff_ne]; exact hb
    by_cases h1 : mode < 0
    · have hd : decide (mode < 0) = true := by simpa using h1
      clear h h1 hb
      have M0 := Mem.start w
      go_enter Try.func39, Try.ntmps39
      go_wp2_with ((with_reducible refine (?_ : Go.wpList _ _ _ (_ :: _) _ _)); (first | go_skip | (refine wpL_bx M0 rfl rfl rfl rfl ?_; clear M0; intro g1 w1 M1) | (refine wpL_al M0 rfl rfl zero27 rfl ?_; clear M0; intro g1 w1 M1) | (refine wpL_al M0 rfl rfl zero29 rfl ?_; clear M0; intro g1 w1 M1) | (refine wpL_ld M0 rfl rfl rfl (by repeat (first | exact Has.head _ _ _ _ | apply Has.tail)) (by first | exact rd_num _ _ | exact rd_bits _ | exact rd_part _ _ | exact rd_minus _ _ | assumption) ?_) | (refine wpL_ldg M0 rfl rfl rfl (by repeat (first | exact Has.head _ _ _ _ | apply Has.tail)) (by first | exact rd_num _ _ | exact rd_bits _ | exact rd_part _ _ | exact rd_minus _ _ | assumption) ?_) | (refine wpN_1 rfl rfl rfl ?_) | (refine wpN_0 rfl rfl ?_) | (refine wpN_2 rfl rfl rfl rfl ?_) | (refine wpL_st M0 rfl rfl rfl rfl (by repeat (first | exact Has.head _ _ _ _ | apply Has.tail)) (by first | exact wr_num _ (numC_len _ _) _ _ | exact wr_bits _ (bitsC_len _) _ | exact wr_part _ _ _ | exact wr_minus _ _ _ | assumption) (by repeat (first | exact Upd.head _ _ _ _ _ | apply Upd.tail)) ?_; clear M0; intro w' M0) | (refine wpL_ld M1 rfl rfl rfl (by repeat (first | exact Has.head _ _ _ _ | apply Has.tail)) (by first | exact rd_num _ _ | exact rd_bits _ | exact rd_part _ _ | exact rd_minus _ _ | assumption) ?_) | (refine wpL_ldg M1 rfl rfl rfl (by repeat (first | exact Has.head _ _ _ _ | apply Has.tail)) (by first | exact rd_num _ _ | exact rd_bits _ | exact rd_part _ _ | exact rd_minus _ _ | assumption) ?_) | (refine wpN_1 rfl rfl rfl ?_) | (refine wpN_0 rfl rfl ?_) | (refine wpN_2 rfl rfl rfl rfl ?_) | (refine wpL_st M1 rfl rfl rfl rfl (by repeat (first | exact Has.head _ _ _ _ | apply Has.tail)) (by first | exact wr_num _ (numC_len _ _) _ _ | exact wr_bits _ (bitsC_len _) _ | exact wr_part _ _ _ | exact wr_minus _ _ _ | assumption) (by repeat (first | exact Upd.head _ _ _ _ _ | apply Upd.tail)) ?_; clear M1; intro w' M1)))
      go_ret2
      exact ⟨rfl, M1.below⟩
    · have hd : decide (mode < 0) = false := by simpa using h1
      have hd2 : decide (3 < mode) = true := by simp only [decide_eq_true_eq]; omega
      clear h h1 hb
      have M0 := Mem.start w
      go_enter Try.func39, Try.ntmps39
      go_wp2_with ((with_reducible refine (?_ : Go.wpList _ _ _ (_ :: _) _ _)); (first | go_skip | (refine wpL_bx M0 rfl rfl rfl rfl ?_; clear M0; intro g1 w1 M1) | (refine wpL_al M0 rfl rfl zero27 rfl ?_; clear M0; intro g1 w1 M1) | (refine wpL_al M0 rfl rfl zero29 rfl ?_; clear M0; intro g1 w1 M1) | (refine wpL_ld M0 rfl rfl rfl (by repeat (first | exact Has.head _ _ _ _ | apply Has.tail)) (by first | exact rd_num _ _ | exact rd_bits _ | exact rd_part _ _ | exact rd_minus _ _ | assumption) ?_) | (refine wpL_ldg M0 rfl rfl rfl (by repeat (first | exact Has.head _ _ _ _ | apply Has.tail)) (by first | exact rd_num _ _ | exact rd_bits _ | exact rd_part _ _ | exact rd_minus _ _ | assumption) ?_) | (refine wpN_1 rfl rfl rfl ?_) | (refine wpN_0 rfl rfl ?_) | (refine wpN_2 rfl rfl rfl rfl ?_) | (refine wpL_st M0 rfl rfl rfl rfl (by repeat (first | exact Has.head _ _ _ _ | apply Has.tail)) (by first | exact wr_num _ (numC_len _ _) _ _ | exact wr_bits _ (bitsC_len _) _ | exact wr_part _ _ _ | exact wr_minus _ _ _ | assumption) (by repeat (first | exact Upd.head _ _ _ _ _ | apply Upd.tail)) ?_; clear M0; intro w' M0) | (refine wpL_ld M1 rfl rfl rfl (by repeat (first | exact Has.head _ _ _ _ | apply Has.tail)) (by first | exact rd_num _ _ | exact rd_bits _ | exact rd_part _ _ | exact rd_minus _ _ | assumption) ?_) | (refine wpL_ldg M1 rfl rfl rfl (by repeat (first | exact Has.head _ _ _ _ | apply Has.tail)) (by first | exact rd_num _ _ | exact rd_bits _ | exact rd_part _ _ | exact rd_minus _ _ | assumption) ?_) | (refine wpN_1 rfl rfl rfl ?_) | (refine wpN_0 rfl rfl ?_) | (refine wpN_2 rfl rfl rfl rfl ?_) | (refine wpL_st M1 rfl rfl rfl rfl (by repeat (first | exact Has.head _ _ _ _ | apply Has.tail)) (by first | exact wr_num _ (numC_len _ _) _ _ | exact wr_bits _ (bitsC_len _) _ | exact wr_part _ _ _ | exact wr_minus _ _ _ | assumption) (by repeat (first | exact Upd.head _ _ _ _ _ | apply Upd.tail)) ?_; clear M1; intro w' M1)))
      go_ret2
      exact ⟨rfl, M1.below⟩

set_option maxRecDepth 20000 in
set_option maxHeartbeats 3200000 in
theorem refDiv_true_zero (m : Bool) (n : Nat) (b mode : Int) (hn : n < 2 ^ 128) (hbr : -9223372036854775808 ≤ b ∧ b ≤ 9223372036854775807) (hb : b ≠ 0) (hm : 0 ≤ mode ∧ mode ≤ 3) (minus : Bool) (q : Nat)
    (hmin : minus = (m != decide (b < 0))) (hmo : moreS (n % b.natAbs) b.natAbs minus mode = true) (hqe : q = n / b.natAbs + if true then 1 else 0) (hz : q = 0) (w : World) :
    Calls Try.prog 39 #[.agg (numC m n).toArray, .int .i64 b, .int .i64 mode] w fun e w' =>
      e = .returned (.tuple #[.int .i64 0, .int .i64 0]) ∧ Below w.heap.size w w' := by
  have hb2 : (b == 0) = false := by rw [beq_eq_false_iff_ne]; exact hb
  have hd : decide (mode < 0) = false := by simp only [decide_eq_false_iff_not]; omega
  have hd2 : decide (3 < mode) = false := by simp only [decide_eq_false_iff_not]; omega
  have C1 := of_any b hbr
  have C2 := divide_any n b.natAbs (by omega) (by omega) (by omega)
  have hD : b.natAbs < 2 ^ 128 := by omega
  have hR : n % b.natAbs < 2 ^ 128 := Nat.lt_of_le_of_lt (Nat.mod_le _ _) hn
  have C3 := more_any (n % b.natAbs) b.natAbs minus mode hR hD hm
  have hq0 : n / b.natAbs < 2 ^ 128 := Nat.lt_of_le_of_lt (Nat.div_le_self _ _) hn
  have hq : q < 2 ^ 129 := by rw [hqe]; split <;> omega
  have C5 := fun mm => zero_any mm q hq
  have C6 := fun mm => fits_63 mm q hq
  rw [hmo] at C3
  obtain ⟨sb, hsb⟩ : ∃ sb, sb = decide (b < 0) := ⟨_, rfl⟩
  rw [← hsb] at C1 hmin
  obtain ⟨D, hDe⟩ : ∃ D, D = b.natAbs := ⟨_, rfl⟩
  rw [← hDe] at C1 C2 C3 hqe
  obtain ⟨q0, hq0e⟩ : ∃ q0, q0 = n / D := ⟨_, rfl⟩
  obtain ⟨r0, hr0e⟩ : ∃ r0, r0 = n % D := ⟨_, rfl⟩
  rw [← hq0e, ← hr0e] at C2
  rw [← hr0e] at C3
  rw [← hq0e] at hqe
  have hmin2 : (m == sb) = !minus := by rw [hmin]; cases m <;> cases sb <;> rfl
  rw [if_pos rfl] at hqe
  have W1 : Wr Try.prog 3 0 (bitsC 0) (.int .i64 1) (bitsC 1) := wr_bit 0 1 1 (by decide) (set_low 0 1 (by decide))
  have C4 := addBits_any q0 1
  rw [Nat.mod_eq_of_lt (show q0 + 1 < 2 ^ 129 by omega), ← hqe] at C4
  rw [decide_eq_true hz] at C5
  clear C6
  clear hn hbr hb hm hmin hmo hD hR hq0 hq hsb hDe hq0e hr0e hz
  clear hqe
  have M0 := Mem.start w
  go_enter Try.func39, Try.ntmps39
  go_wp2_with ((with_reducible refine (?_ : Go.wpList _ _ _ (_ :: _) _ _)); (first | go_skip | (refine wpL_bx M0 rfl rfl rfl rfl ?_; clear M0; intro g1 w1 M1) | (refine wpL_al M0 rfl rfl zero27 rfl ?_; clear M0; intro g1 w1 M1) | (refine wpL_al M0 rfl rfl zero29 rfl ?_; clear M0; intro g1 w1 M1) | (refine wpL_ld M0 rfl rfl rfl (by repeat (first | exact Has.head _ _ _ _ | apply Has.tail)) (by first | exact rd_num _ _ | exact rd_bits _ | exact rd_part _ _ | exact rd_minus _ _ | assumption) ?_) | (refine wpL_ldg M0 rfl rfl rfl (by repeat (first | exact Has.head _ _ _ _ | apply Has.tail)) (by first | exact rd_num _ _ | exact rd_bits _ | exact rd_part _ _ | exact rd_minus _ _ | assumption) ?_) | (refine wpN_1 rfl rfl rfl ?_) | (refine wpN_0 rfl rfl ?_) | (refine wpN_2 rfl rfl rfl rfl ?_) | (refine wpL_st M0 rfl rfl rfl rfl (by repeat (first | exact Has.head _ _ _ _ | apply Has.tail)) (by first | exact wr_num _ (numC_len _ _) _ _ | exact wr_bits _ (bitsC_len _) _ | exact wr_part _ _ _ | exact wr_minus _ _ _ | assumption) (by repeat (first | exact Upd.head _ _ _ _ _ | apply Upd.tail)) ?_; clear M0; intro w' M0) | (refine wpL_ld M1 rfl rfl rfl (by repeat (first | exact Has.head _ _ _ _ | apply Has.tail)) (by first | exact rd_num _ _ | exact rd_bits _ | exact rd_part _ _ | exact rd_minus _ _ | assumption) ?_) | (refine wpL_ldg M1 rfl rfl rfl (by repeat (first | exact Has.head _ _ _ _ | apply Has.tail)) (by first | exact rd_num _ _ | exact rd_bits _ | exact rd_part _ _ | exact rd_minus _ _ | assumption) ?_) | (refine wpN_1 rfl rfl rfl ?_) | (refine wpN_0 rfl rfl ?_) | (refine wpN_2 rfl rfl rfl rfl ?_) | (refine wpL_st M1 rfl rfl rfl rfl (by repeat (first | exact Has.head _ _ _ _ | apply Has.tail)) (by first | exact wr_num _ (numC_len _ _) _ _ | exact wr_bits _ (bitsC_len _) _ | exact wr_part _ _ _ | exact wr_minus _ _ _ | assumption) (by repeat (first | exact Upd.head _ _ _ _ _ | apply Upd.tail)) ?_; clear M1; intro w' M1)))
  refine (C1 _).mono ?_
  rintro e w2 ⟨rfl, hBl⟩
  replace M1 := M1.call hBl
  clear hBl C1
  go_wp2_with ((with_reducible refine (?_ : Go.wpList _ _ _ (_ :: _) _ _)); (first | go_skip | (refine wpL_bx M1 rfl rfl rfl rfl ?_; clear M1; intro g2 w2 M2) | (refine wpL_al M1 rfl rfl zero27 rfl ?_; clear M1; intro g2 w2 M2) | (refine wpL_al M1 rfl rfl zero29 rfl ?_; clear M1; intro g2 w2 M2) | (refine wpL_ld M1 rfl rfl rfl (by repeat (first | exact Has.head _ _ _ _ | apply Has.tail)) (by first | exact rd_num _ _ | exact rd_bits _ | exact rd_part _ _ | exact rd_minus _ _ | assumption) ?_) | (refine wpL_ldg M1 rfl rfl rfl (by repeat (first | exact Has.head _ _ _ _ | apply Has.tail)) (by first | exact rd_num _ _ | exact rd_bits _ | exact rd_part _ _ | exact rd_minus _ _ | assumption) ?_) | (refine wpN_1 rfl rfl rfl ?_) | (refine wpN_0 rfl rfl ?_) | (refine wpN_2 rfl rfl rfl rfl ?_) | (refine wpL_st M1 rfl rfl rfl rfl (by repeat (first | exact Has.head _ _ _ _ | apply Has.tail)) (by first | exact wr_num _ (numC_len _ _) _ _ | exact wr_bits _ (bitsC_len _) _ | exact wr_part _ _ _ | exact wr_minus _ _ _ | assumption) (by repeat (first | exact Upd.head _ _ _ _ _ | apply Upd.tail)) ?_; clear M1; intro w' M1) | (refine wpL_ld M2 rfl rfl rfl (by repeat (first | exact Has.head _ _ _ _ | apply Has.tail)) (by first | exact rd_num _ _ | exact rd_bits _ | exact rd_part _ _ | exact rd_minus _ _ | assumption) ?_) | (refine wpL_ldg M2 rfl rfl rfl (by repeat (first | exact Has.head _ _ _ _ | apply Has.tail)) (by first | exact rd_num _ _ | exact rd_bits _ | exact rd_part _ _ | exact rd_minus _ _ | assumption) ?_) | (refine wpN_1 rfl rfl rfl ?_) | (refine wpN_0 rfl rfl ?_) | (refine wpN_2 rfl rfl rfl rfl ?_) | (refine wpL_st M2 rfl rfl rfl rfl (by repeat (first | exact Has.head _ _ _ _ | apply Has.tail)) (by first | exact wr_num _ (numC_len _ _) _ _ | exact wr_bits _ (bitsC_len _) _ | exact wr_part _ _ _ | exact wr_minus _ _ _ | assumption) (by repeat (first | exact Upd.head _ _ _ _ _ | apply Upd.tail)) ?_; clear M2; intro w' M2)))
  refine (C2 _).mono ?_
  rintro e w2 ⟨rfl, hBl⟩
  replace M2 := M2.call hBl
  clear hBl C2
  go_wp2_with ((with_reducible refine (?_ : Go.wpList _ _ _ (_ :: _) _ _)); (first | go_skip | (refine wpL_bx M2 rfl rfl rfl rfl ?_; clear M2; intro g3 w3 M3) | (refine wpL_al M2 rfl rfl zero27 rfl ?_; clear M2; intro g3 w3 M3) | (refine wpL_al M2 rfl rfl zero29 rfl ?_; clear M2; intro g3 w3 M3) | (refine wpL_ld M2 rfl rfl rfl (by repeat (first | exact Has.head _ _ _ _ | apply Has.tail)) (by first | exact rd_num _ _ | exact rd_bits _ | exact rd_part _ _ | exact rd_minus _ _ | assumption) ?_) | (refine wpL_ldg M2 rfl rfl rfl (by repeat (first | exact Has.head _ _ _ _ | apply Has.tail)) (by first | exact rd_num _ _ | exact rd_bits _ | exact rd_part _ _ | exact rd_minus _ _ | assumption) ?_) | (refine wpN_1 rfl rfl rfl ?_) | (refine wpN_0 rfl rfl ?_) | (refine wpN_2 rfl rfl rfl rfl ?_) | (refine wpL_st M2 rfl rfl rfl rfl (by repeat (first | exact Has.head _ _ _ _ | apply Has.tail)) (by first | exact wr_num _ (numC_len _ _) _ _ | exact wr_bits _ (bitsC_len _) _ | exact wr_part _ _ _ | exact wr_minus _ _ _ | assumption) (by repeat (first | exact Upd.head _ _ _ _ _ | apply Upd.tail)) ?_; clear M2; intro w' M2) | (refine wpL_bx M3 rfl rfl rfl rfl ?_; clear M3; intro g4 w4 M4) | (refine wpL_al M3 rfl rfl zero27 rfl ?_; clear M3; intro g4 w4 M4) | (refine wpL_al M3 rfl rfl zero29 rfl ?_; clear M3; intro g4 w4 M4) | (refine wpL_ld M3 rfl rfl rfl (by repeat (first | exact Has.head _ _ _ _ | apply Has.tail)) (by first | exact rd_num _ _ | exact rd_bits _ | exact rd_part _ _ | exact rd_minus _ _ | assumption) ?_) | (refine wpL_ldg M3 rfl rfl rfl (by repeat (first | exact Has.head _ _ _ _ | apply Has.tail)) (by first | exact rd_num _ _ | exact rd_bits _ | exact rd_part _ _ | exact rd_minus _ _ | assumption) ?_) | (refine wpN_1 rfl rfl rfl ?_) | (refine wpN_0 rfl rfl ?_) | (refine wpN_2 rfl rfl rfl rfl ?_) | (refine wpL_st M3 rfl rfl rfl rfl (by repeat (first | exact Has.head _ _ _ _ | apply Has.tail)) (by first | exact wr_num _ (numC_len _ _) _ _ | exact wr_bits _ (bitsC_len _) _ | exact wr_part _ _ _ | exact wr_minus _ _ _ | assumption) (by repeat (first | exact Upd.head _ _ _ _ _ | apply Upd.tail)) ?_; clear M3; intro w' M3) | (refine wpL_ld M4 rfl rfl rfl (by repeat (first | exact Has.head _ _ _ _ | apply Has.tail)) (by first | exact rd_num _ _ | exact rd_bits _ | exact rd_part _ _ | exact rd_minus _ _ | assumption) ?_) | (refine wpL_ldg M4 rfl rfl rfl (by repeat (first | exact Has.head _ _ _ _ | apply Has.tail)) (by first | exact rd_num _ _ | exact rd_bits _ | exact rd_part _ _ | exact rd_minus _ _ | assumption) ?_) | (refine wpN_1 rfl rfl rfl ?_) | (refine wpN_0 rfl rfl ?_) | (refine wpN_2 rfl rfl rfl rfl ?_) | (refine wpL_st M4 rfl rfl rfl rfl (by repeat (first | exact Has.head _ _ _ _ | apply Has.tail)) (by first | exact wr_num _ (numC_len _ _) _ _ | exact wr_bits _ (bitsC_len _) _ | exact wr_part _ _ _ | exact wr_minus _ _ _ | assumption) (by repeat (first | exact Upd.head _ _ _ _ _ | apply Upd.tail)) ?_; clear M4; intro w' M4)))
  refine (C3 _).mono ?_
  rintro e w2 ⟨rfl, hBl⟩
  replace M4 := M4.call hBl
  clear hBl C3
  go_wp2_with ((with_reducible refine (?_ : Go.wpList _ _ _ (_ :: _) _ _)); (first | go_skip | (refine wpL_bx M4 rfl rfl rfl rfl ?_; clear M4; intro g5 w5 M5) | (refine wpL_al M4 rfl rfl zero27 rfl ?_; clear M4; intro g5 w5 M5) | (refine wpL_al M4 rfl rfl zero29 rfl ?_; clear M4; intro g5 w5 M5) | (refine wpL_ld M4 rfl rfl rfl (by repeat (first | exact Has.head _ _ _ _ | apply Has.tail)) (by first | exact rd_num _ _ | exact rd_bits _ | exact rd_part _ _ | exact rd_minus _ _ | assumption) ?_) | (refine wpL_ldg M4 rfl rfl rfl (by repeat (first | exact Has.head _ _ _ _ | apply Has.tail)) (by first | exact rd_num _ _ | exact rd_bits _ | exact rd_part _ _ | exact rd_minus _ _ | assumption) ?_) | (refine wpN_1 rfl rfl rfl ?_) | (refine wpN_0 rfl rfl ?_) | (refine wpN_2 rfl rfl rfl rfl ?_) | (refine wpL_st M4 rfl rfl rfl rfl (by repeat (first | exact Has.head _ _ _ _ | apply Has.tail)) (by first | exact wr_num _ (numC_len _ _) _ _ | exact wr_bits _ (bitsC_len _) _ | exact wr_part _ _ _ | exact wr_minus _ _ _ | assumption) (by repeat (first | exact Upd.head _ _ _ _ _ | apply Upd.tail)) ?_; clear M4; intro w' M4) | (refine wpL_ld M5 rfl rfl rfl (by repeat (first | exact Has.head _ _ _ _ | apply Has.tail)) (by first | exact rd_num _ _ | exact rd_bits _ | exact rd_part _ _ | exact rd_minus _ _ | assumption) ?_) | (refine wpL_ldg M5 rfl rfl rfl (by repeat (first | exact Has.head _ _ _ _ | apply Has.tail)) (by first | exact rd_num _ _ | exact rd_bits _ | exact rd_part _ _ | exact rd_minus _ _ | assumption) ?_) | (refine wpN_1 rfl rfl rfl ?_) | (refine wpN_0 rfl rfl ?_) | (refine wpN_2 rfl rfl rfl rfl ?_) | (refine wpL_st M5 rfl rfl rfl rfl (by repeat (first | exact Has.head _ _ _ _ | apply Has.tail)) (by first | exact wr_num _ (numC_len _ _) _ _ | exact wr_bits _ (bitsC_len _) _ | exact wr_part _ _ _ | exact wr_minus _ _ _ | assumption) (by repeat (first | exact Upd.head _ _ _ _ _ | apply Upd.tail)) ?_; clear M5; intro w' M5)))
  refine (C4 _).mono ?_
  rintro e w2 ⟨rfl, hBl⟩
  replace M5 := M5.call hBl
  clear hBl C4
  go_wp2_with ((with_reducible refine (?_ : Go.wpList _ _ _ (_ :: _) _ _)); (first | go_skip | (refine wpL_bx M5 rfl rfl rfl rfl ?_; clear M5; intro g6 w6 M6) | (refine wpL_al M5 rfl rfl zero27 rfl ?_; clear M5; intro g6 w6 M6) | (refine wpL_al M5 rfl rfl zero29 rfl ?_; clear M5; intro g6 w6 M6) | (refine wpL_ld M5 rfl rfl rfl (by repeat (first | exact Has.head _ _ _ _ | apply Has.tail)) (by first | exact rd_num _ _ | exact rd_bits _ | exact rd_part _ _ | exact rd_minus _ _ | assumption) ?_) | (refine wpL_ldg M5 rfl rfl rfl (by repeat (first | exact Has.head _ _ _ _ | apply Has.tail)) (by first | exact rd_num _ _ | exact rd_bits _ | exact rd_part _ _ | exact rd_minus _ _ | assumption) ?_) | (refine wpN_1 rfl rfl rfl ?_) | (refine wpN_0 rfl rfl ?_) | (refine wpN_2 rfl rfl rfl rfl ?_) | (refine wpL_st M5 rfl rfl rfl rfl (by repeat (first | exact Has.head _ _ _ _ | apply Has.tail)) (by first | exact wr_num _ (numC_len _ _) _ _ | exact wr_bits _ (bitsC_len _) _ | exact wr_part _ _ _ | exact wr_minus _ _ _ | assumption) (by repeat (first | exact Upd.head _ _ _ _ _ | apply Upd.tail)) ?_; clear M5; intro w' M5) | (refine wpL_ld M6 rfl rfl rfl (by repeat (first | exact Has.head _ _ _ _ | apply Has.tail)) (by first | exact rd_num _ _ | exact rd_bits _ | exact rd_part _ _ | exact rd_minus _ _ | assumption) ?_) | (refine wpL_ldg M6 rfl rfl rfl (by repeat (first | exact Has.head _ _ _ _ | apply Has.tail)) (by first | exact rd_num _ _ | exact rd_bits _ | exact rd_part _ _ | exact rd_minus _ _ | assumption) ?_) | (refine wpN_1 rfl rfl rfl ?_) | (refine wpN_0 rfl rfl ?_) | (refine wpN_2 rfl rfl rfl rfl ?_) | (refine wpL_st M6 rfl rfl rfl rfl (by repeat (first | exact Has.head _ _ _ _ | apply Has.tail)) (by first | exact wr_num _ (numC_len _ _) _ _ | exact wr_bits _ (bitsC_len _) _ | exact wr_part _ _ _ | exact wr_minus _ _ _ | assumption) (by repeat (first | exact Upd.head _ _ _ _ _ | apply Upd.tail)) ?_; clear M6; intro w' M6)))
  refine (C5 _ _).mono ?_
  rintro e w2 ⟨rfl, hBl⟩
  replace M6 := M6.call hBl
  clear hBl C5
  go_wp2_with ((with_reducible refine (?_ : Go.wpList _ _ _ (_ :: _) _ _)); (first | go_skip | (refine wpL_ld M6 rfl rfl rfl (by repeat (first | exact Has.head _ _ _ _ | apply Has.tail)) (by first | exact rd_num _ _ | exact rd_bits _ | exact rd_part _ _ | exact rd_minus _ _ | assumption) ?_) | (refine wpL_ldg M6 rfl rfl rfl (by repeat (first | exact Has.head _ _ _ _ | apply Has.tail)) (by first | exact rd_num _ _ | exact rd_bits _ | exact rd_part _ _ | exact rd_minus _ _ | assumption) ?_) | (refine wpN_1 rfl rfl rfl ?_) | (refine wpN_0 rfl rfl ?_) | (refine wpN_2 rfl rfl rfl rfl ?_) | (refine wpL_st M6 rfl rfl rfl rfl (by repeat (first | exact Has.head _ _ _ _ | apply Has.tail)) (by first | exact wr_num _ (numC_len _ _) _ _ | exact wr_bits _ (bitsC_len _) _ | exact wr_part _ _ _ | exact wr_minus _ _ _ | assumption) (by repeat (first | exact Upd.head _ _ _ _ _ | apply Upd.tail)) ?_; clear M6; intro w' M6)))
  go_ret2
  exact ⟨rfl, M6.below⟩

set_option maxRecDepth 20000 in
set_option maxHeartbeats 3200000 in
theorem refDiv_true_big (m : Bool) (n : Nat) (b mode : Int) (hn : n < 2 ^ 128) (hbr : -9223372036854775808 ≤ b ∧ b ≤ 9223372036854775807) (hb : b ≠ 0) (hm : 0 ≤ mode ∧ mode ≤ 3) (minus : Bool) (q : Nat)
    (hmin : minus = (m != decide (b < 0))) (hmo : moreS (n % b.natAbs) b.natAbs minus mode = true) (hqe : q = n / b.natAbs + if true then 1 else 0) (hz : q ≠ 0) (hf : fitsS minus q 63 = false) (w : World) :
    Calls Try.prog 39 #[.agg (numC m n).toArray, .int .i64 b, .int .i64 mode] w fun e w' =>
      e = .returned (.tuple #[.int .i64 0, .int .i64 10]) ∧ Below w.heap.size w w' := by
  have hb2 : (b == 0) = false := by rw [beq_eq_false_iff_ne]; exact hb
  have hd : decide (mode < 0) = false := by simp only [decide_eq_false_iff_not]; omega
  have hd2 : decide (3 < mode) = false := by simp only [decide_eq_false_iff_not]; omega
  have C1 := of_any b hbr
  have C2 := divide_any n b.natAbs (by omega) (by omega) (by omega)
  have hD : b.natAbs < 2 ^ 128 := by omega
  have hR : n % b.natAbs < 2 ^ 128 := Nat.lt_of_le_of_lt (Nat.mod_le _ _) hn
  have C3 := more_any (n % b.natAbs) b.natAbs minus mode hR hD hm
  have hq0 : n / b.natAbs < 2 ^ 128 := Nat.lt_of_le_of_lt (Nat.div_le_self _ _) hn
  have hq : q < 2 ^ 129 := by rw [hqe]; split <;> omega
  have C5 := fun mm => zero_any mm q hq
  have C6 := fun mm => fits_63 mm q hq
  rw [hmo] at C3
  obtain ⟨sb, hsb⟩ : ∃ sb, sb = decide (b < 0) := ⟨_, rfl⟩
  rw [← hsb] at C1 hmin
  obtain ⟨D, hDe⟩ : ∃ D, D = b.natAbs := ⟨_, rfl⟩
  rw [← hDe] at C1 C2 C3 hqe
  obtain ⟨q0, hq0e⟩ : ∃ q0, q0 = n / D := ⟨_, rfl⟩
  obtain ⟨r0, hr0e⟩ : ∃ r0, r0 = n % D := ⟨_, rfl⟩
  rw [← hq0e, ← hr0e] at C2
  rw [← hr0e] at C3
  rw [← hq0e] at hqe
  have hmin2 : (m == sb) = !minus := by rw [hmin]; cases m <;> cases sb <;> rfl
  rw [if_pos rfl] at hqe
  have W1 : Wr Try.prog 3 0 (bitsC 0) (.int .i64 1) (bitsC 1) := wr_bit 0 1 1 (by decide) (set_low 0 1 (by decide))
  have C4 := addBits_any q0 1
  rw [Nat.mod_eq_of_lt (show q0 + 1 < 2 ^ 129 by omega), ← hqe] at C4
  rw [decide_eq_false hz] at C5
  replace C6 := C6 minus
  rw [hf] at C6
  clear hf
  clear hn hbr hb hm hmin hmo hD hR hq0 hq hsb hDe hq0e hr0e hz
  clear hqe
  have M0 := Mem.start w
  go_enter Try.func39, Try.ntmps39
  go_wp2_with ((with_reducible refine (?_ : Go.wpList _ _ _ (_ :: _) _ _)); (first | go_skip | (refine wpL_bx M0 rfl rfl rfl rfl ?_; clear M0; intro g1 w1 M1) | (refine wpL_al M0 rfl rfl zero27 rfl ?_; clear M0; intro g1 w1 M1) | (refine wpL_al M0 rfl rfl zero29 rfl ?_; clear M0; intro g1 w1 M1) | (refine wpL_ld M0 rfl rfl rfl (by repeat (first | exact Has.head _ _ _ _ | apply Has.tail)) (by first | exact rd_num _ _ | exact rd_bits _ | exact rd_part _ _ | exact rd_minus _ _ | assumption) ?_) | (refine wpL_ldg M0 rfl rfl rfl (by repeat (first | exact Has.head _ _ _ _ | apply Has.tail)) (by first | exact rd_num _ _ | exact rd_bits _ | exact rd_part _ _ | exact rd_minus _ _ | assumption) ?_) | (refine wpN_1 rfl rfl rfl ?_) | (refine wpN_0 rfl rfl ?_) | (refine wpN_2 rfl rfl rfl rfl ?_) | (refine wpL_st M0 rfl rfl rfl rfl (by repeat (first | exact Has.head _ _ _ _ | apply Has.tail)) (by first | exact wr_num _ (numC_len _ _) _ _ | exact wr_bits _ (bitsC_len _) _ | exact wr_part _ _ _ | exact wr_minus _ _ _ | assumption) (by repeat (first | exact Upd.head _ _ _ _ _ | apply Upd.tail)) ?_; clear M0; intro w' M0) | (refine wpL_ld M1 rfl rfl rfl (by repeat (first | exact Has.head _ _ _ _ | apply Has.tail)) (by first | exact rd_num _ _ | exact rd_bits _ | exact rd_part _ _ | exact rd_minus _ _ | assumption) ?_) | (refine wpL_ldg M1 rfl rfl rfl (by repeat (first | exact Has.head _ _ _ _ | apply Has.tail)) (by first | exact rd_num _ _ | exact rd_bits _ | exact rd_part _ _ | exact rd_minus _ _ | assumption) ?_) | (refine wpN_1 rfl rfl rfl ?_) | (refine wpN_0 rfl rfl ?_) | (refine wpN_2 rfl rfl rfl rfl ?_) | (refine wpL_st M1 rfl rfl rfl rfl (by repeat (first | exact Has.head _ _ _ _ | apply Has.tail)) (by first | exact wr_num _ (numC_len _ _) _ _ | exact wr_bits _ (bitsC_len _) _ | exact wr_part _ _ _ | exact wr_minus _ _ _ | assumption) (by repeat (first | exact Upd.head _ _ _ _ _ | apply Upd.tail)) ?_; clear M1; intro w' M1)))
  refine (C1 _).mono ?_
  rintro e w2 ⟨rfl, hBl⟩
  replace M1 := M1.call hBl
  clear hBl C1
  go_wp2_with ((with_reducible refine (?_ : Go.wpList _ _ _ (_ :: _) _ _)); (first | go_skip | (refine wpL_bx M1 rfl rfl rfl rfl ?_; clear M1; intro g2 w2 M2) | (refine wpL_al M1 rfl rfl zero27 rfl ?_; clear M1; intro g2 w2 M2) | (refine wpL_al M1 rfl rfl zero29 rfl ?_; clear M1; intro g2 w2 M2) | (refine wpL_ld M1 rfl rfl rfl (by repeat (first | exact Has.head _ _ _ _ | apply Has.tail)) (by first | exact rd_num _ _ | exact rd_bits _ | exact rd_part _ _ | exact rd_minus _ _ | assumption) ?_) | (refine wpL_ldg M1 rfl rfl rfl (by repeat (first | exact Has.head _ _ _ _ | apply Has.tail)) (by first | exact rd_num _ _ | exact rd_bits _ | exact rd_part _ _ | exact rd_minus _ _ | assumption) ?_) | (refine wpN_1 rfl rfl rfl ?_) | (refine wpN_0 rfl rfl ?_) | (refine wpN_2 rfl rfl rfl rfl ?_) | (refine wpL_st M1 rfl rfl rfl rfl (by repeat (first | exact Has.head _ _ _ _ | apply Has.tail)) (by first | exact wr_num _ (numC_len _ _) _ _ | exact wr_bits _ (bitsC_len _) _ | exact wr_part _ _ _ | exact wr_minus _ _ _ | assumption) (by repeat (first | exact Upd.head _ _ _ _ _ | apply Upd.tail)) ?_; clear M1; intro w' M1) | (refine wpL_ld M2 rfl rfl rfl (by repeat (first | exact Has.head _ _ _ _ | apply Has.tail)) (by first | exact rd_num _ _ | exact rd_bits _ | exact rd_part _ _ | exact rd_minus _ _ | assumption) ?_) | (refine wpL_ldg M2 rfl rfl rfl (by repeat (first | exact Has.head _ _ _ _ | apply Has.tail)) (by first | exact rd_num _ _ | exact rd_bits _ | exact rd_part _ _ | exact rd_minus _ _ | assumption) ?_) | (refine wpN_1 rfl rfl rfl ?_) | (refine wpN_0 rfl rfl ?_) | (refine wpN_2 rfl rfl rfl rfl ?_) | (refine wpL_st M2 rfl rfl rfl rfl (by repeat (first | exact Has.head _ _ _ _ | apply Has.tail)) (by first | exact wr_num _ (numC_len _ _) _ _ | exact wr_bits _ (bitsC_len _) _ | exact wr_part _ _ _ | exact wr_minus _ _ _ | assumption) (by repeat (first | exact Upd.head _ _ _ _ _ | apply Upd.tail)) ?_; clear M2; intro w' M2)))
  refine (C2 _).mono ?_
  rintro e w2 ⟨rfl, hBl⟩
  replace M2 := M2.call hBl
  clear hBl C2
  go_wp2_with ((with_reducible refine (?_ : Go.wpList _ _ _ (_ :: _) _ _)); (first | go_skip | (refine wpL_bx M2 rfl rfl rfl rfl ?_; clear M2; intro g3 w3 M3) | (refine wpL_al M2 rfl rfl zero27 rfl ?_; clear M2; intro g3 w3 M3) | (refine wpL_al M2 rfl rfl zero29 rfl ?_; clear M2; intro g3 w3 M3) | (refine wpL_ld M2 rfl rfl rfl (by repeat (first | exact Has.head _ _ _ _ | apply Has.tail)) (by first | exact rd_num _ _ | exact rd_bits _ | exact rd_part _ _ | exact rd_minus _ _ | assumption) ?_) | (refine wpL_ldg M2 rfl rfl rfl (by repeat (first | exact Has.head _ _ _ _ | apply Has.tail)) (by first | exact rd_num _ _ | exact rd_bits _ | exact rd_part _ _ | exact rd_minus _ _ | assumption) ?_) | (refine wpN_1 rfl rfl rfl ?_) | (refine wpN_0 rfl rfl ?_) | (refine wpN_2 rfl rfl rfl rfl ?_) | (refine wpL_st M2 rfl rfl rfl rfl (by repeat (first | exact Has.head _ _ _ _ | apply Has.tail)) (by first | exact wr_num _ (numC_len _ _) _ _ | exact wr_bits _ (bitsC_len _) _ | exact wr_part _ _ _ | exact wr_minus _ _ _ | assumption) (by repeat (first | exact Upd.head _ _ _ _ _ | apply Upd.tail)) ?_; clear M2; intro w' M2) | (refine wpL_bx M3 rfl rfl rfl rfl ?_; clear M3; intro g4 w4 M4) | (refine wpL_al M3 rfl rfl zero27 rfl ?_; clear M3; intro g4 w4 M4) | (refine wpL_al M3 rfl rfl zero29 rfl ?_; clear M3; intro g4 w4 M4) | (refine wpL_ld M3 rfl rfl rfl (by repeat (first | exact Has.head _ _ _ _ | apply Has.tail)) (by first | exact rd_num _ _ | exact rd_bits _ | exact rd_part _ _ | exact rd_minus _ _ | assumption) ?_) | (refine wpL_ldg M3 rfl rfl rfl (by repeat (first | exact Has.head _ _ _ _ | apply Has.tail)) (by first | exact rd_num _ _ | exact rd_bits _ | exact rd_part _ _ | exact rd_minus _ _ | assumption) ?_) | (refine wpN_1 rfl rfl rfl ?_) | (refine wpN_0 rfl rfl ?_) | (refine wpN_2 rfl rfl rfl rfl ?_) | (refine wpL_st M3 rfl rfl rfl rfl (by repeat (first | exact Has.head _ _ _ _ | apply Has.tail)) (by first | exact wr_num _ (numC_len _ _) _ _ | exact wr_bits _ (bitsC_len _) _ | exact wr_part _ _ _ | exact wr_minus _ _ _ | assumption) (by repeat (first | exact Upd.head _ _ _ _ _ | apply Upd.tail)) ?_; clear M3; intro w' M3) | (refine wpL_ld M4 rfl rfl rfl (by repeat (first | exact Has.head _ _ _ _ | apply Has.tail)) (by first | exact rd_num _ _ | exact rd_bits _ | exact rd_part _ _ | exact rd_minus _ _ | assumption) ?_) | (refine wpL_ldg M4 rfl rfl rfl (by repeat (first | exact Has.head _ _ _ _ | apply Has.tail)) (by first | exact rd_num _ _ | exact rd_bits _ | exact rd_part _ _ | exact rd_minus _ _ | assumption) ?_) | (refine wpN_1 rfl rfl rfl ?_) | (refine wpN_0 rfl rfl ?_) | (refine wpN_2 rfl rfl rfl rfl ?_) | (refine wpL_st M4 rfl rfl rfl rfl (by repeat (first | exact Has.head _ _ _ _ | apply Has.tail)) (by first | exact wr_num _ (numC_len _ _) _ _ | exact wr_bits _ (bitsC_len _) _ | exact wr_part _ _ _ | exact wr_minus _ _ _ | assumption) (by repeat (first | exact Upd.head _ _ _ _ _ | apply Upd.tail)) ?_; clear M4; intro w' M4)))
  refine (C3 _).mono ?_
  rintro e w2 ⟨rfl, hBl⟩
  replace M4 := M4.call hBl
  clear hBl C3
  go_wp2_with ((with_reducible refine (?_ : Go.wpList _ _ _ (_ :: _) _ _)); (first | go_skip | (refine wpL_bx M4 rfl rfl rfl rfl ?_; clear M4; intro g5 w5 M5) | (refine wpL_al M4 rfl rfl zero27 rfl ?_; clear M4; intro g5 w5 M5) | (refine wpL_al M4 rfl rfl zero29 rfl ?_; clear M4; intro g5 w5 M5) | (refine wpL_ld M4 rfl rfl rfl (by repeat (first | exact Has.head _ _ _ _ | apply Has.tail)) (by first | exact rd_num _ _ | exact rd_bits _ | exact rd_part _ _ | exact rd_minus _ _ | assumption) ?_) | (refine wpL_ldg M4 rfl rfl rfl (by repeat (first | exact Has.head _ _ _ _ | apply Has.tail)) (by first | exact rd_num _ _ | exact rd_bits _ | exact rd_part _ _ | exact rd_minus _ _ | assumption) ?_) | (refine wpN_1 rfl rfl rfl ?_) | (refine wpN_0 rfl rfl ?_) | (refine wpN_2 rfl rfl rfl rfl ?_) | (refine wpL_st M4 rfl rfl rfl rfl (by repeat (first | exact Has.head _ _ _ _ | apply Has.tail)) (by first | exact wr_num _ (numC_len _ _) _ _ | exact wr_bits _ (bitsC_len _) _ | exact wr_part _ _ _ | exact wr_minus _ _ _ | assumption) (by repeat (first | exact Upd.head _ _ _ _ _ | apply Upd.tail)) ?_; clear M4; intro w' M4) | (refine wpL_ld M5 rfl rfl rfl (by repeat (first | exact Has.head _ _ _ _ | apply Has.tail)) (by first | exact rd_num _ _ | exact rd_bits _ | exact rd_part _ _ | exact rd_minus _ _ | assumption) ?_) | (refine wpL_ldg M5 rfl rfl rfl (by repeat (first | exact Has.head _ _ _ _ | apply Has.tail)) (by first | exact rd_num _ _ | exact rd_bits _ | exact rd_part _ _ | exact rd_minus _ _ | assumption) ?_) | (refine wpN_1 rfl rfl rfl ?_) | (refine wpN_0 rfl rfl ?_) | (refine wpN_2 rfl rfl rfl rfl ?_) | (refine wpL_st M5 rfl rfl rfl rfl (by repeat (first | exact Has.head _ _ _ _ | apply Has.tail)) (by first | exact wr_num _ (numC_len _ _) _ _ | exact wr_bits _ (bitsC_len _) _ | exact wr_part _ _ _ | exact wr_minus _ _ _ | assumption) (by repeat (first | exact Upd.head _ _ _ _ _ | apply Upd.tail)) ?_; clear M5; intro w' M5)))
  refine (C4 _).mono ?_
  rintro e w2 ⟨rfl, hBl⟩
  replace M5 := M5.call hBl
  clear hBl C4
  go_wp2_with ((with_reducible refine (?_ : Go.wpList _ _ _ (_ :: _) _ _)); (first | go_skip | (refine wpL_bx M5 rfl rfl rfl rfl ?_; clear M5; intro g6 w6 M6) | (refine wpL_al M5 rfl rfl zero27 rfl ?_; clear M5; intro g6 w6 M6) | (refine wpL_al M5 rfl rfl zero29 rfl ?_; clear M5; intro g6 w6 M6) | (refine wpL_ld M5 rfl rfl rfl (by repeat (first | exact Has.head _ _ _ _ | apply Has.tail)) (by first | exact rd_num _ _ | exact rd_bits _ | exact rd_part _ _ | exact rd_minus _ _ | assumption) ?_) | (refine wpL_ldg M5 rfl rfl rfl (by repeat (first | exact Has.head _ _ _ _ | apply Has.tail)) (by first | exact rd_num _ _ | exact rd_bits _ | exact rd_part _ _ | exact rd_minus _ _ | assumption) ?_) | (refine wpN_1 rfl rfl rfl ?_) | (refine wpN_0 rfl rfl ?_) | (refine wpN_2 rfl rfl rfl rfl ?_) | (refine wpL_st M5 rfl rfl rfl rfl (by repeat (first | exact Has.head _ _ _ _ | apply Has.tail)) (by first | exact wr_num _ (numC_len _ _) _ _ | exact wr_bits _ (bitsC_len _) _ | exact wr_part _ _ _ | exact wr_minus _ _ _ | assumption) (by repeat (first | exact Upd.head _ _ _ _ _ | apply Upd.tail)) ?_; clear M5; intro w' M5) | (refine wpL_ld M6 rfl rfl rfl (by repeat (first | exact Has.head _ _ _ _ | apply Has.tail)) (by first | exact rd_num _ _ | exact rd_bits _ | exact rd_part _ _ | exact rd_minus _ _ | assumption) ?_) | (refine wpL_ldg M6 rfl rfl rfl (by repeat (first | exact Has.head _ _ _ _ | apply Has.tail)) (by first | exact rd_num _ _ | exact rd_bits _ | exact rd_part _ _ | exact rd_minus _ _ | assumption) ?_) | (refine wpN_1 rfl rfl rfl ?_) | (refine wpN_0 rfl rfl ?_) | (refine wpN_2 rfl rfl rfl rfl ?_) | (refine wpL_st M6 rfl rfl rfl rfl (by repeat (first | exact Has.head _ _ _ _ | apply Has.tail)) (by first | exact wr_num _ (numC_len _ _) _ _ | exact wr_bits _ (bitsC_len _) _ | exact wr_part _ _ _ | exact wr_minus _ _ _ | assumption) (by repeat (first | exact Upd.head _ _ _ _ _ | apply Upd.tail)) ?_; clear M6; intro w' M6)))
  refine (C5 _ _).mono ?_
  rintro e w2 ⟨rfl, hBl⟩
  replace M6 := M6.call hBl
  clear hBl C5
  go_wp2_with ((with_reducible refine (?_ : Go.wpList _ _ _ (_ :: _) _ _)); (first | go_skip | (refine wpL_ld M6 rfl rfl rfl (by repeat (first | exact Has.head _ _ _ _ | apply Has.tail)) (by first | exact rd_num _ _ | exact rd_bits _ | exact rd_part _ _ | exact rd_minus _ _ | assumption) ?_) | (refine wpL_ldg M6 rfl rfl rfl (by repeat (first | exact Has.head _ _ _ _ | apply Has.tail)) (by first | exact rd_num _ _ | exact rd_bits _ | exact rd_part _ _ | exact rd_minus _ _ | assumption) ?_) | (refine wpN_1 rfl rfl rfl ?_) | (refine wpN_0 rfl rfl ?_) | (refine wpN_2 rfl rfl rfl rfl ?_) | (refine wpL_st M6 rfl rfl rfl rfl (by repeat (first | exact Has.head _ _ _ _ | apply Has.tail)) (by first | exact wr_num _ (numC_len _ _) _ _ | exact wr_bits _ (bitsC_len _) _ | exact wr_part _ _ _ | exact wr_minus _ _ _ | assumption) (by repeat (first | exact Upd.head _ _ _ _ _ | apply Upd.tail)) ?_; clear M6; intro w' M6)))
  refine (C6 _).mono ?_
  rintro e w2 ⟨rfl, hBl⟩
  replace M6 := M6.call hBl
  clear hBl C6
  go_wp2_with ((with_reducible refine (?_ : Go.wpList _ _ _ (_ :: _) _ _)); (first | go_skip | (refine wpL_ld M6 rfl rfl rfl (by repeat (first | exact Has.head _ _ _ _ | apply Has.tail)) (by first | exact rd_num _ _ | exact rd_bits _ | exact rd_part _ _ | exact rd_minus _ _ | assumption) ?_) | (refine wpL_ldg M6 rfl rfl rfl (by repeat (first | exact Has.head _ _ _ _ | apply Has.tail)) (by first | exact rd_num _ _ | exact rd_bits _ | exact rd_part _ _ | exact rd_minus _ _ | assumption) ?_) | (refine wpN_1 rfl rfl rfl ?_) | (refine wpN_0 rfl rfl ?_) | (refine wpN_2 rfl rfl rfl rfl ?_) | (refine wpL_st M6 rfl rfl rfl rfl (by repeat (first | exact Has.head _ _ _ _ | apply Has.tail)) (by first | exact wr_num _ (numC_len _ _) _ _ | exact wr_bits _ (bitsC_len _) _ | exact wr_part _ _ _ | exact wr_minus _ _ _ | assumption) (by repeat (first | exact Upd.head _ _ _ _ _ | apply Upd.tail)) ?_; clear M6; intro w' M6)))
  go_ret2
  exact ⟨rfl, M6.below⟩

set_option maxRecDepth 20000 in
set_option maxHeartbeats 3200000 in
theorem refDiv_true_ok (m : Bool) (n : Nat) (b mode : Int) (hn : n < 2 ^ 128) (hbr : -9223372036854775808 ≤ b ∧ b ≤ 9223372036854775807) (hb : b ≠ 0) (hm : 0 ≤ mode ∧ mode ≤ 3) (minus : Bool) (q : Nat)
    (hmin : minus = (m != decide (b < 0))) (hmo : moreS (n % b.natAbs) b.natAbs minus mode = true) (hqe : q = n / b.natAbs + if true then 1 else 0) (hz : q ≠ 0) (hf : fitsS minus q 63 = true) (w : World) :
    Calls Try.prog 39 #[.agg (numC m n).toArray, .int .i64 b, .int .i64 mode] w fun e w' =>
      e = .returned (.tuple #[.int .i64 (signed minus q), .int .i64 0]) ∧ Below w.heap.size w w' := by
  have hb2 : (b == 0) = false := by rw [beq_eq_false_iff_ne]; exact hb
  have hd : decide (mode < 0) = false := by simp only [decide_eq_false_iff_not]; omega
  have hd2 : decide (3 < mode) = false := by simp only [decide_eq_false_iff_not]; omega
  have C1 := of_any b hbr
  have C2 := divide_any n b.natAbs (by omega) (by omega) (by omega)
  have hD : b.natAbs < 2 ^ 128 := by omega
  have hR : n % b.natAbs < 2 ^ 128 := Nat.lt_of_le_of_lt (Nat.mod_le _ _) hn
  have C3 := more_any (n % b.natAbs) b.natAbs minus mode hR hD hm
  have hq0 : n / b.natAbs < 2 ^ 128 := Nat.lt_of_le_of_lt (Nat.div_le_self _ _) hn
  have hq : q < 2 ^ 129 := by rw [hqe]; split <;> omega
  have C5 := fun mm => zero_any mm q hq
  have C6 := fun mm => fits_63 mm q hq
  rw [hmo] at C3
  obtain ⟨sb, hsb⟩ : ∃ sb, sb = decide (b < 0) := ⟨_, rfl⟩
  rw [← hsb] at C1 hmin
  obtain ⟨D, hDe⟩ : ∃ D, D = b.natAbs := ⟨_, rfl⟩
  rw [← hDe] at C1 C2 C3 hqe
  obtain ⟨q0, hq0e⟩ : ∃ q0, q0 = n / D := ⟨_, rfl⟩
  obtain ⟨r0, hr0e⟩ : ∃ r0, r0 = n % D := ⟨_, rfl⟩
  rw [← hq0e, ← hr0e] at C2
  rw [← hr0e] at C3
  rw [← hq0e] at hqe
  have hmin2 : (m == sb) = !minus := by rw [hmin]; cases m <;> cases sb <;> rfl
  rw [if_pos rfl] at hqe
  have W1 : Wr Try.prog 3 0 (bitsC 0) (.int .i64 1) (bitsC 1) := wr_bit 0 1 1 (by decide) (set_low 0 1 (by decide))
  have C4 := addBits_any q0 1
  rw [Nat.mod_eq_of_lt (show q0 + 1 < 2 ^ 129 by omega), ← hqe] at C4
  rw [decide_eq_false hz] at C5
  replace C6 := C6 minus
  rw [hf] at C6
  have C7 := parts_fit minus q hf
  have hz2 := fit_range minus q hf
  obtain ⟨z, hze⟩ : ∃ z, z = signed minus q := ⟨_, rfl⟩
  rw [← hze] at C7 hz2 ⊢
  clear hze hf
  clear hn hbr hb hm hmin hmo hD hR hq0 hq hsb hDe hq0e hr0e hz
  clear hqe
  have M0 := Mem.start w
  go_enter Try.func39, Try.ntmps39
  go_wp2_with ((with_reducible refine (?_ : Go.wpList _ _ _ (_ :: _) _ _)); (first | go_skip | (refine wpL_bx M0 rfl rfl rfl rfl ?_; clear M0; intro g1 w1 M1) | (refine wpL_al M0 rfl rfl zero27 rfl ?_; clear M0; intro g1 w1 M1) | (refine wpL_al M0 rfl rfl zero29 rfl ?_; clear M0; intro g1 w1 M1) | (refine wpL_ld M0 rfl rfl rfl (by repeat (first | exact Has.head _ _ _ _ | apply Has.tail)) (by first | exact rd_num _ _ | exact rd_bits _ | exact rd_part _ _ | exact rd_minus _ _ | assumption) ?_) | (refine wpL_ldg M0 rfl rfl rfl (by repeat (first | exact Has.head _ _ _ _ | apply Has.tail)) (by first | exact rd_num _ _ | exact rd_bits _ | exact rd_part _ _ | exact rd_minus _ _ | assumption) ?_) | (refine wpN_1 rfl rfl rfl ?_) | (refine wpN_0 rfl rfl ?_) | (refine wpN_2 rfl rfl rfl rfl ?_) | (refine wpL_st M0 rfl rfl rfl rfl (by repeat (first | exact Has.head _ _ _ _ | apply Has.tail)) (by first | exact wr_num _ (numC_len _ _) _ _ | exact wr_bits _ (bitsC_len _) _ | exact wr_part _ _ _ | exact wr_minus _ _ _ | assumption) (by repeat (first | exact Upd.head _ _ _ _ _ | apply Upd.tail)) ?_; clear M0; intro w' M0) | (refine wpL_ld M1 rfl rfl rfl (by repeat (first | exact Has.head _ _ _ _ | apply Has.tail)) (by first | exact rd_num _ _ | exact rd_bits _ | exact rd_part _ _ | exact rd_minus _ _ | assumption) ?_) | (refine wpL_ldg M1 rfl rfl rfl (by repeat (first | exact Has.head _ _ _ _ | apply Has.tail)) (by first | exact rd_num _ _ | exact rd_bits _ | exact rd_part _ _ | exact rd_minus _ _ | assumption) ?_) | (refine wpN_1 rfl rfl rfl ?_) | (refine wpN_0 rfl rfl ?_) | (refine wpN_2 rfl rfl rfl rfl ?_) | (refine wpL_st M1 rfl rfl rfl rfl (by repeat (first | exact Has.head _ _ _ _ | apply Has.tail)) (by first | exact wr_num _ (numC_len _ _) _ _ | exact wr_bits _ (bitsC_len _) _ | exact wr_part _ _ _ | exact wr_minus _ _ _ | assumption) (by repeat (first | exact Upd.head _ _ _ _ _ | apply Upd.tail)) ?_; clear M1; intro w' M1)))
  refine (C1 _).mono ?_
  rintro e w2 ⟨rfl, hBl⟩
  replace M1 := M1.call hBl
  clear hBl C1
  go_wp2_with ((with_reducible refine (?_ : Go.wpList _ _ _ (_ :: _) _ _)); (first | go_skip | (refine wpL_bx M1 rfl rfl rfl rfl ?_; clear M1; intro g2 w2 M2) | (refine wpL_al M1 rfl rfl zero27 rfl ?_; clear M1; intro g2 w2 M2) | (refine wpL_al M1 rfl rfl zero29 rfl ?_; clear M1; intro g2 w2 M2) | (refine wpL_ld M1 rfl rfl rfl (by repeat (first | exact Has.head _ _ _ _ | apply Has.tail)) (by first | exact rd_num _ _ | exact rd_bits _ | exact rd_part _ _ | exact rd_minus _ _ | assumption) ?_) | (refine wpL_ldg M1 rfl rfl rfl (by repeat (first | exact Has.head _ _ _ _ | apply Has.tail)) (by first | exact rd_num _ _ | exact rd_bits _ | exact rd_part _ _ | exact rd_minus _ _ | assumption) ?_) | (refine wpN_1 rfl rfl rfl ?_) | (refine wpN_0 rfl rfl ?_) | (refine wpN_2 rfl rfl rfl rfl ?_) | (refine wpL_st M1 rfl rfl rfl rfl (by repeat (first | exact Has.head _ _ _ _ | apply Has.tail)) (by first | exact wr_num _ (numC_len _ _) _ _ | exact wr_bits _ (bitsC_len _) _ | exact wr_part _ _ _ | exact wr_minus _ _ _ | assumption) (by repeat (first | exact Upd.head _ _ _ _ _ | apply Upd.tail)) ?_; clear M1; intro w' M1) | (refine wpL_ld M2 rfl rfl rfl (by repeat (first | exact Has.head _ _ _ _ | apply Has.tail)) (by first | exact rd_num _ _ | exact rd_bits _ | exact rd_part _ _ | exact rd_minus _ _ | assumption) ?_) | (refine wpL_ldg M2 rfl rfl rfl (by repeat (first | exact Has.head _ _ _ _ | apply Has.tail)) (by first | exact rd_num _ _ | exact rd_bits _ | exact rd_part _ _ | exact rd_minus _ _ | assumption) ?_) | (refine wpN_1 rfl rfl rfl ?_) | (refine wpN_0 rfl rfl ?_) | (refine wpN_2 rfl rfl rfl rfl ?_) | (refine wpL_st M2 rfl rfl rfl rfl (by repeat (first | exact Has.head _ _ _ _ | apply Has.tail)) (by first | exact wr_num _ (numC_len _ _) _ _ | exact wr_bits _ (bitsC_len _) _ | exact wr_part _ _ _ | exact wr_minus _ _ _ | assumption) (by repeat (first | exact Upd.head _ _ _ _ _ | apply Upd.tail)) ?_; clear M2; intro w' M2)))
  refine (C2 _).mono ?_
  rintro e w2 ⟨rfl, hBl⟩
  replace M2 := M2.call hBl
  clear hBl C2
  go_wp2_with ((with_reducible refine (?_ : Go.wpList _ _ _ (_ :: _) _ _)); (first | go_skip | (refine wpL_bx M2 rfl rfl rfl rfl ?_; clear M2; intro g3 w3 M3) | (refine wpL_al M2 rfl rfl zero27 rfl ?_; clear M2; intro g3 w3 M3) | (refine wpL_al M2 rfl rfl zero29 rfl ?_; clear M2; intro g3 w3 M3) | (refine wpL_ld M2 rfl rfl rfl (by repeat (first | exact Has.head _ _ _ _ | apply Has.tail)) (by first | exact rd_num _ _ | exact rd_bits _ | exact rd_part _ _ | exact rd_minus _ _ | assumption) ?_) | (refine wpL_ldg M2 rfl rfl rfl (by repeat (first | exact Has.head _ _ _ _ | apply Has.tail)) (by first | exact rd_num _ _ | exact rd_bits _ | exact rd_part _ _ | exact rd_minus _ _ | assumption) ?_) | (refine wpN_1 rfl rfl rfl ?_) | (refine wpN_0 rfl rfl ?_) | (refine wpN_2 rfl rfl rfl rfl ?_) | (refine wpL_st M2 rfl rfl rfl rfl (by repeat (first | exact Has.head _ _ _ _ | apply Has.tail)) (by first | exact wr_num _ (numC_len _ _) _ _ | exact wr_bits _ (bitsC_len _) _ | exact wr_part _ _ _ | exact wr_minus _ _ _ | assumption) (by repeat (first | exact Upd.head _ _ _ _ _ | apply Upd.tail)) ?_; clear M2; intro w' M2) | (refine wpL_bx M3 rfl rfl rfl rfl ?_; clear M3; intro g4 w4 M4) | (refine wpL_al M3 rfl rfl zero27 rfl ?_; clear M3; intro g4 w4 M4) | (refine wpL_al M3 rfl rfl zero29 rfl ?_; clear M3; intro g4 w4 M4) | (refine wpL_ld M3 rfl rfl rfl (by repeat (first | exact Has.head _ _ _ _ | apply Has.tail)) (by first | exact rd_num _ _ | exact rd_bits _ | exact rd_part _ _ | exact rd_minus _ _ | assumption) ?_) | (refine wpL_ldg M3 rfl rfl rfl (by repeat (first | exact Has.head _ _ _ _ | apply Has.tail)) (by first | exact rd_num _ _ | exact rd_bits _ | exact rd_part _ _ | exact rd_minus _ _ | assumption) ?_) | (refine wpN_1 rfl rfl rfl ?_) | (refine wpN_0 rfl rfl ?_) | (refine wpN_2 rfl rfl rfl rfl ?_) | (refine wpL_st M3 rfl rfl rfl rfl (by repeat (first | exact Has.head _ _ _ _ | apply Has.tail)) (by first | exact wr_num _ (numC_len _ _) _ _ | exact wr_bits _ (bitsC_len _) _ | exact wr_part _ _ _ | exact wr_minus _ _ _ | assumption) (by repeat (first | exact Upd.head _ _ _ _ _ | apply Upd.tail)) ?_; clear M3; intro w' M3) | (refine wpL_ld M4 rfl rfl rfl (by repeat (first | exact Has.head _ _ _ _ | apply Has.tail)) (by first | exact rd_num _ _ | exact rd_bits _ | exact rd_part _ _ | exact rd_minus _ _ | assumption) ?_) | (refine wpL_ldg M4 rfl rfl rfl (by repeat (first | exact Has.head _ _ _ _ | apply Has.tail)) (by first | exact rd_num _ _ | exact rd_bits _ | exact rd_part _ _ | exact rd_minus _ _ | assumption) ?_) | (refine wpN_1 rfl rfl rfl ?_) | (refine wpN_0 rfl rfl ?_) | (refine wpN_2 rfl rfl rfl rfl ?_) | (refine wpL_st M4 rfl rfl rfl rfl (by repeat (first | exact Has.head _ _ _ _ | apply Has.tail)) (by first | exact wr_num _ (numC_len _ _) _ _ | exact wr_bits _ (bitsC_len _) _ | exact wr_part _ _ _ | exact wr_minus _ _ _ | assumption) (by repeat (first | exact Upd.head _ _ _ _ _ | apply Upd.tail)) ?_; clear M4; intro w' M4)))
  refine (C3 _).mono ?_
  rintro e w2 ⟨rfl, hBl⟩
  replace M4 := M4.call hBl
  clear hBl C3
  go_wp2_with ((with_reducible refine (?_ : Go.wpList _ _ _ (_ :: _) _ _)); (first | go_skip | (refine wpL_bx M4 rfl rfl rfl rfl ?_; clear M4; intro g5 w5 M5) | (refine wpL_al M4 rfl rfl zero27 rfl ?_; clear M4; intro g5 w5 M5) | (refine wpL_al M4 rfl rfl zero29 rfl ?_; clear M4; intro g5 w5 M5) | (refine wpL_ld M4 rfl rfl rfl (by repeat (first | exact Has.head _ _ _ _ | apply Has.tail)) (by first | exact rd_num _ _ | exact rd_bits _ | exact rd_part _ _ | exact rd_minus _ _ | assumption) ?_) | (refine wpL_ldg M4 rfl rfl rfl (by repeat (first | exact Has.head _ _ _ _ | apply Has.tail)) (by first | exact rd_num _ _ | exact rd_bits _ | exact rd_part _ _ | exact rd_minus _ _ | assumption) ?_) | (refine wpN_1 rfl rfl rfl ?_) | (refine wpN_0 rfl rfl ?_) | (refine wpN_2 rfl rfl rfl rfl ?_) | (refine wpL_st M4 rfl rfl rfl rfl (by repeat (first | exact Has.head _ _ _ _ | apply Has.tail)) (by first | exact wr_num _ (numC_len _ _) _ _ | exact wr_bits _ (bitsC_len _) _ | exact wr_part _ _ _ | exact wr_minus _ _ _ | assumption) (by repeat (first | exact Upd.head _ _ _ _ _ | apply Upd.tail)) ?_; clear M4; intro w' M4) | (refine wpL_ld M5 rfl rfl rfl (by repeat (first | exact Has.head _ _ _ _ | apply Has.tail)) (by first | exact rd_num _ _ | exact rd_bits _ | exact rd_part _ _ | exact rd_minus _ _ | assumption) ?_) | (refine wpL_ldg M5 rfl rfl rfl (by repeat (first | exact Has.head _ _ _ _ | apply Has.tail)) (by first | exact rd_num _ _ | exact rd_bits _ | exact rd_part _ _ | exact rd_minus _ _ | assumption) ?_) | (refine wpN_1 rfl rfl rfl ?_) | (refine wpN_0 rfl rfl ?_) | (refine wpN_2 rfl rfl rfl rfl ?_) | (refine wpL_st M5 rfl rfl rfl rfl (by repeat (first | exact Has.head _ _ _ _ | apply Has.tail)) (by first | exact wr_num _ (numC_len _ _) _ _ | exact wr_bits _ (bitsC_len _) _ | exact wr_part _ _ _ | exact wr_minus _ _ _ | assumption) (by repeat (first | exact Upd.head _ _ _ _ _ | apply Upd.tail)) ?_; clear M5; intro w' M5)))
  refine (C4 _).mono ?_
  rintro e w2 ⟨rfl, hBl⟩
  replace M5 := M5.call hBl
  clear hBl C4
  go_wp2_with ((with_reducible refine (?_ : Go.wpList _ _ _ (_ :: _) _ _)); (first | go_skip | (refine wpL_bx M5 rfl rfl rfl rfl ?_; clear M5; intro g6 w6 M6) | (refine wpL_al M5 rfl rfl zero27 rfl ?_; clear M5; intro g6 w6 M6) | (refine wpL_al M5 rfl rfl zero29 rfl ?_; clear M5; intro g6 w6 M6) | (refine wpL_ld M5 rfl rfl rfl (by repeat (first | exact Has.head _ _ _ _ | apply Has.tail)) (by first | exact rd_num _ _ | exact rd_bits _ | exact rd_part _ _ | exact rd_minus _ _ | assumption) ?_) | (refine wpL_ldg M5 rfl rfl rfl (by repeat (first | exact Has.head _ _ _ _ | apply Has.tail)) (by first | exact rd_num _ _ | exact rd_bits _ | exact rd_part _ _ | exact rd_minus _ _ | assumption) ?_) | (refine wpN_1 rfl rfl rfl ?_) | (refine wpN_0 rfl rfl ?_) | (refine wpN_2 rfl rfl rfl rfl ?_) | (refine wpL_st M5 rfl rfl rfl rfl (by repeat (first | exact Has.head _ _ _ _ | apply Has.tail)) (by first | exact wr_num _ (numC_len _ _) _ _ | exact wr_bits _ (bitsC_len _) _ | exact wr_part _ _ _ | exact wr_minus _ _ _ | assumption) (by repeat (first | exact Upd.head _ _ _ _ _ | apply Upd.tail)) ?_; clear M5; intro w' M5) | (refine wpL_ld M6 rfl rfl rfl (by repeat (first | exact Has.head _ _ _ _ | apply Has.tail)) (by first | exact rd_num _ _ | exact rd_bits _ | exact rd_part _ _ | exact rd_minus _ _ | assumption) ?_) | (refine wpL_ldg M6 rfl rfl rfl (by repeat (first | exact Has.head _ _ _ _ | apply Has.tail)) (by first | exact rd_num _ _ | exact rd_bits _ | exact rd_part _ _ | exact rd_minus _ _ | assumption) ?_) | (refine wpN_1 rfl rfl rfl ?_) | (refine wpN_0 rfl rfl ?_) | (refine wpN_2 rfl rfl rfl rfl ?_) | (refine wpL_st M6 rfl rfl rfl rfl (by repeat (first | exact Has.head _ _ _ _ | apply Has.tail)) (by first | exact wr_num _ (numC_len _ _) _ _ | exact wr_bits _ (bitsC_len _) _ | exact wr_part _ _ _ | exact wr_minus _ _ _ | assumption) (by repeat (first | exact Upd.head _ _ _ _ _ | apply Upd.tail)) ?_; clear M6; intro w' M6)))
  refine (C5 _ _).mono ?_
  rintro e w2 ⟨rfl, hBl⟩
  replace M6 := M6.call hBl
  clear hBl C5
  go_wp2_with ((with_reducible refine (?_ : Go.wpList _ _ _ (_ :: _) _ _)); (first | go_skip | (refine wpL_ld M6 rfl rfl rfl (by repeat (first | exact Has.head _ _ _ _ | apply Has.tail)) (by first | exact rd_num _ _ | exact rd_bits _ | exact rd_part _ _ | exact rd_minus _ _ | assumption) ?_) | (refine wpL_ldg M6 rfl rfl rfl (by repeat (first | exact Has.head _ _ _ _ | apply Has.tail)) (by first | exact rd_num _ _ | exact rd_bits _ | exact rd_part _ _ | exact rd_minus _ _ | assumption) ?_) | (refine wpN_1 rfl rfl rfl ?_) | (refine wpN_0 rfl rfl ?_) | (refine wpN_2 rfl rfl rfl rfl ?_) | (refine wpL_st M6 rfl rfl rfl rfl (by repeat (first | exact Has.head _ _ _ _ | apply Has.tail)) (by first | exact wr_num _ (numC_len _ _) _ _ | exact wr_bits _ (bitsC_len _) _ | exact wr_part _ _ _ | exact wr_minus _ _ _ | assumption) (by repeat (first | exact Upd.head _ _ _ _ _ | apply Upd.tail)) ?_; clear M6; intro w' M6)))
  refine (C6 _).mono ?_
  rintro e w2 ⟨rfl, hBl⟩
  replace M6 := M6.call hBl
  clear hBl C6
  go_wp2_with ((with_reducible refine (?_ : Go.wpList _ _ _ (_ :: _) _ _)); (first | go_skip | (refine wpL_ld M6 rfl rfl rfl (by repeat (first | exact Has.head _ _ _ _ | apply Has.tail)) (by first | exact rd_num _ _ | exact rd_bits _ | exact rd_part _ _ | exact rd_minus _ _ | assumption) ?_) | (refine wpL_ldg M6 rfl rfl rfl (by repeat (first | exact Has.head _ _ _ _ | apply Has.tail)) (by first | exact rd_num _ _ | exact rd_bits _ | exact rd_part _ _ | exact rd_minus _ _ | assumption) ?_) | (refine wpN_1 rfl rfl rfl ?_) | (refine wpN_0 rfl rfl ?_) | (refine wpN_2 rfl rfl rfl rfl ?_) | (refine wpL_st M6 rfl rfl rfl rfl (by repeat (first | exact Has.head _ _ _ _ | apply Has.tail)) (by first | exact wr_num _ (numC_len _ _) _ _ | exact wr_bits _ (bitsC_len _) _ | exact wr_part _ _ _ | exact wr_minus _ _ _ | assumption) (by repeat (first | exact Upd.head _ _ _ _ _ | apply Upd.tail)) ?_; clear M6; intro w' M6)))
  refine (C7 _).mono ?_
  rintro e w2 ⟨rfl, hBl⟩
  replace M6 := M6.call hBl
  clear hBl C7
  go_wp2_with ((with_reducible refine (?_ : Go.wpList _ _ _ (_ :: _) _ _)); (first | go_skip | (refine wpL_ld M6 rfl rfl rfl (by repeat (first | exact Has.head _ _ _ _ | apply Has.tail)) (by first | exact rd_num _ _ | exact rd_bits _ | exact rd_part _ _ | exact rd_minus _ _ | assumption) ?_) | (refine wpL_ldg M6 rfl rfl rfl (by repeat (first | exact Has.head _ _ _ _ | apply Has.tail)) (by first | exact rd_num _ _ | exact rd_bits _ | exact rd_part _ _ | exact rd_minus _ _ | assumption) ?_) | (refine wpN_1 rfl rfl rfl ?_) | (refine wpN_0 rfl rfl ?_) | (refine wpN_2 rfl rfl rfl rfl ?_) | (refine wpL_st M6 rfl rfl rfl rfl (by repeat (first | exact Has.head _ _ _ _ | apply Has.tail)) (by first | exact wr_num _ (numC_len _ _) _ _ | exact wr_bits _ (bitsC_len _) _ | exact wr_part _ _ _ | exact wr_minus _ _ _ | assumption) (by repeat (first | exact Upd.head _ _ _ _ _ | apply Upd.tail)) ?_; clear M6; intro w' M6)))
  go_ret2
  exact ⟨ret_ii (by first | (simp only [wrap64]; omega) | omega) rfl, M6.below⟩

set_option maxRecDepth 20000 in
set_option maxHeartbeats 3200000 in
theorem refDiv_false_zero (m : Bool) (n : Nat) (b mode : Int) (hn : n < 2 ^ 128) (hbr : -9223372036854775808 ≤ b ∧ b ≤ 9223372036854775807) (hb : b ≠ 0) (hm : 0 ≤ mode ∧ mode ≤ 3) (minus : Bool) (q : Nat)
    (hmin : minus = (m != decide (b < 0))) (hmo : moreS (n % b.natAbs) b.natAbs minus mode = false) (hqe : q = n / b.natAbs + if false then 1 else 0) (hz : q = 0) (w : World) :
    Calls Try.prog 39 #[.agg (numC m n).toArray, .int .i64 b, .int .i64 mode] w fun e w' =>
      e = .returned (.tuple #[.int .i64 0, .int .i64 0]) ∧ Below w.heap.size w w' := by
  have hb2 : (b == 0) = false := by rw [beq_eq_false_iff_ne]; exact hb
  have hd : decide (mode < 0) = false := by simp only [decide_eq_false_iff_not]; omega
  have hd2 : decide (3 < mode) = false := by simp only [decide_eq_false_iff_not]; omega
  have C1 := of_any b hbr
  have C2 := divide_any n b.natAbs (by omega) (by omega) (by omega)
  have hD : b.natAbs < 2 ^ 128 := by omega
  have hR : n % b.natAbs < 2 ^ 128 := Nat.lt_of_le_of_lt (Nat.mod_le _ _) hn
  have C3 := more_any (n % b.natAbs) b.natAbs minus mode hR hD hm
  have hq0 : n / b.natAbs < 2 ^ 128 := Nat.lt_of_le_of_lt (Nat.div_le_self _ _) hn
  have hq : q < 2 ^ 129 := by rw [hqe]; split <;> omega
  have C5 := fun mm => zero_any mm q hq
  have C6 := fun mm => fits_63 mm q hq
  rw [hmo] at C3
  obtain ⟨sb, hsb⟩ : ∃ sb, sb = decide (b < 0) := ⟨_, rfl⟩
  rw [← hsb] at C1 hmin
  obtain ⟨D, hDe⟩ : ∃ D, D = b.natAbs := ⟨_, rfl⟩
  rw [← hDe] at C1 C2 C3 hqe
  obtain ⟨q0, hq0e⟩ : ∃ q0, q0 = n / D := ⟨_, rfl⟩
  obtain ⟨r0, hr0e⟩ : ∃ r0, r0 = n % D := ⟨_, rfl⟩
  rw [← hq0e, ← hr0e] at C2
  rw [← hr0e] at C3
  rw [← hq0e] at hqe
  have hmin2 : (m == sb) = !minus := by rw [hmin]; cases m <;> cases sb <;> rfl
  rw [if_neg (by decide), Nat.add_zero] at hqe
  rw [decide_eq_true hz] at C5
  clear C6
  clear hn hbr hb hm hmin hmo hD hR hq0 hq hsb hDe hq0e hr0e hz
  subst hqe
  have M0 := Mem.start w
  go_enter Try.func39, Try.ntmps39
  go_wp2_with ((with_reducible refine (?_ : Go.wpList _ _ _ (_ :: _) _ _)); (first | go_skip | (refine wpL_bx M0 rfl rfl rfl rfl ?_; clear M0; intro g1 w1 M1) | (refine wpL_al M0 rfl rfl zero27 rfl ?_; clear M0; intro g1 w1 M1) | (refine wpL_al M0 rfl rfl zero29 rfl ?_; clear M0; intro g1 w1 M1) | (refine wpL_ld M0 rfl rfl rfl (by repeat (first | exact Has.head _ _ _ _ | apply Has.tail)) (by first | exact rd_num _ _ | exact rd_bits _ | exact rd_part _ _ | exact rd_minus _ _ | assumption) ?_) | (refine wpL_ldg M0 rfl rfl rfl (by repeat (first | exact Has.head _ _ _ _ | apply Has.tail)) (by first | exact rd_num _ _ | exact rd_bits _ | exact rd_part _ _ | exact rd_minus _ _ | assumption) ?_) | (refine wpN_1 rfl rfl rfl ?_) | (refine wpN_0 rfl rfl ?_) | (refine wpN_2 rfl rfl rfl rfl ?_) | (refine wpL_st M0 rfl rfl rfl rfl (by repeat (first | exact Has.head _ _ _ _ | apply Has.tail)) (by first | exact wr_num _ (numC_len _ _) _ _ | exact wr_bits _ (bitsC_len _) _ | exact wr_part _ _ _ | exact wr_minus _ _ _ | assumption) (by repeat (first | exact Upd.head _ _ _ _ _ | apply Upd.tail)) ?_; clear M0; intro w' M0) | (refine wpL_ld M1 rfl rfl rfl (by repeat (first | exact Has.head _ _ _ _ | apply Has.tail)) (by first | exact rd_num _ _ | exact rd_bits _ | exact rd_part _ _ | exact rd_minus _ _ | assumption) ?_) | (refine wpL_ldg M1 rfl rfl rfl (by repeat (first | exact Has.head _ _ _ _ | apply Has.tail)) (by first | exact rd_num _ _ | exact rd_bits _ | exact rd_part _ _ | exact rd_minus _ _ | assumption) ?_) | (refine wpN_1 rfl rfl rfl ?_) | (refine wpN_0 rfl rfl ?_) | (refine wpN_2 rfl rfl rfl rfl ?_) | (refine wpL_st M1 rfl rfl rfl rfl (by repeat (first | exact Has.head _ _ _ _ | apply Has.tail)) (by first | exact wr_num _ (numC_len _ _) _ _ | exact wr_bits _ (bitsC_len _) _ | exact wr_part _ _ _ | exact wr_minus _ _ _ | assumption) (by repeat (first | exact Upd.head _ _ _ _ _ | apply Upd.tail)) ?_; clear M1; intro w' M1)))
  refine (C1 _).mono ?_
  rintro e w2 ⟨rfl, hBl⟩
  replace M1 := M1.call hBl
  clear hBl C1
  go_wp2_with ((with_reducible refine (?_ : Go.wpList _ _ _ (_ :: _) _ _)); (first | go_skip | (refine wpL_bx M1 rfl rfl rfl rfl ?_; clear M1; intro g2 w2 M2) | (refine wpL_al M1 rfl rfl zero27 rfl ?_; clear M1; intro g2 w2 M2) | (refine wpL_al M1 rfl rfl zero29 rfl ?_; clear M1; intro g2 w2 M2) | (refine wpL_ld M1 rfl rfl rfl (by repeat (first | exact Has.head _ _ _ _ | apply Has.tail)) (by first | exact rd_num _ _ | exact rd_bits _ | exact rd_part _ _ | exact rd_minus _ _ | assumption) ?_) | (refine wpL_ldg M1 rfl rfl rfl (by repeat (first | exact Has.head _ _ _ _ | apply Has.tail)) (by first | exact rd_num _ _ | exact rd_bits _ | exact rd_part _ _ | exact rd_minus _ _ | assumption) ?_) | (refine wpN_1 rfl rfl rfl ?_) | (refine wpN_0 rfl rfl ?_) | (refine wpN_2 rfl rfl rfl rfl ?_) | (refine wpL_st M1 rfl rfl rfl rfl (by repeat (first | exact Has.head _ _ _ _ | apply Has.tail)) (by first | exact wr_num _ (numC_len _ _) _ _ | exact wr_bits _ (bitsC_len _) _ | exact wr_part _ _ _ | exact wr_minus _ _ _ | assumption) (by repeat (first | exact Upd.head _ _ _ _ _ | apply Upd.tail)) ?_; clear M1; intro w' M1) | (refine wpL_ld M2 rfl rfl rfl (by repeat (first | exact Has.head _ _ _ _ | apply Has.tail)) (by first | exact rd_num _ _ | exact rd_bits _ | exact rd_part _ _ | exact rd_minus _ _ | assumption) ?_) | (refine wpL_ldg M2 rfl rfl rfl (by repeat (first | exact Has.head _ _ _ _ | apply Has.tail)) (by first | exact rd_num _ _ | exact rd_bits _ | exact rd_part _ _ | exact rd_minus _ _ | assumption) ?_) | (refine wpN_1 rfl rfl rfl ?_) | (refine wpN_0 rfl rfl ?_) | (refine wpN_2 rfl rfl rfl rfl ?_) | (refine wpL_st M2 rfl rfl rfl rfl (by repeat (first | exact Has.head _ _ _ _ | apply Has.tail)) (by first | exact wr_num _ (numC_len _ _) _ _ | exact wr_bits _ (bitsC_len _) _ | exact wr_part _ _ _ | exact wr_minus _ _ _ | assumption) (by repeat (first | exact Upd.head _ _ _ _ _ | apply Upd.tail)) ?_; clear M2; intro w' M2)))
  refine (C2 _).mono ?_
  rintro e w2 ⟨rfl, hBl⟩
  replace M2 := M2.call hBl
  clear hBl C2
  go_wp2_with ((with_reducible refine (?_ : Go.wpList _ _ _ (_ :: _) _ _)); (first | go_skip | (refine wpL_bx M2 rfl rfl rfl rfl ?_; clear M2; intro g3 w3 M3) | (refine wpL_al M2 rfl rfl zero27 rfl ?_; clear M2; intro g3 w3 M3) | (refine wpL_al M2 rfl rfl zero29 rfl ?_; clear M2; intro g3 w3 M3) | (refine wpL_ld M2 rfl rfl rfl (by repeat (first | exact Has.head _ _ _ _ | apply Has.tail)) (by first | exact rd_num _ _ | exact rd_bits _ | exact rd_part _ _ | exact rd_minus _ _ | assumption) ?_) | (refine wpL_ldg M2 rfl rfl rfl (by repeat (first | exact Has.head _ _ _ _ | apply Has.tail)) (by first | exact rd_num _ _ | exact rd_bits _ | exact rd_part _ _ | exact rd_minus _ _ | assumption) ?_) | (refine wpN_1 rfl rfl rfl ?_) | (refine wpN_0 rfl rfl ?_) | (refine wpN_2 rfl rfl rfl rfl ?_) | (refine wpL_st M2 rfl rfl rfl rfl (by repeat (first | exact Has.head _ _ _ _ | apply Has.tail)) (by first | exact wr_num _ (numC_len _ _) _ _ | exact wr_bits _ (bitsC_len _) _ | exact wr_part _ _ _ | exact wr_minus _ _ _ | assumption) (by repeat (first | exact Upd.head _ _ _ _ _ | apply Upd.tail)) ?_; clear M2; intro w' M2) | (refine wpL_bx M3 rfl rfl rfl rfl ?_; clear M3; intro g4 w4 M4) | (refine wpL_al M3 rfl rfl zero27 rfl ?_; clear M3; intro g4 w4 M4) | (refine wpL_al M3 rfl rfl zero29 rfl ?_; clear M3; intro g4 w4 M4) | (refine wpL_ld M3 rfl rfl rfl (by repeat (first | exact Has.head _ _ _ _ | apply Has.tail)) (by first | exact rd_num _ _ | exact rd_bits _ | exact rd_part _ _ | exact rd_minus _ _ | assumption) ?_) | (refine wpL_ldg M3 rfl rfl rfl (by repeat (first | exact Has.head _ _ _ _ | apply Has.tail)) (by first | exact rd_num _ _ | exact rd_bits _ | exact rd_part _ _ | exact rd_minus _ _ | assumption) ?_) | (refine wpN_1 rfl rfl rfl ?_) | (refine wpN_0 rfl rfl ?_) | (refine wpN_2 rfl rfl rfl rfl ?_) | (refine wpL_st M3 rfl rfl rfl rfl (by repeat (first | exact Has.head _ _ _ _ | apply Has.tail)) (by first | exact wr_num _ (numC_len _ _) _ _ | exact wr_bits _ (bitsC_len _) _ | exact wr_part _ _ _ | exact wr_minus _ _ _ | assumption) (by repeat (first | exact Upd.head _ _ _ _ _ | apply Upd.tail)) ?_; clear M3; intro w' M3) | (refine wpL_ld M4 rfl rfl rfl (by repeat (first | exact Has.head _ _ _ _ | apply Has.tail)) (by first | exact rd_num _ _ | exact rd_bits _ | exact rd_part _ _ | exact rd_minus _ _ | assumption) ?_) | (refine wpL_ldg M4 rfl rfl rfl (by repeat (first | exact Has.head _ _ _ _ | apply Has.tail)) (by first | exact rd_num _ _ | exact rd_bits _ | exact rd_part _ _ | exact rd_minus _ _ | assumption) ?_) | (refine wpN_1 rfl rfl rfl ?_) | (refine wpN_0 rfl rfl ?_) | (refine wpN_2 rfl rfl rfl rfl ?_) | (refine wpL_st M4 rfl rfl rfl rfl (by repeat (first | exact Has.head _ _ _ _ | apply Has.tail)) (by first | exact wr_num _ (numC_len _ _) _ _ | exact wr_bits _ (bitsC_len _) _ | exact wr_part _ _ _ | exact wr_minus _ _ _ | assumption) (by repeat (first | exact Upd.head _ _ _ _ _ | apply Upd.tail)) ?_; clear M4; intro w' M4)))
  refine (C3 _).mono ?_
  rintro e w2 ⟨rfl, hBl⟩
  replace M4 := M4.call hBl
  clear hBl C3
  go_wp2_with ((with_reducible refine (?_ : Go.wpList _ _ _ (_ :: _) _ _)); (first | go_skip | (refine wpL_bx M4 rfl rfl rfl rfl ?_; clear M4; intro g5 w5 M5) | (refine wpL_al M4 rfl rfl zero27 rfl ?_; clear M4; intro g5 w5 M5) | (refine wpL_al M4 rfl rfl zero29 rfl ?_; clear M4; intro g5 w5 M5) | (refine wpL_ld M4 rfl rfl rfl (by repeat (first | exact Has.head _ _ _ _ | apply Has.tail)) (by first | exact rd_num _ _ | exact rd_bits _ | exact rd_part _ _ | exact rd_minus _ _ | assumption) ?_) | (refine wpL_ldg M4 rfl rfl rfl (by repeat (first | exact Has.head _ _ _ _ | apply Has.tail)) (by first | exact rd_num _ _ | exact rd_bits _ | exact rd_part _ _ | exact rd_minus _ _ | assumption) ?_) | (refine wpN_1 rfl rfl rfl ?_) | (refine wpN_0 rfl rfl ?_) | (refine wpN_2 rfl rfl rfl rfl ?_) | (refine wpL_st M4 rfl rfl rfl rfl (by repeat (first | exact Has.head _ _ _ _ | apply Has.tail)) (by first | exact wr_num _ (numC_len _ _) _ _ | exact wr_bits _ (bitsC_len _) _ | exact wr_part _ _ _ | exact wr_minus _ _ _ | assumption) (by repeat (first | exact Upd.head _ _ _ _ _ | apply Upd.tail)) ?_; clear M4; intro w' M4) | (refine wpL_ld M5 rfl rfl rfl (by repeat (first | exact Has.head _ _ _ _ | apply Has.tail)) (by first | exact rd_num _ _ | exact rd_bits _ | exact rd_part _ _ | exact rd_minus _ _ | assumption) ?_) | (refine wpL_ldg M5 rfl rfl rfl (by repeat (first | exact Has.head _ _ _ _ | apply Has.tail)) (by first | exact rd_num _ _ | exact rd_bits _ | exact rd_part _ _ | exact rd_minus _ _ | assumption) ?_) | (refine wpN_1 rfl rfl rfl ?_) | (refine wpN_0 rfl rfl ?_) | (refine wpN_2 rfl rfl rfl rfl ?_) | (refine wpL_st M5 rfl rfl rfl rfl (by repeat (first | exact Has.head _ _ _ _ | apply Has.tail)) (by first | exact wr_num _ (numC_len _ _) _ _ | exact wr_bits _ (bitsC_len _) _ | exact wr_part _ _ _ | exact wr_minus _ _ _ | assumption) (by repeat (first | exact Upd.head _ _ _ _ _ | apply Upd.tail)) ?_; clear M5; intro w' M5)))
  refine (C5 _ _).mono ?_
  rintro e w2 ⟨rfl, hBl⟩
  replace M5 := M5.call hBl
  clear hBl C5
  go_wp2_with ((with_reducible refine (?_ : Go.wpList _ _ _ (_ :: _) _ _)); (first | go_skip | (refine wpL_ld M5 rfl rfl rfl (by repeat (first | exact Has.head _ _ _ _ | apply Has.tail)) (by first | exact rd_num _ _ | exact rd_bits _ | exact rd_part _ _ | exact rd_minus _ _ | assumption) ?_) | (refine wpL_ldg M5 rfl rfl rfl (by repeat (first | exact Has.head _ _ _ _ | apply Has.tail)) (by first | exact rd_num _ _ | exact rd_bits _ | exact rd_part _ _ | exact rd_minus _ _ | assumption) ?_) | (refine wpN_1 rfl rfl rfl ?_) | (refine wpN_0 rfl rfl ?_) | (refine wpN_2 rfl rfl rfl rfl ?_) | (refine wpL_st M5 rfl rfl rfl rfl (by repeat (first | exact Has.head _ _ _ _ | apply Has.tail)) (by first | exact wr_num _ (numC_len _ _) _ _ | exact wr_bits _ (bitsC_len _) _ | exact wr_part _ _ _ | exact wr_minus _ _ _ | assumption) (by repeat (first | exact Upd.head _ _ _ _ _ | apply Upd.tail)) ?_; clear M5; intro w' M5)))
  go_ret2
  exact ⟨rfl, M5.below⟩

set_option maxRecDepth 20000 in
set_option maxHeartbeats 3200000 in
theorem refDiv_false_big (m : Bool) (n : Nat) (b mode : Int) (hn : n < 2 ^ 128) (hbr : -9223372036854775808 ≤ b ∧ b ≤ 9223372036854775807) (hb : b ≠ 0) (hm : 0 ≤ mode ∧ mode ≤ 3) (minus : Bool) (q : Nat)
    (hmin : minus = (m != decide (b < 0))) (hmo : moreS (n % b.natAbs) b.natAbs minus mode = false) (hqe : q = n / b.natAbs + if false then 1 else 0) (hz : q ≠ 0) (hf : fitsS minus q 63 = false) (w : World) :
    Calls Try.prog 39 #[.agg (numC m n).toArray, .int .i64 b, .int .i64 mode] w fun e w' =>
      e = .returned (.tuple #[.int .i64 0, .int .i64 10]) ∧ Below w.heap.size w w' := by
  have hb2 : (b == 0) = false := by rw [beq_eq_false_iff_ne]; exact hb
  have hd : decide (mode < 0) = false := by simp only [decide_eq_false_iff_not]; omega
  have hd2 : decide (3 < mode) = false := by simp only [decide_eq_false_iff_not]; omega
  have C1 := of_any b hbr
  have C2 := divide_any n b.natAbs (by omega) (by omega) (by omega)
  have hD : b.natAbs < 2 ^ 128 := by omega
  have hR : n % b.natAbs < 2 ^ 128 := Nat.lt_of_le_of_lt (Nat.mod_le _ _) hn
  have C3 := more_any (n % b.natAbs) b.natAbs minus mode hR hD hm
  have hq0 : n / b.natAbs < 2 ^ 128 := Nat.lt_of_le_of_lt (Nat.div_le_self _ _) hn
  have hq : q < 2 ^ 129 := by rw [hqe]; split <;> omega
  have C5 := fun mm => zero_any mm q hq
  have C6 := fun mm => fits_63 mm q hq
  rw [hmo] at C3
  obtain ⟨sb, hsb⟩ : ∃ sb, sb = decide (b < 0) := ⟨_, rfl⟩
  rw [← hsb] at C1 hmin
  obtain ⟨D, hDe⟩ : ∃ D, D = b.natAbs := ⟨_, rfl⟩
  rw [← hDe] at C1 C2 C3 hqe
  obtain ⟨q0, hq0e⟩ : ∃ q0, q0 = n / D := ⟨_, rfl⟩
  obtain ⟨r0, hr0e⟩ : ∃ r0, r0 = n % D := ⟨_, rfl⟩
  rw [← hq0e, ← hr0e] at C2
  rw [← hr0e] at C3
  rw [← hq0e] at hqe
  have hmin2 : (m == sb) = !minus := by rw [hmin]; cases m <;> cases sb <;> rfl
  rw [if_neg (by decide), Nat.add_zero] at hqe
  rw [decide_eq_false hz] at C5
  replace C6 := C6 minus
  rw [hf] at C6
  clear hf
  clear hn hbr hb hm hmin hmo hD hR hq0 hq hsb hDe hq0e hr0e hz
  subst hqe
  have M0 := Mem.start w
  go_enter Try.func39, Try.ntmps39
  go_wp2_with ((with_reducible refine (?_ : Go.wpList _ _ _ (_ :: _) _ _)); (first | go_skip | (refine wpL_bx M0 rfl rfl rfl rfl ?_; clear M0; intro g1 w1 M1) | (refine wpL_al M0 rfl rfl zero27 rfl ?_; clear M0; intro g1 w1 M1) | (refine wpL_al M0 rfl rfl zero29 rfl ?_; clear M0; intro g1 w1 M1) | (refine wpL_ld M0 rfl rfl rfl (by repeat (first | exact Has.head _ _ _ _ | apply Has.tail)) (by first | exact rd_num _ _ | exact rd_bits _ | exact rd_part _ _ | exact rd_minus _ _ | assumption) ?_) | (refine wpL_ldg M0 rfl rfl rfl (by repeat (first | exact Has.head _ _ _ _ | apply Has.tail)) (by first | exact rd_num _ _ | exact rd_bits _ | exact rd_part _ _ | exact rd_minus _ _ | assumption) ?_) | (refine wpN_1 rfl rfl rfl ?_) | (refine wpN_0 rfl rfl ?_) | (refine wpN_2 rfl rfl rfl rfl ?_) | (refine wpL_st M0 rfl rfl rfl rfl (by repeat (first | exact Has.head _ _ _ _ | apply Has.tail)) (by first | exact wr_num _ (numC_len _ _) _ _ | exact wr_bits _ (bitsC_len _) _ | exact wr_part _ _ _ | exact wr_minus _ _ _ | assumption) (by repeat (first | exact Upd.head _ _ _ _ _ | apply Upd.tail)) ?_; clear M0; intro w' M0) | (refine wpL_ld M1 rfl rfl rfl (by repeat (first | exact Has.head _ _ _ _ | apply Has.tail)) (by first | exact rd_num _ _ | exact rd_bits _ | exact rd_part _ _ | exact rd_minus _ _ | assumption) ?_) | (refine wpL_ldg M1 rfl rfl rfl (by repeat (first | exact Has.head _ _ _ _ | apply Has.tail)) (by first | exact rd_num _ _ | exact rd_bits _ | exact rd_part _ _ | exact rd_minus _ _ | assumption) ?_) | (refine wpN_1 rfl rfl rfl ?_) | (refine wpN_0 rfl rfl ?_) | (refine wpN_2 rfl rfl rfl rfl ?_) | (refine wpL_st M1 rfl rfl rfl rfl (by repeat (first | exact Has.head _ _ _ _ | apply Has.tail)) (by first | exact wr_num _ (numC_len _ _) _ _ | exact wr_bits _ (bitsC_len _) _ | exact wr_part _ _ _ | exact wr_minus _ _ _ | assumption) (by repeat (first | exact Upd.head _ _ _ _ _ | apply Upd.tail)) ?_; clear M1; intro w' M1)))
  refine (C1 _).mono ?_
  rintro e w2 ⟨rfl, hBl⟩
  replace M1 := M1.call hBl
  clear hBl C1
  go_wp2_with ((with_reducible refine (?_ : Go.wpList _ _ _ (_ :: _) _ _)); (first | go_skip | (refine wpL_bx M1 rfl rfl rfl rfl ?_; clear M1; intro g2 w2 M2) | (refine wpL_al M1 rfl rfl zero27 rfl ?_; clear M1; intro g2 w2 M2) | (refine wpL_al M1 rfl rfl zero29 rfl ?_; clear M1; intro g2 w2 M2) | (refine wpL_ld M1 rfl rfl rfl (by repeat (first | exact Has.head _ _ _ _ | apply Has.tail)) (by first | exact rd_num _ _ | exact rd_bits _ | exact rd_part _ _ | exact rd_minus _ _ | assumption) ?_) | (refine wpL_ldg M1 rfl rfl rfl (by repeat (first | exact Has.head _ _ _ _ | apply Has.tail)) (by first | exact rd_num _ _ | exact rd_bits _ | exact rd_part _ _ | exact rd_minus _ _ | assumption) ?_) | (refine wpN_1 rfl rfl rfl ?_) | (refine wpN_0 rfl rfl ?_) | (refine wpN_2 rfl rfl rfl rfl ?_) | (refine wpL_st M1 rfl rfl rfl rfl (by repeat (first | exact Has.head _ _ _ _ | apply Has.tail)) (by first | exact wr_num _ (numC_len _ _) _ _ | exact wr_bits _ (bitsC_len _) _ | exact wr_part _ _ _ | exact wr_minus _ _ _ | assumption) (by repeat (first | exact Upd.head _ _ _ _ _ | apply Upd.tail)) ?_; clear M1; intro w' M1) | (refine wpL_ld M2 rfl rfl rfl (by repeat (first | exact Has.head _ _ _ _ | apply Has.tail)) (by first | exact rd_num _ _ | exact rd_bits _ | exact rd_part _ _ | exact rd_minus _ _ | assumption) ?_) | (refine wpL_ldg M2 rfl rfl rfl (by repeat (first | exact Has.head _ _ _ _ | apply Has.tail)) (by first | exact rd_num _ _ | exact rd_bits _ | exact rd_part _ _ | exact rd_minus _ _ | assumption) ?_) | (refine wpN_1 rfl rfl rfl ?_) | (refine wpN_0 rfl rfl ?_) | (refine wpN_2 rfl rfl rfl rfl ?_) | (refine wpL_st M2 rfl rfl rfl rfl (by repeat (first | exact Has.head _ _ _ _ | apply Has.tail)) (by first | exact wr_num _ (numC_len _ _) _ _ | exact wr_bits _ (bitsC_len _) _ | exact wr_part _ _ _ | exact wr_minus _ _ _ | assumption) (by repeat (first | exact Upd.head _ _ _ _ _ | apply Upd.tail)) ?_; clear M2; intro w' M2)))
  refine (C2 _).mono ?_
  rintro e w2 ⟨rfl, hBl⟩
  replace M2 := M2.call hBl
  clear hBl C2
  go_wp2_with ((with_reducible refine (?_ : Go.wpList _ _ _ (_ :: _) _ _)); (first | go_skip | (refine wpL_bx M2 rfl rfl rfl rfl ?_; clear M2; intro g3 w3 M3) | (refine wpL_al M2 rfl rfl zero27 rfl ?_; clear M2; intro g3 w3 M3) | (refine wpL_al M2 rfl rfl zero29 rfl ?_; clear M2; intro g3 w3 M3) | (refine wpL_ld M2 rfl rfl rfl (by repeat (first | exact Has.head _ _ _ _ | apply Has.tail)) (by first | exact rd_num _ _ | exact rd_bits _ | exact rd_part _ _ | exact rd_minus _ _ | assumption) ?_) | (refine wpL_ldg M2 rfl rfl rfl (by repeat (first | exact Has.head _ _ _ _ | apply Has.tail)) (by first | exact rd_num _ _ | exact rd_bits _ | exact rd_part _ _ | exact rd_minus _ _ | assumption) ?_) | (refine wpN_1 rfl rfl rfl ?_) | (refine wpN_0 rfl rfl ?_) | (refine wpN_2 rfl rfl rfl rfl ?_) | (refine wpL_st M2 rfl rfl rfl rfl (by repeat (first | exact Has.head _ _ _ _ | apply Has.tail)) (by first | exact wr_num _ (numC_len _ _) _ _ | exact wr_bits _ (bitsC_len _) _ | exact wr_part _ _ _ | exact wr_minus _ _ _ | assumption) (by repeat (first | exact Upd.head _ _ _ _ _ | apply Upd.tail)) ?_; clear M2; intro w' M2) | (refine wpL_bx M3 rfl rfl rfl rfl ?_; clear M3; intro g4 w4 M4) | (refine wpL_al M3 rfl rfl zero27 rfl ?_; clear M3; intro g4 w4 M4) | (refine wpL_al M3 rfl rfl zero29 rfl ?_; clear M3; intro g4 w4 M4) | (refine wpL_ld M3 rfl rfl rfl (by repeat (first | exact Has.head _ _ _ _ | apply Has.tail)) (by first | exact rd_num _ _ | exact rd_bits _ | exact rd_part _ _ | exact rd_minus _ _ | assumption) ?_) | (refine wpL_ldg M3 rfl rfl rfl (by repeat (first | exact Has.head _ _ _ _ | apply Has.tail)) (by first | exact rd_num _ _ | exact rd_bits _ | exact rd_part _ _ | exact rd_minus _ _ | assumption) ?_) | (refine wpN_1 rfl rfl rfl ?_) | (refine wpN_0 rfl rfl ?_) | (refine wpN_2 rfl rfl rfl rfl ?_) | (refine wpL_st M3 rfl rfl rfl rfl (by repeat (first | exact Has.head _ _ _ _ | apply Has.tail)) (by first | exact wr_num _ (numC_len _ _) _ _ | exact wr_bits _ (bitsC_len _) _ | exact wr_part _ _ _ | exact wr_minus _ _ _ | assumption) (by repeat (first | exact Upd.head _ _ _ _ _ | apply Upd.tail)) ?_; clear M3; intro w' M3) | (refine wpL_ld M4 rfl rfl rfl (by repeat (first | exact Has.head _ _ _ _ | apply Has.tail)) (by first | exact rd_num _ _ | exact rd_bits _ | exact rd_part _ _ | exact rd_minus _ _ | assumption) ?_) | (refine wpL_ldg M4 rfl rfl rfl (by repeat (first | exact Has.head _ _ _ _ | apply Has.tail)) (by first | exact rd_num _ _ | exact rd_bits _ | exact rd_part _ _ | exact rd_minus _ _ | assumption) ?_) | (refine wpN_1 rfl rfl rfl ?_) | (refine wpN_0 rfl rfl ?_) | (refine wpN_2 rfl rfl rfl rfl ?_) | (refine wpL_st M4 rfl rfl rfl rfl (by repeat (first | exact Has.head _ _ _ _ | apply Has.tail)) (by first | exact wr_num _ (numC_len _ _) _ _ | exact wr_bits _ (bitsC_len _) _ | exact wr_part _ _ _ | exact wr_minus _ _ _ | assumption) (by repeat (first | exact Upd.head _ _ _ _ _ | apply Upd.tail)) ?_; clear M4; intro w' M4)))
  refine (C3 _).mono ?_
  rintro e w2 ⟨rfl, hBl⟩
  replace M4 := M4.call hBl
  clear hBl C3
  go_wp2_with ((with_reducible refine (?_ : Go.wpList _ _ _ (_ :: _) _ _)); (first | go_skip | (refine wpL_bx M4 rfl rfl rfl rfl ?_; clear M4; intro g5 w5 M5) | (refine wpL_al M4 rfl rfl zero27 rfl ?_; clear M4; intro g5 w5 M5) | (refine wpL_al M4 rfl rfl zero29 rfl ?_; clear M4; intro g5 w5 M5) | (refine wpL_ld M4 rfl rfl rfl (by repeat (first | exact Has.head _ _ _ _ | apply Has.tail)) (by first | exact rd_num _ _ | exact rd_bits _ | exact rd_part _ _ | exact rd_minus _ _ | assumption) ?_) | (refine wpL_ldg M4 rfl rfl rfl (by repeat (first | exact Has.head _ _ _ _ | apply Has.tail)) (by first | exact rd_num _ _ | exact rd_bits _ | exact rd_part _ _ | exact rd_minus _ _ | assumption) ?_) | (refine wpN_1 rfl rfl rfl ?_) | (refine wpN_0 rfl rfl ?_) | (refine wpN_2 rfl rfl rfl rfl ?_) | (refine wpL_st M4 rfl rfl rfl rfl (by repeat (first | exact Has.head _ _ _ _ | apply Has.tail)) (by first | exact wr_num _ (numC_len _ _) _ _ | exact wr_bits _ (bitsC_len _) _ | exact wr_part _ _ _ | exact wr_minus _ _ _ | assumption) (by repeat (first | exact Upd.head _ _ _ _ _ | apply Upd.tail)) ?_; clear M4; intro w' M4) | (refine wpL_ld M5 rfl rfl rfl (by repeat (first | exact Has.head _ _ _ _ | apply Has.tail)) (by first | exact rd_num _ _ | exact rd_bits _ | exact rd_part _ _ | exact rd_minus _ _ | assumption) ?_) | (refine wpL_ldg M5 rfl rfl rfl (by repeat (first | exact Has.head _ _ _ _ | apply Has.tail)) (by first | exact rd_num _ _ | exact rd_bits _ | exact rd_part _ _ | exact rd_minus _ _ | assumption) ?_) | (refine wpN_1 rfl rfl rfl ?_) | (refine wpN_0 rfl rfl ?_) | (refine wpN_2 rfl rfl rfl rfl ?_) | (refine wpL_st M5 rfl rfl rfl rfl (by repeat (first | exact Has.head _ _ _ _ | apply Has.tail)) (by first | exact wr_num _ (numC_len _ _) _ _ | exact wr_bits _ (bitsC_len _) _ | exact wr_part _ _ _ | exact wr_minus _ _ _ | assumption) (by repeat (first | exact Upd.head _ _ _ _ _ | apply Upd.tail)) ?_; clear M5; intro w' M5)))
  refine (C5 _ _).mono ?_
  rintro e w2 ⟨rfl, hBl⟩
  replace M5 := M5.call hBl
  clear hBl C5
  go_wp2_with ((with_reducible refine (?_ : Go.wpList _ _ _ (_ :: _) _ _)); (first | go_skip | (refine wpL_ld M5 rfl rfl rfl (by repeat (first | exact Has.head _ _ _ _ | apply Has.tail)) (by first | exact rd_num _ _ | exact rd_bits _ | exact rd_part _ _ | exact rd_minus _ _ | assumption) ?_) | (refine wpL_ldg M5 rfl rfl rfl (by repeat (first | exact Has.head _ _ _ _ | apply Has.tail)) (by first | exact rd_num _ _ | exact rd_bits _ | exact rd_part _ _ | exact rd_minus _ _ | assumption) ?_) | (refine wpN_1 rfl rfl rfl ?_) | (refine wpN_0 rfl rfl ?_) | (refine wpN_2 rfl rfl rfl rfl ?_) | (refine wpL_st M5 rfl rfl rfl rfl (by repeat (first | exact Has.head _ _ _ _ | apply Has.tail)) (by first | exact wr_num _ (numC_len _ _) _ _ | exact wr_bits _ (bitsC_len _) _ | exact wr_part _ _ _ | exact wr_minus _ _ _ | assumption) (by repeat (first | exact Upd.head _ _ _ _ _ | apply Upd.tail)) ?_; clear M5; intro w' M5)))
  refine (C6 _).mono ?_
  rintro e w2 ⟨rfl, hBl⟩
  replace M5 := M5.call hBl
  clear hBl C6
  go_wp2_with ((with_reducible refine (?_ : Go.wpList _ _ _ (_ :: _) _ _)); (first | go_skip | (refine wpL_ld M5 rfl rfl rfl (by repeat (first | exact Has.head _ _ _ _ | apply Has.tail)) (by first | exact rd_num _ _ | exact rd_bits _ | exact rd_part _ _ | exact rd_minus _ _ | assumption) ?_) | (refine wpL_ldg M5 rfl rfl rfl (by repeat (first | exact Has.head _ _ _ _ | apply Has.tail)) (by first | exact rd_num _ _ | exact rd_bits _ | exact rd_part _ _ | exact rd_minus _ _ | assumption) ?_) | (refine wpN_1 rfl rfl rfl ?_) | (refine wpN_0 rfl rfl ?_) | (refine wpN_2 rfl rfl rfl rfl ?_) | (refine wpL_st M5 rfl rfl rfl rfl (by repeat (first | exact Has.head _ _ _ _ | apply Has.tail)) (by first | exact wr_num _ (numC_len _ _) _ _ | exact wr_bits _ (bitsC_len _) _ | exact wr_part _ _ _ | exact wr_minus _ _ _ | assumption) (by repeat (first | exact Upd.head _ _ _ _ _ | apply Upd.tail)) ?_; clear M5; intro w' M5)))
  go_ret2
  exact ⟨rfl, M5.below⟩

set_option maxRecDepth 20000 in
set_option maxHeartbeats 3200000 in
theorem refDiv_false_ok (m : Bool) (n : Nat) (b mode : Int) (hn : n < 2 ^ 128) (hbr : -9223372036854775808 ≤ b ∧ b ≤ 9223372036854775807) (hb : b ≠ 0) (hm : 0 ≤ mode ∧ mode ≤ 3) (minus : Bool) (q : Nat)
    (hmin : minus = (m != decide (b < 0))) (hmo : moreS (n % b.natAbs) b.natAbs minus mode = false) (hqe : q = n / b.natAbs + if false then 1 else 0) (hz : q ≠ 0) (hf : fitsS minus q 63 = true) (w : World) :
    Calls Try.prog 39 #[.agg (numC m n).toArray, .int .i64 b, .int .i64 mode] w fun e w' =>
      e = .returned (.tuple #[.int .i64 (signed minus q), .int .i64 0]) ∧ Below w.heap.size w w' := by
  have hb2 : (b == 0) = false := by rw [beq_eq_false_iff_ne]; exact hb
  have hd : decide (mode < 0) = false := by simp only [decide_eq_false_iff_not]; omega
  have hd2 : decide (3 < mode) = false := by simp only [decide_eq_false_iff_not]; omega
  have C1 := of_any b hbr
  have C2 := divide_any n b.natAbs (by omega) (by omega) (by omega)
  have hD : b.natAbs < 2 ^ 128 := by omega
  have hR : n % b.natAbs < 2 ^ 128 := Nat.lt_of_le_of_lt (Nat.mod_le _ _) hn
  have C3 := more_any (n % b.natAbs) b.natAbs minus mode hR hD hm
  have hq0 : n / b.natAbs < 2 ^ 128 := Nat.lt_of_le_of_lt (Nat.div_le_self _ _) hn
  have hq : q < 2 ^ 129 := by rw [hqe]; split <;> omega
  have C5 := fun mm => zero_any mm q hq
  have C6 := fun mm => fits_63 mm q hq
  rw [hmo] at C3
  obtain ⟨sb, hsb⟩ : ∃ sb, sb = decide (b < 0) := ⟨_, rfl⟩
  rw [← hsb] at C1 hmin
  obtain ⟨D, hDe⟩ : ∃ D, D = b.natAbs := ⟨_, rfl⟩
  rw [← hDe] at C1 C2 C3 hqe
  obtain ⟨q0, hq0e⟩ : ∃ q0, q0 = n / D := ⟨_, rfl⟩
  obtain ⟨r0, hr0e⟩ : ∃ r0, r0 = n % D := ⟨_, rfl⟩
  rw [← hq0e, ← hr0e] at C2
  rw [← hr0e] at C3
  rw [← hq0e] at hqe
  have hmin2 : (m == sb) = !minus := by rw [hmin]; cases m <;> cases sb <;> rfl
  rw [if_neg (by decide), Nat.add_zero] at hqe
  rw [decide_eq_false hz] at C5
  replace C6 := C6 minus
  rw [hf] at C6
  have C7 := parts_fit minus q hf
  have hz2 := fit_range minus q hf
  obtain ⟨z, hze⟩ : ∃ z, z = signed minus q := ⟨_, rfl⟩
  rw [← hze] at C7 hz2 ⊢
  clear hze hf
  clear hn hbr hb hm hmin hmo hD hR hq0 hq hsb hDe hq0e hr0e hz
  subst hqe
  have M0 := Mem.start w
  go_enter Try.func39, Try.ntmps39
  go_wp2_with ((with_reducible refine (?_ : Go.wpList _ _ _ (_ :: _) _ _)); (first | go_skip | (refine wpL_bx M0 rfl rfl rfl rfl ?_; clear M0; intro g1 w1 M1) | (refine wpL_al M0 rfl rfl zero27 rfl ?_; clear M0; intro g1 w1 M1) | (refine wpL_al M0 rfl rfl zero29 rfl ?_; clear M0; intro g1 w1 M1) | (refine wpL_ld M0 rfl rfl rfl (by repeat (first | exact Has.head _ _ _ _ | apply Has.tail)) (by first | exact rd_num _ _ | exact rd_bits _ | exact rd_part _ _ | exact rd_minus _ _ | assumption) ?_) | (refine wpL_ldg M0 rfl rfl rfl (by repeat (first | exact Has.head _ _ _ _ | apply Has.tail)) (by first | exact rd_num _ _ | exact rd_bits _ | exact rd_part _ _ | exact rd_minus _ _ | assumption) ?_) | (refine wpN_1 rfl rfl rfl ?_) | (refine wpN_0 rfl rfl ?_) | (refine wpN_2 rfl rfl rfl rfl ?_) | (refine wpL_st M0 rfl rfl rfl rfl (by repeat (first | exact Has.head _ _ _ _ | apply Has.tail)) (by first | exact wr_num _ (numC_len _ _) _ _ | exact wr_bits _ (bitsC_len _) _ | exact wr_part _ _ _ | exact wr_minus _ _ _ | assumption) (by repeat (first | exact Upd.head _ _ _ _ _ | apply Upd.tail)) ?_; clear M0; intro w' M0) | (refine wpL_ld M1 rfl rfl rfl (by repeat (first | exact Has.head _ _ _ _ | apply Has.tail)) (by first | exact rd_num _ _ | exact rd_bits _ | exact rd_part _ _ | exact rd_minus _ _ | assumption) ?_) | (refine wpL_ldg M1 rfl rfl rfl (by repeat (first | exact Has.head _ _ _ _ | apply Has.tail)) (by first | exact rd_num _ _ | exact rd_bits _ | exact rd_part _ _ | exact rd_minus _ _ | assumption) ?_) | (refine wpN_1 rfl rfl rfl ?_) | (refine wpN_0 rfl rfl ?_) | (refine wpN_2 rfl rfl rfl rfl ?_) | (refine wpL_st M1 rfl rfl rfl rfl (by repeat (first | exact Has.head _ _ _ _ | apply Has.tail)) (by first | exact wr_num _ (numC_len _ _) _ _ | exact wr_bits _ (bitsC_len _) _ | exact wr_part _ _ _ | exact wr_minus _ _ _ | assumption) (by repeat (first | exact Upd.head _ _ _ _ _ | apply Upd.tail)) ?_; clear M1; intro w' M1)))
  refine (C1 _).mono ?_
  rintro e w2 ⟨rfl, hBl⟩
  replace M1 := M1.call hBl
  clear hBl C1
  go_wp2_with ((with_reducible refine (?_ : Go.wpList _ _ _ (_ :: _) _ _)); (first | go_skip | (refine wpL_bx M1 rfl rfl rfl rfl ?_; clear M1; intro g2 w2 M2) | (refine wpL_al M1 rfl rfl zero27 rfl ?_; clear M1; intro g2 w2 M2) | (refine wpL_al M1 rfl rfl zero29 rfl ?_; clear M1; intro g2 w2 M2) | (refine wpL_ld M1 rfl rfl rfl (by repeat (first | exact Has.head _ _ _ _ | apply Has.tail)) (by first | exact rd_num _ _ | exact rd_bits _ | exact rd_part _ _ | exact rd_minus _ _ | assumption) ?_) | (refine wpL_ldg M1 rfl rfl rfl (by repeat (first | exact Has.head _ _ _ _ | apply Has.tail)) (by first | exact rd_num _ _ | exact rd_bits _ | exact rd_part _ _ | exact rd_minus _ _ | assumption) ?_) | (refine wpN_1 rfl rfl rfl ?_) | (refine wpN_0 rfl rfl ?_) | (refine wpN_2 rfl rfl rfl rfl ?_) | (refine wpL_st M1 rfl rfl rfl rfl (by repeat (first | exact Has.head _ _ _ _ | apply Has.tail)) (by first | exact wr_num _ (numC_len _ _) _ _ | exact wr_bits _ (bitsC_len _) _ | exact wr_part _ _ _ | exact wr_minus _ _ _ | assumption) (by repeat (first | exact Upd.head _ _ _ _ _ | apply Upd.tail)) ?_; clear M1; intro w' M1) | (refine wpL_ld M2 rfl rfl rfl (by repeat (first | exact Has.head _ _ _ _ | apply Has.tail)) (by first | exact rd_num _ _ | exact rd_bits _ | exact rd_part _ _ | exact rd_minus _ _ | assumption) ?_) | (refine wpL_ldg M2 rfl rfl rfl (by repeat (first | exact Has.head _ _ _ _ | apply Has.tail)) (by first | exact rd_num _ _ | exact rd_bits _ | exact rd_part _ _ | exact rd_minus _ _ | assumption) ?_) | (refine wpN_1 rfl rfl rfl ?_) | (refine wpN_0 rfl rfl ?_) | (refine wpN_2 rfl rfl rfl rfl ?_) | (refine wpL_st M2 rfl rfl rfl rfl (by repeat (first | exact Has.head _ _ _ _ | apply Has.tail)) (by first | exact wr_num _ (numC_len _ _) _ _ | exact wr_bits _ (bitsC_len _) _ | exact wr_part _ _ _ | exact wr_minus _ _ _ | assumption) (by repeat (first | exact Upd.head _ _ _ _ _ | apply Upd.tail)) ?_; clear M2; intro w' M2)))
  refine (C2 _).mono ?_
  rintro e w2 ⟨rfl, hBl⟩
  replace M2 := M2.call hBl
  clear hBl C2
  go_wp2_with ((with_reducible refine (?_ : Go.wpList _ _ _ (_ :: _) _ _)); (first | go_skip | (refine wpL_bx M2 rfl rfl rfl rfl ?_; clear M2; intro g3 w3 M3) | (refine wpL_al M2 rfl rfl zero27 rfl ?_; clear M2; intro g3 w3 M3) | (refine wpL_al M2 rfl rfl zero29 rfl ?_; clear M2; intro g3 w3 M3) | (refine wpL_ld M2 rfl rfl rfl (by repeat (first | exact Has.head _ _ _ _ | apply Has.tail)) (by first | exact rd_num _ _ | exact rd_bits _ | exact rd_part _ _ | exact rd_minus _ _ | assumption) ?_) | (refine wpL_ldg M2 rfl rfl rfl (by repeat (first | exact Has.head _ _ _ _ | apply Has.tail)) (by first | exact rd_num _ _ | exact rd_bits _ | exact rd_part _ _ | exact rd_minus _ _ | assumption) ?_) | (refine wpN_1 rfl rfl rfl ?_) | (refine wpN_0 rfl rfl ?_) | (refine wpN_2 rfl rfl rfl rfl ?_) | (refine wpL_st M2 rfl rfl rfl rfl (by repeat (first | exact Has.head _ _ _ _ | apply Has.tail)) (by first | exact wr_num _ (numC_len _ _) _ _ | exact wr_bits _ (bitsC_len _) _ | exact wr_part _ _ _ | exact wr_minus _ _ _ | assumption) (by repeat (first | exact Upd.head _ _ _ _ _ | apply Upd.tail)) ?_; clear M2; intro w' M2) | (refine wpL_bx M3 rfl rfl rfl rfl ?_; clear M3; intro g4 w4 M4) | (refine wpL_al M3 rfl rfl zero27 rfl ?_; clear M3; intro g4 w4 M4) | (refine wpL_al M3 rfl rfl zero29 rfl ?_; clear M3; intro g4 w4 M4) | (refine wpL_ld M3 rfl rfl rfl (by repeat (first | exact Has.head _ _ _ _ | apply Has.tail)) (by first | exact rd_num _ _ | exact rd_bits _ | exact rd_part _ _ | exact rd_minus _ _ | assumption) ?_) | (refine wpL_ldg M3 rfl rfl rfl (by repeat (first | exact Has.head _ _ _ _ | apply Has.tail)) (by first | exact rd_num _ _ | exact rd_bits _ | exact rd_part _ _ | exact rd_minus _ _ | assumption) ?_) | (refine wpN_1 rfl rfl rfl ?_) | (refine wpN_0 rfl rfl ?_) | (refine wpN_2 rfl rfl rfl rfl ?_) | (refine wpL_st M3 rfl rfl rfl rfl (by repeat (first | exact Has.head _ _ _ _ | apply Has.tail)) (by first | exact wr_num _ (numC_len _ _) _ _ | exact wr_bits _ (bitsC_len _) _ | exact wr_part _ _ _ | exact wr_minus _ _ _ | assumption) (by repeat (first | exact Upd.head _ _ _ _ _ | apply Upd.tail)) ?_; clear M3; intro w' M3) | (refine wpL_ld M4 rfl rfl rfl (by repeat (first | exact Has.head _ _ _ _ | apply Has.tail)) (by first | exact rd_num _ _ | exact rd_bits _ | exact rd_part _ _ | exact rd_minus _ _ | assumption) ?_) | (refine wpL_ldg M4 rfl rfl rfl (by repeat (first | exact Has.head _ _ _ _ | apply Has.tail)) (by first | exact rd_num _ _ | exact rd_bits _ | exact rd_part _ _ | exact rd_minus _ _ | assumption) ?_) | (refine wpN_1 rfl rfl rfl ?_) | (refine wpN_0 rfl rfl ?_) | (refine wpN_2 rfl rfl rfl rfl ?_) | (refine wpL_st M4 rfl rfl rfl rfl (by repeat (first | exact Has.head _ _ _ _ | apply Has.tail)) (by first | exact wr_num _ (numC_len _ _) _ _ | exact wr_bits _ (bitsC_len _) _ | exact wr_part _ _ _ | exact wr_minus _ _ _ | assumption) (by repeat (first | exact Upd.head _ _ _ _ _ | apply Upd.tail)) ?_; clear M4; intro w' M4)))
  refine (C3 _).mono ?_
  rintro e w2 ⟨rfl, hBl⟩
  replace M4 := M4.call hBl
  clear hBl C3
  go_wp2_with ((with_reducible refine (?_ : Go.wpList _ _ _ (_ :: _) _ _)); (first | go_skip | (refine wpL_bx M4 rfl rfl rfl rfl ?_; clear M4; intro g5 w5 M5) | (refine wpL_al M4 rfl rfl zero27 rfl ?_; clear M4; intro g5 w5 M5) | (refine wpL_al M4 rfl rfl zero29 rfl ?_; clear M4; intro g5 w5 M5) | (refine wpL_ld M4 rfl rfl rfl (by repeat (first | exact Has.head _ _ _ _ | apply Has.tail)) (by first | exact rd_num _ _ | exact rd_bits _ | exact rd_part _ _ | exact rd_minus _ _ | assumption) ?_) | (refine wpL_ldg M4 rfl rfl rfl (by repeat (first | exact Has.head _ _ _ _ | apply Has.tail)) (by first | exact rd_num _ _ | exact rd_bits _ | exact rd_part _ _ | exact rd_minus _ _ | assumption) ?_) | (refine wpN_1 rfl rfl rfl ?_) | (refine wpN_0 rfl rfl ?_) | (refine wpN_2 rfl rfl rfl rfl ?_) | (refine wpL_st M4 rfl rfl rfl rfl (by repeat (first | exact Has.head _ _ _ _ | apply Has.tail)) (by first | exact wr_num _ (numC_len _ _) _ _ | exact wr_bits _ (bitsC_len _) _ | exact wr_part _ _ _ | exact wr_minus _ _ _ | assumption) (by repeat (first | exact Upd.head _ _ _ _ _ | apply Upd.tail)) ?_; clear M4; intro w' M4) | (refine wpL_ld M5 rfl rfl rfl (by repeat (first | exact Has.head _ _ _ _ | apply Has.tail)) (by first | exact rd_num _ _ | exact rd_bits _ | exact rd_part _ _ | exact rd_minus _ _ | assumption) ?_) | (refine wpL_ldg M5 rfl rfl rfl (by repeat (first | exact Has.head _ _ _ _ | apply Has.tail)) (by first | exact rd_num _ _ | exact rd_bits _ | exact rd_part _ _ | exact rd_minus _ _ | assumption) ?_) | (refine wpN_1 rfl rfl rfl ?_) | (refine wpN_0 rfl rfl ?_) | (refine wpN_2 rfl rfl rfl rfl ?_) | (refine wpL_st M5 rfl rfl rfl rfl (by repeat (first | exact Has.head _ _ _ _ | apply Has.tail)) (by first | exact wr_num _ (numC_len _ _) _ _ | exact wr_bits _ (bitsC_len _) _ | exact wr_part _ _ _ | exact wr_minus _ _ _ | assumption) (by repeat (first | exact Upd.head _ _ _ _ _ | apply Upd.tail)) ?_; clear M5; intro w' M5)))
  refine (C5 _ _).mono ?_
  rintro e w2 ⟨rfl, hBl⟩
  replace M5 := M5.call hBl
  clear hBl C5
  go_wp2_with ((with_reducible refine (?_ : Go.wpList _ _ _ (_ :: _) _ _)); (first | go_skip | (refine wpL_ld M5 rfl rfl rfl (by repeat (first | exact Has.head _ _ _ _ | apply Has.tail)) (by first | exact rd_num _ _ | exact rd_bits _ | exact rd_part _ _ | exact rd_minus _ _ | assumption) ?_) | (refine wpL_ldg M5 rfl rfl rfl (by repeat (first | exact Has.head _ _ _ _ | apply Has.tail)) (by first | exact rd_num _ _ | exact rd_bits _ | exact rd_part _ _ | exact rd_minus _ _ | assumption) ?_) | (refine wpN_1 rfl rfl rfl ?_) | (refine wpN_0 rfl rfl ?_) | (refine wpN_2 rfl rfl rfl rfl ?_) | (refine wpL_st M5 rfl rfl rfl rfl (by repeat (first | exact Has.head _ _ _ _ | apply Has.tail)) (by first | exact wr_num _ (numC_len _ _) _ _ | exact wr_bits _ (bitsC_len _) _ | exact wr_part _ _ _ | exact wr_minus _ _ _ | assumption) (by repeat (first | exact Upd.head _ _ _ _ _ | apply Upd.tail)) ?_; clear M5; intro w' M5)))
  refine (C6 _).mono ?_
  rintro e w2 ⟨rfl, hBl⟩
  replace M5 := M5.call hBl
  clear hBl C6
  go_wp2_with ((with_reducible refine (?_ : Go.wpList _ _ _ (_ :: _) _ _)); (first | go_skip | (refine wpL_ld M5 rfl rfl rfl (by repeat (first | exact Has.head _ _ _ _ | apply Has.tail)) (by first | exact rd_num _ _ | exact rd_bits _ | exact rd_part _ _ | exact rd_minus _ _ | assumption) ?_) | (refine wpL_ldg M5 rfl rfl rfl (by repeat (first | exact Has.head _ _ _ _ | apply Has.tail)) (by first | exact rd_num _ _ | exact rd_bits _ | exact rd_part _ _ | exact rd_minus _ _ | assumption) ?_) | (refine wpN_1 rfl rfl rfl ?_) | (refine wpN_0 rfl rfl ?_) | (refine wpN_2 rfl rfl rfl rfl ?_) | (refine wpL_st M5 rfl rfl rfl rfl (by repeat (first | exact Has.head _ _ _ _ | apply Has.tail)) (by first | exact wr_num _ (numC_len _ _) _ _ | exact wr_bits _ (bitsC_len _) _ | exact wr_part _ _ _ | exact wr_minus _ _ _ | assumption) (by repeat (first | exact Upd.head _ _ _ _ _ | apply Upd.tail)) ?_; clear M5; intro w' M5)))
  refine (C7 _).mono ?_
  rintro e w2 ⟨rfl, hBl⟩
  replace M5 := M5.call hBl
  clear hBl C7
  go_wp2_with ((with_reducible refine (?_ : Go.wpList _ _ _ (_ :: _) _ _)); (first | go_skip | (refine wpL_ld M5 rfl rfl rfl (by repeat (first | exact Has.head _ _ _ _ | apply Has.tail)) (by first | exact rd_num _ _ | exact rd_bits _ | exact rd_part _ _ | exact rd_minus _ _ | assumption) ?_) | (refine wpL_ldg M5 rfl rfl rfl (by repeat (first | exact Has.head _ _ _ _ | apply Has.tail)) (by first | exact rd_num _ _ | exact rd_bits _ | exact rd_part _ _ | exact rd_minus _ _ | assumption) ?_) | (refine wpN_1 rfl rfl rfl ?_) | (refine wpN_0 rfl rfl ?_) | (refine wpN_2 rfl rfl rfl rfl ?_) | (refine wpL_st M5 rfl rfl rfl rfl (by repeat (first | exact Has.head _ _ _ _ | apply Has.tail)) (by first | exact wr_num _ (numC_len _ _) _ _ | exact wr_bits _ (bitsC_len _) _ | exact wr_part _ _ _ | exact wr_minus _ _ _ | assumption) (by repeat (first | exact Upd.head _ _ _ _ _ | apply Upd.tail)) ?_; clear M5; intro w' M5)))
  go_ret2
  exact ⟨ret_ii (by first | (simp only [wrap64]; omega) | omega) rfl, M5.below⟩

theorem refDiv_any (m : Bool) (n : Nat) (z b mode : Int) (hn : n < 2 ^ 128) (hz : m = decide (z < 0)) (hzn : n = z.natAbs) (hbr : -9223372036854775808 ≤ b ∧ b ≤ 9223372036854775807) (w : World) :
    Calls Try.prog 39 #[.agg (numC m n).toArray, .int .i64 b, .int .i64 mode] w fun e w' =>
      e = .returned (.tuple #[.int .i64 (divV z b mode), .int .i64 (divE z b mode)]) ∧ Below w.heap.size w w' := by
  by_cases ha : b = 0 ∨ mode < 0 ∨ 3 < mode
  · have e1 : divV z b mode = 0 := by unfold divV; rw [if_pos ha]
    have e2 : divE z b mode = 1 := by unfold divE; rw [if_pos ha]
    rw [e1, e2]
    exact refDiv_arg m n b mode ha w
  · have hb : b ≠ 0 := by omega
    have hm : 0 ≤ mode ∧ mode ≤ 3 := by omega
    have e1 : divV z b mode = if magS n (m != decide (b < 0)) b.natAbs mode = 0 then 0 else if fitsS (m != decide (b < 0)) (magS n (m != decide (b < 0)) b.natAbs mode) 63 then signed (m != decide (b < 0)) (magS n (m != decide (b < 0)) b.natAbs mode) else 0 := by
      unfold divV; rw [if_neg ha, hz, hzn]
    have e2 : divE z b mode = if magS n (m != decide (b < 0)) b.natAbs mode = 0 then 0 else if fitsS (m != decide (b < 0)) (magS n (m != decide (b < 0)) b.natAbs mode) 63 then 0 else 10 := by
      unfold divE; rw [if_neg ha, hz, hzn]
    rw [e1, e2]
    obtain ⟨minus, hmin⟩ : ∃ minus, minus = (m != decide (b < 0)) := ⟨_, rfl⟩
    rw [← hmin]
    obtain ⟨q, hq⟩ : ∃ q, q = magS n minus b.natAbs mode := ⟨_, rfl⟩
    rw [← hq]
    unfold magS at hq
    cases hmo : moreS (n % b.natAbs) b.natAbs minus mode
    · rw [hmo] at hq
      by_cases h0 : q = 0
      · rw [if_pos h0, if_pos h0]
        exact refDiv_false_zero m n b mode hn hbr hb hm minus q hmin hmo hq h0 w
      · rw [if_neg h0, if_neg h0]
        cases hf : fitsS minus q 63
        · exact refDiv_false_big m n b mode hn hbr hb hm minus q hmin hmo hq h0 hf w
        · exact refDiv_false_ok m n b mode hn hbr hb hm minus q hmin hmo hq h0 hf w
    · rw [hmo] at hq
      by_cases h0 : q = 0
      · rw [if_pos h0, if_pos h0]
        exact refDiv_true_zero m n b mode hn hbr hb hm minus q hmin hmo hq h0 w
      · rw [if_neg h0, if_neg h0]
        cases hf : fitsS minus q 63
        · exact refDiv_true_big m n b mode hn hbr hb hm minus q hmin hmo hq h0 hf w
        · exact refDiv_true_ok m n b mode hn hbr hb hm minus q hmin hmo hq h0 hf w
end Go.Proofs.Ytggmjdaolekgmaa
