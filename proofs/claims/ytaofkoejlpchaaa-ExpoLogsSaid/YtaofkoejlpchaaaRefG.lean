/-
  The reference: the product.
-/
import Derived.Test.YtaofkoejlpchaaaRefF
set_option linter.unusedVariables false
set_option linter.unusedSimpArgs false
namespace Go.Proofs.Ytaofkoejlpchaaa
open Go Go.RowKit Go.Th Go.Th.Wide

theorem mul_part (A B k : Nat) : A * (B % 2 ^ k) + (if bt B k = 1 then A * 2 ^ k else 0) = A * (B % 2 ^ (k + 1)) := by
  rw [mod_up, Nat.mul_add]
  congr 1
  have h := bt_lt B k
  by_cases h1 : bt B k = 1
  · rw [if_pos h1, h1, Nat.mul_one]
  · rw [if_neg h1, show bt B k = 0 by omega, Nat.mul_zero, Nat.mul_zero]
theorem mul_bound (A B k : Nat) (hA : A ≤ 2 ^ 63) (hk : k ≤ 65) : A * 2 ^ k ≤ 2 ^ 128 := by
  have h : A * 2 ^ k ≤ 2 ^ 63 * 2 ^ 65 := Nat.mul_le_mul hA (Nat.pow_le_pow_right (by decide) hk)
  exact h
theorem mul_bound2 (A B : Nat) (hA : A ≤ 2 ^ 63) (hB : B ≤ 2 ^ 63) : A * B ≤ 2 ^ 126 := by
  have h : A * B ≤ 2 ^ 63 * 2 ^ 63 := Nat.mul_le_mul hA hB
  exact h

set_option maxRecDepth 20000 in
set_option maxHeartbeats 3200000 in
theorem refMul_gen (a b : Int) (A B : Nat) (sa sb : Bool) (ha : -9223372036854775808 ≤ a ∧ a ≤ 9223372036854775807) (hb : -9223372036854775808 ≤ b ∧ b ≤ 9223372036854775807)
    (hA : A = a.natAbs) (hB : B = b.natAbs) (hsa : sa = decide (a < 0)) (hsb : sb = decide (b < 0)) (w : World) :
    Calls Try.prog 26 #[.int .i64 a, .int .i64 b] w fun e w' => e = .returned (.agg (numC ((sa != sb) && !decide (A * B = 0)) (A * B)).toArray) ∧ Below w.heap.size w w' := by
  have hA2 : A ≤ 2 ^ 63 := by omega
  have hB2 : B ≤ 2 ^ 63 := by omega
  have C1 := of_any a ha
  have C2 := of_any b hb
  rw [← hA, ← hsa] at C1
  rw [← hB, ← hsb] at C2
  clear hA hB hsa hsb
  have M0 := Mem.start w
  go_enter Try.func26, Try.ntmps26
  go_wp2_with ((with_reducible refine (?_ : Go.wpList _ _ _ (_ :: _) _ _)); (first | go_skip | (refine wpL_bx M0 rfl rfl rfl rfl ?_; clear M0; intro g1 w1 M1) | (refine wpL_al M0 rfl rfl zero27 rfl ?_; clear M0; intro g1 w1 M1) | (refine wpL_al M0 rfl rfl zero29 rfl ?_; clear M0; intro g1 w1 M1) | (refine wpL_ld M0 rfl rfl rfl (by repeat (first | exact Has.head _ _ _ _ | apply Has.tail)) (by first | exact rd_num _ _ | exact rd_bits _ | exact rd_part _ _ | exact rd_minus _ _ | assumption) ?_) | (refine wpL_ldg M0 rfl rfl rfl (by repeat (first | exact Has.head _ _ _ _ | apply Has.tail)) (by first | exact rd_num _ _ | exact rd_bits _ | exact rd_part _ _ | exact rd_minus _ _ | assumption) ?_) | (refine wpN_1 rfl rfl rfl ?_) | (refine wpN_0 rfl rfl ?_) | (refine wpN_2 rfl rfl rfl rfl ?_) | (refine wpL_st M0 rfl rfl rfl rfl (by repeat (first | exact Has.head _ _ _ _ | apply Has.tail)) (by first | exact wr_num _ (numC_len _ _) _ _ | exact wr_bits _ (bitsC_len _) _ | exact wr_part _ _ _ | exact wr_minus _ _ _ | assumption) (by repeat (first | exact Upd.head _ _ _ _ _ | apply Upd.tail)) ?_; clear M0; intro w' M0) | (refine wpL_ld M1 rfl rfl rfl (by repeat (first | exact Has.head _ _ _ _ | apply Has.tail)) (by first | exact rd_num _ _ | exact rd_bits _ | exact rd_part _ _ | exact rd_minus _ _ | assumption) ?_) | (refine wpL_ldg M1 rfl rfl rfl (by repeat (first | exact Has.head _ _ _ _ | apply Has.tail)) (by first | exact rd_num _ _ | exact rd_bits _ | exact rd_part _ _ | exact rd_minus _ _ | assumption) ?_) | (refine wpN_1 rfl rfl rfl ?_) | (refine wpN_0 rfl rfl ?_) | (refine wpN_2 rfl rfl rfl rfl ?_) | (refine wpL_st M1 rfl rfl rfl rfl (by repeat (first | exact Has.head _ _ _ _ | apply Has.tail)) (by first | exact wr_num _ (numC_len _ _) _ _ | exact wr_bits _ (bitsC_len _) _ | exact wr_part _ _ _ | exact wr_minus _ _ _ | assumption) (by repeat (first | exact Upd.head _ _ _ _ _ | apply Upd.tail)) ?_; clear M1; intro w' M1)))
  refine (C1 _).mono ?_
  rintro e w2 ⟨rfl, hBl⟩
  replace M1 := M1.call hBl
  clear hBl
  go_wp2_with ((with_reducible refine (?_ : Go.wpList _ _ _ (_ :: _) _ _)); (first | go_skip | (refine wpL_bx M1 rfl rfl rfl rfl ?_; clear M1; intro g2 w2 M2) | (refine wpL_al M1 rfl rfl zero27 rfl ?_; clear M1; intro g2 w2 M2) | (refine wpL_al M1 rfl rfl zero29 rfl ?_; clear M1; intro g2 w2 M2) | (refine wpL_ld M1 rfl rfl rfl (by repeat (first | exact Has.head _ _ _ _ | apply Has.tail)) (by first | exact rd_num _ _ | exact rd_bits _ | exact rd_part _ _ | exact rd_minus _ _ | assumption) ?_) | (refine wpL_ldg M1 rfl rfl rfl (by repeat (first | exact Has.head _ _ _ _ | apply Has.tail)) (by first | exact rd_num _ _ | exact rd_bits _ | exact rd_part _ _ | exact rd_minus _ _ | assumption) ?_) | (refine wpN_1 rfl rfl rfl ?_) | (refine wpN_0 rfl rfl ?_) | (refine wpN_2 rfl rfl rfl rfl ?_) | (refine wpL_st M1 rfl rfl rfl rfl (by repeat (first | exact Has.head _ _ _ _ | apply Has.tail)) (by first | exact wr_num _ (numC_len _ _) _ _ | exact wr_bits _ (bitsC_len _) _ | exact wr_part _ _ _ | exact wr_minus _ _ _ | assumption) (by repeat (first | exact Upd.head _ _ _ _ _ | apply Upd.tail)) ?_; clear M1; intro w' M1) | (refine wpL_ld M2 rfl rfl rfl (by repeat (first | exact Has.head _ _ _ _ | apply Has.tail)) (by first | exact rd_num _ _ | exact rd_bits _ | exact rd_part _ _ | exact rd_minus _ _ | assumption) ?_) | (refine wpL_ldg M2 rfl rfl rfl (by repeat (first | exact Has.head _ _ _ _ | apply Has.tail)) (by first | exact rd_num _ _ | exact rd_bits _ | exact rd_part _ _ | exact rd_minus _ _ | assumption) ?_) | (refine wpN_1 rfl rfl rfl ?_) | (refine wpN_0 rfl rfl ?_) | (refine wpN_2 rfl rfl rfl rfl ?_) | (refine wpL_st M2 rfl rfl rfl rfl (by repeat (first | exact Has.head _ _ _ _ | apply Has.tail)) (by first | exact wr_num _ (numC_len _ _) _ _ | exact wr_bits _ (bitsC_len _) _ | exact wr_part _ _ _ | exact wr_minus _ _ _ | assumption) (by repeat (first | exact Upd.head _ _ _ _ _ | apply Upd.tail)) ?_; clear M2; intro w' M2)))
  refine (C2 _).mono ?_
  rintro e w2 ⟨rfl, hBl⟩
  replace M2 := M2.call hBl
  clear hBl C1 C2
  go_wp2_with ((with_reducible refine (?_ : Go.wpList _ _ _ (_ :: _) _ _)); (first | go_skip | (refine wpL_bx M2 rfl rfl rfl rfl ?_; clear M2; intro g3 w3 M3) | (refine wpL_al M2 rfl rfl zero27 rfl ?_; clear M2; intro g3 w3 M3) | (refine wpL_al M2 rfl rfl zero29 rfl ?_; clear M2; intro g3 w3 M3) | (refine wpL_ld M2 rfl rfl rfl (by repeat (first | exact Has.head _ _ _ _ | apply Has.tail)) (by first | exact rd_num _ _ | exact rd_bits _ | exact rd_part _ _ | exact rd_minus _ _ | assumption) ?_) | (refine wpL_ldg M2 rfl rfl rfl (by repeat (first | exact Has.head _ _ _ _ | apply Has.tail)) (by first | exact rd_num _ _ | exact rd_bits _ | exact rd_part _ _ | exact rd_minus _ _ | assumption) ?_) | (refine wpN_1 rfl rfl rfl ?_) | (refine wpN_0 rfl rfl ?_) | (refine wpN_2 rfl rfl rfl rfl ?_) | (refine wpL_st M2 rfl rfl rfl rfl (by repeat (first | exact Has.head _ _ _ _ | apply Has.tail)) (by first | exact wr_num _ (numC_len _ _) _ _ | exact wr_bits _ (bitsC_len _) _ | exact wr_part _ _ _ | exact wr_minus _ _ _ | assumption) (by repeat (first | exact Upd.head _ _ _ _ _ | apply Upd.tail)) ?_; clear M2; intro w' M2) | (refine wpL_bx M3 rfl rfl rfl rfl ?_; clear M3; intro g4 w4 M4) | (refine wpL_al M3 rfl rfl zero27 rfl ?_; clear M3; intro g4 w4 M4) | (refine wpL_al M3 rfl rfl zero29 rfl ?_; clear M3; intro g4 w4 M4) | (refine wpL_ld M3 rfl rfl rfl (by repeat (first | exact Has.head _ _ _ _ | apply Has.tail)) (by first | exact rd_num _ _ | exact rd_bits _ | exact rd_part _ _ | exact rd_minus _ _ | assumption) ?_) | (refine wpL_ldg M3 rfl rfl rfl (by repeat (first | exact Has.head _ _ _ _ | apply Has.tail)) (by first | exact rd_num _ _ | exact rd_bits _ | exact rd_part _ _ | exact rd_minus _ _ | assumption) ?_) | (refine wpN_1 rfl rfl rfl ?_) | (refine wpN_0 rfl rfl ?_) | (refine wpN_2 rfl rfl rfl rfl ?_) | (refine wpL_st M3 rfl rfl rfl rfl (by repeat (first | exact Has.head _ _ _ _ | apply Has.tail)) (by first | exact wr_num _ (numC_len _ _) _ _ | exact wr_bits _ (bitsC_len _) _ | exact wr_part _ _ _ | exact wr_minus _ _ _ | assumption) (by repeat (first | exact Upd.head _ _ _ _ _ | apply Upd.tail)) ?_; clear M3; intro w' M3) | (refine wpL_bx M4 rfl rfl rfl rfl ?_; clear M4; intro g5 w5 M5) | (refine wpL_al M4 rfl rfl zero27 rfl ?_; clear M4; intro g5 w5 M5) | (refine wpL_al M4 rfl rfl zero29 rfl ?_; clear M4; intro g5 w5 M5) | (refine wpL_ld M4 rfl rfl rfl (by repeat (first | exact Has.head _ _ _ _ | apply Has.tail)) (by first | exact rd_num _ _ | exact rd_bits _ | exact rd_part _ _ | exact rd_minus _ _ | assumption) ?_) | (refine wpL_ldg M4 rfl rfl rfl (by repeat (first | exact Has.head _ _ _ _ | apply Has.tail)) (by first | exact rd_num _ _ | exact rd_bits _ | exact rd_part _ _ | exact rd_minus _ _ | assumption) ?_) | (refine wpN_1 rfl rfl rfl ?_) | (refine wpN_0 rfl rfl ?_) | (refine wpN_2 rfl rfl rfl rfl ?_) | (refine wpL_st M4 rfl rfl rfl rfl (by repeat (first | exact Has.head _ _ _ _ | apply Has.tail)) (by first | exact wr_num _ (numC_len _ _) _ _ | exact wr_bits _ (bitsC_len _) _ | exact wr_part _ _ _ | exact wr_minus _ _ _ | assumption) (by repeat (first | exact Upd.head _ _ _ _ _ | apply Upd.tail)) ?_; clear M4; intro w' M4) | (refine wpL_ld M5 rfl rfl rfl (by repeat (first | exact Has.head _ _ _ _ | apply Has.tail)) (by first | exact rd_num _ _ | exact rd_bits _ | exact rd_part _ _ | exact rd_minus _ _ | assumption) ?_) | (refine wpL_ldg M5 rfl rfl rfl (by repeat (first | exact Has.head _ _ _ _ | apply Has.tail)) (by first | exact rd_num _ _ | exact rd_bits _ | exact rd_part _ _ | exact rd_minus _ _ | assumption) ?_) | (refine wpN_1 rfl rfl rfl ?_) | (refine wpN_0 rfl rfl ?_) | (refine wpN_2 rfl rfl rfl rfl ?_) | (refine wpL_st M5 rfl rfl rfl rfl (by repeat (first | exact Has.head _ _ _ _ | apply Has.tail)) (by first | exact wr_num _ (numC_len _ _) _ _ | exact wr_bits _ (bitsC_len _) _ | exact wr_part _ _ _ | exact wr_minus _ _ _ | assumption) (by repeat (first | exact Upd.head _ _ _ _ _ | apply Upd.tail)) ?_; clear M5; intro w' M5)))
  go_loopw [9] (fun i wx => ∃ k : Nat, k ≤ 65 ∧ i = .int .i64 k ∧ Mem w wx [(g5, 50, bitsC (A * 2 ^ k)), (g4, 52, numC false (A * (B % 2 ^ k))), (g3, 52, numC sb B), (g2, 52, numC sa A), (g1, 52, numC false 0)]) (fun i _ => 65 - (intOf i).toNat)
  case atStart => exact ⟨0, by omega, rfl, by rw [Nat.pow_zero, Nat.mul_one, Nat.mod_one, Nat.mul_zero]; exact M5⟩
  case round =>
    clear M5
    obtain ⟨k, hk, rfl, M6⟩ := hrel
    have b1 := mul_bound A B k hA2 hk
    by_cases hlt : k < 65
    · have c1 := M6.cell (g := g3) (by repeat (first | exact Has.head _ _ _ _ | apply Has.tail)) (numC_at' sb B (i := k) (by omega))
      have hi0 : (0 : Int) ≤ k := by omega
      have hi1 : (k : Int) < 129 := by omega
      have hp := mul_part A B k
      have b2 : A * (B % 2 ^ (k + 1)) ≤ 2 ^ 126 := mul_bound2 _ _ hA2 (Nat.le_trans (Nat.mod_le _ _) hB2)
      have hs : 2 * (A * 2 ^ k) = A * 2 ^ (k + 1) := by rw [Nat.pow_succ, Nat.mul_left_comm, Nat.mul_comm 2]
      have b3 := mul_bound A B (k + 1) hA2 (by omega)
      have C3 := shift_any (A * 2 ^ k)
      rw [hs, Nat.mod_eq_of_lt (Nat.lt_of_le_of_lt b3 (by decide))] at C3
      by_cases h1 : bt B k = 1
      · rw [h1] at c1
        rw [if_pos h1] at hp
        have C4 := addBits_any (A * (B % 2 ^ k)) (A * 2 ^ k)
        rw [hp, Nat.mod_eq_of_lt (Nat.lt_of_le_of_lt b2 (by decide))] at C4
        clear hp h1 hs b1 b2 b3
        go_wp2_with ((with_reducible refine (?_ : Go.wpList _ _ _ (_ :: _) _ _)); (first | go_skip | (refine wpL_ld M6 rfl rfl rfl (by repeat (first | exact Has.head _ _ _ _ | apply Has.tail)) (by first | exact rd_num _ _ | exact rd_bits _ | exact rd_part _ _ | exact rd_minus _ _ | assumption) ?_) | (refine wpL_ldg M6 rfl rfl rfl (by repeat (first | exact Has.head _ _ _ _ | apply Has.tail)) (by first | exact rd_num _ _ | exact rd_bits _ | exact rd_part _ _ | exact rd_minus _ _ | assumption) ?_) | (refine wpN_1 rfl rfl rfl ?_) | (refine wpN_0 rfl rfl ?_) | (refine wpN_2 rfl rfl rfl rfl ?_) | (refine wpL_st M6 rfl rfl rfl rfl (by repeat (first | exact Has.head _ _ _ _ | apply Has.tail)) (by first | exact wr_num _ (numC_len _ _) _ _ | exact wr_bits _ (bitsC_len _) _ | exact wr_part _ _ _ | exact wr_minus _ _ _ | assumption) (by repeat (first | exact Upd.head _ _ _ _ _ | apply Upd.tail)) ?_; clear M6; intro w' M6)))
        refine (C4 _).mono ?_
        rintro e w2 ⟨rfl, hBl⟩
        replace M6 := M6.call hBl
        clear hBl C4
        go_wp2_with ((with_reducible refine (?_ : Go.wpList _ _ _ (_ :: _) _ _)); (first | go_skip | (refine wpL_ld M6 rfl rfl rfl (by repeat (first | exact Has.head _ _ _ _ | apply Has.tail)) (by first | exact rd_num _ _ | exact rd_bits _ | exact rd_part _ _ | exact rd_minus _ _ | assumption) ?_) | (refine wpL_ldg M6 rfl rfl rfl (by repeat (first | exact Has.head _ _ _ _ | apply Has.tail)) (by first | exact rd_num _ _ | exact rd_bits _ | exact rd_part _ _ | exact rd_minus _ _ | assumption) ?_) | (refine wpN_1 rfl rfl rfl ?_) | (refine wpN_0 rfl rfl ?_) | (refine wpN_2 rfl rfl rfl rfl ?_) | (refine wpL_st M6 rfl rfl rfl rfl (by repeat (first | exact Has.head _ _ _ _ | apply Has.tail)) (by first | exact wr_num _ (numC_len _ _) _ _ | exact wr_bits _ (bitsC_len _) _ | exact wr_part _ _ _ | exact wr_minus _ _ _ | assumption) (by repeat (first | exact Upd.head _ _ _ _ _ | apply Upd.tail)) ?_; clear M6; intro w' M6)))
        refine (C3 _).mono ?_
        rintro e w2 ⟨rfl, hBl⟩
        replace M6 := M6.call hBl
        clear hBl C3
        go_wp2_with ((with_reducible refine (?_ : Go.wpList _ _ _ (_ :: _) _ _)); (first | go_skip | (refine wpL_ld M6 rfl rfl rfl (by repeat (first | exact Has.head _ _ _ _ | apply Has.tail)) (by first | exact rd_num _ _ | exact rd_bits _ | exact rd_part _ _ | exact rd_minus _ _ | assumption) ?_) | (refine wpL_ldg M6 rfl rfl rfl (by repeat (first | exact Has.head _ _ _ _ | apply Has.tail)) (by first | exact rd_num _ _ | exact rd_bits _ | exact rd_part _ _ | exact rd_minus _ _ | assumption) ?_) | (refine wpN_1 rfl rfl rfl ?_) | (refine wpN_0 rfl rfl ?_) | (refine wpN_2 rfl rfl rfl rfl ?_) | (refine wpL_st M6 rfl rfl rfl rfl (by repeat (first | exact Has.head _ _ _ _ | apply Has.tail)) (by first | exact wr_num _ (numC_len _ _) _ _ | exact wr_bits _ (bitsC_len _) _ | exact wr_part _ _ _ | exact wr_minus _ _ _ | assumption) (by repeat (first | exact Upd.head _ _ _ _ _ | apply Upd.tail)) ?_; clear M6; intro w' M6)))
        go_roundw
        case rel => exact ⟨k + 1, by omega, by go_num, M6⟩
        case measure => simp [intOf] <;> omega
      · have h0 : bt B k = 0 := by have := bt_lt B k; omega
        rw [h0] at c1
        rw [if_neg h1, Nat.add_zero] at hp
        rw [hp] at M6
        clear hp h1 h0 hs b1 b2 b3
        go_wp2_with ((with_reducible refine (?_ : Go.wpList _ _ _ (_ :: _) _ _)); (first | go_skip | (refine wpL_ld M6 rfl rfl rfl (by repeat (first | exact Has.head _ _ _ _ | apply Has.tail)) (by first | exact rd_num _ _ | exact rd_bits _ | exact rd_part _ _ | exact rd_minus _ _ | assumption) ?_) | (refine wpL_ldg M6 rfl rfl rfl (by repeat (first | exact Has.head _ _ _ _ | apply Has.tail)) (by first | exact rd_num _ _ | exact rd_bits _ | exact rd_part _ _ | exact rd_minus _ _ | assumption) ?_) | (refine wpN_1 rfl rfl rfl ?_) | (refine wpN_0 rfl rfl ?_) | (refine wpN_2 rfl rfl rfl rfl ?_) | (refine wpL_st M6 rfl rfl rfl rfl (by repeat (first | exact Has.head _ _ _ _ | apply Has.tail)) (by first | exact wr_num _ (numC_len _ _) _ _ | exact wr_bits _ (bitsC_len _) _ | exact wr_part _ _ _ | exact wr_minus _ _ _ | assumption) (by repeat (first | exact Upd.head _ _ _ _ _ | apply Upd.tail)) ?_; clear M6; intro w' M6)))
        refine (C3 _).mono ?_
        rintro e w2 ⟨rfl, hBl⟩
        replace M6 := M6.call hBl
        clear hBl C3
        go_wp2_with ((with_reducible refine (?_ : Go.wpList _ _ _ (_ :: _) _ _)); (first | go_skip | (refine wpL_ld M6 rfl rfl rfl (by repeat (first | exact Has.head _ _ _ _ | apply Has.tail)) (by first | exact rd_num _ _ | exact rd_bits _ | exact rd_part _ _ | exact rd_minus _ _ | assumption) ?_) | (refine wpL_ldg M6 rfl rfl rfl (by repeat (first | exact Has.head _ _ _ _ | apply Has.tail)) (by first | exact rd_num _ _ | exact rd_bits _ | exact rd_part _ _ | exact rd_minus _ _ | assumption) ?_) | (refine wpN_1 rfl rfl rfl ?_) | (refine wpN_0 rfl rfl ?_) | (refine wpN_2 rfl rfl rfl rfl ?_) | (refine wpL_st M6 rfl rfl rfl rfl (by repeat (first | exact Has.head _ _ _ _ | apply Has.tail)) (by first | exact wr_num _ (numC_len _ _) _ _ | exact wr_bits _ (bitsC_len _) _ | exact wr_part _ _ _ | exact wr_minus _ _ _ | assumption) (by repeat (first | exact Upd.head _ _ _ _ _ | apply Upd.tail)) ?_; clear M6; intro w' M6)))
        go_roundw
        case rel => exact ⟨k + 1, by omega, by go_num, M6⟩
        case measure => simp [intOf] <;> omega
    · obtain rfl : k = 65 := by omega
      rw [Nat.mod_eq_of_lt (Nat.lt_of_le_of_lt hB2 (by decide))] at M6
      have b2 : A * B ≤ 2 ^ 126 := mul_bound2 _ _ hA2 hB2
      have C5 := zero_any false (A * B) (Nat.lt_of_le_of_lt b2 (by decide))
      obtain ⟨N, hN⟩ : ∃ N, N = A * B := ⟨_, rfl⟩
      rw [← hN] at C5 M6
      have HN := Lib.hid hN
      clear b1 b2 hN hlt hk
      by_cases hss : sa = sb
      · subst hss
        go_wp2_with ((with_reducible refine (?_ : Go.wpList _ _ _ (_ :: _) _ _)); (first | go_skip | (refine wpL_ld M6 rfl rfl rfl (by repeat (first | exact Has.head _ _ _ _ | apply Has.tail)) (by first | exact rd_num _ _ | exact rd_bits _ | exact rd_part _ _ | exact rd_minus _ _ | assumption) ?_) | (refine wpL_ldg M6 rfl rfl rfl (by repeat (first | exact Has.head _ _ _ _ | apply Has.tail)) (by first | exact rd_num _ _ | exact rd_bits _ | exact rd_part _ _ | exact rd_minus _ _ | assumption) ?_) | (refine wpN_1 rfl rfl rfl ?_) | (refine wpN_0 rfl rfl ?_) | (refine wpN_2 rfl rfl rfl rfl ?_) | (refine wpL_st M6 rfl rfl rfl rfl (by repeat (first | exact Has.head _ _ _ _ | apply Has.tail)) (by first | exact wr_num _ (numC_len _ _) _ _ | exact wr_bits _ (bitsC_len _) _ | exact wr_part _ _ _ | exact wr_minus _ _ _ | assumption) (by repeat (first | exact Upd.head _ _ _ _ _ | apply Upd.tail)) ?_; clear M6; intro w' M6)))
        ((try simp only [Exit.inBlock, Exit.then]); refine bodyPost_ret (res_cell rfl M6 rfl (by repeat (first | exact Has.head _ _ _ _ | apply Has.tail)) (by first | exact rd_num _ _ | exact rd_bits _ | exact rd_part _ _ | exact rd_minus _ _ | assumption)) rfl ?_)
        exact ⟨by rw [← HN.out]; simp, M6.below⟩
      · have hss2 : (sa == sb) = false := by simpa using hss
        go_wp2_with ((with_reducible refine (?_ : Go.wpList _ _ _ (_ :: _) _ _)); (first | go_skip | (refine wpL_ld M6 rfl rfl rfl (by repeat (first | exact Has.head _ _ _ _ | apply Has.tail)) (by first | exact rd_num _ _ | exact rd_bits _ | exact rd_part _ _ | exact rd_minus _ _ | assumption) ?_) | (refine wpL_ldg M6 rfl rfl rfl (by repeat (first | exact Has.head _ _ _ _ | apply Has.tail)) (by first | exact rd_num _ _ | exact rd_bits _ | exact rd_part _ _ | exact rd_minus _ _ | assumption) ?_) | (refine wpN_1 rfl rfl rfl ?_) | (refine wpN_0 rfl rfl ?_) | (refine wpN_2 rfl rfl rfl rfl ?_) | (refine wpL_st M6 rfl rfl rfl rfl (by repeat (first | exact Has.head _ _ _ _ | apply Has.tail)) (by first | exact wr_num _ (numC_len _ _) _ _ | exact wr_bits _ (bitsC_len _) _ | exact wr_part _ _ _ | exact wr_minus _ _ _ | assumption) (by repeat (first | exact Upd.head _ _ _ _ _ | apply Upd.tail)) ?_; clear M6; intro w' M6)))
        refine (C5 _).mono ?_
        rintro e w2 ⟨rfl, hBl⟩
        replace M6 := M6.call hBl
        clear hBl C5
        go_wp2_with ((with_reducible refine (?_ : Go.wpList _ _ _ (_ :: _) _ _)); (first | go_skip | (refine wpL_ld M6 rfl rfl rfl (by repeat (first | exact Has.head _ _ _ _ | apply Has.tail)) (by first | exact rd_num _ _ | exact rd_bits _ | exact rd_part _ _ | exact rd_minus _ _ | assumption) ?_) | (refine wpL_ldg M6 rfl rfl rfl (by repeat (first | exact Has.head _ _ _ _ | apply Has.tail)) (by first | exact rd_num _ _ | exact rd_bits _ | exact rd_part _ _ | exact rd_minus _ _ | assumption) ?_) | (refine wpN_1 rfl rfl rfl ?_) | (refine wpN_0 rfl rfl ?_) | (refine wpN_2 rfl rfl rfl rfl ?_) | (refine wpL_st M6 rfl rfl rfl rfl (by repeat (first | exact Has.head _ _ _ _ | apply Has.tail)) (by first | exact wr_num _ (numC_len _ _) _ _ | exact wr_bits _ (bitsC_len _) _ | exact wr_part _ _ _ | exact wr_minus _ _ _ | assumption) (by repeat (first | exact Upd.head _ _ _ _ _ | apply Upd.tail)) ?_; clear M6; intro w' M6)))
        ((try simp only [Exit.inBlock, Exit.then]); refine bodyPost_ret (res_cell rfl M6 rfl (by repeat (first | exact Has.head _ _ _ _ | apply Has.tail)) (by first | exact rd_num _ _ | exact rd_bits _ | exact rd_part _ _ | exact rd_minus _ _ | assumption)) rfl ?_)
        exact ⟨by rw [← HN.out]; simp [bne, hss2], M6.below⟩

theorem refMul_any (a b : Int) (ha : -9223372036854775808 ≤ a ∧ a ≤ 9223372036854775807) (hb : -9223372036854775808 ≤ b ∧ b ≤ 9223372036854775807) (w : World) :
    Calls Try.prog 26 #[.int .i64 a, .int .i64 b] w fun e w' => e = .returned (.agg (numC (decide (a * b < 0)) (a * b).natAbs).toArray) ∧ Below w.heap.size w w' := by
  have C := refMul_gen a b _ _ _ _ ha hb rfl rfl rfl rfl w
  have e : ((decide (a < 0) != decide (b < 0)) && !decide (a.natAbs * b.natAbs = 0)) = decide (a * b < 0) := by
    have h0 : a.natAbs * b.natAbs = 0 ↔ a * b = 0 := by rw [← Int.natAbs_mul]; exact Int.natAbs_eq_zero
    rcases Int.lt_trichotomy a 0 with h | h | h <;> rcases Int.lt_trichotomy b 0 with h' | h' | h'
    · have := Int.mul_pos_of_neg_of_neg h h'
      rw [decide_eq_true h, decide_eq_true h', decide_eq_false (p := a * b < 0) (by omega)]; rfl
    · subst h'; simp
    · have := Int.mul_neg_of_neg_of_pos h h'
      rw [decide_eq_true h, decide_eq_false (p := b < 0) (by omega), decide_eq_true this, decide_eq_false (p := _ = 0) (by rw [h0]; omega)]; rfl
    · subst h; simp
    · subst h; simp
    · subst h; simp
    · have := Int.mul_neg_of_pos_of_neg h h'
      rw [decide_eq_false (p := a < 0) (by omega), decide_eq_true h', decide_eq_true this, decide_eq_false (p := _ = 0) (by rw [h0]; omega)]; rfl
    · subst h'; simp
    · have := Int.mul_pos h h'
      rw [decide_eq_false (p := a < 0) (by omega), decide_eq_false (p := b < 0) (by omega), decide_eq_false (p := a * b < 0) (by omega)]; rfl
  rw [e, ← Int.natAbs_mul] at C
  exact C
end Go.Proofs.Ytaofkoejlpchaaa
