/-
  The reference: the parts of a number; of two parts; the product.
-/
import Derived.Test.YtbajkjekpgmmfaaRefD
set_option linter.unusedVariables false
set_option linter.unusedSimpArgs false
namespace Go.Proofs.Ytbajkjekpgmmfaa
open Go Go.RowKit Go.Th Go.Th.Wide

theorem ret_ii {k k' : IntKind} {a b a' b' : Int} (h : a = a') (h' : b = b') : Ending.returned (.tuple #[.int k a, .int k' b]) = Ending.returned (.tuple #[.int k a', .int k' b']) := by rw [h, h']
theorem of_any (x : Int) (h : -9223372036854775808 ≤ x ∧ x ≤ 9223372036854775807) (w : World) :
    Calls Try.prog 36 #[.int .i64 x] w fun e w' => e = .returned (.agg (numC (decide (x < 0)) x.natAbs).toArray) ∧ Below w.heap.size w w' := by
  by_cases hx : x < 0
  · have e : x = -(x.natAbs : Int) := by omega
    have C := of_neg x.natAbs (by omega) (by omega) w
    rw [← e] at C
    rw [decide_eq_true hx]
    exact C
  · have e : x = (x.natAbs : Int) := by omega
    have C := of_pos x.natAbs (by omega) w
    rw [← e] at C
    rw [decide_eq_false hx]
    exact C

theorem word_0 (N : Nat) (w : World) :
    Calls Try.prog 44 #[.agg (bitsC N).toArray, .int .i64 0] w fun e w' => e = .returned (.int .u64 (N % 2 ^ 64 : Nat)) ∧ Below w.heap.size w w' := by
  have C := word_any N 0 (by omega) w
  rw [Nat.pow_zero, Nat.div_one] at C
  exact C
theorem word_64 (N : Nat) (w : World) :
    Calls Try.prog 44 #[.agg (bitsC N).toArray, .int .i64 64] w fun e w' => e = .returned (.int .u64 (N / 2 ^ 64 % 2 ^ 64 : Nat)) ∧ Below w.heap.size w w' :=
  word_any N 64 (by omega) w

set_option maxRecDepth 20000 in
set_option maxHeartbeats 1600000 in
theorem parts_any (m : Bool) (h l : Nat) (hl : l < 18446744073709551616) (hh : h ≤ 9223372036854775808) (hm : m = false → h < 9223372036854775808) (hm2 : h = 9223372036854775808 → l = 0) (w : World) :
    Calls Try.prog 24 #[.agg (numC m (h * 18446744073709551616 + l)).toArray] w fun e w' =>
      e = .returned (.tuple #[.int .i64 (signed m (h * 18446744073709551616 + l) / 18446744073709551616), .int .u64 (signed m (h * 18446744073709551616 + l) % 18446744073709551616)]) ∧ Below w.heap.size w w' := by
  have C1 := word_64 (h * 18446744073709551616 + l)
  have C2 := word_0 (h * 18446744073709551616 + l)
  rw [show (h * 18446744073709551616 + l) / 2 ^ 64 % 2 ^ 64 = h by omega] at C1
  rw [show (h * 18446744073709551616 + l) % 2 ^ 64 = l by omega] at C2
  obtain ⟨N, hN⟩ : ∃ N, N = h * 18446744073709551616 + l := ⟨_, rfl⟩
  rw [← hN] at C1 C2 ⊢
  obtain ⟨z, hz⟩ : ∃ z, z = signed m N := ⟨_, rfl⟩
  rw [← hz]
  unfold signed at hz
  have HS := Lib.hid hz
  have HN := Lib.hid hN
  clear hz hN
  have M0 := Mem.start w
  go_enter Try.func24, Try.ntmps24
  go_wp2_with ((with_reducible refine (?_ : Go.wpList _ _ _ (_ :: _) _ _)); (first | go_skip | (refine wpL_bx M0 rfl rfl rfl rfl ?_; clear M0; intro g1 w1 M1) | (refine wpL_al M0 rfl rfl zero27 rfl ?_; clear M0; intro g1 w1 M1) | (refine wpL_al M0 rfl rfl zero29 rfl ?_; clear M0; intro g1 w1 M1) | (refine wpL_ld M0 rfl rfl rfl (by repeat (first | exact Has.head _ _ _ _ | apply Has.tail)) (by first | exact rd_num _ _ | exact rd_bits _ | exact rd_part _ _ | exact rd_minus _ _ | assumption) ?_) | (refine wpL_ldg M0 rfl rfl rfl (by repeat (first | exact Has.head _ _ _ _ | apply Has.tail)) (by first | exact rd_num _ _ | exact rd_bits _ | exact rd_part _ _ | exact rd_minus _ _ | assumption) ?_) | (refine wpN_1 rfl rfl rfl ?_) | (refine wpN_0 rfl rfl ?_) | (refine wpN_2 rfl rfl rfl rfl ?_) | (refine wpL_st M0 rfl rfl rfl rfl (by repeat (first | exact Has.head _ _ _ _ | apply Has.tail)) (by first | exact wr_num _ (numC_len _ _) _ _ | exact wr_bits _ (bitsC_len _) _ | exact wr_part _ _ _ | exact wr_minus _ _ _ | assumption) (by repeat (first | exact Upd.head _ _ _ _ _ | apply Upd.tail)) ?_; clear M0; intro w' M0) | (refine wpL_ld M1 rfl rfl rfl (by repeat (first | exact Has.head _ _ _ _ | apply Has.tail)) (by first | exact rd_num _ _ | exact rd_bits _ | exact rd_part _ _ | exact rd_minus _ _ | assumption) ?_) | (refine wpL_ldg M1 rfl rfl rfl (by repeat (first | exact Has.head _ _ _ _ | apply Has.tail)) (by first | exact rd_num _ _ | exact rd_bits _ | exact rd_part _ _ | exact rd_minus _ _ | assumption) ?_) | (refine wpN_1 rfl rfl rfl ?_) | (refine wpN_0 rfl rfl ?_) | (refine wpN_2 rfl rfl rfl rfl ?_) | (refine wpL_st M1 rfl rfl rfl rfl (by repeat (first | exact Has.head _ _ _ _ | apply Has.tail)) (by first | exact wr_num _ (numC_len _ _) _ _ | exact wr_bits _ (bitsC_len _) _ | exact wr_part _ _ _ | exact wr_minus _ _ _ | assumption) (by repeat (first | exact Upd.head _ _ _ _ _ | apply Upd.tail)) ?_; clear M1; intro w' M1)))
  refine (C1 _).mono ?_
  rintro e w2 ⟨rfl, hB⟩
  have M2 := M1.call hB
  clear M1 hB
  go_wp2_with ((with_reducible refine (?_ : Go.wpList _ _ _ (_ :: _) _ _)); (first | go_skip | (refine wpL_ld M2 rfl rfl rfl (by repeat (first | exact Has.head _ _ _ _ | apply Has.tail)) (by first | exact rd_num _ _ | exact rd_bits _ | exact rd_part _ _ | exact rd_minus _ _ | assumption) ?_) | (refine wpL_ldg M2 rfl rfl rfl (by repeat (first | exact Has.head _ _ _ _ | apply Has.tail)) (by first | exact rd_num _ _ | exact rd_bits _ | exact rd_part _ _ | exact rd_minus _ _ | assumption) ?_) | (refine wpN_1 rfl rfl rfl ?_) | (refine wpN_0 rfl rfl ?_) | (refine wpN_2 rfl rfl rfl rfl ?_) | (refine wpL_st M2 rfl rfl rfl rfl (by repeat (first | exact Has.head _ _ _ _ | apply Has.tail)) (by first | exact wr_num _ (numC_len _ _) _ _ | exact wr_bits _ (bitsC_len _) _ | exact wr_part _ _ _ | exact wr_minus _ _ _ | assumption) (by repeat (first | exact Upd.head _ _ _ _ _ | apply Upd.tail)) ?_; clear M2; intro w' M2)))
  refine (C2 _).mono ?_
  rintro e w3 ⟨rfl, hB⟩
  have M3 := M2.call hB
  clear M2 hB C1 C2
  cases m with
  | false =>
    have hlt := hm rfl
    clear hm hm2
    go_wp2_with ((with_reducible refine (?_ : Go.wpList _ _ _ (_ :: _) _ _)); (first | go_skip | (refine wpL_ld M3 rfl rfl rfl (by repeat (first | exact Has.head _ _ _ _ | apply Has.tail)) (by first | exact rd_num _ _ | exact rd_bits _ | exact rd_part _ _ | exact rd_minus _ _ | assumption) ?_) | (refine wpL_ldg M3 rfl rfl rfl (by repeat (first | exact Has.head _ _ _ _ | apply Has.tail)) (by first | exact rd_num _ _ | exact rd_bits _ | exact rd_part _ _ | exact rd_minus _ _ | assumption) ?_) | (refine wpN_1 rfl rfl rfl ?_) | (refine wpN_0 rfl rfl ?_) | (refine wpN_2 rfl rfl rfl rfl ?_) | (refine wpL_st M3 rfl rfl rfl rfl (by repeat (first | exact Has.head _ _ _ _ | apply Has.tail)) (by first | exact wr_num _ (numC_len _ _) _ _ | exact wr_bits _ (bitsC_len _) _ | exact wr_part _ _ _ | exact wr_minus _ _ _ | assumption) (by repeat (first | exact Upd.head _ _ _ _ _ | apply Upd.tail)) ?_; clear M3; intro w' M3)))
    go_ret2
    refine ⟨ret_ii ?_ ?_, M3.below⟩
    all_goals have e1 := HS.out
    all_goals have e2 := HN.out
    all_goals simp only [Bool.false_eq_true, if_false] at e1
    all_goals (try simp only [wrap64, IntKind.wrap_u64])
    all_goals omega
  | true =>
    clear hm
    by_cases hl0 : l = 0
    · subst hl0
      go_wp2_with ((with_reducible refine (?_ : Go.wpList _ _ _ (_ :: _) _ _)); (first | go_skip | (refine wpL_ld M3 rfl rfl rfl (by repeat (first | exact Has.head _ _ _ _ | apply Has.tail)) (by first | exact rd_num _ _ | exact rd_bits _ | exact rd_part _ _ | exact rd_minus _ _ | assumption) ?_) | (refine wpL_ldg M3 rfl rfl rfl (by repeat (first | exact Has.head _ _ _ _ | apply Has.tail)) (by first | exact rd_num _ _ | exact rd_bits _ | exact rd_part _ _ | exact rd_minus _ _ | assumption) ?_) | (refine wpN_1 rfl rfl rfl ?_) | (refine wpN_0 rfl rfl ?_) | (refine wpN_2 rfl rfl rfl rfl ?_) | (refine wpL_st M3 rfl rfl rfl rfl (by repeat (first | exact Has.head _ _ _ _ | apply Has.tail)) (by first | exact wr_num _ (numC_len _ _) _ _ | exact wr_bits _ (bitsC_len _) _ | exact wr_part _ _ _ | exact wr_minus _ _ _ | assumption) (by repeat (first | exact Upd.head _ _ _ _ _ | apply Upd.tail)) ?_; clear M3; intro w' M3)))
      go_ret2
      refine ⟨ret_ii ?_ ?_, M3.below⟩
      all_goals have e1 := HS.out
      all_goals have e2 := HN.out
      all_goals simp only [if_true] at e1
      all_goals (try simp only [wrap64, IntKind.wrap_u64])
      all_goals subst e1
      all_goals subst e2
      all_goals omega
    · have hl1 : ((l : Int) == 0) = false := by rw [beq_eq_false_iff_ne]; omega
      have hh2 : h < 9223372036854775808 := by omega
      go_wp2_with ((with_reducible refine (?_ : Go.wpList _ _ _ (_ :: _) _ _)); (first | go_skip | (refine wpL_ld M3 rfl rfl rfl (by repeat (first | exact Has.head _ _ _ _ | apply Has.tail)) (by first | exact rd_num _ _ | exact rd_bits _ | exact rd_part _ _ | exact rd_minus _ _ | assumption) ?_) | (refine wpL_ldg M3 rfl rfl rfl (by repeat (first | exact Has.head _ _ _ _ | apply Has.tail)) (by first | exact rd_num _ _ | exact rd_bits _ | exact rd_part _ _ | exact rd_minus _ _ | assumption) ?_) | (refine wpN_1 rfl rfl rfl ?_) | (refine wpN_0 rfl rfl ?_) | (refine wpN_2 rfl rfl rfl rfl ?_) | (refine wpL_st M3 rfl rfl rfl rfl (by repeat (first | exact Has.head _ _ _ _ | apply Has.tail)) (by first | exact wr_num _ (numC_len _ _) _ _ | exact wr_bits _ (bitsC_len _) _ | exact wr_part _ _ _ | exact wr_minus _ _ _ | assumption) (by repeat (first | exact Upd.head _ _ _ _ _ | apply Upd.tail)) ?_; clear M3; intro w' M3)))
      go_ret2
      refine ⟨ret_ii ?_ ?_, M3.below⟩
      all_goals have e1 := HS.out
      all_goals have e2 := HN.out
      all_goals simp only [if_true] at e1
      all_goals (try simp only [wrap64, IntKind.wrap_u64])
      all_goals subst e1
      all_goals subst e2
      all_goals omega
end Go.Proofs.Ytbajkjekpgmmfaa
