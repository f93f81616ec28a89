/-
  The reference: of a number of 64 bits, of two words; the parts.
-/
import Derived.Test.YtaofkoejlpchaaaRefC
set_option linter.unusedVariables false
set_option linter.unusedSimpArgs false
namespace Go.Proofs.Ytaofkoejlpchaaa
open Go Go.RowKit Go.Th Go.Th.Wide

set_option maxRecDepth 20000 in
set_option maxHeartbeats 1600000 in
theorem of_pos (m : Nat) (hm : m < 9223372036854775808) (w : World) :
    Calls Try.prog 34 #[.int .i64 m] w fun e w' => e = .returned (.agg (numC false m).toArray) ∧ Below w.heap.size w w' := by
  have M0 := Mem.start w
  have hneg : decide ((m : Int) < 0) = false := by simp only [decide_eq_false_iff_not]; omega
  go_enter Try.func34, Try.ntmps34
  go_wp2_with ((with_reducible refine (?_ : Go.wpList _ _ _ (_ :: _) _ _)); (first | go_skip | (refine wpL_bx M0 rfl rfl rfl rfl ?_; clear M0; intro g1 w1 M1) | (refine wpL_al M0 rfl rfl zero27 rfl ?_; clear M0; intro g1 w1 M1) | (refine wpL_al M0 rfl rfl zero29 rfl ?_; clear M0; intro g1 w1 M1) | (refine wpL_ld M0 rfl rfl rfl (by repeat (first | exact Has.head _ _ _ _ | apply Has.tail)) (by first | exact rd_num _ _ | exact rd_bits _ | exact rd_part _ _ | exact rd_minus _ _ | assumption) ?_) | (refine wpL_ldg M0 rfl rfl rfl (by repeat (first | exact Has.head _ _ _ _ | apply Has.tail)) (by first | exact rd_num _ _ | exact rd_bits _ | exact rd_part _ _ | exact rd_minus _ _ | assumption) ?_) | (refine wpN_1 rfl rfl rfl ?_) | (refine wpN_0 rfl rfl ?_) | (refine wpN_2 rfl rfl rfl rfl ?_) | (refine wpL_st M0 rfl rfl rfl rfl (by repeat (first | exact Has.head _ _ _ _ | apply Has.tail)) (by first | exact wr_num _ (numC_len _ _) _ _ | exact wr_bits _ (bitsC_len _) _ | exact wr_part _ _ _ | exact wr_minus _ _ _ | assumption) (by repeat (first | exact Upd.head _ _ _ _ _ | apply Upd.tail)) ?_; clear M0; intro w' M0) | (refine wpL_bx M1 rfl rfl rfl rfl ?_; clear M1; intro g2 w2 M2) | (refine wpL_al M1 rfl rfl zero27 rfl ?_; clear M1; intro g2 w2 M2) | (refine wpL_al M1 rfl rfl zero29 rfl ?_; clear M1; intro g2 w2 M2) | (refine wpL_ld M1 rfl rfl rfl (by repeat (first | exact Has.head _ _ _ _ | apply Has.tail)) (by first | exact rd_num _ _ | exact rd_bits _ | exact rd_part _ _ | exact rd_minus _ _ | assumption) ?_) | (refine wpL_ldg M1 rfl rfl rfl (by repeat (first | exact Has.head _ _ _ _ | apply Has.tail)) (by first | exact rd_num _ _ | exact rd_bits _ | exact rd_part _ _ | exact rd_minus _ _ | assumption) ?_) | (refine wpN_1 rfl rfl rfl ?_) | (refine wpN_0 rfl rfl ?_) | (refine wpN_2 rfl rfl rfl rfl ?_) | (refine wpL_st M1 rfl rfl rfl rfl (by repeat (first | exact Has.head _ _ _ _ | apply Has.tail)) (by first | exact wr_num _ (numC_len _ _) _ _ | exact wr_bits _ (bitsC_len _) _ | exact wr_part _ _ _ | exact wr_minus _ _ _ | assumption) (by repeat (first | exact Upd.head _ _ _ _ _ | apply Upd.tail)) ?_; clear M1; intro w' M1) | (refine wpL_ld M2 rfl rfl rfl (by repeat (first | exact Has.head _ _ _ _ | apply Has.tail)) (by first | exact rd_num _ _ | exact rd_bits _ | exact rd_part _ _ | exact rd_minus _ _ | assumption) ?_) | (refine wpL_ldg M2 rfl rfl rfl (by repeat (first | exact Has.head _ _ _ _ | apply Has.tail)) (by first | exact rd_num _ _ | exact rd_bits _ | exact rd_part _ _ | exact rd_minus _ _ | assumption) ?_) | (refine wpN_1 rfl rfl rfl ?_) | (refine wpN_0 rfl rfl ?_) | (refine wpN_2 rfl rfl rfl rfl ?_) | (refine wpL_st M2 rfl rfl rfl rfl (by repeat (first | exact Has.head _ _ _ _ | apply Has.tail)) (by first | exact wr_num _ (numC_len _ _) _ _ | exact wr_bits _ (bitsC_len _) _ | exact wr_part _ _ _ | exact wr_minus _ _ _ | assumption) (by repeat (first | exact Upd.head _ _ _ _ _ | apply Upd.tail)) ?_; clear M2; intro w' M2)))
  go_loopw [4, 5] (fun n i wx => ∃ k : Nat, k ≤ 65 ∧ i = .int .i64 k ∧ n = .int .i64 (m / 2 ^ k : Nat) ∧ Mem w wx [(g2, 52, numC false (m % 2 ^ k)), (g1, 52, numC false 0)]) (fun _ i _ => 65 - (intOf i).toNat)
  case atStart => exact ⟨0, by omega, rfl, by simp, by rw [show m % 2 ^ 0 = 0 from Nat.mod_one _]; exact M2⟩
  case round =>
    clear M2
    obtain ⟨k, hk, rfl, rfl, M⟩ := hrel
    have hq : m / 2 ^ k < 9223372036854775808 := Nat.lt_of_le_of_lt (Nat.div_le_self _ _) hm
    obtain ⟨q, hqe⟩ : ∃ q, q = m / 2 ^ k := ⟨_, rfl⟩
    rw [← hqe] at hq ⊢
    by_cases hlt : k < 65 ∧ q ≠ 0
    · obtain ⟨hlt, hq0⟩ := hlt
      have hq0' : ((q : Int) == 0) = false := by rw [beq_eq_false_iff_ne]; omega
      have hb : bt m k = q % 2 := by rw [hqe]; rfl
      have hn : m / 2 ^ (k + 1) = q / 2 := by rw [hqe, div_succ]
      have HN := Lib.hid hn
      have HB := Lib.hid hb
      have c1 := M.cell (g := g2) (by repeat (first | exact Has.head _ _ _ _ | apply Has.tail)) (numC_at' false (m % 2 ^ k) (i := k) (by omega))
      have c2 := M.free (g := g2) (by repeat (first | exact Has.head _ _ _ _ | apply Has.tail)) (1 + k)
      have hi0 : (0 : Int) ≤ k := by omega
      have hi1 : (k : Int) < 129 := by omega
      by_cases hodd : q % 2 = 1
      · have h2 : ((q : Int) % 2 == 0) = false := by rw [beq_eq_false_iff_ne]; omega
        have HO := Lib.hid hodd
        clear hn hb hqe hodd hq0
        go_wp2
        go_roundw
        case rel =>
          refine ⟨k + 1, by omega, by go_num, by rw [HN.out]; go_num, ?_⟩
          exact M.set (1 + k) (.int .i64 1) (by have e := num_up false m k; rw [HB.out, HO.out] at e; rw [show ((1 : Nat) : Int) = 1 from rfl] at e; rw [e]; exact (by repeat (first | exact Upd.head _ _ _ _ _ | apply Upd.tail))) (by rw [numC_len]; omega)
        case measure => simp [intOf] <;> omega
      · have h2 : ((q : Int) % 2 == 0) = true := by rw [beq_iff_eq]; omega
        have HO := Lib.hid hodd
        clear hn hb hqe hodd hq0
        go_wp2
        go_roundw
        case rel =>
          refine ⟨k + 1, by omega, by go_num, by rw [HN.out]; go_num, ?_⟩
          rw [← num_same false m k (by have := HB.out; have := HO.out; omega)]
          exact M
        case measure => simp [intOf] <;> omega
    · have hq0 : q = 0 := by
        rcases Nat.lt_or_ge k 65 with h | h
        · exact Decidable.byContradiction fun h' => hlt ⟨h, h'⟩
        · obtain rfl : k = 65 := by omega
          rw [hqe]; exact Nat.div_eq_of_lt (Nat.lt_of_lt_of_le hm (by decide))
      have hz : m % 2 ^ k = m := mod_full (by rw [← hqe]; exact hq0)
      rw [hz] at M
      subst hq0
      clear hqe hz hlt
      have M3 := M
      clear M
      go_wp2_with ((with_reducible refine (?_ : Go.wpList _ _ _ (_ :: _) _ _)); (first | go_skip | (refine wpL_ld M3 rfl rfl rfl (by repeat (first | exact Has.head _ _ _ _ | apply Has.tail)) (by first | exact rd_num _ _ | exact rd_bits _ | exact rd_part _ _ | exact rd_minus _ _ | assumption) ?_) | (refine wpL_ldg M3 rfl rfl rfl (by repeat (first | exact Has.head _ _ _ _ | apply Has.tail)) (by first | exact rd_num _ _ | exact rd_bits _ | exact rd_part _ _ | exact rd_minus _ _ | assumption) ?_) | (refine wpN_1 rfl rfl rfl ?_) | (refine wpN_0 rfl rfl ?_) | (refine wpN_2 rfl rfl rfl rfl ?_) | (refine wpL_st M3 rfl rfl rfl rfl (by repeat (first | exact Has.head _ _ _ _ | apply Has.tail)) (by first | exact wr_num _ (numC_len _ _) _ _ | exact wr_bits _ (bitsC_len _) _ | exact wr_part _ _ _ | exact wr_minus _ _ _ | assumption) (by repeat (first | exact Upd.head _ _ _ _ _ | apply Upd.tail)) ?_; clear M3; intro w' M3)))
      all_goals (((try simp only [Exit.inBlock, Exit.then]); refine bodyPost_ret (res_cell rfl M3 rfl (by repeat (first | exact Has.head _ _ _ _ | apply Has.tail)) (by first | exact rd_num _ _ | exact rd_bits _ | exact rd_part _ _ | exact rd_minus _ _ | assumption)) rfl ?_); exact ⟨rfl, M3.below⟩)
set_option maxRecDepth 20000 in
set_option maxHeartbeats 1600000 in
theorem of_neg (m : Nat) (h0 : 0 < m) (hm : m ≤ 9223372036854775808) (w : World) :
    Calls Try.prog 34 #[.int .i64 (-(m : Int))] w fun e w' => e = .returned (.agg (numC true m).toArray) ∧ Below w.heap.size w w' := by
  have M0 := Mem.start w
  have hneg : decide (-(m : Int) < 0) = true := by simp only [decide_eq_true_eq]; omega
  go_enter Try.func34, Try.ntmps34
  go_wp2_with ((with_reducible refine (?_ : Go.wpList _ _ _ (_ :: _) _ _)); (first | go_skip | (refine wpL_bx M0 rfl rfl rfl rfl ?_; clear M0; intro g1 w1 M1) | (refine wpL_al M0 rfl rfl zero27 rfl ?_; clear M0; intro g1 w1 M1) | (refine wpL_al M0 rfl rfl zero29 rfl ?_; clear M0; intro g1 w1 M1) | (refine wpL_ld M0 rfl rfl rfl (by repeat (first | exact Has.head _ _ _ _ | apply Has.tail)) (by first | exact rd_num _ _ | exact rd_bits _ | exact rd_part _ _ | exact rd_minus _ _ | assumption) ?_) | (refine wpL_ldg M0 rfl rfl rfl (by repeat (first | exact Has.head _ _ _ _ | apply Has.tail)) (by first | exact rd_num _ _ | exact rd_bits _ | exact rd_part _ _ | exact rd_minus _ _ | assumption) ?_) | (refine wpN_1 rfl rfl rfl ?_) | (refine wpN_0 rfl rfl ?_) | (refine wpN_2 rfl rfl rfl rfl ?_) | (refine wpL_st M0 rfl rfl rfl rfl (by repeat (first | exact Has.head _ _ _ _ | apply Has.tail)) (by first | exact wr_num _ (numC_len _ _) _ _ | exact wr_bits _ (bitsC_len _) _ | exact wr_part _ _ _ | exact wr_minus _ _ _ | assumption) (by repeat (first | exact Upd.head _ _ _ _ _ | apply Upd.tail)) ?_; clear M0; intro w' M0) | (refine wpL_bx M1 rfl rfl rfl rfl ?_; clear M1; intro g2 w2 M2) | (refine wpL_al M1 rfl rfl zero27 rfl ?_; clear M1; intro g2 w2 M2) | (refine wpL_al M1 rfl rfl zero29 rfl ?_; clear M1; intro g2 w2 M2) | (refine wpL_ld M1 rfl rfl rfl (by repeat (first | exact Has.head _ _ _ _ | apply Has.tail)) (by first | exact rd_num _ _ | exact rd_bits _ | exact rd_part _ _ | exact rd_minus _ _ | assumption) ?_) | (refine wpL_ldg M1 rfl rfl rfl (by repeat (first | exact Has.head _ _ _ _ | apply Has.tail)) (by first | exact rd_num _ _ | exact rd_bits _ | exact rd_part _ _ | exact rd_minus _ _ | assumption) ?_) | (refine wpN_1 rfl rfl rfl ?_) | (refine wpN_0 rfl rfl ?_) | (refine wpN_2 rfl rfl rfl rfl ?_) | (refine wpL_st M1 rfl rfl rfl rfl (by repeat (first | exact Has.head _ _ _ _ | apply Has.tail)) (by first | exact wr_num _ (numC_len _ _) _ _ | exact wr_bits _ (bitsC_len _) _ | exact wr_part _ _ _ | exact wr_minus _ _ _ | assumption) (by repeat (first | exact Upd.head _ _ _ _ _ | apply Upd.tail)) ?_; clear M1; intro w' M1) | (refine wpL_ld M2 rfl rfl rfl (by repeat (first | exact Has.head _ _ _ _ | apply Has.tail)) (by first | exact rd_num _ _ | exact rd_bits _ | exact rd_part _ _ | exact rd_minus _ _ | assumption) ?_) | (refine wpL_ldg M2 rfl rfl rfl (by repeat (first | exact Has.head _ _ _ _ | apply Has.tail)) (by first | exact rd_num _ _ | exact rd_bits _ | exact rd_part _ _ | exact rd_minus _ _ | assumption) ?_) | (refine wpN_1 rfl rfl rfl ?_) | (refine wpN_0 rfl rfl ?_) | (refine wpN_2 rfl rfl rfl rfl ?_) | (refine wpL_st M2 rfl rfl rfl rfl (by repeat (first | exact Has.head _ _ _ _ | apply Has.tail)) (by first | exact wr_num _ (numC_len _ _) _ _ | exact wr_bits _ (bitsC_len _) _ | exact wr_part _ _ _ | exact wr_minus _ _ _ | assumption) (by repeat (first | exact Upd.head _ _ _ _ _ | apply Upd.tail)) ?_; clear M2; intro w' M2)))
  go_loopw [4, 5] (fun n i wx => ∃ k : Nat, k ≤ 65 ∧ i = .int .i64 k ∧ n = .int .i64 (-((m / 2 ^ k : Nat) : Int)) ∧ Mem w wx [(g2, 52, numC true (m % 2 ^ k)), (g1, 52, numC false 0)]) (fun _ i _ => 65 - (intOf i).toNat)
  case atStart => exact ⟨0, by omega, rfl, by simp, by rw [show m % 2 ^ 0 = 0 from Nat.mod_one _]; exact M2⟩
  case round =>
    clear M2
    obtain ⟨k, hk, rfl, rfl, M⟩ := hrel
    have hq : m / 2 ^ k ≤ 9223372036854775808 := Nat.le_trans (Nat.div_le_self _ _) hm
    obtain ⟨q, hqe⟩ : ∃ q, q = m / 2 ^ k := ⟨_, rfl⟩
    rw [← hqe] at hq ⊢
    by_cases hlt : k < 65 ∧ q ≠ 0
    · obtain ⟨hlt, hq0⟩ := hlt
      have hq0' : (-(q : Int) == 0) = false := by rw [beq_eq_false_iff_ne]; omega
      have hb : bt m k = q % 2 := by rw [hqe]; rfl
      have hn : m / 2 ^ (k + 1) = q / 2 := by rw [hqe, div_succ]
      have HN := Lib.hid hn
      have HB := Lib.hid hb
      have c1 := M.cell (g := g2) (by repeat (first | exact Has.head _ _ _ _ | apply Has.tail)) (numC_at' true (m % 2 ^ k) (i := k) (by omega))
      have c2 := M.free (g := g2) (by repeat (first | exact Has.head _ _ _ _ | apply Has.tail)) (1 + k)
      have hi0 : (0 : Int) ≤ k := by omega
      have hi1 : (k : Int) < 129 := by omega
      by_cases hodd : q % 2 = 1
      · have h2 : (-((q : Int) % 2) == 0) = false := by rw [beq_eq_false_iff_ne]; omega
        have HO := Lib.hid hodd
        clear hn hb hqe hodd hq0
        go_wp2
        go_roundw
        case rel =>
          refine ⟨k + 1, by omega, by go_num, by rw [HN.out]; first | go_num | (congr 1; omega), ?_⟩
          exact M.set (1 + k) (.int .i64 1) (by have e := num_up true m k; rw [HB.out, HO.out] at e; rw [show ((1 : Nat) : Int) = 1 from rfl] at e; rw [e]; exact (by repeat (first | exact Upd.head _ _ _ _ _ | apply Upd.tail))) (by rw [numC_len]; omega)
        case measure => simp [intOf] <;> omega
      · have h2 : (-((q : Int) % 2) == 0) = true := by rw [beq_iff_eq]; omega
        have HO := Lib.hid hodd
        clear hn hb hqe hodd hq0
        go_wp2
        go_roundw
        case rel =>
          refine ⟨k + 1, by omega, by go_num, by rw [HN.out]; first | go_num | (congr 1; omega), ?_⟩
          rw [← num_same true m k (by have := HB.out; have := HO.out; omega)]
          exact M
        case measure => simp [intOf] <;> omega
    · have hq0 : q = 0 := by
        rcases Nat.lt_or_ge k 65 with h | h
        · exact Decidable.byContradiction fun h' => hlt ⟨h, h'⟩
        · obtain rfl : k = 65 := by omega
          rw [hqe]; exact Nat.div_eq_of_lt (Nat.lt_of_le_of_lt hm (by decide))
      have hz : m % 2 ^ k = m := mod_full (by rw [← hqe]; exact hq0)
      rw [hz] at M
      subst hq0
      clear hqe hz hlt
      have M3 := M
      clear M
      go_wp2_with ((with_reducible refine (?_ : Go.wpList _ _ _ (_ :: _) _ _)); (first | go_skip | (refine wpL_ld M3 rfl rfl rfl (by repeat (first | exact Has.head _ _ _ _ | apply Has.tail)) (by first | exact rd_num _ _ | exact rd_bits _ | exact rd_part _ _ | exact rd_minus _ _ | assumption) ?_) | (refine wpL_ldg M3 rfl rfl rfl (by repeat (first | exact Has.head _ _ _ _ | apply Has.tail)) (by first | exact rd_num _ _ | exact rd_bits _ | exact rd_part _ _ | exact rd_minus _ _ | assumption) ?_) | (refine wpN_1 rfl rfl rfl ?_) | (refine wpN_0 rfl rfl ?_) | (refine wpN_2 rfl rfl rfl rfl ?_) | (refine wpL_st M3 rfl rfl rfl rfl (by repeat (first | exact Has.head _ _ _ _ | apply Has.tail)) (by first | exact wr_num _ (numC_len _ _) _ _ | exact wr_bits _ (bitsC_len _) _ | exact wr_part _ _ _ | exact wr_minus _ _ _ | assumption) (by repeat (first | exact Upd.head _ _ _ _ _ | apply Upd.tail)) ?_; clear M3; intro w' M3)))
      all_goals (((try simp only [Exit.inBlock, Exit.then]); refine bodyPost_ret (res_cell rfl M3 rfl (by repeat (first | exact Has.head _ _ _ _ | apply Has.tail)) (by first | exact rd_num _ _ | exact rd_bits _ | exact rd_part _ _ | exact rd_minus _ _ | assumption)) rfl ?_); exact ⟨rfl, M3.below⟩)
end Go.Proofs.Ytaofkoejlpchaaa
