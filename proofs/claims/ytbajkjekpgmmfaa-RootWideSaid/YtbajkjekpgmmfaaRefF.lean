/-
  The reference: a number of two parts.
-/
import Derived.Test.YtbajkjekpgmmfaaRefE
set_option linter.unusedVariables false
set_option linter.unusedSimpArgs false
namespace Go.Proofs.Ytbajkjekpgmmfaa
open Go Go.RowKit Go.Th Go.Th.Wide

theorem bt_join (x y j : Nat) (hx : x < 2 ^ 64) : bt (x + 2 ^ 64 * y) j = if j < 64 then bt x j else bt y (j - 64) := by
  rw [Nat.add_comm]
  simp only [bt_test]
  rw [Nat.testBit_two_pow_mul_add _ hx]
  split <;> rfl
theorem from_sets (m : Bool) (L H k : Nat) (hk : k < 64) :
    ((numC m (L % 2 ^ k + 2 ^ 64 * (H % 2 ^ k))).set (1 + k) (.int .i64 ((bt L k : Nat) : Int))).set (1 + (64 + k)) (.int .i64 ((bt H k : Nat) : Int)) = numC m (L % 2 ^ (k + 1) + 2 ^ 64 * (H % 2 ^ (k + 1))) := by
  have hp : ∀ x j, j ≤ 64 → x % 2 ^ j < 2 ^ 64 := fun x j hj => Nat.lt_of_lt_of_le (Nat.mod_lt _ (Nat.two_pow_pos j)) (Nat.pow_le_pow_right (by decide) hj)
  rw [numC_set m _ (L % 2 ^ (k + 1) + 2 ^ 64 * (H % 2 ^ k)) (bt L k) k ?_ ?_, numC_set m _ (L % 2 ^ (k + 1) + 2 ^ 64 * (H % 2 ^ (k + 1))) (bt H k) (64 + k) ?_ ?_]
  · rw [bt_join _ _ _ (hp _ _ (by omega)), if_neg (by omega), bt_mod, show 64 + k - 64 = k by omega, if_pos (by omega)]
  · intro j _ hj
    rw [bt_join _ _ _ (hp _ _ (by omega)), bt_join _ _ _ (hp _ _ (by omega))]
    split
    · rfl
    · rw [bt_mod, bt_mod]
      by_cases h : j - 64 < k
      · rw [if_pos h, if_pos (by omega)]
      · rw [if_neg h, if_neg (by omega)]
  · rw [bt_join _ _ _ (hp _ _ (by omega)), if_pos hk, bt_mod, if_pos (by omega)]
  · intro j _ hj
    rw [bt_join _ _ _ (hp _ _ (by omega)), bt_join _ _ _ (hp _ _ (by omega))]
    split
    · rw [bt_mod, bt_mod]
      by_cases h : j < k
      · rw [if_pos h, if_pos (by omega)]
      · rw [if_neg h, if_neg (by omega)]
    · rfl

set_option maxRecDepth 20000 in
set_option maxHeartbeats 1600000 in
theorem from_pos (H L N : Nat) (hH0 : H < 9223372036854775808) (hH : H < 18446744073709551616) (hL : L < 18446744073709551616) (hN : N = L + 2 ^ 64 * H) (w : World) :
    Calls Try.prog 16 #[.int .i64 H, .int .u64 L] w fun e w' => e = .returned (.agg (numC false N).toArray) ∧ Below w.heap.size w w' := by
  have HN := Lib.hid hN; clear hN
  have hneg : decide ((H : Int) < 0) = false := by simp only [decide_eq_false_iff_not]; omega
  have M0 := Mem.start w
  go_enter Try.func16, Try.ntmps16
  go_wp2_with ((with_reducible refine (?_ : Go.wpList _ _ _ (_ :: _) _ _)); (first | go_skip | (refine wpL_bx M0 rfl rfl rfl rfl ?_; clear M0; intro g1 w1 M1) | (refine wpL_al M0 rfl rfl zero27 rfl ?_; clear M0; intro g1 w1 M1) | (refine wpL_al M0 rfl rfl zero29 rfl ?_; clear M0; intro g1 w1 M1) | (refine wpL_ld M0 rfl rfl rfl (by repeat (first | exact Has.head _ _ _ _ | apply Has.tail)) (by first | exact rd_num _ _ | exact rd_bits _ | exact rd_part _ _ | exact rd_minus _ _ | assumption) ?_) | (refine wpL_ldg M0 rfl rfl rfl (by repeat (first | exact Has.head _ _ _ _ | apply Has.tail)) (by first | exact rd_num _ _ | exact rd_bits _ | exact rd_part _ _ | exact rd_minus _ _ | assumption) ?_) | (refine wpN_1 rfl rfl rfl ?_) | (refine wpN_0 rfl rfl ?_) | (refine wpN_2 rfl rfl rfl rfl ?_) | (refine wpL_st M0 rfl rfl rfl rfl (by repeat (first | exact Has.head _ _ _ _ | apply Has.tail)) (by first | exact wr_num _ (numC_len _ _) _ _ | exact wr_bits _ (bitsC_len _) _ | exact wr_part _ _ _ | exact wr_minus _ _ _ | assumption) (by repeat (first | exact Upd.head _ _ _ _ _ | apply Upd.tail)) ?_; clear M0; intro w' M0) | (refine wpL_bx M1 rfl rfl rfl rfl ?_; clear M1; intro g2 w2 M2) | (refine wpL_al M1 rfl rfl zero27 rfl ?_; clear M1; intro g2 w2 M2) | (refine wpL_al M1 rfl rfl zero29 rfl ?_; clear M1; intro g2 w2 M2) | (refine wpL_ld M1 rfl rfl rfl (by repeat (first | exact Has.head _ _ _ _ | apply Has.tail)) (by first | exact rd_num _ _ | exact rd_bits _ | exact rd_part _ _ | exact rd_minus _ _ | assumption) ?_) | (refine wpL_ldg M1 rfl rfl rfl (by repeat (first | exact Has.head _ _ _ _ | apply Has.tail)) (by first | exact rd_num _ _ | exact rd_bits _ | exact rd_part _ _ | exact rd_minus _ _ | assumption) ?_) | (refine wpN_1 rfl rfl rfl ?_) | (refine wpN_0 rfl rfl ?_) | (refine wpN_2 rfl rfl rfl rfl ?_) | (refine wpL_st M1 rfl rfl rfl rfl (by repeat (first | exact Has.head _ _ _ _ | apply Has.tail)) (by first | exact wr_num _ (numC_len _ _) _ _ | exact wr_bits _ (bitsC_len _) _ | exact wr_part _ _ _ | exact wr_minus _ _ _ | assumption) (by repeat (first | exact Upd.head _ _ _ _ _ | apply Upd.tail)) ?_; clear M1; intro w' M1) | (refine wpL_ld M2 rfl rfl rfl (by repeat (first | exact Has.head _ _ _ _ | apply Has.tail)) (by first | exact rd_num _ _ | exact rd_bits _ | exact rd_part _ _ | exact rd_minus _ _ | assumption) ?_) | (refine wpL_ldg M2 rfl rfl rfl (by repeat (first | exact Has.head _ _ _ _ | apply Has.tail)) (by first | exact rd_num _ _ | exact rd_bits _ | exact rd_part _ _ | exact rd_minus _ _ | assumption) ?_) | (refine wpN_1 rfl rfl rfl ?_) | (refine wpN_0 rfl rfl ?_) | (refine wpN_2 rfl rfl rfl rfl ?_) | (refine wpL_st M2 rfl rfl rfl rfl (by repeat (first | exact Has.head _ _ _ _ | apply Has.tail)) (by first | exact wr_num _ (numC_len _ _) _ _ | exact wr_bits _ (bitsC_len _) _ | exact wr_part _ _ _ | exact wr_minus _ _ _ | assumption) (by repeat (first | exact Upd.head _ _ _ _ _ | apply Upd.tail)) ?_; clear M2; intro w' M2)))
  go_loopw [6, 7, 8] (fun h l i wx => ∃ k : Nat, k ≤ 64 ∧ i = .int .i64 k ∧ h = .int .u64 (H / 2 ^ k : Nat) ∧ l = .int .u64 (L / 2 ^ k : Nat) ∧ Mem w wx [(g2, 32, numC false (L % 2 ^ k + 2 ^ 64 * (H % 2 ^ k))), (g1, 32, numC false 0)]) (fun _ _ i _ => 64 - (intOf i).toNat)
  case atStart => exact ⟨0, by omega, rfl, by simp, by simp, by rw [Nat.pow_zero, Nat.mod_one, Nat.mod_one]; exact M2⟩
  case round =>
    clear M2
    obtain ⟨k, hk, rfl, rfl, rfl, M⟩ := hrel
    by_cases hlt : k < 64
    · have hqH : H / 2 ^ k < 18446744073709551616 := Nat.lt_of_le_of_lt (Nat.div_le_self _ _) hH
      have hqL : L / 2 ^ k < 18446744073709551616 := Nat.lt_of_le_of_lt (Nat.div_le_self _ _) hL
      have hbH : bt H k = H / 2 ^ k % 2 := rfl
      have hbL : bt L k = L / 2 ^ k % 2 := rfl
      have hnH : H / 2 ^ (k + 1) = H / 2 ^ k / 2 := (div_succ H k).symm
      have hnL : L / 2 ^ (k + 1) = L / 2 ^ k / 2 := (div_succ L k).symm
      obtain ⟨p, hp⟩ : ∃ p, p = H / 2 ^ k := ⟨_, rfl⟩
      obtain ⟨q, hq⟩ : ∃ q, q = L / 2 ^ k := ⟨_, rfl⟩
      rw [← hp] at hqH hbH hnH ⊢
      rw [← hq] at hqL hbL hnL ⊢
      have HS := Lib.hid (from_sets false L H k hlt)
      rw [hbH, hbL] at HS
      have c1 := M.cell (g := g2) (by repeat (first | exact Has.head _ _ _ _ | apply Has.tail)) (numC_at' false (L % 2 ^ k + 2 ^ 64 * (H % 2 ^ k)) (i := k) (by omega))
      have c2 := M.free (g := g2) (by repeat (first | exact Has.head _ _ _ _ | apply Has.tail)) (1 + k)
      have M3 := M.set (g := g2) (1 + k) (.int .i64 ((q : Int) % 2)) (by repeat (first | exact Upd.head _ _ _ _ _ | apply Upd.tail)) (by rw [numC_len]; omega)
      have c3 := M3.cell (g := g2) (by repeat (first | exact Has.head _ _ _ _ | apply Has.tail)) (i := 1 + (64 + k)) (by rw [List.getElem?_set, if_neg (by omega)]; exact numC_at' false (L % 2 ^ k + 2 ^ 64 * (H % 2 ^ k)) (i := 64 + k) (by omega))
      have c4 := M3.free (g := g2) (by repeat (first | exact Has.head _ _ _ _ | apply Has.tail)) (1 + (64 + k))
      have hi0 : (0 : Int) ≤ k := by omega
      have hi1 : (k : Int) < 129 := by omega
      have hj0 : (0 : Int) ≤ 64 + k := by omega
      have hj1 : (64 : Int) + k < 129 := by omega
      have hj2 : ((64 : Int) + k).toNat = 64 + k := by omega
      have HH := Lib.hid hnH
      have HL := Lib.hid hnL
      clear hnH hnL hbH hbL hp hq
      go_wp2
      go_roundw
      case rel =>
        refine ⟨k + 1, by omega, by go_num, by rw [HH.out]; go_num, by rw [HL.out]; go_num, ?_⟩
        refine M3.set (g := g2) (1 + (64 + k)) (.int .i64 ((p : Int) % 2)) (by
          have e := HS.out
          rw [show ((q % 2 : Nat) : Int) = (q : Int) % 2 by omega, show ((p % 2 : Nat) : Int) = (p : Int) % 2 by omega] at e
          rw [e]
          exact (by repeat (first | exact Upd.head _ _ _ _ _ | apply Upd.tail))) (by rw [List.length_set, numC_len]; omega)
      case measure => simp [intOf] <;> omega
    · obtain rfl : k = 64 := by omega
      have hm : L % 2 ^ 64 + 2 ^ 64 * (H % 2 ^ 64) = N := by rw [Nat.mod_eq_of_lt hL, Nat.mod_eq_of_lt hH]; exact HN.out.symm
      rw [hm] at M
      have M3 := M
      clear M hm
      go_wp2_with ((with_reducible refine (?_ : Go.wpList _ _ _ (_ :: _) _ _)); (first | go_skip | (refine wpL_ld M3 rfl rfl rfl (by repeat (first | exact Has.head _ _ _ _ | apply Has.tail)) (by first | exact rd_num _ _ | exact rd_bits _ | exact rd_part _ _ | exact rd_minus _ _ | assumption) ?_) | (refine wpL_ldg M3 rfl rfl rfl (by repeat (first | exact Has.head _ _ _ _ | apply Has.tail)) (by first | exact rd_num _ _ | exact rd_bits _ | exact rd_part _ _ | exact rd_minus _ _ | assumption) ?_) | (refine wpN_1 rfl rfl rfl ?_) | (refine wpN_0 rfl rfl ?_) | (refine wpN_2 rfl rfl rfl rfl ?_) | (refine wpL_st M3 rfl rfl rfl rfl (by repeat (first | exact Has.head _ _ _ _ | apply Has.tail)) (by first | exact wr_num _ (numC_len _ _) _ _ | exact wr_bits _ (bitsC_len _) _ | exact wr_part _ _ _ | exact wr_minus _ _ _ | assumption) (by repeat (first | exact Upd.head _ _ _ _ _ | apply Upd.tail)) ?_; clear M3; intro w' M3)))
      ((try simp only [Exit.inBlock, Exit.then]); refine bodyPost_ret (res_cell rfl M3 rfl (by repeat (first | exact Has.head _ _ _ _ | apply Has.tail)) (by first | exact rd_num _ _ | exact rd_bits _ | exact rd_part _ _ | exact rd_minus _ _ | assumption)) rfl ?_)
      exact ⟨rfl, M3.below⟩

set_option maxRecDepth 20000 in
set_option maxHeartbeats 1600000 in
theorem from_neg0 (H N : Nat) (hH1 : 0 < H) (hH0 : H ≤ 9223372036854775808) (hH : H < 18446744073709551616) (hN : N = 0 + 2 ^ 64 * H) (w : World) :
    Calls Try.prog 16 #[.int .i64 (-(H : Int)), .int .u64 0] w fun e w' => e = .returned (.agg (numC true N).toArray) ∧ Below w.heap.size w w' := by
  have HN := Lib.hid hN; clear hN
  have hneg : decide (-(H : Int) < 0) = true := by simp only [decide_eq_true_eq]; omega
  obtain ⟨L, hL0⟩ : ∃ L, L = 0 := ⟨0, rfl⟩
  have hL : L < 18446744073709551616 := by omega
  rw [← hL0] at HN
  have HL0 := Lib.hid hL0; clear hL0
  have M0 := Mem.start w
  go_enter Try.func16, Try.ntmps16
  go_wp2_with ((with_reducible refine (?_ : Go.wpList _ _ _ (_ :: _) _ _)); (first | go_skip | (refine wpL_bx M0 rfl rfl rfl rfl ?_; clear M0; intro g1 w1 M1) | (refine wpL_al M0 rfl rfl zero27 rfl ?_; clear M0; intro g1 w1 M1) | (refine wpL_al M0 rfl rfl zero29 rfl ?_; clear M0; intro g1 w1 M1) | (refine wpL_ld M0 rfl rfl rfl (by repeat (first | exact Has.head _ _ _ _ | apply Has.tail)) (by first | exact rd_num _ _ | exact rd_bits _ | exact rd_part _ _ | exact rd_minus _ _ | assumption) ?_) | (refine wpL_ldg M0 rfl rfl rfl (by repeat (first | exact Has.head _ _ _ _ | apply Has.tail)) (by first | exact rd_num _ _ | exact rd_bits _ | exact rd_part _ _ | exact rd_minus _ _ | assumption) ?_) | (refine wpN_1 rfl rfl rfl ?_) | (refine wpN_0 rfl rfl ?_) | (refine wpN_2 rfl rfl rfl rfl ?_) | (refine wpL_st M0 rfl rfl rfl rfl (by repeat (first | exact Has.head _ _ _ _ | apply Has.tail)) (by first | exact wr_num _ (numC_len _ _) _ _ | exact wr_bits _ (bitsC_len _) _ | exact wr_part _ _ _ | exact wr_minus _ _ _ | assumption) (by repeat (first | exact Upd.head _ _ _ _ _ | apply Upd.tail)) ?_; clear M0; intro w' M0) | (refine wpL_bx M1 rfl rfl rfl rfl ?_; clear M1; intro g2 w2 M2) | (refine wpL_al M1 rfl rfl zero27 rfl ?_; clear M1; intro g2 w2 M2) | (refine wpL_al M1 rfl rfl zero29 rfl ?_; clear M1; intro g2 w2 M2) | (refine wpL_ld M1 rfl rfl rfl (by repeat (first | exact Has.head _ _ _ _ | apply Has.tail)) (by first | exact rd_num _ _ | exact rd_bits _ | exact rd_part _ _ | exact rd_minus _ _ | assumption) ?_) | (refine wpL_ldg M1 rfl rfl rfl (by repeat (first | exact Has.head _ _ _ _ | apply Has.tail)) (by first | exact rd_num _ _ | exact rd_bits _ | exact rd_part _ _ | exact rd_minus _ _ | assumption) ?_) | (refine wpN_1 rfl rfl rfl ?_) | (refine wpN_0 rfl rfl ?_) | (refine wpN_2 rfl rfl rfl rfl ?_) | (refine wpL_st M1 rfl rfl rfl rfl (by repeat (first | exact Has.head _ _ _ _ | apply Has.tail)) (by first | exact wr_num _ (numC_len _ _) _ _ | exact wr_bits _ (bitsC_len _) _ | exact wr_part _ _ _ | exact wr_minus _ _ _ | assumption) (by repeat (first | exact Upd.head _ _ _ _ _ | apply Upd.tail)) ?_; clear M1; intro w' M1) | (refine wpL_ld M2 rfl rfl rfl (by repeat (first | exact Has.head _ _ _ _ | apply Has.tail)) (by first | exact rd_num _ _ | exact rd_bits _ | exact rd_part _ _ | exact rd_minus _ _ | assumption) ?_) | (refine wpL_ldg M2 rfl rfl rfl (by repeat (first | exact Has.head _ _ _ _ | apply Has.tail)) (by first | exact rd_num _ _ | exact rd_bits _ | exact rd_part _ _ | exact rd_minus _ _ | assumption) ?_) | (refine wpN_1 rfl rfl rfl ?_) | (refine wpN_0 rfl rfl ?_) | (refine wpN_2 rfl rfl rfl rfl ?_) | (refine wpL_st M2 rfl rfl rfl rfl (by repeat (first | exact Has.head _ _ _ _ | apply Has.tail)) (by first | exact wr_num _ (numC_len _ _) _ _ | exact wr_bits _ (bitsC_len _) _ | exact wr_part _ _ _ | exact wr_minus _ _ _ | assumption) (by repeat (first | exact Upd.head _ _ _ _ _ | apply Upd.tail)) ?_; clear M2; intro w' M2)))
  go_loopw [6, 7, 8] (fun h l i wx => ∃ k : Nat, k ≤ 64 ∧ i = .int .i64 k ∧ h = .int .u64 (H / 2 ^ k : Nat) ∧ l = .int .u64 (L / 2 ^ k : Nat) ∧ Mem w wx [(g2, 32, numC true (L % 2 ^ k + 2 ^ 64 * (H % 2 ^ k))), (g1, 32, numC false 0)]) (fun _ _ i _ => 64 - (intOf i).toNat)
  case atStart => exact ⟨0, by omega, rfl, by congr 1; rw [Nat.pow_zero, Nat.div_one]; simp only [IntKind.wrap_u64]; omega, by rw [HL0.out]; rfl, by rw [Nat.pow_zero, Nat.mod_one, Nat.mod_one]; exact M2⟩
  case round =>
    clear M2
    obtain ⟨k, hk, rfl, rfl, rfl, M⟩ := hrel
    by_cases hlt : k < 64
    · have hqH : H / 2 ^ k < 18446744073709551616 := Nat.lt_of_le_of_lt (Nat.div_le_self _ _) hH
      have hqL : L / 2 ^ k < 18446744073709551616 := Nat.lt_of_le_of_lt (Nat.div_le_self _ _) hL
      have hbH : bt H k = H / 2 ^ k % 2 := rfl
      have hbL : bt L k = L / 2 ^ k % 2 := rfl
      have hnH : H / 2 ^ (k + 1) = H / 2 ^ k / 2 := (div_succ H k).symm
      have hnL : L / 2 ^ (k + 1) = L / 2 ^ k / 2 := (div_succ L k).symm
      obtain ⟨p, hp⟩ : ∃ p, p = H / 2 ^ k := ⟨_, rfl⟩
      obtain ⟨q, hq⟩ : ∃ q, q = L / 2 ^ k := ⟨_, rfl⟩
      rw [← hp] at hqH hbH hnH ⊢
      rw [← hq] at hqL hbL hnL ⊢
      have HS := Lib.hid (from_sets true L H k hlt)
      rw [hbH, hbL] at HS
      have c1 := M.cell (g := g2) (by repeat (first | exact Has.head _ _ _ _ | apply Has.tail)) (numC_at' true (L % 2 ^ k + 2 ^ 64 * (H % 2 ^ k)) (i := k) (by omega))
      have c2 := M.free (g := g2) (by repeat (first | exact Has.head _ _ _ _ | apply Has.tail)) (1 + k)
      have M3 := M.set (g := g2) (1 + k) (.int .i64 ((q : Int) % 2)) (by repeat (first | exact Upd.head _ _ _ _ _ | apply Upd.tail)) (by rw [numC_len]; omega)
      have c3 := M3.cell (g := g2) (by repeat (first | exact Has.head _ _ _ _ | apply Has.tail)) (i := 1 + (64 + k)) (by rw [List.getElem?_set, if_neg (by omega)]; exact numC_at' true (L % 2 ^ k + 2 ^ 64 * (H % 2 ^ k)) (i := 64 + k) (by omega))
      have c4 := M3.free (g := g2) (by repeat (first | exact Has.head _ _ _ _ | apply Has.tail)) (1 + (64 + k))
      have hi0 : (0 : Int) ≤ k := by omega
      have hi1 : (k : Int) < 129 := by omega
      have hj0 : (0 : Int) ≤ 64 + k := by omega
      have hj1 : (64 : Int) + k < 129 := by omega
      have hj2 : ((64 : Int) + k).toNat = 64 + k := by omega
      have HH := Lib.hid hnH
      have HL := Lib.hid hnL
      clear hnH hnL hbH hbL hp hq
      go_wp2
      go_roundw
      case rel =>
        refine ⟨k + 1, by omega, by go_num, by rw [HH.out]; go_num, by rw [HL.out]; go_num, ?_⟩
        refine M3.set (g := g2) (1 + (64 + k)) (.int .i64 ((p : Int) % 2)) (by
          have e := HS.out
          rw [show ((q % 2 : Nat) : Int) = (q : Int) % 2 by omega, show ((p % 2 : Nat) : Int) = (p : Int) % 2 by omega] at e
          rw [e]
          exact (by repeat (first | exact Upd.head _ _ _ _ _ | apply Upd.tail))) (by rw [List.length_set, numC_len]; omega)
      case measure => simp [intOf] <;> omega
    · obtain rfl : k = 64 := by omega
      have hm : L % 2 ^ 64 + 2 ^ 64 * (H % 2 ^ 64) = N := by rw [Nat.mod_eq_of_lt hL, Nat.mod_eq_of_lt hH]; exact HN.out.symm
      rw [hm] at M
      have M3 := M
      clear M hm
      go_wp2_with ((with_reducible refine (?_ : Go.wpList _ _ _ (_ :: _) _ _)); (first | go_skip | (refine wpL_ld M3 rfl rfl rfl (by repeat (first | exact Has.head _ _ _ _ | apply Has.tail)) (by first | exact rd_num _ _ | exact rd_bits _ | exact rd_part _ _ | exact rd_minus _ _ | assumption) ?_) | (refine wpL_ldg M3 rfl rfl rfl (by repeat (first | exact Has.head _ _ _ _ | apply Has.tail)) (by first | exact rd_num _ _ | exact rd_bits _ | exact rd_part _ _ | exact rd_minus _ _ | assumption) ?_) | (refine wpN_1 rfl rfl rfl ?_) | (refine wpN_0 rfl rfl ?_) | (refine wpN_2 rfl rfl rfl rfl ?_) | (refine wpL_st M3 rfl rfl rfl rfl (by repeat (first | exact Has.head _ _ _ _ | apply Has.tail)) (by first | exact wr_num _ (numC_len _ _) _ _ | exact wr_bits _ (bitsC_len _) _ | exact wr_part _ _ _ | exact wr_minus _ _ _ | assumption) (by repeat (first | exact Upd.head _ _ _ _ _ | apply Upd.tail)) ?_; clear M3; intro w' M3)))
      ((try simp only [Exit.inBlock, Exit.then]); refine bodyPost_ret (res_cell rfl M3 rfl (by repeat (first | exact Has.head _ _ _ _ | apply Has.tail)) (by first | exact rd_num _ _ | exact rd_bits _ | exact rd_part _ _ | exact rd_minus _ _ | assumption)) rfl ?_)
      exact ⟨rfl, M3.below⟩

set_option maxRecDepth 20000 in
set_option maxHeartbeats 1600000 in
theorem from_neg1 (H L N h l : Nat) (hh1 : 0 < h) (hh0 : h ≤ 9223372036854775808) (hl1 : 0 < l) (hl0 : l < 18446744073709551616) (hHe : H = h - 1) (hLe : L = 18446744073709551616 - l) (hH : H < 18446744073709551616) (hL : L < 18446744073709551616) (hN : N = L + 2 ^ 64 * H) (w : World) :
    Calls Try.prog 16 #[.int .i64 (-(h : Int)), .int .u64 l] w fun e w' => e = .returned (.agg (numC true N).toArray) ∧ Below w.heap.size w w' := by
  have HN := Lib.hid hN; clear hN
  have hneg : decide (-(h : Int) < 0) = true := by simp only [decide_eq_true_eq]; omega
  have hl2 : ((l : Int) == 0) = false := by rw [beq_eq_false_iff_ne]; omega
  have HH1 := Lib.hid hHe; clear hHe
  have HL1 := Lib.hid hLe; clear hLe
  have M0 := Mem.start w
  go_enter Try.func16, Try.ntmps16
  go_wp2_with ((with_reducible refine (?_ : Go.wpList _ _ _ (_ :: _) _ _)); (first | go_skip | (refine wpL_bx M0 rfl rfl rfl rfl ?_; clear M0; intro g1 w1 M1) | (refine wpL_al M0 rfl rfl zero27 rfl ?_; clear M0; intro g1 w1 M1) | (refine wpL_al M0 rfl rfl zero29 rfl ?_; clear M0; intro g1 w1 M1) | (refine wpL_ld M0 rfl rfl rfl (by repeat (first | exact Has.head _ _ _ _ | apply Has.tail)) (by first | exact rd_num _ _ | exact rd_bits _ | exact rd_part _ _ | exact rd_minus _ _ | assumption) ?_) | (refine wpL_ldg M0 rfl rfl rfl (by repeat (first | exact Has.head _ _ _ _ | apply Has.tail)) (by first | exact rd_num _ _ | exact rd_bits _ | exact rd_part _ _ | exact rd_minus _ _ | assumption) ?_) | (refine wpN_1 rfl rfl rfl ?_) | (refine wpN_0 rfl rfl ?_) | (refine wpN_2 rfl rfl rfl rfl ?_) | (refine wpL_st M0 rfl rfl rfl rfl (by repeat (first | exact Has.head _ _ _ _ | apply Has.tail)) (by first | exact wr_num _ (numC_len _ _) _ _ | exact wr_bits _ (bitsC_len _) _ | exact wr_part _ _ _ | exact wr_minus _ _ _ | assumption) (by repeat (first | exact Upd.head _ _ _ _ _ | apply Upd.tail)) ?_; clear M0; intro w' M0) | (refine wpL_bx M1 rfl rfl rfl rfl ?_; clear M1; intro g2 w2 M2) | (refine wpL_al M1 rfl rfl zero27 rfl ?_; clear M1; intro g2 w2 M2) | (refine wpL_al M1 rfl rfl zero29 rfl ?_; clear M1; intro g2 w2 M2) | (refine wpL_ld M1 rfl rfl rfl (by repeat (first | exact Has.head _ _ _ _ | apply Has.tail)) (by first | exact rd_num _ _ | exact rd_bits _ | exact rd_part _ _ | exact rd_minus _ _ | assumption) ?_) | (refine wpL_ldg M1 rfl rfl rfl (by repeat (first | exact Has.head _ _ _ _ | apply Has.tail)) (by first | exact rd_num _ _ | exact rd_bits _ | exact rd_part _ _ | exact rd_minus _ _ | assumption) ?_) | (refine wpN_1 rfl rfl rfl ?_) | (refine wpN_0 rfl rfl ?_) | (refine wpN_2 rfl rfl rfl rfl ?_) | (refine wpL_st M1 rfl rfl rfl rfl (by repeat (first | exact Has.head _ _ _ _ | apply Has.tail)) (by first | exact wr_num _ (numC_len _ _) _ _ | exact wr_bits _ (bitsC_len _) _ | exact wr_part _ _ _ | exact wr_minus _ _ _ | assumption) (by repeat (first | exact Upd.head _ _ _ _ _ | apply Upd.tail)) ?_; clear M1; intro w' M1) | (refine wpL_ld M2 rfl rfl rfl (by repeat (first | exact Has.head _ _ _ _ | apply Has.tail)) (by first | exact rd_num _ _ | exact rd_bits _ | exact rd_part _ _ | exact rd_minus _ _ | assumption) ?_) | (refine wpL_ldg M2 rfl rfl rfl (by repeat (first | exact Has.head _ _ _ _ | apply Has.tail)) (by first | exact rd_num _ _ | exact rd_bits _ | exact rd_part _ _ | exact rd_minus _ _ | assumption) ?_) | (refine wpN_1 rfl rfl rfl ?_) | (refine wpN_0 rfl rfl ?_) | (refine wpN_2 rfl rfl rfl rfl ?_) | (refine wpL_st M2 rfl rfl rfl rfl (by repeat (first | exact Has.head _ _ _ _ | apply Has.tail)) (by first | exact wr_num _ (numC_len _ _) _ _ | exact wr_bits _ (bitsC_len _) _ | exact wr_part _ _ _ | exact wr_minus _ _ _ | assumption) (by repeat (first | exact Upd.head _ _ _ _ _ | apply Upd.tail)) ?_; clear M2; intro w' M2)))
  go_loopw [6, 7, 8] (fun h l i wx => ∃ k : Nat, k ≤ 64 ∧ i = .int .i64 k ∧ h = .int .u64 (H / 2 ^ k : Nat) ∧ l = .int .u64 (L / 2 ^ k : Nat) ∧ Mem w wx [(g2, 32, numC true (L % 2 ^ k + 2 ^ 64 * (H % 2 ^ k))), (g1, 32, numC false 0)]) (fun _ _ i _ => 64 - (intOf i).toNat)
  case atStart => exact ⟨0, by omega, rfl, by have e := HH1.out; congr 1; rw [Nat.pow_zero, Nat.div_one]; simp only [IntKind.wrap_u64]; omega, by have e := HL1.out; congr 1; rw [Nat.pow_zero, Nat.div_one]; omega, by rw [Nat.pow_zero, Nat.mod_one, Nat.mod_one]; exact M2⟩
  case round =>
    clear M2
    obtain ⟨k, hk, rfl, rfl, rfl, M⟩ := hrel
    by_cases hlt : k < 64
    · have hqH : H / 2 ^ k < 18446744073709551616 := Nat.lt_of_le_of_lt (Nat.div_le_self _ _) hH
      have hqL : L / 2 ^ k < 18446744073709551616 := Nat.lt_of_le_of_lt (Nat.div_le_self _ _) hL
      have hbH : bt H k = H / 2 ^ k % 2 := rfl
      have hbL : bt L k = L / 2 ^ k % 2 := rfl
      have hnH : H / 2 ^ (k + 1) = H / 2 ^ k / 2 := (div_succ H k).symm
      have hnL : L / 2 ^ (k + 1) = L / 2 ^ k / 2 := (div_succ L k).symm
      obtain ⟨p, hp⟩ : ∃ p, p = H / 2 ^ k := ⟨_, rfl⟩
      obtain ⟨q, hq⟩ : ∃ q, q = L / 2 ^ k := ⟨_, rfl⟩
      rw [← hp] at hqH hbH hnH ⊢
      rw [← hq] at hqL hbL hnL ⊢
      have HS := Lib.hid (from_sets true L H k hlt)
      rw [hbH, hbL] at HS
      have c1 := M.cell (g := g2) (by repeat (first | exact Has.head _ _ _ _ | apply Has.tail)) (numC_at' true (L % 2 ^ k + 2 ^ 64 * (H % 2 ^ k)) (i := k) (by omega))
      have c2 := M.free (g := g2) (by repeat (first | exact Has.head _ _ _ _ | apply Has.tail)) (1 + k)
      have M3 := M.set (g := g2) (1 + k) (.int .i64 ((q : Int) % 2)) (by repeat (first | exact Upd.head _ _ _ _ _ | apply Upd.tail)) (by rw [numC_len]; omega)
      have c3 := M3.cell (g := g2) (by repeat (first | exact Has.head _ _ _ _ | apply Has.tail)) (i := 1 + (64 + k)) (by rw [List.getElem?_set, if_neg (by omega)]; exact numC_at' true (L % 2 ^ k + 2 ^ 64 * (H % 2 ^ k)) (i := 64 + k) (by omega))
      have c4 := M3.free (g := g2) (by repeat (first | exact Has.head _ _ _ _ | apply Has.tail)) (1 + (64 + k))
      have hi0 : (0 : Int) ≤ k := by omega
      have hi1 : (k : Int) < 129 := by omega
      have hj0 : (0 : Int) ≤ 64 + k := by omega
      have hj1 : (64 : Int) + k < 129 := by omega
      have hj2 : ((64 : Int) + k).toNat = 64 + k := by omega
      have HH := Lib.hid hnH
      have HL := Lib.hid hnL
      clear hnH hnL hbH hbL hp hq
      go_wp2
      go_roundw
      case rel =>
        refine ⟨k + 1, by omega, by go_num, by rw [HH.out]; go_num, by rw [HL.out]; go_num, ?_⟩
        refine M3.set (g := g2) (1 + (64 + k)) (.int .i64 ((p : Int) % 2)) (by
          have e := HS.out
          rw [show ((q % 2 : Nat) : Int) = (q : Int) % 2 by omega, show ((p % 2 : Nat) : Int) = (p : Int) % 2 by omega] at e
          rw [e]
          exact (by repeat (first | exact Upd.head _ _ _ _ _ | apply Upd.tail))) (by rw [List.length_set, numC_len]; omega)
      case measure => simp [intOf] <;> omega
    · obtain rfl : k = 64 := by omega
      have hm : L % 2 ^ 64 + 2 ^ 64 * (H % 2 ^ 64) = N := by rw [Nat.mod_eq_of_lt hL, Nat.mod_eq_of_lt hH]; exact HN.out.symm
      rw [hm] at M
      have M3 := M
      clear M hm
      go_wp2_with ((with_reducible refine (?_ : Go.wpList _ _ _ (_ :: _) _ _)); (first | go_skip | (refine wpL_ld M3 rfl rfl rfl (by repeat (first | exact Has.head _ _ _ _ | apply Has.tail)) (by first | exact rd_num _ _ | exact rd_bits _ | exact rd_part _ _ | exact rd_minus _ _ | assumption) ?_) | (refine wpL_ldg M3 rfl rfl rfl (by repeat (first | exact Has.head _ _ _ _ | apply Has.tail)) (by first | exact rd_num _ _ | exact rd_bits _ | exact rd_part _ _ | exact rd_minus _ _ | assumption) ?_) | (refine wpN_1 rfl rfl rfl ?_) | (refine wpN_0 rfl rfl ?_) | (refine wpN_2 rfl rfl rfl rfl ?_) | (refine wpL_st M3 rfl rfl rfl rfl (by repeat (first | exact Has.head _ _ _ _ | apply Has.tail)) (by first | exact wr_num _ (numC_len _ _) _ _ | exact wr_bits _ (bitsC_len _) _ | exact wr_part _ _ _ | exact wr_minus _ _ _ | assumption) (by repeat (first | exact Upd.head _ _ _ _ _ | apply Upd.tail)) ?_; clear M3; intro w' M3)))
      ((try simp only [Exit.inBlock, Exit.then]); refine bodyPost_ret (res_cell rfl M3 rfl (by repeat (first | exact Has.head _ _ _ _ | apply Has.tail)) (by first | exact rd_num _ _ | exact rd_bits _ | exact rd_part _ _ | exact rd_minus _ _ | assumption)) rfl ?_)
      exact ⟨rfl, M3.below⟩

/-- A number of two parts. -/
theorem from_any (hi : Int) (l : Nat) (hh : -9223372036854775808 ≤ hi ∧ hi ≤ 9223372036854775807) (hl : l < 18446744073709551616) (w : World) :
    Calls Try.prog 16 #[.int .i64 hi, .int .u64 l] w fun e w' =>
      e = .returned (.agg (numC (decide (hi * 18446744073709551616 + l < 0)) (hi * 18446744073709551616 + l).natAbs).toArray) ∧ Below w.heap.size w w' := by
  by_cases hn : hi < 0
  · obtain ⟨h, rfl⟩ : ∃ h : Nat, hi = -(h : Int) := ⟨hi.natAbs, by omega⟩
    rw [decide_eq_true (by omega)]
    by_cases h0 : l = 0
    · subst h0
      exact from_neg0 h _ (by omega) (by omega) (by omega) (by omega) w
    · exact from_neg1 (h - 1) (18446744073709551616 - l) _ h l (by omega) (by omega) (by omega) hl rfl rfl (by omega) (by omega) (by omega) w
  · obtain ⟨h, rfl⟩ : ∃ h : Nat, hi = (h : Int) := ⟨hi.natAbs, by omega⟩
    rw [decide_eq_false (by omega)]
    exact from_pos h l _ (by omega) (by omega) hl (by omega) w
end Go.Proofs.Ytbajkjekpgmmfaa
