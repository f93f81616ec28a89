/-
  The reference: is it nought, compared, its words, has it room.
-/
import Derived.Test.YtaofkoejlpchaaaRefA
set_option linter.unusedVariables false
set_option linter.unusedSimpArgs false
namespace Go.Proofs.Ytaofkoejlpchaaa
open Go Go.RowKit Go.Th Go.Th.Wide

theorem low_zero {n k : Nat} (h : n % 2 ^ k = 0) (hb : bt n k = 0) : n % 2 ^ (k + 1) = 0 := by rw [mod_up, h, hb]; rfl
theorem low_one {n k : Nat} (hb : bt n k ≠ 0) : n ≠ 0 := by rintro rfl; exact hb (bt_zero k)

set_option maxHeartbeats 800000 in
theorem zero_any (m : Bool) (n : Nat) (hn : n < 2 ^ 129) (w : World) :
    Calls Try.prog 37 #[.agg (numC m n).toArray] w fun e w' => e = .returned (.bool (decide (n = 0))) ∧ Below w.heap.size w w' := by
  have HN := Lib.hid hn; clear hn
  have M0 := Mem.start w
  go_enter Try.func37, Try.ntmps37
  go_wp2_with ((with_reducible refine (?_ : Go.wpList _ _ _ (_ :: _) _ _)); (first | go_skip | (refine wpL_bx M0 rfl rfl rfl rfl ?_; clear M0; intro g1 w1 M1) | (refine wpL_al M0 rfl rfl zero27 rfl ?_; clear M0; intro g1 w1 M1) | (refine wpL_al M0 rfl rfl zero29 rfl ?_; clear M0; intro g1 w1 M1) | (refine wpL_ld M0 rfl rfl rfl (by repeat (first | exact Has.head _ _ _ _ | apply Has.tail)) (by first | exact rd_num _ _ | exact rd_bits _ | exact rd_part _ _ | exact rd_minus _ _ | assumption) ?_) | (refine wpL_ldg M0 rfl rfl rfl (by repeat (first | exact Has.head _ _ _ _ | apply Has.tail)) (by first | exact rd_num _ _ | exact rd_bits _ | exact rd_part _ _ | exact rd_minus _ _ | assumption) ?_) | (refine wpN_1 rfl rfl rfl ?_) | (refine wpN_0 rfl rfl ?_) | (refine wpN_2 rfl rfl rfl rfl ?_) | (refine wpL_st M0 rfl rfl rfl rfl (by repeat (first | exact Has.head _ _ _ _ | apply Has.tail)) (by first | exact wr_num _ (numC_len _ _) _ _ | exact wr_bits _ (bitsC_len _) _ | exact wr_part _ _ _ | exact wr_minus _ _ _ | assumption) (by repeat (first | exact Upd.head _ _ _ _ _ | apply Upd.tail)) ?_; clear M0; intro w' M0) | (refine wpL_ld M1 rfl rfl rfl (by repeat (first | exact Has.head _ _ _ _ | apply Has.tail)) (by first | exact rd_num _ _ | exact rd_bits _ | exact rd_part _ _ | exact rd_minus _ _ | assumption) ?_) | (refine wpL_ldg M1 rfl rfl rfl (by repeat (first | exact Has.head _ _ _ _ | apply Has.tail)) (by first | exact rd_num _ _ | exact rd_bits _ | exact rd_part _ _ | exact rd_minus _ _ | assumption) ?_) | (refine wpN_1 rfl rfl rfl ?_) | (refine wpN_0 rfl rfl ?_) | (refine wpN_2 rfl rfl rfl rfl ?_) | (refine wpL_st M1 rfl rfl rfl rfl (by repeat (first | exact Has.head _ _ _ _ | apply Has.tail)) (by first | exact wr_num _ (numC_len _ _) _ _ | exact wr_bits _ (bitsC_len _) _ | exact wr_part _ _ _ | exact wr_minus _ _ _ | assumption) (by repeat (first | exact Upd.head _ _ _ _ _ | apply Upd.tail)) ?_; clear M1; intro w' M1)))
  go_loopw [3] (fun i wx => ∃ k : Nat, k ≤ 129 ∧ i = .int .i64 k ∧ Hid (n % 2 ^ k = 0) ∧ Mem w wx [(g1, 52, numC m n)]) (fun i _ => 129 - (intOf i).toNat)
  case atStart => exact ⟨0, by omega, rfl, Nat.mod_one _, M1⟩
  case round =>
    clear M1
    obtain ⟨k, hk, rfl, HZ, M⟩ := hrel
    by_cases hlt : k < 129
    · have c1 := M.cell (g := g1) (by repeat (first | exact Has.head _ _ _ _ | apply Has.tail)) (numC_at' m n hlt)
      have hi0 : (0 : Int) ≤ k := by omega
      have hi1 : (k : Int) < 129 := by omega
      by_cases hb : bt n k = 0
      · rw [hb] at c1
        have HB := Lib.hid hb; clear hb
        go_wp2
        go_roundw
        case rel => exact ⟨k + 1, by omega, by go_num, low_zero HZ.out HB.out, M⟩
        case measure => simp [intOf] <;> omega
      · have h1 : bt n k = 1 := by have := bt_lt n k; omega
        rw [h1] at c1
        have HB := Lib.hid hb; clear hb h1
        go_wp2
        go_ret
        exact ⟨ret_bool (by have := low_one HB.out; simp [this]), M.below⟩
    · obtain rfl : k = 129 := by omega
      go_wp2
      go_ret
      exact ⟨ret_bool (by have := HZ.out; rw [Nat.mod_eq_of_lt HN.out] at this; simp [this]), M.below⟩

set_option maxHeartbeats 800000 in
theorem less_any (a b : Nat) (ha : a < 2 ^ 129) (hb : b < 2 ^ 129) (w : World) :
    Calls Try.prog 42 #[.agg (bitsC a).toArray, .agg (bitsC b).toArray] w fun e w' => e = .returned (.bool (decide (a < b))) ∧ Below w.heap.size w w' := by
  have ha0 : a / 2 ^ 129 = b / 2 ^ 129 := by rw [Nat.div_eq_of_lt ha, Nat.div_eq_of_lt hb]
  have HA := Lib.hid ha0; clear ha hb ha0
  have M0 := Mem.start w
  go_enter Try.func42, Try.ntmps42
  go_wp2_with ((with_reducible refine (?_ : Go.wpList _ _ _ (_ :: _) _ _)); (first | go_skip | (refine wpL_bx M0 rfl rfl rfl rfl ?_; clear M0; intro g1 w1 M1) | (refine wpL_al M0 rfl rfl zero27 rfl ?_; clear M0; intro g1 w1 M1) | (refine wpL_al M0 rfl rfl zero29 rfl ?_; clear M0; intro g1 w1 M1) | (refine wpL_ld M0 rfl rfl rfl (by repeat (first | exact Has.head _ _ _ _ | apply Has.tail)) (by first | exact rd_num _ _ | exact rd_bits _ | exact rd_part _ _ | exact rd_minus _ _ | assumption) ?_) | (refine wpL_ldg M0 rfl rfl rfl (by repeat (first | exact Has.head _ _ _ _ | apply Has.tail)) (by first | exact rd_num _ _ | exact rd_bits _ | exact rd_part _ _ | exact rd_minus _ _ | assumption) ?_) | (refine wpN_1 rfl rfl rfl ?_) | (refine wpN_0 rfl rfl ?_) | (refine wpN_2 rfl rfl rfl rfl ?_) | (refine wpL_st M0 rfl rfl rfl rfl (by repeat (first | exact Has.head _ _ _ _ | apply Has.tail)) (by first | exact wr_num _ (numC_len _ _) _ _ | exact wr_bits _ (bitsC_len _) _ | exact wr_part _ _ _ | exact wr_minus _ _ _ | assumption) (by repeat (first | exact Upd.head _ _ _ _ _ | apply Upd.tail)) ?_; clear M0; intro w' M0) | (refine wpL_bx M1 rfl rfl rfl rfl ?_; clear M1; intro g2 w2 M2) | (refine wpL_al M1 rfl rfl zero27 rfl ?_; clear M1; intro g2 w2 M2) | (refine wpL_al M1 rfl rfl zero29 rfl ?_; clear M1; intro g2 w2 M2) | (refine wpL_ld M1 rfl rfl rfl (by repeat (first | exact Has.head _ _ _ _ | apply Has.tail)) (by first | exact rd_num _ _ | exact rd_bits _ | exact rd_part _ _ | exact rd_minus _ _ | assumption) ?_) | (refine wpL_ldg M1 rfl rfl rfl (by repeat (first | exact Has.head _ _ _ _ | apply Has.tail)) (by first | exact rd_num _ _ | exact rd_bits _ | exact rd_part _ _ | exact rd_minus _ _ | assumption) ?_) | (refine wpN_1 rfl rfl rfl ?_) | (refine wpN_0 rfl rfl ?_) | (refine wpN_2 rfl rfl rfl rfl ?_) | (refine wpL_st M1 rfl rfl rfl rfl (by repeat (first | exact Has.head _ _ _ _ | apply Has.tail)) (by first | exact wr_num _ (numC_len _ _) _ _ | exact wr_bits _ (bitsC_len _) _ | exact wr_part _ _ _ | exact wr_minus _ _ _ | assumption) (by repeat (first | exact Upd.head _ _ _ _ _ | apply Upd.tail)) ?_; clear M1; intro w' M1) | (refine wpL_ld M2 rfl rfl rfl (by repeat (first | exact Has.head _ _ _ _ | apply Has.tail)) (by first | exact rd_num _ _ | exact rd_bits _ | exact rd_part _ _ | exact rd_minus _ _ | assumption) ?_) | (refine wpL_ldg M2 rfl rfl rfl (by repeat (first | exact Has.head _ _ _ _ | apply Has.tail)) (by first | exact rd_num _ _ | exact rd_bits _ | exact rd_part _ _ | exact rd_minus _ _ | assumption) ?_) | (refine wpN_1 rfl rfl rfl ?_) | (refine wpN_0 rfl rfl ?_) | (refine wpN_2 rfl rfl rfl rfl ?_) | (refine wpL_st M2 rfl rfl rfl rfl (by repeat (first | exact Has.head _ _ _ _ | apply Has.tail)) (by first | exact wr_num _ (numC_len _ _) _ _ | exact wr_bits _ (bitsC_len _) _ | exact wr_part _ _ _ | exact wr_minus _ _ _ | assumption) (by repeat (first | exact Upd.head _ _ _ _ _ | apply Upd.tail)) ?_; clear M2; intro w' M2)))
  go_loopw [5] (fun i wx => ∃ k : Nat, k ≤ 129 ∧ i = .int .i64 ((k : Int) - 1) ∧ Hid (a / 2 ^ k = b / 2 ^ k) ∧ Mem w wx [(g2, 50, bitsC b), (g1, 50, bitsC a)]) (fun i _ => (intOf i + 1).toNat)
  case atStart => exact ⟨129, by omega, rfl, HA.out, M2⟩
  case round =>
    clear M2
    obtain ⟨k1, hk, rfl, HZ, M⟩ := hrel
    by_cases hlt : 0 < k1
    · obtain ⟨k, rfl⟩ : ∃ k, k1 = k + 1 := ⟨k1 - 1, by omega⟩
      have hk' : k < 129 := by omega
      have e : ((k + 1 : Nat) : Int) - 1 = (k : Int) := by omega
      rw [e]
      have c1 := M.cell (g := g1) (by repeat (first | exact Has.head _ _ _ _ | apply Has.tail)) (bitsC_at a hk')
      have c2 := M.cell (g := g2) (by repeat (first | exact Has.head _ _ _ _ | apply Has.tail)) (bitsC_at b hk')
      have hi0 : (0 : Int) ≤ k := by omega
      have hi1 : (k : Int) < 129 := by omega
      have l1 := bt_lt a k
      have l2 := bt_lt b k
      by_cases hb : bt a k = bt b k
      · rw [← hb] at c2
        have HB := Lib.hid hb
        clear hb l2
        obtain ⟨x, hx⟩ : ∃ x, x = bt a k := ⟨_, rfl⟩
        rw [← hx] at c1 c2 l1
        clear hx e
        go_wp2
        go_quiet (fail)
        go_wp2
        go_roundw
        case rel => exact ⟨k, by omega, rfl, div_same HZ.out HB.out, M.drewN _⟩
        case measure => simp [intOf] <;> omega
      · have HB := Lib.hid (less_at HZ.out hb)
        obtain ⟨x, hx⟩ : ∃ x, x = bt a k := ⟨_, rfl⟩
        obtain ⟨y, hy⟩ : ∃ y, y = bt b k := ⟨_, rfl⟩
        rw [← hx, ← hy] at HB hb
        rw [← hx] at c1 l1
        rw [← hy] at c2 l2
        have hxy : (x = 0 ∧ y = 1) ∨ (x = 1 ∧ y = 0) := by omega
        clear hx hy e hb l1 l2
        rcases hxy with ⟨rfl, rfl⟩ | ⟨rfl, rfl⟩
        · go_wp2
          go_quiet (fail)
          go_wp2
          go_quiet (fail)
          go_wp2
          go_ret
          exact ⟨ret_bool (by simp [HB.out]), below_dN (below_dN M.below _) _⟩
        · go_wp2
          go_quiet (fail)
          go_wp2
          go_quiet (fail)
          go_wp2
          go_ret
          exact ⟨ret_bool (by simp [HB.out]), below_dN (below_dN M.below _) _⟩
    · obtain rfl : k1 = 0 := by omega
      have h := HZ.out
      simp only [Nat.pow_zero, Nat.div_one] at h
      have H := Lib.hid h
      clear h
      go_wp2
      go_ret
      exact ⟨ret_bool (by rw [H.out]; simp), M.below⟩

theorem bt_from (N f i : Nat) (hi : i < 64) : bt N (f + i) = bt (N / 2 ^ f % 2 ^ 64) i := by
  rw [bt_mod, if_pos hi]
  unfold bt
  rw [Nat.div_div_eq_div_mul, ← Nat.pow_add]

end Go.Proofs.Ytaofkoejlpchaaa
