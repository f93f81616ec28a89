/-
  The reference: has it room; numbers of 64 bits, of two words.
-/
import Derived.Test.YtaofkoejlpchaaaRefB
set_option linter.unusedVariables false
set_option linter.unusedSimpArgs false
namespace Go.Proofs.Ytaofkoejlpchaaa
open Go Go.RowKit Go.Th Go.Th.Wide

theorem ge_of_bt {n k : Nat} (h : bt n k ≠ 0) : 2 ^ k ≤ n := by
  rcases Nat.lt_or_ge n (2 ^ k) with h1 | h1
  · exact absurd (bt_big h1) h
  · exact h1
theorem fits_big {m : Bool} {n K k : Nat} (hk : K < k) (h : bt n k ≠ 0) : fitsS m n K = false := by
  have h1 := ge_of_bt h
  have h2 : 2 ^ K < 2 ^ k := Nat.pow_lt_pow_right (by decide) hk
  unfold fitsS
  rw [decide_eq_false (by omega), decide_eq_false (by omega)]; rfl
theorem fits_small {m : Bool} {n K : Nat} (h0 : n / 2 ^ (K + 1) = 0) (h : bt n K = 0) : fitsS m n K = true := by
  have h1 := div_up n K
  rw [h0, h] at h1
  have h2 : n < 2 ^ K := by
    rcases Nat.div_eq_zero_iff.1 h1 with h | h
    · have := Nat.two_pow_pos K; omega
    · exact h
  unfold fitsS
  rw [decide_eq_true h2]; rfl
theorem fits_mid {m : Bool} {n K k : Nat} (h : bt n K ≠ 0) (hk : k < K) (hb : bt n k ≠ 0) : fitsS m n K = false := by
  have h1 := ge_of_bt h
  have h2 : n ≠ 2 ^ K := by
    rintro rfl
    apply hb
    unfold bt
    rw [Nat.pow_div (by omega) (by decide), show K - k = (K - k - 1) + 1 from by omega, Nat.pow_succ]
    omega
  unfold fitsS
  rw [decide_eq_false (by omega), decide_eq_false h2]; rfl
theorem fits_end {m : Bool} {n K : Nat} (h0 : n / 2 ^ (K + 1) = 0) (h : bt n K = 1) (hz : n % 2 ^ K = 0) : fitsS m n K = m := by
  have h1 := div_up n K
  rw [h0, h] at h1
  have h2 := Nat.div_add_mod n (2 ^ K)
  rw [h1, hz] at h2
  have h3 : n = 2 ^ K := by omega
  unfold fitsS
  rw [decide_eq_false (by omega), decide_eq_true h3]
  simp
theorem bt_above (n K j : Nat) : bt n (K + 1 + j) = bt (n / 2 ^ (K + 1)) j := by unfold bt; rw [Nat.div_div_eq_div_mul, ← Nat.pow_add]

set_option maxHeartbeats 1600000 in
theorem fits_any (m : Bool) (n K : Nat) (hn : n < 2 ^ 129) (hK : K ≤ 127) (w : World) :
    Calls Try.prog 44 #[.agg (numC m n).toArray, .int .i64 K] w fun e w' => e = .returned (.bool (fitsS m n K)) ∧ Below w.heap.size w w' := by
  have hA : n / 2 ^ (K + 1) < 2 ^ (128 - K) := by
    rw [Nat.div_lt_iff_lt_mul (Nat.two_pow_pos _), ← Nat.pow_add, show 128 - K + (K + 1) = 129 from by omega]; exact hn
  have HA := Lib.hid hA; clear hA hn
  have M0 := Mem.start w
  go_enter Try.func44, Try.ntmps44
  go_wp2_with ((with_reducible refine (?_ : Go.wpList _ _ _ (_ :: _) _ _)); (first | go_skip | (refine wpL_bx M0 rfl rfl rfl rfl ?_; clear M0; intro g1 w1 M1) | (refine wpL_al M0 rfl rfl zero27 rfl ?_; clear M0; intro g1 w1 M1) | (refine wpL_al M0 rfl rfl zero29 rfl ?_; clear M0; intro g1 w1 M1) | (refine wpL_ld M0 rfl rfl rfl (by repeat (first | exact Has.head _ _ _ _ | apply Has.tail)) (by first | exact rd_num _ _ | exact rd_bits _ | exact rd_part _ _ | exact rd_minus _ _ | assumption) ?_) | (refine wpL_ldg M0 rfl rfl rfl (by repeat (first | exact Has.head _ _ _ _ | apply Has.tail)) (by first | exact rd_num _ _ | exact rd_bits _ | exact rd_part _ _ | exact rd_minus _ _ | assumption) ?_) | (refine wpN_1 rfl rfl rfl ?_) | (refine wpN_0 rfl rfl ?_) | (refine wpN_2 rfl rfl rfl rfl ?_) | (refine wpL_st M0 rfl rfl rfl rfl (by repeat (first | exact Has.head _ _ _ _ | apply Has.tail)) (by first | exact wr_num _ (numC_len _ _) _ _ | exact wr_bits _ (bitsC_len _) _ | exact wr_part _ _ _ | exact wr_minus _ _ _ | assumption) (by repeat (first | exact Upd.head _ _ _ _ _ | apply Upd.tail)) ?_; clear M0; intro w' M0) | (refine wpL_ld M1 rfl rfl rfl (by repeat (first | exact Has.head _ _ _ _ | apply Has.tail)) (by first | exact rd_num _ _ | exact rd_bits _ | exact rd_part _ _ | exact rd_minus _ _ | assumption) ?_) | (refine wpL_ldg M1 rfl rfl rfl (by repeat (first | exact Has.head _ _ _ _ | apply Has.tail)) (by first | exact rd_num _ _ | exact rd_bits _ | exact rd_part _ _ | exact rd_minus _ _ | assumption) ?_) | (refine wpN_1 rfl rfl rfl ?_) | (refine wpN_0 rfl rfl ?_) | (refine wpN_2 rfl rfl rfl rfl ?_) | (refine wpL_st M1 rfl rfl rfl rfl (by repeat (first | exact Has.head _ _ _ _ | apply Has.tail)) (by first | exact wr_num _ (numC_len _ _) _ _ | exact wr_bits _ (bitsC_len _) _ | exact wr_part _ _ _ | exact wr_minus _ _ _ | assumption) (by repeat (first | exact Upd.head _ _ _ _ _ | apply Upd.tail)) ?_; clear M1; intro w' M1)))
  go_loopw [5] (fun i wx => ∃ j : Nat, K + 1 + j ≤ 129 ∧ i = .int .i64 ((K : Int) + 1 + j) ∧ Hid (n / 2 ^ (K + 1) % 2 ^ j = 0) ∧ Mem w wx [(g1, 52, numC m n)]) (fun i _ => 129 - (intOf i).toNat)
  case atStart => exact ⟨0, by omega, by simp, Nat.mod_one _, M1⟩
  case round =>
    clear M1
    obtain ⟨j, hk, rfl, HZ, M⟩ := hrel
    by_cases hlt : K + 1 + j < 129
    · have c1 := M.cell (g := g1) (by repeat (first | exact Has.head _ _ _ _ | apply Has.tail)) (numC_at' m n hlt)
      have hi0 : (0 : Int) ≤ (K : Int) + 1 + j := by omega
      have hi1 : (K : Int) + 1 + j < 129 := by omega
      have hto : ((K : Int) + 1 + j).toNat = K + 1 + j := by omega
      by_cases hb : bt n (K + 1 + j) = 0
      · rw [hb] at c1
        have hb2 := hb
        rw [bt_above] at hb2
        have HB := Lib.hid hb2; clear hb hb2
        go_wp2
        go_roundw
        case rel => exact ⟨j + 1, by omega, by go_num, low_zero HZ.out HB.out, M⟩
        case measure => simp [intOf] <;> omega
      · have h1 : bt n (K + 1 + j) = 1 := by have := bt_lt n (K + 1 + j); omega
        rw [h1] at c1
        have HB := Lib.hid hb; clear hb h1
        go_wp2
        go_ret
        exact ⟨ret_bool (fits_big (by omega) HB.out).symm, M.below⟩
    · obtain rfl : j = 128 - K := by omega
      have e : (K : Int) + 1 + ((128 - K : Nat) : Int) = 129 := by omega
      rw [e]
      have h0 : n / 2 ^ (K + 1) = 0 := by have := HZ.out; rw [Nat.mod_eq_of_lt HA.out] at this; exact this
      have H0 := Lib.hid h0
      have c1 := M.cell (g := g1) (by repeat (first | exact Has.head _ _ _ _ | apply Has.tail)) (numC_at' m n (i := K) (by omega))
      have c2 := M.cell (g := g1) (by repeat (first | exact Has.head _ _ _ _ | apply Has.tail)) (numC_0 m n)
      have hi0 : (0 : Int) ≤ K := by omega
      have hi1 : (K : Int) < 129 := by omega
      clear h0 hk hlt e HZ
      by_cases hb : bt n K = 0
      · rw [hb] at c1
        have HB := Lib.hid hb; clear hb
        go_wp2
        go_ret
        exact ⟨ret_bool (fits_small H0.out HB.out).symm, M.below⟩
      · have h1 : bt n K = 1 := by have := bt_lt n K; omega
        rw [h1] at c1
        have HB := Lib.hid hb
        have H1 := Lib.hid h1; clear hb h1
        have M2 := M
        clear M
        go_wp2
        go_loopw [6] (fun i wx => ∃ k : Nat, k ≤ K ∧ i = .int .i64 k ∧ Hid (n % 2 ^ k = 0) ∧ Mem w wx [(g1, 52, numC m n)]) (fun i _ => K - (intOf i).toNat)
        case atStart => exact ⟨0, by omega, rfl, Nat.mod_one _, M2⟩
        case round =>
          clear M2 c1 c2
          obtain ⟨k, hk, rfl, HZ, M⟩ := hrel
          have c2 := M.cell (g := g1) (by repeat (first | exact Has.head _ _ _ _ | apply Has.tail)) (numC_0 m n)
          by_cases hlt : k < K
          · have c1 := M.cell (g := g1) (by repeat (first | exact Has.head _ _ _ _ | apply Has.tail)) (numC_at' m n (i := k) (by omega))
            have hj0 : (0 : Int) ≤ k := by omega
            have hj1 : (k : Int) < 129 := by omega
            by_cases hb : bt n k = 0
            · rw [hb] at c1
              have HB := Lib.hid hb; clear hb
              go_wp2
              go_roundw
              case rel => exact ⟨k + 1, by omega, by go_num, low_zero HZ.out HB.out, M⟩
              case measure => simp [intOf] <;> omega
            · have h1 : bt n k = 1 := by have := bt_lt n k; omega
              rw [h1] at c1
              have HB2 := Lib.hid hb; clear hb h1
              go_wp2
              go_ret
              exact ⟨ret_bool (fits_mid HB.out hlt HB2.out).symm, M.below⟩
          · obtain rfl : k = K := by omega
            go_wp2
            go_ret
            exact ⟨ret_bool (fits_end H0.out H1.out HZ.out).symm, M.below⟩
end Go.Proofs.Ytaofkoejlpchaaa
