/-
  Numbers of 128 bits: which is greater, the sign, the next one, without the sign.
-/
import Derived.Test.YtaofkoejlpchaaaWideA
set_option linter.unusedVariables false
set_option linter.unusedSimpArgs false
namespace Go.Proofs.Ytaofkoejlpchaaa
open Go Go.RowKit Go.Th Go.Th.Wide

def cmpZ (a b : Int) : Int := if a < b then -1 else if a = b then 0 else 1

set_option maxRecDepth 20000 in
set_option maxHeartbeats 1600000 in
theorem Cmp_any (h l h' l' : Int) (hl : 0 ≤ l ∧ l < 18446744073709551616) (hl' : 0 ≤ l' ∧ l' < 18446744073709551616) (w : World) :
    Calls Try.prog 45 #[.agg #[.int .i64 h, .int .u64 l], .agg #[.int .i64 h', .int .u64 l']] w fun e w' =>
      e = .returned (.int .i64 (cmpZ (h * 18446744073709551616 + l) (h' * 18446744073709551616 + l'))) ∧ Below w.heap.size w w' := by
  obtain ⟨R, hR⟩ : ∃ R, R = cmpZ (h * 18446744073709551616 + l) (h' * 18446744073709551616 + l') := ⟨_, rfl⟩
  rw [← hR]
  unfold cmpZ at hR
  have M0 := Mem.start w
  by_cases he : h = h'
  · subst he
    have e1 : (h == h) = true := by simp
    have e2 : decide (h < h) = false := by simp
    by_cases hle : l = l'
    · subst hle
      have e3 : (l == l) = true := by simp
      obtain rfl : R = 0 := by rw [hR, if_neg (by omega), if_pos rfl]
      clear hR
      go_enter Try.func45, Try.ntmps45
      go_wp2_with ((with_reducible refine (?_ : Go.wpList _ _ _ (_ :: _) _ _)); (first | go_skip | (refine wpL_bx M0 rfl rfl rfl rfl ?_; clear M0; intro g1 w1 M1) | (refine wpL_al M0 rfl rfl zero25 rfl ?_; clear M0; intro g1 w1 M1) | (refine wpL_ld M0 rfl rfl rfl (by repeat (first | exact Has.head _ _ _ _ | apply Has.tail)) (by first | exact rd_w _ _ | exact rd_hi _ _ | exact rd_lo _ _ | assumption) ?_) | (refine wpL_ldg M0 rfl rfl rfl (by repeat (first | exact Has.head _ _ _ _ | apply Has.tail)) (by first | exact rd_w _ _ | exact rd_hi _ _ | exact rd_lo _ _ | assumption) ?_) | (refine wpL_st M0 rfl rfl rfl rfl (by repeat (first | exact Has.head _ _ _ _ | apply Has.tail)) (by first | exact wr_w _ rfl _ _ | exact wr_hi _ _ _ | assumption) (by repeat (first | exact Upd.head _ _ _ _ _ | apply Upd.tail)) ?_; clear M0; intro w' M0) | (refine wpL_bx M1 rfl rfl rfl rfl ?_; clear M1; intro g2 w2 M2) | (refine wpL_al M1 rfl rfl zero25 rfl ?_; clear M1; intro g2 w2 M2) | (refine wpL_ld M1 rfl rfl rfl (by repeat (first | exact Has.head _ _ _ _ | apply Has.tail)) (by first | exact rd_w _ _ | exact rd_hi _ _ | exact rd_lo _ _ | assumption) ?_) | (refine wpL_ldg M1 rfl rfl rfl (by repeat (first | exact Has.head _ _ _ _ | apply Has.tail)) (by first | exact rd_w _ _ | exact rd_hi _ _ | exact rd_lo _ _ | assumption) ?_) | (refine wpL_st M1 rfl rfl rfl rfl (by repeat (first | exact Has.head _ _ _ _ | apply Has.tail)) (by first | exact wr_w _ rfl _ _ | exact wr_hi _ _ _ | assumption) (by repeat (first | exact Upd.head _ _ _ _ _ | apply Upd.tail)) ?_; clear M1; intro w' M1) | (refine wpL_ld M2 rfl rfl rfl (by repeat (first | exact Has.head _ _ _ _ | apply Has.tail)) (by first | exact rd_w _ _ | exact rd_hi _ _ | exact rd_lo _ _ | assumption) ?_) | (refine wpL_ldg M2 rfl rfl rfl (by repeat (first | exact Has.head _ _ _ _ | apply Has.tail)) (by first | exact rd_w _ _ | exact rd_hi _ _ | exact rd_lo _ _ | assumption) ?_) | (refine wpL_st M2 rfl rfl rfl rfl (by repeat (first | exact Has.head _ _ _ _ | apply Has.tail)) (by first | exact wr_w _ rfl _ _ | exact wr_hi _ _ _ | assumption) (by repeat (first | exact Upd.head _ _ _ _ _ | apply Upd.tail)) ?_; clear M2; intro w' M2)))
      go_ret
      exact ⟨rfl, M2.below⟩
    · have e3 : (l == l') = false := by rw [beq_eq_false_iff_ne]; exact hle
      by_cases hlt : l < l'
      · have e4 : decide (l < l') = true := by simpa using hlt
        obtain rfl : R = -1 := by rw [hR, if_pos (by omega)]
        clear hR hlt hle
        go_enter Try.func45, Try.ntmps45
        go_wp2_with ((with_reducible refine (?_ : Go.wpList _ _ _ (_ :: _) _ _)); (first | go_skip | (refine wpL_bx M0 rfl rfl rfl rfl ?_; clear M0; intro g1 w1 M1) | (refine wpL_al M0 rfl rfl zero25 rfl ?_; clear M0; intro g1 w1 M1) | (refine wpL_ld M0 rfl rfl rfl (by repeat (first | exact Has.head _ _ _ _ | apply Has.tail)) (by first | exact rd_w _ _ | exact rd_hi _ _ | exact rd_lo _ _ | assumption) ?_) | (refine wpL_ldg M0 rfl rfl rfl (by repeat (first | exact Has.head _ _ _ _ | apply Has.tail)) (by first | exact rd_w _ _ | exact rd_hi _ _ | exact rd_lo _ _ | assumption) ?_) | (refine wpL_st M0 rfl rfl rfl rfl (by repeat (first | exact Has.head _ _ _ _ | apply Has.tail)) (by first | exact wr_w _ rfl _ _ | exact wr_hi _ _ _ | assumption) (by repeat (first | exact Upd.head _ _ _ _ _ | apply Upd.tail)) ?_; clear M0; intro w' M0) | (refine wpL_bx M1 rfl rfl rfl rfl ?_; clear M1; intro g2 w2 M2) | (refine wpL_al M1 rfl rfl zero25 rfl ?_; clear M1; intro g2 w2 M2) | (refine wpL_ld M1 rfl rfl rfl (by repeat (first | exact Has.head _ _ _ _ | apply Has.tail)) (by first | exact rd_w _ _ | exact rd_hi _ _ | exact rd_lo _ _ | assumption) ?_) | (refine wpL_ldg M1 rfl rfl rfl (by repeat (first | exact Has.head _ _ _ _ | apply Has.tail)) (by first | exact rd_w _ _ | exact rd_hi _ _ | exact rd_lo _ _ | assumption) ?_) | (refine wpL_st M1 rfl rfl rfl rfl (by repeat (first | exact Has.head _ _ _ _ | apply Has.tail)) (by first | exact wr_w _ rfl _ _ | exact wr_hi _ _ _ | assumption) (by repeat (first | exact Upd.head _ _ _ _ _ | apply Upd.tail)) ?_; clear M1; intro w' M1) | (refine wpL_ld M2 rfl rfl rfl (by repeat (first | exact Has.head _ _ _ _ | apply Has.tail)) (by first | exact rd_w _ _ | exact rd_hi _ _ | exact rd_lo _ _ | assumption) ?_) | (refine wpL_ldg M2 rfl rfl rfl (by repeat (first | exact Has.head _ _ _ _ | apply Has.tail)) (by first | exact rd_w _ _ | exact rd_hi _ _ | exact rd_lo _ _ | assumption) ?_) | (refine wpL_st M2 rfl rfl rfl rfl (by repeat (first | exact Has.head _ _ _ _ | apply Has.tail)) (by first | exact wr_w _ rfl _ _ | exact wr_hi _ _ _ | assumption) (by repeat (first | exact Upd.head _ _ _ _ _ | apply Upd.tail)) ?_; clear M2; intro w' M2)))
        go_ret
        exact ⟨rfl, M2.below⟩
      · have e4 : decide (l < l') = false := by simpa using hlt
        obtain rfl : R = 1 := by rw [hR, if_neg (by omega), if_neg (by omega)]
        clear hR hlt hle
        go_enter Try.func45, Try.ntmps45
        go_wp2_with ((with_reducible refine (?_ : Go.wpList _ _ _ (_ :: _) _ _)); (first | go_skip | (refine wpL_bx M0 rfl rfl rfl rfl ?_; clear M0; intro g1 w1 M1) | (refine wpL_al M0 rfl rfl zero25 rfl ?_; clear M0; intro g1 w1 M1) | (refine wpL_ld M0 rfl rfl rfl (by repeat (first | exact Has.head _ _ _ _ | apply Has.tail)) (by first | exact rd_w _ _ | exact rd_hi _ _ | exact rd_lo _ _ | assumption) ?_) | (refine wpL_ldg M0 rfl rfl rfl (by repeat (first | exact Has.head _ _ _ _ | apply Has.tail)) (by first | exact rd_w _ _ | exact rd_hi _ _ | exact rd_lo _ _ | assumption) ?_) | (refine wpL_st M0 rfl rfl rfl rfl (by repeat (first | exact Has.head _ _ _ _ | apply Has.tail)) (by first | exact wr_w _ rfl _ _ | exact wr_hi _ _ _ | assumption) (by repeat (first | exact Upd.head _ _ _ _ _ | apply Upd.tail)) ?_; clear M0; intro w' M0) | (refine wpL_bx M1 rfl rfl rfl rfl ?_; clear M1; intro g2 w2 M2) | (refine wpL_al M1 rfl rfl zero25 rfl ?_; clear M1; intro g2 w2 M2) | (refine wpL_ld M1 rfl rfl rfl (by repeat (first | exact Has.head _ _ _ _ | apply Has.tail)) (by first | exact rd_w _ _ | exact rd_hi _ _ | exact rd_lo _ _ | assumption) ?_) | (refine wpL_ldg M1 rfl rfl rfl (by repeat (first | exact Has.head _ _ _ _ | apply Has.tail)) (by first | exact rd_w _ _ | exact rd_hi _ _ | exact rd_lo _ _ | assumption) ?_) | (refine wpL_st M1 rfl rfl rfl rfl (by repeat (first | exact Has.head _ _ _ _ | apply Has.tail)) (by first | exact wr_w _ rfl _ _ | exact wr_hi _ _ _ | assumption) (by repeat (first | exact Upd.head _ _ _ _ _ | apply Upd.tail)) ?_; clear M1; intro w' M1) | (refine wpL_ld M2 rfl rfl rfl (by repeat (first | exact Has.head _ _ _ _ | apply Has.tail)) (by first | exact rd_w _ _ | exact rd_hi _ _ | exact rd_lo _ _ | assumption) ?_) | (refine wpL_ldg M2 rfl rfl rfl (by repeat (first | exact Has.head _ _ _ _ | apply Has.tail)) (by first | exact rd_w _ _ | exact rd_hi _ _ | exact rd_lo _ _ | assumption) ?_) | (refine wpL_st M2 rfl rfl rfl rfl (by repeat (first | exact Has.head _ _ _ _ | apply Has.tail)) (by first | exact wr_w _ rfl _ _ | exact wr_hi _ _ _ | assumption) (by repeat (first | exact Upd.head _ _ _ _ _ | apply Upd.tail)) ?_; clear M2; intro w' M2)))
        go_ret
        exact ⟨rfl, M2.below⟩
  · have e1 : (h == h') = false := by rw [beq_eq_false_iff_ne]; exact he
    by_cases hlt : h < h'
    · have e4 : decide (h < h') = true := by simpa using hlt
      obtain rfl : R = -1 := by rw [hR, if_pos (by omega)]
      clear hR hlt he
      go_enter Try.func45, Try.ntmps45
      go_wp2_with ((with_reducible refine (?_ : Go.wpList _ _ _ (_ :: _) _ _)); (first | go_skip | (refine wpL_bx M0 rfl rfl rfl rfl ?_; clear M0; intro g1 w1 M1) | (refine wpL_al M0 rfl rfl zero25 rfl ?_; clear M0; intro g1 w1 M1) | (refine wpL_ld M0 rfl rfl rfl (by repeat (first | exact Has.head _ _ _ _ | apply Has.tail)) (by first | exact rd_w _ _ | exact rd_hi _ _ | exact rd_lo _ _ | assumption) ?_) | (refine wpL_ldg M0 rfl rfl rfl (by repeat (first | exact Has.head _ _ _ _ | apply Has.tail)) (by first | exact rd_w _ _ | exact rd_hi _ _ | exact rd_lo _ _ | assumption) ?_) | (refine wpL_st M0 rfl rfl rfl rfl (by repeat (first | exact Has.head _ _ _ _ | apply Has.tail)) (by first | exact wr_w _ rfl _ _ | exact wr_hi _ _ _ | assumption) (by repeat (first | exact Upd.head _ _ _ _ _ | apply Upd.tail)) ?_; clear M0; intro w' M0) | (refine wpL_bx M1 rfl rfl rfl rfl ?_; clear M1; intro g2 w2 M2) | (refine wpL_al M1 rfl rfl zero25 rfl ?_; clear M1; intro g2 w2 M2) | (refine wpL_ld M1 rfl rfl rfl (by repeat (first | exact Has.head _ _ _ _ | apply Has.tail)) (by first | exact rd_w _ _ | exact rd_hi _ _ | exact rd_lo _ _ | assumption) ?_) | (refine wpL_ldg M1 rfl rfl rfl (by repeat (first | exact Has.head _ _ _ _ | apply Has.tail)) (by first | exact rd_w _ _ | exact rd_hi _ _ | exact rd_lo _ _ | assumption) ?_) | (refine wpL_st M1 rfl rfl rfl rfl (by repeat (first | exact Has.head _ _ _ _ | apply Has.tail)) (by first | exact wr_w _ rfl _ _ | exact wr_hi _ _ _ | assumption) (by repeat (first | exact Upd.head _ _ _ _ _ | apply Upd.tail)) ?_; clear M1; intro w' M1) | (refine wpL_ld M2 rfl rfl rfl (by repeat (first | exact Has.head _ _ _ _ | apply Has.tail)) (by first | exact rd_w _ _ | exact rd_hi _ _ | exact rd_lo _ _ | assumption) ?_) | (refine wpL_ldg M2 rfl rfl rfl (by repeat (first | exact Has.head _ _ _ _ | apply Has.tail)) (by first | exact rd_w _ _ | exact rd_hi _ _ | exact rd_lo _ _ | assumption) ?_) | (refine wpL_st M2 rfl rfl rfl rfl (by repeat (first | exact Has.head _ _ _ _ | apply Has.tail)) (by first | exact wr_w _ rfl _ _ | exact wr_hi _ _ _ | assumption) (by repeat (first | exact Upd.head _ _ _ _ _ | apply Upd.tail)) ?_; clear M2; intro w' M2)))
      go_ret
      exact ⟨rfl, M2.below⟩
    · have e4 : decide (h < h') = false := by simpa using hlt
      obtain rfl : R = 1 := by rw [hR, if_neg (by omega), if_neg (by omega)]
      clear hR hlt he
      go_enter Try.func45, Try.ntmps45
      go_wp2_with ((with_reducible refine (?_ : Go.wpList _ _ _ (_ :: _) _ _)); (first | go_skip | (refine wpL_bx M0 rfl rfl rfl rfl ?_; clear M0; intro g1 w1 M1) | (refine wpL_al M0 rfl rfl zero25 rfl ?_; clear M0; intro g1 w1 M1) | (refine wpL_ld M0 rfl rfl rfl (by repeat (first | exact Has.head _ _ _ _ | apply Has.tail)) (by first | exact rd_w _ _ | exact rd_hi _ _ | exact rd_lo _ _ | assumption) ?_) | (refine wpL_ldg M0 rfl rfl rfl (by repeat (first | exact Has.head _ _ _ _ | apply Has.tail)) (by first | exact rd_w _ _ | exact rd_hi _ _ | exact rd_lo _ _ | assumption) ?_) | (refine wpL_st M0 rfl rfl rfl rfl (by repeat (first | exact Has.head _ _ _ _ | apply Has.tail)) (by first | exact wr_w _ rfl _ _ | exact wr_hi _ _ _ | assumption) (by repeat (first | exact Upd.head _ _ _ _ _ | apply Upd.tail)) ?_; clear M0; intro w' M0) | (refine wpL_bx M1 rfl rfl rfl rfl ?_; clear M1; intro g2 w2 M2) | (refine wpL_al M1 rfl rfl zero25 rfl ?_; clear M1; intro g2 w2 M2) | (refine wpL_ld M1 rfl rfl rfl (by repeat (first | exact Has.head _ _ _ _ | apply Has.tail)) (by first | exact rd_w _ _ | exact rd_hi _ _ | exact rd_lo _ _ | assumption) ?_) | (refine wpL_ldg M1 rfl rfl rfl (by repeat (first | exact Has.head _ _ _ _ | apply Has.tail)) (by first | exact rd_w _ _ | exact rd_hi _ _ | exact rd_lo _ _ | assumption) ?_) | (refine wpL_st M1 rfl rfl rfl rfl (by repeat (first | exact Has.head _ _ _ _ | apply Has.tail)) (by first | exact wr_w _ rfl _ _ | exact wr_hi _ _ _ | assumption) (by repeat (first | exact Upd.head _ _ _ _ _ | apply Upd.tail)) ?_; clear M1; intro w' M1) | (refine wpL_ld M2 rfl rfl rfl (by repeat (first | exact Has.head _ _ _ _ | apply Has.tail)) (by first | exact rd_w _ _ | exact rd_hi _ _ | exact rd_lo _ _ | assumption) ?_) | (refine wpL_ldg M2 rfl rfl rfl (by repeat (first | exact Has.head _ _ _ _ | apply Has.tail)) (by first | exact rd_w _ _ | exact rd_hi _ _ | exact rd_lo _ _ | assumption) ?_) | (refine wpL_st M2 rfl rfl rfl rfl (by repeat (first | exact Has.head _ _ _ _ | apply Has.tail)) (by first | exact wr_w _ rfl _ _ | exact wr_hi _ _ _ | assumption) (by repeat (first | exact Upd.head _ _ _ _ _ | apply Upd.tail)) ?_; clear M2; intro w' M2)))
      go_ret
      exact ⟨rfl, M2.below⟩

theorem Sign_any (h l : Int) (hl : 0 ≤ l ∧ l < 18446744073709551616) (w : World) :
    Calls Try.prog 38 #[.agg #[.int .i64 h, .int .u64 l]] w fun e w' =>
      e = .returned (.int .i64 (cmpZ (h * 18446744073709551616 + l) 0)) ∧ Below w.heap.size w w' := by
  have C := Cmp_any h l 0 0 hl (by decide)
  rw [Int.zero_mul, Int.zero_add] at C
  have M0 := Mem.start w
  go_enter Try.func38, Try.ntmps38
  go_wp2_with ((with_reducible refine (?_ : Go.wpList _ _ _ (_ :: _) _ _)); (first | go_skip | (refine wpL_bx M0 rfl rfl rfl rfl ?_; clear M0; intro g1 w1 M1) | (refine wpL_al M0 rfl rfl zero25 rfl ?_; clear M0; intro g1 w1 M1) | (refine wpL_ld M0 rfl rfl rfl (by repeat (first | exact Has.head _ _ _ _ | apply Has.tail)) (by first | exact rd_w _ _ | exact rd_hi _ _ | exact rd_lo _ _ | assumption) ?_) | (refine wpL_ldg M0 rfl rfl rfl (by repeat (first | exact Has.head _ _ _ _ | apply Has.tail)) (by first | exact rd_w _ _ | exact rd_hi _ _ | exact rd_lo _ _ | assumption) ?_) | (refine wpL_st M0 rfl rfl rfl rfl (by repeat (first | exact Has.head _ _ _ _ | apply Has.tail)) (by first | exact wr_w _ rfl _ _ | exact wr_hi _ _ _ | assumption) (by repeat (first | exact Upd.head _ _ _ _ _ | apply Upd.tail)) ?_; clear M0; intro w' M0) | (refine wpL_ld M1 rfl rfl rfl (by repeat (first | exact Has.head _ _ _ _ | apply Has.tail)) (by first | exact rd_w _ _ | exact rd_hi _ _ | exact rd_lo _ _ | assumption) ?_) | (refine wpL_ldg M1 rfl rfl rfl (by repeat (first | exact Has.head _ _ _ _ | apply Has.tail)) (by first | exact rd_w _ _ | exact rd_hi _ _ | exact rd_lo _ _ | assumption) ?_) | (refine wpL_st M1 rfl rfl rfl rfl (by repeat (first | exact Has.head _ _ _ _ | apply Has.tail)) (by first | exact wr_w _ rfl _ _ | exact wr_hi _ _ _ | assumption) (by repeat (first | exact Upd.head _ _ _ _ _ | apply Upd.tail)) ?_; clear M1; intro w' M1)))
  refine (C _).mono ?_
  rintro e w2 ⟨rfl, hBl⟩
  replace M1 := M1.call hBl
  clear hBl C
  go_wp2_with ((with_reducible refine (?_ : Go.wpList _ _ _ (_ :: _) _ _)); (first | go_skip | (refine wpL_ld M1 rfl rfl rfl (by repeat (first | exact Has.head _ _ _ _ | apply Has.tail)) (by first | exact rd_w _ _ | exact rd_hi _ _ | exact rd_lo _ _ | assumption) ?_) | (refine wpL_ldg M1 rfl rfl rfl (by repeat (first | exact Has.head _ _ _ _ | apply Has.tail)) (by first | exact rd_w _ _ | exact rd_hi _ _ | exact rd_lo _ _ | assumption) ?_) | (refine wpL_st M1 rfl rfl rfl rfl (by repeat (first | exact Has.head _ _ _ _ | apply Has.tail)) (by first | exact wr_w _ rfl _ _ | exact wr_hi _ _ _ | assumption) (by repeat (first | exact Upd.head _ _ _ _ _ | apply Upd.tail)) ?_; clear M1; intro w' M1)))
  go_ret
  exact ⟨rfl, M1.below⟩

end Go.Proofs.Ytaofkoejlpchaaa
