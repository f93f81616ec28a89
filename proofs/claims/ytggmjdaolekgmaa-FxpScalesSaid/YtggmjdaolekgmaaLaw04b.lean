/-
  The law of the point's place.
-/
import Derived.Test.YtggmjdaolekgmaaWorks04
import Derived.Test.YtggmjdaolekgmaaRef04C
set_option linter.unusedVariables false
set_option linter.unusedSimpArgs false
namespace Go.Th.Wide

theorem mod_ok {z b m : Int} (h : divE z b m = 0) : b ≠ 0 ∧ 0 ≤ m ∧ m ≤ 3 := by
  unfold divE at h
  split at h
  · cases h
  · rename_i hn
    omega
theorem div_exact (z q m : Int) (D : Nat) (hD : 0 < D) (hm : 0 ≤ m ∧ m ≤ 3) (hz : z = q * (D : Int)) (hq : -9223372036854775808 ≤ q ∧ q ≤ 9223372036854775807) : divE z D m = 0 ∧ divV z D m = q := by
  have ha : z.natAbs = q.natAbs * D := by rw [hz, Int.natAbs_mul]; rfl
  have hs : decide (z < 0) = decide (q < 0) := by
    rw [decide_eq_decide, hz]
    constructor
    · intro h
      apply Int.lt_of_not_ge
      intro h0
      have := Int.mul_nonneg h0 (by omega : (0 : Int) ≤ D)
      omega
    · intro h
      exact Int.mul_neg_of_neg_of_pos h (by omega)
  have hmag : magS z.natAbs (decide (q < 0)) D m = q.natAbs := by
    unfold magS
    rw [ha, Nat.mul_mod_left, Nat.mul_div_cancel _ hD]
    rw [show moreS 0 D (decide (q < 0)) m = false by unfold moreS; rw [if_pos (.inl rfl)]]
    rfl
  have hd : decide ((D : Int) < 0) = false := decide_eq_false (by omega)
  have hno : ¬ ((D : Int) = 0 ∨ m < 0 ∨ 3 < m) := by omega
  have hb : (decide (q < 0) != false) = decide (q < 0) := by cases decide (q < 0) <;> rfl
  unfold divE divV
  rw [if_neg hno, if_neg hno]
  dsimp only
  rw [hs, hd, Int.natAbs_natCast, hb, hmag]
  by_cases h0 : q.natAbs = 0
  · rw [if_pos h0, if_pos h0]; exact ⟨rfl, by omega⟩
  · have hf : fitsS (decide (q < 0)) q.natAbs 63 = true := by
      unfold fitsS
      by_cases hn : q < 0
      · rw [decide_eq_true hn]
        simp only [Bool.and_true, Bool.or_eq_true, decide_eq_true_iff]
        omega
      · rw [decide_eq_false hn]
        simp only [Bool.and_false, Bool.or_false, decide_eq_true_iff]
        omega
    rw [if_neg h0, if_neg h0, if_pos hf, if_pos hf, sgn_z]
    exact ⟨rfl, rfl⟩
theorem div_one_fits {z m : Int} (h : divE z 1 m = 0) : -9223372036854775808 ≤ z ∧ z ≤ 9223372036854775807 := by
  obtain ⟨_, hm⟩ := mod_ok h
  unfold divE at h
  rw [if_neg (by omega)] at h
  dsimp only at h
  have hb : (decide (z < 0) != decide ((1 : Int) < 0)) = decide (z < 0) := by cases decide (z < 0) <;> rfl
  have hmag : magS z.natAbs (decide (z < 0)) (1 : Int).natAbs m = z.natAbs := by
    unfold magS
    rw [show (1 : Int).natAbs = 1 from rfl, Nat.mod_one, Nat.div_one]
    rw [show moreS 0 1 (decide (z < 0)) m = false by unfold moreS; rw [if_pos (.inl rfl)]]
    rfl
  rw [hb, hmag] at h
  by_cases h0 : z.natAbs = 0
  · omega
  · rw [if_neg h0] at h
    split at h
    · rename_i hf
      have := signed_range63 _ _ hf
      rw [sgn_z] at this
      exact this
    · cases h
theorem there_back (a fr to m : Int) (ha : -9223372036854775808 ≤ a ∧ a ≤ 9223372036854775807) (hl : ¬ to < fr) (hs : scaleS a fr to m = false) :
    scaleV (scaleV a fr to m) to fr m = a ∧ scaleS (scaleV a fr to m) to fr m = false := by
  unfold scaleS at hs
  simp only [Bool.or_eq_false_iff] at hs
  obtain ⟨⟨h1, h2⟩, h3⟩ := hs
  have hle : placeV fr ≤ placeV to := by unfold placeV; split <;> (try split) <;> (try split) <;> (try split) <;> omega
  unfold scaleV scaleS
  rw [show placeV fr - placeV to = 0 by omega] at h1 ⊢
  rw [show powV 0 = 1 from rfl] at h1 ⊢
  obtain ⟨p, hp⟩ : ∃ p, p = 2 ^ (placeV to - placeV fr) := ⟨_, rfl⟩
  have hp0 : 0 < p := by rw [hp]; exact Nat.two_pow_pos _
  have hP : powV (placeV to - placeV fr) = (p : Int) := by unfold powV; rw [hp]
  rw [hP] at h1 ⊢
  have e1 : divE (a * (p : Int)) 1 m = 0 := by
    unfold partS at h1
    rw [decide_eq_false_iff_not] at h1
    omega
  have hm := (mod_ok e1).2
  have hz := div_one_fits e1
  obtain ⟨_, v1⟩ := div_exact (a * (p : Int)) (a * (p : Int)) m 1 (by decide) hm (by omega) hz
  have x1 : partV a (p : Int) 1 m = a * (p : Int) := by unfold partV; rw [if_pos e1]; exact v1
  rw [x1]
  obtain ⟨e2, v2⟩ := div_exact (a * (p : Int) * 1) a m p hp0 hm (by rw [Int.mul_one]) ha
  constructor
  · unfold partV; rw [if_pos e2]; exact v2
  · unfold partS
    rw [decide_eq_false (by omega), h2, h3]; rfl
end Go.Th.Wide
namespace Go.Proofs.Ytggmjdaolekgmaa
open Go Go.RowKit Go.Th Go.Th.Wide

set_option maxRecDepth 20000 in
set_option maxHeartbeats 16000000 in
theorem fxpScales_sat (a fr to mode x : Int) 
    (A1 : Ans 22 #[.int .i64 a, .int .i64 fr, .int .i64 to, .int .i64 mode] (.tuple #[.int .i64 x, .bool true])) (U1 : ∀ g, UAns 23 g #[.pointer (some ⟨g, 0, none⟩), .int .i64 a, .int .i64 fr, .int .i64 to, .int .i64 mode] false 0 (.int .i64 x) true 1) (w : World) :
    Calls Try.prog 5 #[.int .i64 a, .int .i64 fr, .int .i64 to, .int .i64 mode] w fun e w' => e = .returned (.bool true) ∧ Below w.heap.size w w' := by
  have C8 := works_any
  have b1 : (x != x) = false := by simp
  have M0 := Mem.start w
  go_enter Try.func5, Try.ntmps5
  go_wp2_with ((with_reducible refine (?_ : Go.wpList _ _ _ (_ :: _) _ _)); (first | go_skip | (refine wpL_ld M0 rfl rfl rfl (by repeat (first | exact Has.head _ _ _ _ | apply Has.tail)) (by first | exact rd_sat _ _ | exact rd_cnt _ _ | exact rd_unit _ _ | exact rd_num _ _ | exact rd_minus _ _ | exact rd_w _ _ | exact rd_hi _ _ | exact rd_lo _ _ | assumption) ?_) | (refine wpL_ldg M0 rfl rfl rfl (by repeat (first | exact Has.head _ _ _ _ | apply Has.tail)) (by first | exact rd_sat _ _ | exact rd_cnt _ _ | exact rd_unit _ _ | exact rd_num _ _ | exact rd_minus _ _ | exact rd_w _ _ | exact rd_hi _ _ | exact rd_lo _ _ | assumption) ?_) | (refine wpN_1 rfl rfl rfl ?_) | (refine wpN_0 rfl rfl ?_) | (refine wpU_0 rfl rfl ?_) | (refine wpN_2 rfl rfl rfl rfl ?_) | (refine wpL_st M0 rfl rfl rfl rfl (by repeat (first | exact Has.head _ _ _ _ | apply Has.tail)) (by first | exact wr_sat _ _ _ | exact wr_cnt _ _ _ | exact wr_unit _ rfl _ _ | exact wr_num _ (numC_len _ _) _ _ | exact wr_minus _ _ _ | exact wr_w _ rfl _ _ | exact wr_hi _ _ _ | assumption) (by repeat (first | exact Upd.head _ _ _ _ _ | apply Upd.tail)) ?_; clear M0; intro w' M0)))
  refine (one_any _ _ _ M0).mono ?_
  clear M0
  rintro e w1 ⟨g1, rfl, M1⟩
  go_wp2_with ((with_reducible refine (?_ : Go.wpList _ _ _ (_ :: _) _ _)); (first | go_skip | (refine wpL_ld M1 rfl rfl rfl (by repeat (first | exact Has.head _ _ _ _ | apply Has.tail)) (by first | exact rd_sat _ _ | exact rd_cnt _ _ | exact rd_unit _ _ | exact rd_num _ _ | exact rd_minus _ _ | exact rd_w _ _ | exact rd_hi _ _ | exact rd_lo _ _ | assumption) ?_) | (refine wpL_ldg M1 rfl rfl rfl (by repeat (first | exact Has.head _ _ _ _ | apply Has.tail)) (by first | exact rd_sat _ _ | exact rd_cnt _ _ | exact rd_unit _ _ | exact rd_num _ _ | exact rd_minus _ _ | exact rd_w _ _ | exact rd_hi _ _ | exact rd_lo _ _ | assumption) ?_) | (refine wpN_1 rfl rfl rfl ?_) | (refine wpN_0 rfl rfl ?_) | (refine wpU_0 rfl rfl ?_) | (refine wpN_2 rfl rfl rfl rfl ?_) | (refine wpL_st M1 rfl rfl rfl rfl (by repeat (first | exact Has.head _ _ _ _ | apply Has.tail)) (by first | exact wr_sat _ _ _ | exact wr_cnt _ _ _ | exact wr_unit _ rfl _ _ | exact wr_num _ (numC_len _ _) _ _ | exact wr_minus _ _ _ | exact wr_w _ rfl _ _ | exact wr_hi _ _ _ | assumption) (by repeat (first | exact Upd.head _ _ _ _ _ | apply Upd.tail)) ?_; clear M1; intro w' M1)))
  (refine (A1 _).mono ?_; rintro e w2 ⟨rfl, hBl⟩; replace M1 := M1.call hBl; clear hBl A1)
  go_wp2_with ((with_reducible refine (?_ : Go.wpList _ _ _ (_ :: _) _ _)); (first | go_skip | (refine wpL_ld M1 rfl rfl rfl (by repeat (first | exact Has.head _ _ _ _ | apply Has.tail)) (by first | exact rd_sat _ _ | exact rd_cnt _ _ | exact rd_unit _ _ | exact rd_num _ _ | exact rd_minus _ _ | exact rd_w _ _ | exact rd_hi _ _ | exact rd_lo _ _ | assumption) ?_) | (refine wpL_ldg M1 rfl rfl rfl (by repeat (first | exact Has.head _ _ _ _ | apply Has.tail)) (by first | exact rd_sat _ _ | exact rd_cnt _ _ | exact rd_unit _ _ | exact rd_num _ _ | exact rd_minus _ _ | exact rd_w _ _ | exact rd_hi _ _ | exact rd_lo _ _ | assumption) ?_) | (refine wpN_1 rfl rfl rfl ?_) | (refine wpN_0 rfl rfl ?_) | (refine wpU_0 rfl rfl ?_) | (refine wpN_2 rfl rfl rfl rfl ?_) | (refine wpL_st M1 rfl rfl rfl rfl (by repeat (first | exact Has.head _ _ _ _ | apply Has.tail)) (by first | exact wr_sat _ _ _ | exact wr_cnt _ _ _ | exact wr_unit _ rfl _ _ | exact wr_num _ (numC_len _ _) _ _ | exact wr_minus _ _ _ | exact wr_w _ rfl _ _ | exact wr_hi _ _ _ | assumption) (by repeat (first | exact Upd.head _ _ _ _ _ | apply Upd.tail)) ?_; clear M1; intro w' M1)))
  refine (U1 g1 _ _ _ _ M1 (by repeat (first | exact Upd.head _ _ _ _ _ | apply Upd.tail))).mono ?_
  clear M1
  rintro e w2 ⟨rfl, M1⟩
  go_wp2_with ((with_reducible refine (?_ : Go.wpList _ _ _ (_ :: _) _ _)); (first | go_skip | (refine wpL_ld M1 rfl rfl rfl (by repeat (first | exact Has.head _ _ _ _ | apply Has.tail)) (by first | exact rd_sat _ _ | exact rd_cnt _ _ | exact rd_unit _ _ | exact rd_num _ _ | exact rd_minus _ _ | exact rd_w _ _ | exact rd_hi _ _ | exact rd_lo _ _ | assumption) ?_) | (refine wpL_ldg M1 rfl rfl rfl (by repeat (first | exact Has.head _ _ _ _ | apply Has.tail)) (by first | exact rd_sat _ _ | exact rd_cnt _ _ | exact rd_unit _ _ | exact rd_num _ _ | exact rd_minus _ _ | exact rd_w _ _ | exact rd_hi _ _ | exact rd_lo _ _ | assumption) ?_) | (refine wpN_1 rfl rfl rfl ?_) | (refine wpN_0 rfl rfl ?_) | (refine wpU_0 rfl rfl ?_) | (refine wpN_2 rfl rfl rfl rfl ?_) | (refine wpL_st M1 rfl rfl rfl rfl (by repeat (first | exact Has.head _ _ _ _ | apply Has.tail)) (by first | exact wr_sat _ _ _ | exact wr_cnt _ _ _ | exact wr_unit _ rfl _ _ | exact wr_num _ (numC_len _ _) _ _ | exact wr_minus _ _ _ | exact wr_w _ rfl _ _ | exact wr_hi _ _ _ | assumption) (by repeat (first | exact Upd.head _ _ _ _ _ | apply Upd.tail)) ?_; clear M1; intro w' M1)))
  (refine (C8 _).mono ?_; rintro e w2 ⟨rfl, hBl⟩; replace M1 := M1.call hBl; clear hBl C8)
  go_wp2_with ((with_reducible refine (?_ : Go.wpList _ _ _ (_ :: _) _ _)); (first | go_skip | (refine wpL_ld M1 rfl rfl rfl (by repeat (first | exact Has.head _ _ _ _ | apply Has.tail)) (by first | exact rd_sat _ _ | exact rd_cnt _ _ | exact rd_unit _ _ | exact rd_num _ _ | exact rd_minus _ _ | exact rd_w _ _ | exact rd_hi _ _ | exact rd_lo _ _ | assumption) ?_) | (refine wpL_ldg M1 rfl rfl rfl (by repeat (first | exact Has.head _ _ _ _ | apply Has.tail)) (by first | exact rd_sat _ _ | exact rd_cnt _ _ | exact rd_unit _ _ | exact rd_num _ _ | exact rd_minus _ _ | exact rd_w _ _ | exact rd_hi _ _ | exact rd_lo _ _ | assumption) ?_) | (refine wpN_1 rfl rfl rfl ?_) | (refine wpN_0 rfl rfl ?_) | (refine wpU_0 rfl rfl ?_) | (refine wpN_2 rfl rfl rfl rfl ?_) | (refine wpL_st M1 rfl rfl rfl rfl (by repeat (first | exact Has.head _ _ _ _ | apply Has.tail)) (by first | exact wr_sat _ _ _ | exact wr_cnt _ _ _ | exact wr_unit _ rfl _ _ | exact wr_num _ (numC_len _ _) _ _ | exact wr_minus _ _ _ | exact wr_w _ rfl _ _ | exact wr_hi _ _ _ | assumption) (by repeat (first | exact Upd.head _ _ _ _ _ | apply Upd.tail)) ?_; clear M1; intro w' M1)))
  go_ret
  exact ⟨rfl, M1.below⟩
set_option maxRecDepth 20000 in
set_option maxHeartbeats 16000000 in
theorem fxpScales_right (a fr to mode x : Int) (hl : decide (to < fr) = true)
    (A1 : Ans 22 #[.int .i64 a, .int .i64 fr, .int .i64 to, .int .i64 mode] (.tuple #[.int .i64 x, .bool false])) (U1 : ∀ g, UAns 23 g #[.pointer (some ⟨g, 0, none⟩), .int .i64 a, .int .i64 fr, .int .i64 to, .int .i64 mode] false 0 (.int .i64 x) false 1) (w : World) :
    Calls Try.prog 5 #[.int .i64 a, .int .i64 fr, .int .i64 to, .int .i64 mode] w fun e w' => e = .returned (.bool true) ∧ Below w.heap.size w w' := by
  have C8 := works_any
  have b1 : (x != x) = false := by simp
  have M0 := Mem.start w
  go_enter Try.func5, Try.ntmps5
  go_wp2_with ((with_reducible refine (?_ : Go.wpList _ _ _ (_ :: _) _ _)); (first | go_skip | (refine wpL_ld M0 rfl rfl rfl (by repeat (first | exact Has.head _ _ _ _ | apply Has.tail)) (by first | exact rd_sat _ _ | exact rd_cnt _ _ | exact rd_unit _ _ | exact rd_num _ _ | exact rd_minus _ _ | exact rd_w _ _ | exact rd_hi _ _ | exact rd_lo _ _ | assumption) ?_) | (refine wpL_ldg M0 rfl rfl rfl (by repeat (first | exact Has.head _ _ _ _ | apply Has.tail)) (by first | exact rd_sat _ _ | exact rd_cnt _ _ | exact rd_unit _ _ | exact rd_num _ _ | exact rd_minus _ _ | exact rd_w _ _ | exact rd_hi _ _ | exact rd_lo _ _ | assumption) ?_) | (refine wpN_1 rfl rfl rfl ?_) | (refine wpN_0 rfl rfl ?_) | (refine wpU_0 rfl rfl ?_) | (refine wpN_2 rfl rfl rfl rfl ?_) | (refine wpL_st M0 rfl rfl rfl rfl (by repeat (first | exact Has.head _ _ _ _ | apply Has.tail)) (by first | exact wr_sat _ _ _ | exact wr_cnt _ _ _ | exact wr_unit _ rfl _ _ | exact wr_num _ (numC_len _ _) _ _ | exact wr_minus _ _ _ | exact wr_w _ rfl _ _ | exact wr_hi _ _ _ | assumption) (by repeat (first | exact Upd.head _ _ _ _ _ | apply Upd.tail)) ?_; clear M0; intro w' M0)))
  refine (one_any _ _ _ M0).mono ?_
  clear M0
  rintro e w1 ⟨g1, rfl, M1⟩
  go_wp2_with ((with_reducible refine (?_ : Go.wpList _ _ _ (_ :: _) _ _)); (first | go_skip | (refine wpL_ld M1 rfl rfl rfl (by repeat (first | exact Has.head _ _ _ _ | apply Has.tail)) (by first | exact rd_sat _ _ | exact rd_cnt _ _ | exact rd_unit _ _ | exact rd_num _ _ | exact rd_minus _ _ | exact rd_w _ _ | exact rd_hi _ _ | exact rd_lo _ _ | assumption) ?_) | (refine wpL_ldg M1 rfl rfl rfl (by repeat (first | exact Has.head _ _ _ _ | apply Has.tail)) (by first | exact rd_sat _ _ | exact rd_cnt _ _ | exact rd_unit _ _ | exact rd_num _ _ | exact rd_minus _ _ | exact rd_w _ _ | exact rd_hi _ _ | exact rd_lo _ _ | assumption) ?_) | (refine wpN_1 rfl rfl rfl ?_) | (refine wpN_0 rfl rfl ?_) | (refine wpU_0 rfl rfl ?_) | (refine wpN_2 rfl rfl rfl rfl ?_) | (refine wpL_st M1 rfl rfl rfl rfl (by repeat (first | exact Has.head _ _ _ _ | apply Has.tail)) (by first | exact wr_sat _ _ _ | exact wr_cnt _ _ _ | exact wr_unit _ rfl _ _ | exact wr_num _ (numC_len _ _) _ _ | exact wr_minus _ _ _ | exact wr_w _ rfl _ _ | exact wr_hi _ _ _ | assumption) (by repeat (first | exact Upd.head _ _ _ _ _ | apply Upd.tail)) ?_; clear M1; intro w' M1)))
  (refine (A1 _).mono ?_; rintro e w2 ⟨rfl, hBl⟩; replace M1 := M1.call hBl; clear hBl A1)
  go_wp2_with ((with_reducible refine (?_ : Go.wpList _ _ _ (_ :: _) _ _)); (first | go_skip | (refine wpL_ld M1 rfl rfl rfl (by repeat (first | exact Has.head _ _ _ _ | apply Has.tail)) (by first | exact rd_sat _ _ | exact rd_cnt _ _ | exact rd_unit _ _ | exact rd_num _ _ | exact rd_minus _ _ | exact rd_w _ _ | exact rd_hi _ _ | exact rd_lo _ _ | assumption) ?_) | (refine wpL_ldg M1 rfl rfl rfl (by repeat (first | exact Has.head _ _ _ _ | apply Has.tail)) (by first | exact rd_sat _ _ | exact rd_cnt _ _ | exact rd_unit _ _ | exact rd_num _ _ | exact rd_minus _ _ | exact rd_w _ _ | exact rd_hi _ _ | exact rd_lo _ _ | assumption) ?_) | (refine wpN_1 rfl rfl rfl ?_) | (refine wpN_0 rfl rfl ?_) | (refine wpU_0 rfl rfl ?_) | (refine wpN_2 rfl rfl rfl rfl ?_) | (refine wpL_st M1 rfl rfl rfl rfl (by repeat (first | exact Has.head _ _ _ _ | apply Has.tail)) (by first | exact wr_sat _ _ _ | exact wr_cnt _ _ _ | exact wr_unit _ rfl _ _ | exact wr_num _ (numC_len _ _) _ _ | exact wr_minus _ _ _ | exact wr_w _ rfl _ _ | exact wr_hi _ _ _ | assumption) (by repeat (first | exact Upd.head _ _ _ _ _ | apply Upd.tail)) ?_; clear M1; intro w' M1)))
  refine (U1 g1 _ _ _ _ M1 (by repeat (first | exact Upd.head _ _ _ _ _ | apply Upd.tail))).mono ?_
  clear M1
  rintro e w2 ⟨rfl, M1⟩
  go_wp2_with ((with_reducible refine (?_ : Go.wpList _ _ _ (_ :: _) _ _)); (first | go_skip | (refine wpL_ld M1 rfl rfl rfl (by repeat (first | exact Has.head _ _ _ _ | apply Has.tail)) (by first | exact rd_sat _ _ | exact rd_cnt _ _ | exact rd_unit _ _ | exact rd_num _ _ | exact rd_minus _ _ | exact rd_w _ _ | exact rd_hi _ _ | exact rd_lo _ _ | assumption) ?_) | (refine wpL_ldg M1 rfl rfl rfl (by repeat (first | exact Has.head _ _ _ _ | apply Has.tail)) (by first | exact rd_sat _ _ | exact rd_cnt _ _ | exact rd_unit _ _ | exact rd_num _ _ | exact rd_minus _ _ | exact rd_w _ _ | exact rd_hi _ _ | exact rd_lo _ _ | assumption) ?_) | (refine wpN_1 rfl rfl rfl ?_) | (refine wpN_0 rfl rfl ?_) | (refine wpU_0 rfl rfl ?_) | (refine wpN_2 rfl rfl rfl rfl ?_) | (refine wpL_st M1 rfl rfl rfl rfl (by repeat (first | exact Has.head _ _ _ _ | apply Has.tail)) (by first | exact wr_sat _ _ _ | exact wr_cnt _ _ _ | exact wr_unit _ rfl _ _ | exact wr_num _ (numC_len _ _) _ _ | exact wr_minus _ _ _ | exact wr_w _ rfl _ _ | exact wr_hi _ _ _ | assumption) (by repeat (first | exact Upd.head _ _ _ _ _ | apply Upd.tail)) ?_; clear M1; intro w' M1)))
  (refine (C8 _).mono ?_; rintro e w2 ⟨rfl, hBl⟩; replace M1 := M1.call hBl; clear hBl C8)
  go_wp2_with ((with_reducible refine (?_ : Go.wpList _ _ _ (_ :: _) _ _)); (first | go_skip | (refine wpL_ld M1 rfl rfl rfl (by repeat (first | exact Has.head _ _ _ _ | apply Has.tail)) (by first | exact rd_sat _ _ | exact rd_cnt _ _ | exact rd_unit _ _ | exact rd_num _ _ | exact rd_minus _ _ | exact rd_w _ _ | exact rd_hi _ _ | exact rd_lo _ _ | assumption) ?_) | (refine wpL_ldg M1 rfl rfl rfl (by repeat (first | exact Has.head _ _ _ _ | apply Has.tail)) (by first | exact rd_sat _ _ | exact rd_cnt _ _ | exact rd_unit _ _ | exact rd_num _ _ | exact rd_minus _ _ | exact rd_w _ _ | exact rd_hi _ _ | exact rd_lo _ _ | assumption) ?_) | (refine wpN_1 rfl rfl rfl ?_) | (refine wpN_0 rfl rfl ?_) | (refine wpU_0 rfl rfl ?_) | (refine wpN_2 rfl rfl rfl rfl ?_) | (refine wpL_st M1 rfl rfl rfl rfl (by repeat (first | exact Has.head _ _ _ _ | apply Has.tail)) (by first | exact wr_sat _ _ _ | exact wr_cnt _ _ _ | exact wr_unit _ rfl _ _ | exact wr_num _ (numC_len _ _) _ _ | exact wr_minus _ _ _ | exact wr_w _ rfl _ _ | exact wr_hi _ _ _ | assumption) (by repeat (first | exact Upd.head _ _ _ _ _ | apply Upd.tail)) ?_; clear M1; intro w' M1)))
  go_ret
  exact ⟨rfl, M1.below⟩
set_option maxRecDepth 20000 in
set_option maxHeartbeats 16000000 in
theorem fxpScales_back (a fr to mode x : Int) (hl : decide (to < fr) = false)
    (A1 : Ans 22 #[.int .i64 a, .int .i64 fr, .int .i64 to, .int .i64 mode] (.tuple #[.int .i64 x, .bool false])) (U1 : ∀ g, UAns 23 g #[.pointer (some ⟨g, 0, none⟩), .int .i64 a, .int .i64 fr, .int .i64 to, .int .i64 mode] false 0 (.int .i64 x) false 1)
    (U2 : ∀ g, UAns 23 g #[.pointer (some ⟨g, 0, none⟩), .int .i64 x, .int .i64 to, .int .i64 fr, .int .i64 mode] false 1 (.int .i64 a) false 2) (w : World) :
    Calls Try.prog 5 #[.int .i64 a, .int .i64 fr, .int .i64 to, .int .i64 mode] w fun e w' => e = .returned (.bool true) ∧ Below w.heap.size w w' := by
  have b2 : (a == a) = true := by simp
  have C8 := works_any
  have b1 : (x != x) = false := by simp
  have M0 := Mem.start w
  go_enter Try.func5, Try.ntmps5
  go_wp2_with ((with_reducible refine (?_ : Go.wpList _ _ _ (_ :: _) _ _)); (first | go_skip | (refine wpL_ld M0 rfl rfl rfl (by repeat (first | exact Has.head _ _ _ _ | apply Has.tail)) (by first | exact rd_sat _ _ | exact rd_cnt _ _ | exact rd_unit _ _ | exact rd_num _ _ | exact rd_minus _ _ | exact rd_w _ _ | exact rd_hi _ _ | exact rd_lo _ _ | assumption) ?_) | (refine wpL_ldg M0 rfl rfl rfl (by repeat (first | exact Has.head _ _ _ _ | apply Has.tail)) (by first | exact rd_sat _ _ | exact rd_cnt _ _ | exact rd_unit _ _ | exact rd_num _ _ | exact rd_minus _ _ | exact rd_w _ _ | exact rd_hi _ _ | exact rd_lo _ _ | assumption) ?_) | (refine wpN_1 rfl rfl rfl ?_) | (refine wpN_0 rfl rfl ?_) | (refine wpU_0 rfl rfl ?_) | (refine wpN_2 rfl rfl rfl rfl ?_) | (refine wpL_st M0 rfl rfl rfl rfl (by repeat (first | exact Has.head _ _ _ _ | apply Has.tail)) (by first | exact wr_sat _ _ _ | exact wr_cnt _ _ _ | exact wr_unit _ rfl _ _ | exact wr_num _ (numC_len _ _) _ _ | exact wr_minus _ _ _ | exact wr_w _ rfl _ _ | exact wr_hi _ _ _ | assumption) (by repeat (first | exact Upd.head _ _ _ _ _ | apply Upd.tail)) ?_; clear M0; intro w' M0)))
  refine (one_any _ _ _ M0).mono ?_
  clear M0
  rintro e w1 ⟨g1, rfl, M1⟩
  go_wp2_with ((with_reducible refine (?_ : Go.wpList _ _ _ (_ :: _) _ _)); (first | go_skip | (refine wpL_ld M1 rfl rfl rfl (by repeat (first | exact Has.head _ _ _ _ | apply Has.tail)) (by first | exact rd_sat _ _ | exact rd_cnt _ _ | exact rd_unit _ _ | exact rd_num _ _ | exact rd_minus _ _ | exact rd_w _ _ | exact rd_hi _ _ | exact rd_lo _ _ | assumption) ?_) | (refine wpL_ldg M1 rfl rfl rfl (by repeat (first | exact Has.head _ _ _ _ | apply Has.tail)) (by first | exact rd_sat _ _ | exact rd_cnt _ _ | exact rd_unit _ _ | exact rd_num _ _ | exact rd_minus _ _ | exact rd_w _ _ | exact rd_hi _ _ | exact rd_lo _ _ | assumption) ?_) | (refine wpN_1 rfl rfl rfl ?_) | (refine wpN_0 rfl rfl ?_) | (refine wpU_0 rfl rfl ?_) | (refine wpN_2 rfl rfl rfl rfl ?_) | (refine wpL_st M1 rfl rfl rfl rfl (by repeat (first | exact Has.head _ _ _ _ | apply Has.tail)) (by first | exact wr_sat _ _ _ | exact wr_cnt _ _ _ | exact wr_unit _ rfl _ _ | exact wr_num _ (numC_len _ _) _ _ | exact wr_minus _ _ _ | exact wr_w _ rfl _ _ | exact wr_hi _ _ _ | assumption) (by repeat (first | exact Upd.head _ _ _ _ _ | apply Upd.tail)) ?_; clear M1; intro w' M1)))
  (refine (A1 _).mono ?_; rintro e w2 ⟨rfl, hBl⟩; replace M1 := M1.call hBl; clear hBl A1)
  go_wp2_with ((with_reducible refine (?_ : Go.wpList _ _ _ (_ :: _) _ _)); (first | go_skip | (refine wpL_ld M1 rfl rfl rfl (by repeat (first | exact Has.head _ _ _ _ | apply Has.tail)) (by first | exact rd_sat _ _ | exact rd_cnt _ _ | exact rd_unit _ _ | exact rd_num _ _ | exact rd_minus _ _ | exact rd_w _ _ | exact rd_hi _ _ | exact rd_lo _ _ | assumption) ?_) | (refine wpL_ldg M1 rfl rfl rfl (by repeat (first | exact Has.head _ _ _ _ | apply Has.tail)) (by first | exact rd_sat _ _ | exact rd_cnt _ _ | exact rd_unit _ _ | exact rd_num _ _ | exact rd_minus _ _ | exact rd_w _ _ | exact rd_hi _ _ | exact rd_lo _ _ | assumption) ?_) | (refine wpN_1 rfl rfl rfl ?_) | (refine wpN_0 rfl rfl ?_) | (refine wpU_0 rfl rfl ?_) | (refine wpN_2 rfl rfl rfl rfl ?_) | (refine wpL_st M1 rfl rfl rfl rfl (by repeat (first | exact Has.head _ _ _ _ | apply Has.tail)) (by first | exact wr_sat _ _ _ | exact wr_cnt _ _ _ | exact wr_unit _ rfl _ _ | exact wr_num _ (numC_len _ _) _ _ | exact wr_minus _ _ _ | exact wr_w _ rfl _ _ | exact wr_hi _ _ _ | assumption) (by repeat (first | exact Upd.head _ _ _ _ _ | apply Upd.tail)) ?_; clear M1; intro w' M1)))
  refine (U1 g1 _ _ _ _ M1 (by repeat (first | exact Upd.head _ _ _ _ _ | apply Upd.tail))).mono ?_
  clear M1
  rintro e w2 ⟨rfl, M1⟩
  go_wp2_with ((with_reducible refine (?_ : Go.wpList _ _ _ (_ :: _) _ _)); (first | go_skip | (refine wpL_ld M1 rfl rfl rfl (by repeat (first | exact Has.head _ _ _ _ | apply Has.tail)) (by first | exact rd_sat _ _ | exact rd_cnt _ _ | exact rd_unit _ _ | exact rd_num _ _ | exact rd_minus _ _ | exact rd_w _ _ | exact rd_hi _ _ | exact rd_lo _ _ | assumption) ?_) | (refine wpL_ldg M1 rfl rfl rfl (by repeat (first | exact Has.head _ _ _ _ | apply Has.tail)) (by first | exact rd_sat _ _ | exact rd_cnt _ _ | exact rd_unit _ _ | exact rd_num _ _ | exact rd_minus _ _ | exact rd_w _ _ | exact rd_hi _ _ | exact rd_lo _ _ | assumption) ?_) | (refine wpN_1 rfl rfl rfl ?_) | (refine wpN_0 rfl rfl ?_) | (refine wpU_0 rfl rfl ?_) | (refine wpN_2 rfl rfl rfl rfl ?_) | (refine wpL_st M1 rfl rfl rfl rfl (by repeat (first | exact Has.head _ _ _ _ | apply Has.tail)) (by first | exact wr_sat _ _ _ | exact wr_cnt _ _ _ | exact wr_unit _ rfl _ _ | exact wr_num _ (numC_len _ _) _ _ | exact wr_minus _ _ _ | exact wr_w _ rfl _ _ | exact wr_hi _ _ _ | assumption) (by repeat (first | exact Upd.head _ _ _ _ _ | apply Upd.tail)) ?_; clear M1; intro w' M1)))
  refine (U2 g1 _ _ _ _ M1 (by repeat (first | exact Upd.head _ _ _ _ _ | apply Upd.tail))).mono ?_
  clear M1
  rintro e w2 ⟨rfl, M1⟩
  go_wp2_with ((with_reducible refine (?_ : Go.wpList _ _ _ (_ :: _) _ _)); (first | go_skip | (refine wpL_ld M1 rfl rfl rfl (by repeat (first | exact Has.head _ _ _ _ | apply Has.tail)) (by first | exact rd_sat _ _ | exact rd_cnt _ _ | exact rd_unit _ _ | exact rd_num _ _ | exact rd_minus _ _ | exact rd_w _ _ | exact rd_hi _ _ | exact rd_lo _ _ | assumption) ?_) | (refine wpL_ldg M1 rfl rfl rfl (by repeat (first | exact Has.head _ _ _ _ | apply Has.tail)) (by first | exact rd_sat _ _ | exact rd_cnt _ _ | exact rd_unit _ _ | exact rd_num _ _ | exact rd_minus _ _ | exact rd_w _ _ | exact rd_hi _ _ | exact rd_lo _ _ | assumption) ?_) | (refine wpN_1 rfl rfl rfl ?_) | (refine wpN_0 rfl rfl ?_) | (refine wpU_0 rfl rfl ?_) | (refine wpN_2 rfl rfl rfl rfl ?_) | (refine wpL_st M1 rfl rfl rfl rfl (by repeat (first | exact Has.head _ _ _ _ | apply Has.tail)) (by first | exact wr_sat _ _ _ | exact wr_cnt _ _ _ | exact wr_unit _ rfl _ _ | exact wr_num _ (numC_len _ _) _ _ | exact wr_minus _ _ _ | exact wr_w _ rfl _ _ | exact wr_hi _ _ _ | assumption) (by repeat (first | exact Upd.head _ _ _ _ _ | apply Upd.tail)) ?_; clear M1; intro w' M1)))
  (refine (C8 _).mono ?_; rintro e w2 ⟨rfl, hBl⟩; replace M1 := M1.call hBl; clear hBl C8)
  go_wp2_with ((with_reducible refine (?_ : Go.wpList _ _ _ (_ :: _) _ _)); (first | go_skip | (refine wpL_ld M1 rfl rfl rfl (by repeat (first | exact Has.head _ _ _ _ | apply Has.tail)) (by first | exact rd_sat _ _ | exact rd_cnt _ _ | exact rd_unit _ _ | exact rd_num _ _ | exact rd_minus _ _ | exact rd_w _ _ | exact rd_hi _ _ | exact rd_lo _ _ | assumption) ?_) | (refine wpL_ldg M1 rfl rfl rfl (by repeat (first | exact Has.head _ _ _ _ | apply Has.tail)) (by first | exact rd_sat _ _ | exact rd_cnt _ _ | exact rd_unit _ _ | exact rd_num _ _ | exact rd_minus _ _ | exact rd_w _ _ | exact rd_hi _ _ | exact rd_lo _ _ | assumption) ?_) | (refine wpN_1 rfl rfl rfl ?_) | (refine wpN_0 rfl rfl ?_) | (refine wpU_0 rfl rfl ?_) | (refine wpN_2 rfl rfl rfl rfl ?_) | (refine wpL_st M1 rfl rfl rfl rfl (by repeat (first | exact Has.head _ _ _ _ | apply Has.tail)) (by first | exact wr_sat _ _ _ | exact wr_cnt _ _ _ | exact wr_unit _ rfl _ _ | exact wr_num _ (numC_len _ _) _ _ | exact wr_minus _ _ _ | exact wr_w _ rfl _ _ | exact wr_hi _ _ _ | assumption) (by repeat (first | exact Upd.head _ _ _ _ _ | apply Upd.tail)) ?_; clear M1; intro w' M1)))
  go_ret
  exact ⟨rfl, M1.below⟩
theorem scaleV_range (a fr to m : Int) : -9223372036854775808 ≤ scaleV a fr to m ∧ scaleV a fr to m ≤ 9223372036854775807 := partV_range _ _ _ _
theorem fxpScales_any (a fr to mode : Int) (ha : -9223372036854775808 ≤ a ∧ a ≤ 9223372036854775807) (w : World) :
    Calls Try.prog 5 #[.int .i64 a, .int .i64 fr, .int .i64 to, .int .i64 mode] w fun e w' => e = .returned (.bool true) ∧ Below w.heap.size w w' := by
  have A1 := scale4_any a fr to mode ha
  have U1 := fun g => uScale g false 0 a fr to mode (by decide) ha
  by_cases hs : scaleS a fr to mode = true
  · rw [hs] at A1 U1
    exact fxpScales_sat a fr to mode _ A1 U1 w
  · have hs' : scaleS a fr to mode = false := by simpa using hs
    by_cases hl : to < fr
    · rw [hs'] at A1 U1
      exact fxpScales_right a fr to mode _ (decide_eq_true hl) A1 U1 w
    · have U2 := fun g => uScale g false 1 (scaleV a fr to mode) to fr mode (by decide) (scaleV_range _ _ _ _)
      obtain ⟨e1, e2⟩ := there_back a fr to mode ha hl hs'
      rw [e1, e2] at U2
      rw [hs'] at A1 U1
      exact fxpScales_back a fr to mode _ (decide_eq_false hl) A1 U1 U2 w
end Go.Proofs.Ytggmjdaolekgmaa
