/-
  The law of rows.
-/
import Derived.Test.YtggmjdaolekgmaaWorks04
import Derived.Test.YtggmjdaolekgmaaRef04C
set_option linter.unusedVariables false
set_option linter.unusedSimpArgs false
namespace Go.Proofs.Ytggmjdaolekgmaa
open Go Go.RowKit Go.Th Go.Th.Wide

theorem row_at {W : World} {a : Option Addr} {zs : List Int} {cap k : Nat} (hS : Sl W 1 (.slice a zs.length cap) zs.length (i64s zs)) (hk : k < zs.length) :
    ∃ b0 o, a = some ⟨b0, o, none⟩ ∧ ∀ (wx : World) (cs : List (Nat × TypeId × List Value)), Mem W wx cs → wx.cell? ⟨b0, o + k, none⟩ = some (.int .i64 zs[k]) := by
  obtain ⟨a', c', he, _, _, _, _, h5⟩ := hS
  cases he
  obtain ⟨b0, o, ea, hc⟩ := h5 k _ (i64s_at zs k hk)
  exact ⟨b0, o, ea, fun wx cs M => (M.below.cell (p := ⟨b0, o + k, none⟩) (World.block_lt_of_cell? W _ hc)).trans hc⟩

set_option maxRecDepth 20000 in
set_option maxHeartbeats 16000000 in
theorem fxpRows_long1 (zs ys : List Int) (a b : Option Addr) (cap cap2 : Nat) (q mode x lo hi : Int) (W : World) (hl : 60 < zs.length) :
    Calls Try.prog 7 #[.slice a zs.length cap, .slice b ys.length cap2, .int .i64 q, .int .i64 mode, .int .i64 x, .int .i64 lo, .int .i64 hi] W fun e w' => e = .returned (.bool true) ∧ Below W.heap.size W w' := by
  have C8 := works_any
  have hl1 : decide (60 < (zs.length : Int)) = true := by rw [decide_eq_true_iff]; omega
  clear hl
  have M0 := Mem.start W
  go_enter Try.func7, Try.ntmps7
  go_wp2_with ((with_reducible refine (?_ : Go.wpList _ _ _ (_ :: _) _ _)); (first | go_skip | (refine wpL_ld M0 rfl rfl rfl (by repeat (first | exact Has.head _ _ _ _ | apply Has.tail)) (by first | exact rd_sat _ _ | exact rd_cnt _ _ | exact rd_unit _ _ | exact rd_num _ _ | exact rd_minus _ _ | exact rd_w _ _ | exact rd_hi _ _ | exact rd_lo _ _ | assumption) ?_) | (refine wpL_ldg M0 rfl rfl rfl (by repeat (first | exact Has.head _ _ _ _ | apply Has.tail)) (by first | exact rd_sat _ _ | exact rd_cnt _ _ | exact rd_unit _ _ | exact rd_num _ _ | exact rd_minus _ _ | exact rd_w _ _ | exact rd_hi _ _ | exact rd_lo _ _ | assumption) ?_) | (refine wpN_1 rfl rfl rfl ?_) | (refine wpN_0 rfl rfl ?_) | (refine wpU_0 rfl rfl ?_) | (refine wpN_2 rfl rfl rfl rfl ?_) | (refine wpL_st M0 rfl rfl rfl rfl (by repeat (first | exact Has.head _ _ _ _ | apply Has.tail)) (by first | exact wr_sat _ _ _ | exact wr_cnt _ _ _ | exact wr_unit _ rfl _ _ | exact wr_num _ (numC_len _ _) _ _ | exact wr_minus _ _ _ | exact wr_w _ rfl _ _ | exact wr_hi _ _ _ | assumption) (by repeat (first | exact Upd.head _ _ _ _ _ | apply Upd.tail)) ?_; clear M0; intro w' M0)))
  (refine (C8 _).mono ?_; rintro e w2 ⟨rfl, hBl⟩; replace M0 := M0.call hBl; clear hBl C8)
  go_wp2_with ((with_reducible refine (?_ : Go.wpList _ _ _ (_ :: _) _ _)); (first | go_skip | (refine wpL_ld M0 rfl rfl rfl (by repeat (first | exact Has.head _ _ _ _ | apply Has.tail)) (by first | exact rd_sat _ _ | exact rd_cnt _ _ | exact rd_unit _ _ | exact rd_num _ _ | exact rd_minus _ _ | exact rd_w _ _ | exact rd_hi _ _ | exact rd_lo _ _ | assumption) ?_) | (refine wpL_ldg M0 rfl rfl rfl (by repeat (first | exact Has.head _ _ _ _ | apply Has.tail)) (by first | exact rd_sat _ _ | exact rd_cnt _ _ | exact rd_unit _ _ | exact rd_num _ _ | exact rd_minus _ _ | exact rd_w _ _ | exact rd_hi _ _ | exact rd_lo _ _ | assumption) ?_) | (refine wpN_1 rfl rfl rfl ?_) | (refine wpN_0 rfl rfl ?_) | (refine wpU_0 rfl rfl ?_) | (refine wpN_2 rfl rfl rfl rfl ?_) | (refine wpL_st M0 rfl rfl rfl rfl (by repeat (first | exact Has.head _ _ _ _ | apply Has.tail)) (by first | exact wr_sat _ _ _ | exact wr_cnt _ _ _ | exact wr_unit _ rfl _ _ | exact wr_num _ (numC_len _ _) _ _ | exact wr_minus _ _ _ | exact wr_w _ rfl _ _ | exact wr_hi _ _ _ | assumption) (by repeat (first | exact Upd.head _ _ _ _ _ | apply Upd.tail)) ?_; clear M0; intro w' M0)))
  go_ret
  exact ⟨rfl, M0.below⟩
set_option maxRecDepth 20000 in
set_option maxHeartbeats 16000000 in
theorem fxpRows_long2 (zs ys : List Int) (a b : Option Addr) (cap cap2 : Nat) (q mode x lo hi : Int) (W : World) (hl : zs.length ≤ 60) (hm : 60 < ys.length) :
    Calls Try.prog 7 #[.slice a zs.length cap, .slice b ys.length cap2, .int .i64 q, .int .i64 mode, .int .i64 x, .int .i64 lo, .int .i64 hi] W fun e w' => e = .returned (.bool true) ∧ Below W.heap.size W w' := by
  have C8 := works_any
  have hl1 : decide (60 < (zs.length : Int)) = false := by rw [decide_eq_false_iff_not]; omega
  have hl2 : decide (60 < (ys.length : Int)) = true := by rw [decide_eq_true_iff]; omega
  clear hl hm
  have M0 := Mem.start W
  go_enter Try.func7, Try.ntmps7
  go_wp2_with ((with_reducible refine (?_ : Go.wpList _ _ _ (_ :: _) _ _)); (first | go_skip | (refine wpL_ld M0 rfl rfl rfl (by repeat (first | exact Has.head _ _ _ _ | apply Has.tail)) (by first | exact rd_sat _ _ | exact rd_cnt _ _ | exact rd_unit _ _ | exact rd_num _ _ | exact rd_minus _ _ | exact rd_w _ _ | exact rd_hi _ _ | exact rd_lo _ _ | assumption) ?_) | (refine wpL_ldg M0 rfl rfl rfl (by repeat (first | exact Has.head _ _ _ _ | apply Has.tail)) (by first | exact rd_sat _ _ | exact rd_cnt _ _ | exact rd_unit _ _ | exact rd_num _ _ | exact rd_minus _ _ | exact rd_w _ _ | exact rd_hi _ _ | exact rd_lo _ _ | assumption) ?_) | (refine wpN_1 rfl rfl rfl ?_) | (refine wpN_0 rfl rfl ?_) | (refine wpU_0 rfl rfl ?_) | (refine wpN_2 rfl rfl rfl rfl ?_) | (refine wpL_st M0 rfl rfl rfl rfl (by repeat (first | exact Has.head _ _ _ _ | apply Has.tail)) (by first | exact wr_sat _ _ _ | exact wr_cnt _ _ _ | exact wr_unit _ rfl _ _ | exact wr_num _ (numC_len _ _) _ _ | exact wr_minus _ _ _ | exact wr_w _ rfl _ _ | exact wr_hi _ _ _ | assumption) (by repeat (first | exact Upd.head _ _ _ _ _ | apply Upd.tail)) ?_; clear M0; intro w' M0)))
  (refine (C8 _).mono ?_; rintro e w2 ⟨rfl, hBl⟩; replace M0 := M0.call hBl; clear hBl C8)
  go_wp2_with ((with_reducible refine (?_ : Go.wpList _ _ _ (_ :: _) _ _)); (first | go_skip | (refine wpL_ld M0 rfl rfl rfl (by repeat (first | exact Has.head _ _ _ _ | apply Has.tail)) (by first | exact rd_sat _ _ | exact rd_cnt _ _ | exact rd_unit _ _ | exact rd_num _ _ | exact rd_minus _ _ | exact rd_w _ _ | exact rd_hi _ _ | exact rd_lo _ _ | assumption) ?_) | (refine wpL_ldg M0 rfl rfl rfl (by repeat (first | exact Has.head _ _ _ _ | apply Has.tail)) (by first | exact rd_sat _ _ | exact rd_cnt _ _ | exact rd_unit _ _ | exact rd_num _ _ | exact rd_minus _ _ | exact rd_w _ _ | exact rd_hi _ _ | exact rd_lo _ _ | assumption) ?_) | (refine wpN_1 rfl rfl rfl ?_) | (refine wpN_0 rfl rfl ?_) | (refine wpU_0 rfl rfl ?_) | (refine wpN_2 rfl rfl rfl rfl ?_) | (refine wpL_st M0 rfl rfl rfl rfl (by repeat (first | exact Has.head _ _ _ _ | apply Has.tail)) (by first | exact wr_sat _ _ _ | exact wr_cnt _ _ _ | exact wr_unit _ rfl _ _ | exact wr_num _ (numC_len _ _) _ _ | exact wr_minus _ _ _ | exact wr_w _ rfl _ _ | exact wr_hi _ _ _ | assumption) (by repeat (first | exact Upd.head _ _ _ _ _ | apply Upd.tail)) ?_; clear M0; intro w' M0)))
  go_ret
  exact ⟨rfl, M0.below⟩
set_option maxRecDepth 20000 in
set_option maxHeartbeats 16000000 in
theorem fxpRows_short (zs ys : List Int) (a b : Option Addr) (cap cap2 : Nat) (q mode x lo hi : Int) (W : World) (hz : ∀ z ∈ zs, In64 z) (hy : ∀ z ∈ ys, In64 z) (S1 : Sl W 1 (.slice a zs.length cap) zs.length (i64s zs)) (S2 : Sl W 1 (.slice b ys.length cap2) ys.length (i64s ys)) (hl : zs.length ≤ 60) (hm : ys.length ≤ 60) :
    Calls Try.prog 7 #[.slice a zs.length cap, .slice b ys.length cap2, .int .i64 q, .int .i64 mode, .int .i64 x, .int .i64 lo, .int .i64 hi] W fun e w' => e = .returned (.bool true) ∧ Below W.heap.size W w' := by
  have C8 := Lib.hid works_any
  have hl1 : decide (60 < (zs.length : Int)) = false := by rw [decide_eq_false_iff_not]; omega
  have hl2 : decide (60 < (ys.length : Int)) = false := by rw [decide_eq_false_iff_not]; omega
  have HZ := Lib.hid hz
  have HY := Lib.hid hy
  have HS1 := Lib.hid S1
  have HS2 := Lib.hid S2
  have HL := Lib.hid (List.length_zip (l₁ := zs) (l₂ := ys))
  clear S1 S2 hz hy
  have M0 := Mem.start W
  go_enter Try.func7, Try.ntmps7
  go_wp2_with ((with_reducible refine (?_ : Go.wpList _ _ _ (_ :: _) _ _)); (first | go_skip | (refine wpL_ld M0 rfl rfl rfl (by repeat (first | exact Has.head _ _ _ _ | apply Has.tail)) (by first | exact rd_sat _ _ | exact rd_cnt _ _ | exact rd_unit _ _ | exact rd_num _ _ | exact rd_minus _ _ | exact rd_w _ _ | exact rd_hi _ _ | exact rd_lo _ _ | assumption) ?_) | (refine wpL_ldg M0 rfl rfl rfl (by repeat (first | exact Has.head _ _ _ _ | apply Has.tail)) (by first | exact rd_sat _ _ | exact rd_cnt _ _ | exact rd_unit _ _ | exact rd_num _ _ | exact rd_minus _ _ | exact rd_w _ _ | exact rd_hi _ _ | exact rd_lo _ _ | assumption) ?_) | (refine wpN_1 rfl rfl rfl ?_) | (refine wpN_0 rfl rfl ?_) | (refine wpU_0 rfl rfl ?_) | (refine wpN_2 rfl rfl rfl rfl ?_) | (refine wpL_st M0 rfl rfl rfl rfl (by repeat (first | exact Has.head _ _ _ _ | apply Has.tail)) (by first | exact wr_sat _ _ _ | exact wr_cnt _ _ _ | exact wr_unit _ rfl _ _ | exact wr_num _ (numC_len _ _) _ _ | exact wr_minus _ _ _ | exact wr_w _ rfl _ _ | exact wr_hi _ _ _ | assumption) (by repeat (first | exact Upd.head _ _ _ _ _ | apply Upd.tail)) ?_; clear M0; intro w' M0)))
  refine (one_any _ _ _ M0).mono ?_
  clear M0
  rintro e w1 ⟨g1, rfl, M1⟩
  go_wp2_with ((with_reducible refine (?_ : Go.wpList _ _ _ (_ :: _) _ _)); (first | go_skip | (refine wpL_ld M1 rfl rfl rfl (by repeat (first | exact Has.head _ _ _ _ | apply Has.tail)) (by first | exact rd_sat _ _ | exact rd_cnt _ _ | exact rd_unit _ _ | exact rd_num _ _ | exact rd_minus _ _ | exact rd_w _ _ | exact rd_hi _ _ | exact rd_lo _ _ | assumption) ?_) | (refine wpL_ldg M1 rfl rfl rfl (by repeat (first | exact Has.head _ _ _ _ | apply Has.tail)) (by first | exact rd_sat _ _ | exact rd_cnt _ _ | exact rd_unit _ _ | exact rd_num _ _ | exact rd_minus _ _ | exact rd_w _ _ | exact rd_hi _ _ | exact rd_lo _ _ | assumption) ?_) | (refine wpN_1 rfl rfl rfl ?_) | (refine wpN_0 rfl rfl ?_) | (refine wpU_0 rfl rfl ?_) | (refine wpN_2 rfl rfl rfl rfl ?_) | (refine wpL_st M1 rfl rfl rfl rfl (by repeat (first | exact Has.head _ _ _ _ | apply Has.tail)) (by first | exact wr_sat _ _ _ | exact wr_cnt _ _ _ | exact wr_unit _ rfl _ _ | exact wr_num _ (numC_len _ _) _ _ | exact wr_minus _ _ _ | exact wr_w _ rfl _ _ | exact wr_hi _ _ _ | assumption) (by repeat (first | exact Upd.head _ _ _ _ _ | apply Upd.tail)) ?_; clear M1; intro w' M1)))
  refine (one_any _ _ _ M1).mono ?_
  clear M1
  rintro e w2 ⟨g2, rfl, M2⟩
  go_wp2_with ((with_reducible refine (?_ : Go.wpList _ _ _ (_ :: _) _ _)); (first | go_skip | (refine wpL_ld M2 rfl rfl rfl (by repeat (first | exact Has.head _ _ _ _ | apply Has.tail)) (by first | exact rd_sat _ _ | exact rd_cnt _ _ | exact rd_unit _ _ | exact rd_num _ _ | exact rd_minus _ _ | exact rd_w _ _ | exact rd_hi _ _ | exact rd_lo _ _ | assumption) ?_) | (refine wpL_ldg M2 rfl rfl rfl (by repeat (first | exact Has.head _ _ _ _ | apply Has.tail)) (by first | exact rd_sat _ _ | exact rd_cnt _ _ | exact rd_unit _ _ | exact rd_num _ _ | exact rd_minus _ _ | exact rd_w _ _ | exact rd_hi _ _ | exact rd_lo _ _ | assumption) ?_) | (refine wpN_1 rfl rfl rfl ?_) | (refine wpN_0 rfl rfl ?_) | (refine wpU_0 rfl rfl ?_) | (refine wpN_2 rfl rfl rfl rfl ?_) | (refine wpL_st M2 rfl rfl rfl rfl (by repeat (first | exact Has.head _ _ _ _ | apply Has.tail)) (by first | exact wr_sat _ _ _ | exact wr_cnt _ _ _ | exact wr_unit _ rfl _ _ | exact wr_num _ (numC_len _ _) _ _ | exact wr_minus _ _ _ | exact wr_w _ rfl _ _ | exact wr_hi _ _ _ | assumption) (by repeat (first | exact Upd.head _ _ _ _ _ | apply Upd.tail)) ?_; clear M2; intro w' M2)))
  go_loopw [17, 18, 19] (fun v s i wx => ∃ k : Nat, k ≤ zs.length ∧ i = .int .i64 k ∧ v = .int .i64 (sumF (zs.take k)).1 ∧ s = .bool (sumF (zs.take k)).2 ∧ Mem W wx [(g2, 28, [.bool false, .int .i64 0]), (g1, 28, [.bool false, .int .i64 0])]) (fun _ _ i _ => zs.length - (intOf i).toNat)
  case atStart => exact ⟨0, by omega, rfl, rfl, rfl, M2⟩
  case round =>
    clear M2
    obtain ⟨k, hk, rfl, rfl, rfl, M2⟩ := hrel
    by_cases hlt : k < zs.length
    · obtain ⟨b0, o0, ea, hA⟩ := row_at HS1.out hlt
      have A1 := add4_any (sumF (zs.take k)).1 zs[k] (sumF_range _) (HZ.out _ (List.getElem_mem _))
      have HN := Lib.hid (sumF_next zs k hlt)
      obtain ⟨y, hye⟩ : ∃ y, y = zs[k] := ⟨_, rfl⟩
      obtain ⟨p, hp⟩ : ∃ p, p = sumF (zs.take k) := ⟨_, rfl⟩
      rw [← hye] at hA A1 HN
      rw [← hp] at A1 HN ⊢
      clear hye hp
      subst ea
      have hA0 := hA _ _ M2
      clear hA
      have hi0 : (0 : Int) ≤ k := by omega
      have hi1 : (k : Int) < zs.length := by omega
      obtain ⟨v2, hv2⟩ : ∃ v2, v2 = cutV (p.1 + y) := ⟨_, rfl⟩
      obtain ⟨s2, hs2⟩ : ∃ s2, s2 = cutS (p.1 + y) := ⟨_, rfl⟩
      rw [← hv2, ← hs2] at A1
      have hn : sumF (zs.take (k + 1)) = (v2, p.2 || s2) := by rw [HN.out, hv2, hs2]; rfl
      have HN2 := Lib.hid hn
      clear hv2 hs2 hn HN
      obtain ⟨p1, p2⟩ := p
      dsimp only at A1 HN2 ⊢
      go_wp2_with ((with_reducible refine (?_ : Go.wpList _ _ _ (_ :: _) _ _)); (first | go_skip | (refine wpL_ld M2 rfl rfl rfl (by repeat (first | exact Has.head _ _ _ _ | apply Has.tail)) (by first | exact rd_sat _ _ | exact rd_cnt _ _ | exact rd_unit _ _ | exact rd_num _ _ | exact rd_minus _ _ | exact rd_w _ _ | exact rd_hi _ _ | exact rd_lo _ _ | assumption) ?_) | (refine wpL_ldg M2 rfl rfl rfl (by repeat (first | exact Has.head _ _ _ _ | apply Has.tail)) (by first | exact rd_sat _ _ | exact rd_cnt _ _ | exact rd_unit _ _ | exact rd_num _ _ | exact rd_minus _ _ | exact rd_w _ _ | exact rd_hi _ _ | exact rd_lo _ _ | assumption) ?_) | (refine wpN_1 rfl rfl rfl ?_) | (refine wpN_0 rfl rfl ?_) | (refine wpU_0 rfl rfl ?_) | (refine wpN_2 rfl rfl rfl rfl ?_) | (refine wpL_st M2 rfl rfl rfl rfl (by repeat (first | exact Has.head _ _ _ _ | apply Has.tail)) (by first | exact wr_sat _ _ _ | exact wr_cnt _ _ _ | exact wr_unit _ rfl _ _ | exact wr_num _ (numC_len _ _) _ _ | exact wr_minus _ _ _ | exact wr_w _ rfl _ _ | exact wr_hi _ _ _ | assumption) (by repeat (first | exact Upd.head _ _ _ _ _ | apply Upd.tail)) ?_; clear M2; intro w' M2)))
      (refine (A1 _).mono ?_; rintro e w2 ⟨rfl, hBl⟩; replace M2 := M2.call hBl; clear hBl A1)
      go_upto_region 9 with ((with_reducible refine (?_ : Go.wpList _ _ _ (_ :: _) _ _)); (first | go_skip | (refine wpL_ld M2 rfl rfl rfl (by repeat (first | exact Has.head _ _ _ _ | apply Has.tail)) (by first | exact rd_sat _ _ | exact rd_cnt _ _ | exact rd_unit _ _ | exact rd_num _ _ | exact rd_minus _ _ | exact rd_w _ _ | exact rd_hi _ _ | exact rd_lo _ _ | assumption) ?_) | (refine wpL_ldg M2 rfl rfl rfl (by repeat (first | exact Has.head _ _ _ _ | apply Has.tail)) (by first | exact rd_sat _ _ | exact rd_cnt _ _ | exact rd_unit _ _ | exact rd_num _ _ | exact rd_minus _ _ | exact rd_w _ _ | exact rd_hi _ _ | exact rd_lo _ _ | assumption) ?_) | (refine wpN_1 rfl rfl rfl ?_) | (refine wpN_0 rfl rfl ?_) | (refine wpU_0 rfl rfl ?_) | (refine wpN_2 rfl rfl rfl rfl ?_) | (refine wpL_st M2 rfl rfl rfl rfl (by repeat (first | exact Has.head _ _ _ _ | apply Has.tail)) (by first | exact wr_sat _ _ _ | exact wr_cnt _ _ _ | exact wr_unit _ rfl _ _ | exact wr_num _ (numC_len _ _) _ _ | exact wr_minus _ _ _ | exact wr_w _ rfl _ _ | exact wr_hi _ _ _ | assumption) (by repeat (first | exact Upd.head _ _ _ _ _ | apply Upd.tail)) ?_; clear M2; intro w' M2)))
      cases p2
      · go_wp2_with ((with_reducible refine (?_ : Go.wpList _ _ _ (_ :: _) _ _)); (first | go_skip | (refine wpL_ld M2 rfl rfl rfl (by repeat (first | exact Has.head _ _ _ _ | apply Has.tail)) (by first | exact rd_sat _ _ | exact rd_cnt _ _ | exact rd_unit _ _ | exact rd_num _ _ | exact rd_minus _ _ | exact rd_w _ _ | exact rd_hi _ _ | exact rd_lo _ _ | assumption) ?_) | (refine wpL_ldg M2 rfl rfl rfl (by repeat (first | exact Has.head _ _ _ _ | apply Has.tail)) (by first | exact rd_sat _ _ | exact rd_cnt _ _ | exact rd_unit _ _ | exact rd_num _ _ | exact rd_minus _ _ | exact rd_w _ _ | exact rd_hi _ _ | exact rd_lo _ _ | assumption) ?_) | (refine wpN_1 rfl rfl rfl ?_) | (refine wpN_0 rfl rfl ?_) | (refine wpU_0 rfl rfl ?_) | (refine wpN_2 rfl rfl rfl rfl ?_) | (refine wpL_st M2 rfl rfl rfl rfl (by repeat (first | exact Has.head _ _ _ _ | apply Has.tail)) (by first | exact wr_sat _ _ _ | exact wr_cnt _ _ _ | exact wr_unit _ rfl _ _ | exact wr_num _ (numC_len _ _) _ _ | exact wr_minus _ _ _ | exact wr_w _ rfl _ _ | exact wr_hi _ _ _ | assumption) (by repeat (first | exact Upd.head _ _ _ _ _ | apply Upd.tail)) ?_; clear M2; intro w' M2)))
        go_roundw
        case rel => exact ⟨k + 1, by omega, by go_num, by rw [HN2.out], by rw [HN2.out, Bool.false_or], M2⟩
        case measure => simp [intOf]; omega
      · go_wp2_with ((with_reducible refine (?_ : Go.wpList _ _ _ (_ :: _) _ _)); (first | go_skip | (refine wpL_ld M2 rfl rfl rfl (by repeat (first | exact Has.head _ _ _ _ | apply Has.tail)) (by first | exact rd_sat _ _ | exact rd_cnt _ _ | exact rd_unit _ _ | exact rd_num _ _ | exact rd_minus _ _ | exact rd_w _ _ | exact rd_hi _ _ | exact rd_lo _ _ | assumption) ?_) | (refine wpL_ldg M2 rfl rfl rfl (by repeat (first | exact Has.head _ _ _ _ | apply Has.tail)) (by first | exact rd_sat _ _ | exact rd_cnt _ _ | exact rd_unit _ _ | exact rd_num _ _ | exact rd_minus _ _ | exact rd_w _ _ | exact rd_hi _ _ | exact rd_lo _ _ | assumption) ?_) | (refine wpN_1 rfl rfl rfl ?_) | (refine wpN_0 rfl rfl ?_) | (refine wpU_0 rfl rfl ?_) | (refine wpN_2 rfl rfl rfl rfl ?_) | (refine wpL_st M2 rfl rfl rfl rfl (by repeat (first | exact Has.head _ _ _ _ | apply Has.tail)) (by first | exact wr_sat _ _ _ | exact wr_cnt _ _ _ | exact wr_unit _ rfl _ _ | exact wr_num _ (numC_len _ _) _ _ | exact wr_minus _ _ _ | exact wr_w _ rfl _ _ | exact wr_hi _ _ _ | assumption) (by repeat (first | exact Upd.head _ _ _ _ _ | apply Upd.tail)) ?_; clear M2; intro w' M2)))
        go_roundw
        case rel => exact ⟨k + 1, by omega, by go_num, by rw [HN2.out], by rw [HN2.out, Bool.true_or], M2⟩
        case measure => simp [intOf]; omega
    · obtain rfl : k = zs.length := by omega
      rw [List.take_length]
      obtain ⟨P, hP⟩ : ∃ P, P = sumF zs := ⟨_, rfl⟩
      rw [← hP]
      have HP := Lib.hid hP
      clear hP hlt hk
      go_wp2_with ((with_reducible refine (?_ : Go.wpList _ _ _ (_ :: _) _ _)); (first | go_skip | (refine wpL_ld M2 rfl rfl rfl (by repeat (first | exact Has.head _ _ _ _ | apply Has.tail)) (by first | exact rd_sat _ _ | exact rd_cnt _ _ | exact rd_unit _ _ | exact rd_num _ _ | exact rd_minus _ _ | exact rd_w _ _ | exact rd_hi _ _ | exact rd_lo _ _ | assumption) ?_) | (refine wpL_ldg M2 rfl rfl rfl (by repeat (first | exact Has.head _ _ _ _ | apply Has.tail)) (by first | exact rd_sat _ _ | exact rd_cnt _ _ | exact rd_unit _ _ | exact rd_num _ _ | exact rd_minus _ _ | exact rd_w _ _ | exact rd_hi _ _ | exact rd_lo _ _ | assumption) ?_) | (refine wpN_1 rfl rfl rfl ?_) | (refine wpN_0 rfl rfl ?_) | (refine wpU_0 rfl rfl ?_) | (refine wpN_2 rfl rfl rfl rfl ?_) | (refine wpL_st M2 rfl rfl rfl rfl (by repeat (first | exact Has.head _ _ _ _ | apply Has.tail)) (by first | exact wr_sat _ _ _ | exact wr_cnt _ _ _ | exact wr_unit _ rfl _ _ | exact wr_num _ (numC_len _ _) _ _ | exact wr_minus _ _ _ | exact wr_w _ rfl _ _ | exact wr_hi _ _ _ | assumption) (by repeat (first | exact Upd.head _ _ _ _ _ | apply Upd.tail)) ?_; clear M2; intro w' M2)))
      go_loopw [22, 23, 24] (fun v s i wx => ∃ k : Nat, k ≤ zs.length ∧ k ≤ ys.length ∧ i = .int .i64 k ∧ v = .int .i64 (dotF q mode ((zs.zip ys).take k)).1 ∧ s = .bool (dotF q mode ((zs.zip ys).take k)).2 ∧ Mem W wx [(g2, 28, [.bool false, .int .i64 0]), (g1, 28, [.bool false, .int .i64 0])]) (fun _ _ i _ => zs.length - (intOf i).toNat)
      case atStart => exact ⟨0, by omega, by omega, rfl, rfl, rfl, M2⟩
      case round =>
        clear M2
        obtain ⟨k, hk, hk', rfl, rfl, rfl, M2⟩ := hrel
        by_cases hlt : k < zs.length ∧ k < ys.length
        · obtain ⟨h1, h2⟩ := hlt
          obtain ⟨b0, o0, ea, hA⟩ := row_at HS1.out h1
          obtain ⟨b1, o1, eb, hB⟩ := row_at HS2.out h2
          have hz1 := HZ.out zs[k] (List.getElem_mem _)
          have hy1 := HY.out ys[k] (List.getElem_mem _)
          have hzl : k < (zs.zip ys).length := by rw [HL.out]; omega
          have HN := Lib.hid (dotF_next q mode (zs.zip ys) k hzl)
          rw [List.getElem_zip] at HN
          obtain ⟨y, hye⟩ : ∃ y, y = zs[k] := ⟨_, rfl⟩
          obtain ⟨z, hze⟩ : ∃ z, z = ys[k] := ⟨_, rfl⟩
          have hpr := dotF_range q mode ((zs.zip ys).take k)
          obtain ⟨p, hp⟩ : ∃ p, p = dotF q mode ((zs.zip ys).take k) := ⟨_, rfl⟩
          rw [← hye] at hA HN hz1
          rw [← hze] at hB HN hy1
          rw [← hp] at HN hpr ⊢
          clear hye hze hp
          subst ea eb
          have A1 := mul4_any y z q mode hz1 hy1
          have A2 := add4_any p.1 (mulV y z q mode) hpr (mulV_range _ _ _ _)
          have HA := Lib.hid hA
          have HB := Lib.hid hB
          have hi0 : (0 : Int) ≤ k := by omega
          have hi1 : (k : Int) < zs.length := by omega
          have hi2 : (k : Int) < ys.length := by omega
          have hn : dotF q mode ((zs.zip ys).take (k + 1)) = (cutV (p.1 + mulV y z q mode), p.2 || mulS y z q mode || cutS (p.1 + mulV y z q mode)) := HN.out
          obtain ⟨m1, hm1⟩ : ∃ m1, m1 = mulV y z q mode := ⟨_, rfl⟩
          obtain ⟨ms, hms⟩ : ∃ ms, ms = mulS y z q mode := ⟨_, rfl⟩
          rw [← hm1] at A1 A2 hn
          rw [← hms] at A1 hn
          obtain ⟨v2, hv2⟩ : ∃ v2, v2 = cutV (p.1 + m1) := ⟨_, rfl⟩
          obtain ⟨s2, hs2⟩ : ∃ s2, s2 = cutS (p.1 + m1) := ⟨_, rfl⟩
          rw [← hv2, ← hs2] at A2 hn
          have HN2 := Lib.hid hn
          clear hv2 hs2 hm1 hms hn HN hzl hA hB hz1 hy1 hpr
          obtain ⟨p1, p2⟩ := p
          dsimp only at A2 HN2 ⊢
          go_upto_region 14 with ((with_reducible refine (?_ : Go.wpList _ _ _ (_ :: _) _ _)); (first | go_skip | (refine wpL_ld M2 rfl rfl rfl (by repeat (first | exact Has.head _ _ _ _ | apply Has.tail)) (by first | exact rd_sat _ _ | exact rd_cnt _ _ | exact rd_unit _ _ | exact rd_num _ _ | exact rd_minus _ _ | exact rd_w _ _ | exact rd_hi _ _ | exact rd_lo _ _ | assumption) ?_) | (refine wpL_ldg M2 rfl rfl rfl (by repeat (first | exact Has.head _ _ _ _ | apply Has.tail)) (by first | exact rd_sat _ _ | exact rd_cnt _ _ | exact rd_unit _ _ | exact rd_num _ _ | exact rd_minus _ _ | exact rd_w _ _ | exact rd_hi _ _ | exact rd_lo _ _ | assumption) ?_) | (refine wpN_1 rfl rfl rfl ?_) | (refine wpN_0 rfl rfl ?_) | (refine wpU_0 rfl rfl ?_) | (refine wpN_2 rfl rfl rfl rfl ?_) | (refine wpL_st M2 rfl rfl rfl rfl (by repeat (first | exact Has.head _ _ _ _ | apply Has.tail)) (by first | exact wr_sat _ _ _ | exact wr_cnt _ _ _ | exact wr_unit _ rfl _ _ | exact wr_num _ (numC_len _ _) _ _ | exact wr_minus _ _ _ | exact wr_w _ rfl _ _ | exact wr_hi _ _ _ | assumption) (by repeat (first | exact Upd.head _ _ _ _ _ | apply Upd.tail)) ?_; clear M2; intro w' M2)))
          have M5 := M2.drew
          clear M2
          try dsimp only [Act.put]
          refine wp_region_held_drew (S := (fun w' : World => w'.cell? ⟨b0, o0 + k, none⟩ = some (.int .i64 y) ∧ w'.cell? ⟨b1, o1 + k, none⟩ = some (.int .i64 z))) (by kernel_rfl) ((⟨HA.out _ _ M5, HB.out _ _ M5⟩)) (fun hHeld => ?_)
          refine wpAnyH_take (i := 0) (v := ?v1) rfl (by kernel_rfl) (by kernel_rfl) (by kernel_rfl) (fun _ _ _ h => h) (Or.inl ⟨by rfl, ?hy1⟩) hHeld ?rest1
          case hy1 => (intro w' hSw; (try dsimp only at hSw); go_simp; (try with_reducible rfl))
          try simp only [Act.put, List.setIfInBounds_toArray, List.set_cons_zero, List.set_cons_succ, List.getElem_toArray, List.getElem_cons_zero, List.getElem_cons_succ]
          refine wpAnyH_take (i := 1) (v := ?v2) rfl (by kernel_rfl) (by kernel_rfl) (by kernel_rfl) (fun _ _ _ h => h) (Or.inl ⟨by rfl, ?hy2⟩) hHeld ?rest2
          case hy2 => (intro w' hSw; (try dsimp only at hSw); go_simp; (try with_reducible rfl))
          try simp only [Act.put, List.setIfInBounds_toArray, List.set_cons_zero, List.set_cons_succ, List.getElem_toArray, List.getElem_cons_zero, List.getElem_cons_succ]
          refine wpAnyH_take (i := 2) (v := ?v3) rfl (by kernel_rfl) (by kernel_rfl) (by kernel_rfl) (fun _ _ _ h => h) (Or.inl ⟨by rfl, ?hy3⟩) hHeld ?rest3
          case hy3 => (intro w' hSw; (try dsimp only at hSw); go_simp; (try with_reducible rfl))
          try simp only [Act.put, List.setIfInBounds_toArray, List.set_cons_zero, List.set_cons_succ, List.getElem_toArray, List.getElem_cons_zero, List.getElem_cons_succ]
          refine wpAnyH_take (i := 3) (v := ?v4) rfl (by kernel_rfl) (by kernel_rfl) (by kernel_rfl) (fun _ _ _ h => h) (Or.inl ⟨by rfl, ?hy4⟩) hHeld ?rest4
          case hy4 => (intro w' hSw; (try dsimp only at hSw); go_simp; (try with_reducible rfl))
          try simp only [Act.put, List.setIfInBounds_toArray, List.set_cons_zero, List.set_cons_succ, List.getElem_toArray, List.getElem_cons_zero, List.getElem_cons_succ]
          refine wpAnyH_take (i := 4) (v := ?v5) rfl (by kernel_rfl) (by kernel_rfl) (by kernel_rfl) (fun _ _ _ h => h) (Or.inl ⟨by rfl, ?hy5⟩) hHeld ?rest5
          case hy5 => (intro w' hSw; (try dsimp only at hSw); go_simp; (try with_reducible rfl))
          try simp only [Act.put, List.setIfInBounds_toArray, List.set_cons_zero, List.set_cons_succ, List.getElem_toArray, List.getElem_cons_zero, List.getElem_cons_succ]
          refine wpAnyH_take (i := 5) (v := ?v6) rfl (by kernel_rfl) (by kernel_rfl) (by kernel_rfl) (fun _ _ _ h => h) (Or.inl ⟨by rfl, ?hy6⟩) hHeld ?rest6
          case hy6 => (intro w' hSw; (try dsimp only at hSw); go_simp; (try with_reducible rfl))
          try simp only [Act.put, List.setIfInBounds_toArray, List.set_cons_zero, List.set_cons_succ, List.getElem_toArray, List.getElem_cons_zero, List.getElem_cons_succ]
          refine wpAnyH_take (i := 6) (v := ?v7) rfl (by kernel_rfl) (by kernel_rfl) (by kernel_rfl) (fun _ _ _ h => h) (Or.inl ⟨by rfl, ?hy7⟩) hHeld ?rest7
          case hy7 => (intro w' hSw; (try dsimp only at hSw); go_simp; (try with_reducible rfl))
          try simp only [Act.put, List.setIfInBounds_toArray, List.set_cons_zero, List.set_cons_succ, List.getElem_toArray, List.getElem_cons_zero, List.getElem_cons_succ]
          refine wpAnyH_take (i := 7) (v := ?v8) rfl (by kernel_rfl) (by kernel_rfl) (by kernel_rfl) (fun _ _ _ h => h) (Or.inl ⟨by rfl, ?hy8⟩) hHeld ?rest8
          case hy8 => (intro w' hSw; (try dsimp only at hSw); go_simp; (try with_reducible rfl))
          try simp only [Act.put, List.setIfInBounds_toArray, List.set_cons_zero, List.set_cons_succ, List.getElem_toArray, List.getElem_cons_zero, List.getElem_cons_succ]
          refine wpAnyH_take (i := 8) (v := ?v9) rfl (by kernel_rfl) (by kernel_rfl) (by kernel_rfl) (fun _ _ _ h => h) (Or.inl ⟨by rfl, ?hy9⟩) hHeld ?rest9
          case hy9 => (intro w' hSw; (try dsimp only at hSw); go_simp; (try with_reducible rfl))
          try simp only [Act.put, List.setIfInBounds_toArray, List.set_cons_zero, List.set_cons_succ, List.getElem_toArray, List.getElem_cons_zero, List.getElem_cons_succ]
          refine wpAnyH_take (i := 9) (v := ?v10) rfl (by kernel_rfl) (by kernel_rfl) (by kernel_rfl) (fun _ _ _ h => h) (Or.inl ⟨by rfl, ?hy10⟩) hHeld ?rest10
          case hy10 => (intro w' hSw; (try dsimp only at hSw); go_simp; (try with_reducible rfl))
          try simp only [Act.put, List.setIfInBounds_toArray, List.set_cons_zero, List.set_cons_succ, List.getElem_toArray, List.getElem_cons_zero, List.getElem_cons_succ]
          refine wpAnyH_ready (rs := [10]) (by kernel_rfl) (by simp) ?_
          refine AllReadyH.cons rfl (fun K hK => ?_) AllReadyH.nil
          go_simp
          (refine (A1 _).mono ?_; rintro e w2 ⟨rfl, hBl⟩; replace M5 := M5.call hBl; clear hBl A1)
          try go_wp2_with fail
          refine hK.out _ _ (⟨HA.out _ _ M5, HB.out _ _ M5⟩) (fun hHeld => ?_)
          clear hK K
          try simp only [Act.put, List.setIfInBounds_toArray, List.set_cons_zero, List.set_cons_succ, List.getElem_toArray, List.getElem_cons_zero, List.getElem_cons_succ]
          refine wpAnyH_take (i := 11) (v := ?v12) rfl (by kernel_rfl) (by kernel_rfl) (by kernel_rfl) (fun _ _ _ h => h) (Or.inl ⟨by rfl, ?hy12⟩) hHeld ?rest12
          case hy12 => (intro w' hSw; (try dsimp only at hSw); go_simp; (try with_reducible rfl))
          try simp only [Act.put, List.setIfInBounds_toArray, List.set_cons_zero, List.set_cons_succ, List.getElem_toArray, List.getElem_cons_zero, List.getElem_cons_succ]
          refine wpAnyH_take (i := 12) (v := ?v13) rfl (by kernel_rfl) (by kernel_rfl) (by kernel_rfl) (fun _ _ _ h => h) (Or.inl ⟨by rfl, ?hy13⟩) hHeld ?rest13
          case hy13 => (intro w' hSw; (try dsimp only at hSw); go_simp; (try with_reducible rfl))
          try simp only [Act.put, List.setIfInBounds_toArray, List.set_cons_zero, List.set_cons_succ, List.getElem_toArray, List.getElem_cons_zero, List.getElem_cons_succ]
          refine wpAnyH_take (i := 13) (v := ?v14) rfl (by kernel_rfl) (by kernel_rfl) (by kernel_rfl) (fun _ _ _ h => h) (Or.inl ⟨by rfl, ?hy14⟩) hHeld ?rest14
          case hy14 => (intro w' hSw; (try dsimp only at hSw); go_simp; (try with_reducible rfl))
          try simp only [Act.put, List.setIfInBounds_toArray, List.set_cons_zero, List.set_cons_succ, List.getElem_toArray, List.getElem_cons_zero, List.getElem_cons_succ]
          refine wpAnyH_take (i := 14) (v := ?v15) rfl (by kernel_rfl) (by kernel_rfl) (by kernel_rfl) (fun _ _ _ h => h) (Or.inl ⟨by rfl, ?hy15⟩) hHeld ?rest15
          case hy15 => (intro w' hSw; (try dsimp only at hSw); go_simp; (try with_reducible rfl))
          try simp only [Act.put, List.setIfInBounds_toArray, List.set_cons_zero, List.set_cons_succ, List.getElem_toArray, List.getElem_cons_zero, List.getElem_cons_succ]
          refine wpAnyH_take (i := 15) (v := ?v16) rfl (by kernel_rfl) (by kernel_rfl) (by kernel_rfl) (fun _ _ _ h => h) (Or.inl ⟨by rfl, ?hy16⟩) hHeld ?rest16
          case hy16 => (intro w' hSw; (try dsimp only at hSw); go_simp; (try with_reducible rfl))
          try simp only [Act.put, List.setIfInBounds_toArray, List.set_cons_zero, List.set_cons_succ, List.getElem_toArray, List.getElem_cons_zero, List.getElem_cons_succ]
          refine wpAnyH_done (by kernel_rfl) ?_ _
          go_wp2_with ((with_reducible refine (?_ : Go.wpList _ _ _ (_ :: _) _ _)); (first | go_skip | (refine wpL_ld M5 rfl rfl rfl (by repeat (first | exact Has.head _ _ _ _ | apply Has.tail)) (by first | exact rd_sat _ _ | exact rd_cnt _ _ | exact rd_unit _ _ | exact rd_num _ _ | exact rd_minus _ _ | exact rd_w _ _ | exact rd_hi _ _ | exact rd_lo _ _ | assumption) ?_) | (refine wpL_ldg M5 rfl rfl rfl (by repeat (first | exact Has.head _ _ _ _ | apply Has.tail)) (by first | exact rd_sat _ _ | exact rd_cnt _ _ | exact rd_unit _ _ | exact rd_num _ _ | exact rd_minus _ _ | exact rd_w _ _ | exact rd_hi _ _ | exact rd_lo _ _ | assumption) ?_) | (refine wpN_1 rfl rfl rfl ?_) | (refine wpN_0 rfl rfl ?_) | (refine wpU_0 rfl rfl ?_) | (refine wpN_2 rfl rfl rfl rfl ?_) | (refine wpL_st M5 rfl rfl rfl rfl (by repeat (first | exact Has.head _ _ _ _ | apply Has.tail)) (by first | exact wr_sat _ _ _ | exact wr_cnt _ _ _ | exact wr_unit _ rfl _ _ | exact wr_num _ (numC_len _ _) _ _ | exact wr_minus _ _ _ | exact wr_w _ rfl _ _ | exact wr_hi _ _ _ | assumption) (by repeat (first | exact Upd.head _ _ _ _ _ | apply Upd.tail)) ?_; clear M5; intro w' M5)))
          (refine (A2 _).mono ?_; rintro e w2 ⟨rfl, hBl⟩; replace M5 := M5.call hBl; clear hBl A2)
          go_upto_region 16 with ((with_reducible refine (?_ : Go.wpList _ _ _ (_ :: _) _ _)); (first | go_skip | (refine wpL_ld M5 rfl rfl rfl (by repeat (first | exact Has.head _ _ _ _ | apply Has.tail)) (by first | exact rd_sat _ _ | exact rd_cnt _ _ | exact rd_unit _ _ | exact rd_num _ _ | exact rd_minus _ _ | exact rd_w _ _ | exact rd_hi _ _ | exact rd_lo _ _ | assumption) ?_) | (refine wpL_ldg M5 rfl rfl rfl (by repeat (first | exact Has.head _ _ _ _ | apply Has.tail)) (by first | exact rd_sat _ _ | exact rd_cnt _ _ | exact rd_unit _ _ | exact rd_num _ _ | exact rd_minus _ _ | exact rd_w _ _ | exact rd_hi _ _ | exact rd_lo _ _ | assumption) ?_) | (refine wpN_1 rfl rfl rfl ?_) | (refine wpN_0 rfl rfl ?_) | (refine wpU_0 rfl rfl ?_) | (refine wpN_2 rfl rfl rfl rfl ?_) | (refine wpL_st M5 rfl rfl rfl rfl (by repeat (first | exact Has.head _ _ _ _ | apply Has.tail)) (by first | exact wr_sat _ _ _ | exact wr_cnt _ _ _ | exact wr_unit _ rfl _ _ | exact wr_num _ (numC_len _ _) _ _ | exact wr_minus _ _ _ | exact wr_w _ rfl _ _ | exact wr_hi _ _ _ | assumption) (by repeat (first | exact Upd.head _ _ _ _ _ | apply Upd.tail)) ?_; clear M5; intro w' M5)))
          cases p2 <;> cases ms
          · go_wp2_with ((with_reducible refine (?_ : Go.wpList _ _ _ (_ :: _) _ _)); (first | go_skip | (refine wpL_ld M5 rfl rfl rfl (by repeat (first | exact Has.head _ _ _ _ | apply Has.tail)) (by first | exact rd_sat _ _ | exact rd_cnt _ _ | exact rd_unit _ _ | exact rd_num _ _ | exact rd_minus _ _ | exact rd_w _ _ | exact rd_hi _ _ | exact rd_lo _ _ | assumption) ?_) | (refine wpL_ldg M5 rfl rfl rfl (by repeat (first | exact Has.head _ _ _ _ | apply Has.tail)) (by first | exact rd_sat _ _ | exact rd_cnt _ _ | exact rd_unit _ _ | exact rd_num _ _ | exact rd_minus _ _ | exact rd_w _ _ | exact rd_hi _ _ | exact rd_lo _ _ | assumption) ?_) | (refine wpN_1 rfl rfl rfl ?_) | (refine wpN_0 rfl rfl ?_) | (refine wpU_0 rfl rfl ?_) | (refine wpN_2 rfl rfl rfl rfl ?_) | (refine wpL_st M5 rfl rfl rfl rfl (by repeat (first | exact Has.head _ _ _ _ | apply Has.tail)) (by first | exact wr_sat _ _ _ | exact wr_cnt _ _ _ | exact wr_unit _ rfl _ _ | exact wr_num _ (numC_len _ _) _ _ | exact wr_minus _ _ _ | exact wr_w _ rfl _ _ | exact wr_hi _ _ _ | assumption) (by repeat (first | exact Upd.head _ _ _ _ _ | apply Upd.tail)) ?_; clear M5; intro w' M5)))
            go_roundw
            case rel => exact ⟨k + 1, by omega, by omega, by go_num, by rw [HN2.out], by rw [HN2.out]; rfl, M5⟩
            case measure => simp [intOf]; omega
          · go_wp2_with ((with_reducible refine (?_ : Go.wpList _ _ _ (_ :: _) _ _)); (first | go_skip | (refine wpL_ld M5 rfl rfl rfl (by repeat (first | exact Has.head _ _ _ _ | apply Has.tail)) (by first | exact rd_sat _ _ | exact rd_cnt _ _ | exact rd_unit _ _ | exact rd_num _ _ | exact rd_minus _ _ | exact rd_w _ _ | exact rd_hi _ _ | exact rd_lo _ _ | assumption) ?_) | (refine wpL_ldg M5 rfl rfl rfl (by repeat (first | exact Has.head _ _ _ _ | apply Has.tail)) (by first | exact rd_sat _ _ | exact rd_cnt _ _ | exact rd_unit _ _ | exact rd_num _ _ | exact rd_minus _ _ | exact rd_w _ _ | exact rd_hi _ _ | exact rd_lo _ _ | assumption) ?_) | (refine wpN_1 rfl rfl rfl ?_) | (refine wpN_0 rfl rfl ?_) | (refine wpU_0 rfl rfl ?_) | (refine wpN_2 rfl rfl rfl rfl ?_) | (refine wpL_st M5 rfl rfl rfl rfl (by repeat (first | exact Has.head _ _ _ _ | apply Has.tail)) (by first | exact wr_sat _ _ _ | exact wr_cnt _ _ _ | exact wr_unit _ rfl _ _ | exact wr_num _ (numC_len _ _) _ _ | exact wr_minus _ _ _ | exact wr_w _ rfl _ _ | exact wr_hi _ _ _ | assumption) (by repeat (first | exact Upd.head _ _ _ _ _ | apply Upd.tail)) ?_; clear M5; intro w' M5)))
            go_roundw
            case rel => exact ⟨k + 1, by omega, by omega, by go_num, by rw [HN2.out], by rw [HN2.out]; rfl, M5⟩
            case measure => simp [intOf]; omega
          · go_wp2_with ((with_reducible refine (?_ : Go.wpList _ _ _ (_ :: _) _ _)); (first | go_skip | (refine wpL_ld M5 rfl rfl rfl (by repeat (first | exact Has.head _ _ _ _ | apply Has.tail)) (by first | exact rd_sat _ _ | exact rd_cnt _ _ | exact rd_unit _ _ | exact rd_num _ _ | exact rd_minus _ _ | exact rd_w _ _ | exact rd_hi _ _ | exact rd_lo _ _ | assumption) ?_) | (refine wpL_ldg M5 rfl rfl rfl (by repeat (first | exact Has.head _ _ _ _ | apply Has.tail)) (by first | exact rd_sat _ _ | exact rd_cnt _ _ | exact rd_unit _ _ | exact rd_num _ _ | exact rd_minus _ _ | exact rd_w _ _ | exact rd_hi _ _ | exact rd_lo _ _ | assumption) ?_) | (refine wpN_1 rfl rfl rfl ?_) | (refine wpN_0 rfl rfl ?_) | (refine wpU_0 rfl rfl ?_) | (refine wpN_2 rfl rfl rfl rfl ?_) | (refine wpL_st M5 rfl rfl rfl rfl (by repeat (first | exact Has.head _ _ _ _ | apply Has.tail)) (by first | exact wr_sat _ _ _ | exact wr_cnt _ _ _ | exact wr_unit _ rfl _ _ | exact wr_num _ (numC_len _ _) _ _ | exact wr_minus _ _ _ | exact wr_w _ rfl _ _ | exact wr_hi _ _ _ | assumption) (by repeat (first | exact Upd.head _ _ _ _ _ | apply Upd.tail)) ?_; clear M5; intro w' M5)))
            go_roundw
            case rel => exact ⟨k + 1, by omega, by omega, by go_num, by rw [HN2.out], by rw [HN2.out]; rfl, M5⟩
            case measure => simp [intOf]; omega
          · go_wp2_with ((with_reducible refine (?_ : Go.wpList _ _ _ (_ :: _) _ _)); (first | go_skip | (refine wpL_ld M5 rfl rfl rfl (by repeat (first | exact Has.head _ _ _ _ | apply Has.tail)) (by first | exact rd_sat _ _ | exact rd_cnt _ _ | exact rd_unit _ _ | exact rd_num _ _ | exact rd_minus _ _ | exact rd_w _ _ | exact rd_hi _ _ | exact rd_lo _ _ | assumption) ?_) | (refine wpL_ldg M5 rfl rfl rfl (by repeat (first | exact Has.head _ _ _ _ | apply Has.tail)) (by first | exact rd_sat _ _ | exact rd_cnt _ _ | exact rd_unit _ _ | exact rd_num _ _ | exact rd_minus _ _ | exact rd_w _ _ | exact rd_hi _ _ | exact rd_lo _ _ | assumption) ?_) | (refine wpN_1 rfl rfl rfl ?_) | (refine wpN_0 rfl rfl ?_) | (refine wpU_0 rfl rfl ?_) | (refine wpN_2 rfl rfl rfl rfl ?_) | (refine wpL_st M5 rfl rfl rfl rfl (by repeat (first | exact Has.head _ _ _ _ | apply Has.tail)) (by first | exact wr_sat _ _ _ | exact wr_cnt _ _ _ | exact wr_unit _ rfl _ _ | exact wr_num _ (numC_len _ _) _ _ | exact wr_minus _ _ _ | exact wr_w _ rfl _ _ | exact wr_hi _ _ _ | assumption) (by repeat (first | exact Upd.head _ _ _ _ _ | apply Upd.tail)) ?_; clear M5; intro w' M5)))
            go_roundw
            case rel => exact ⟨k + 1, by omega, by omega, by go_num, by rw [HN2.out], by rw [HN2.out]; rfl, M5⟩
            case measure => simp [intOf]; omega
        · have hE : (zs.zip ys).take k = zs.zip ys := List.take_of_length_le (by rw [HL.out]; omega)
          rw [hE]
          clear hE
          obtain ⟨D, hD⟩ : ∃ D, D = dotF q mode (zs.zip ys) := ⟨_, rfl⟩
          rw [← hD]
          have HD := Lib.hid hD
          clear hD
          have b1 : (P.1 != P.1) = false := by simp
          have b2 : (P.2 != P.2) = false := by simp
          have b3 : (D.1 != D.1) = false := by simp
          have b4 : (D.2 != D.2) = false := by simp
          by_cases h1 : k < zs.length
          · have h2 : ¬ k < ys.length := fun h => hlt ⟨h1, h⟩
            clear hlt
            go_wp2_with ((with_reducible refine (?_ : Go.wpList _ _ _ (_ :: _) _ _)); (first | go_skip | (refine wpL_ld M2 rfl rfl rfl (by repeat (first | exact Has.head _ _ _ _ | apply Has.tail)) (by first | exact rd_sat _ _ | exact rd_cnt _ _ | exact rd_unit _ _ | exact rd_num _ _ | exact rd_minus _ _ | exact rd_w _ _ | exact rd_hi _ _ | exact rd_lo _ _ | assumption) ?_) | (refine wpL_ldg M2 rfl rfl rfl (by repeat (first | exact Has.head _ _ _ _ | apply Has.tail)) (by first | exact rd_sat _ _ | exact rd_cnt _ _ | exact rd_unit _ _ | exact rd_num _ _ | exact rd_minus _ _ | exact rd_w _ _ | exact rd_hi _ _ | exact rd_lo _ _ | assumption) ?_) | (refine wpN_1 rfl rfl rfl ?_) | (refine wpN_0 rfl rfl ?_) | (refine wpU_0 rfl rfl ?_) | (refine wpN_2 rfl rfl rfl rfl ?_) | (refine wpL_st M2 rfl rfl rfl rfl (by repeat (first | exact Has.head _ _ _ _ | apply Has.tail)) (by first | exact wr_sat _ _ _ | exact wr_cnt _ _ _ | exact wr_unit _ rfl _ _ | exact wr_num _ (numC_len _ _) _ _ | exact wr_minus _ _ _ | exact wr_w _ rfl _ _ | exact wr_hi _ _ _ | assumption) (by repeat (first | exact Upd.head _ _ _ _ _ | apply Upd.tail)) ?_; clear M2; intro w' M2)))
            replace M2 := M2.perm (bs' := [(g1, 28, [.bool false, .int .i64 0]), (g2, 28, [.bool false, .int .i64 0])]) (List.Perm.swap _ _ _)
            refine (sum_i64 g1 false 0 (by decide) zs HZ.out (by omega) a cap W _ [(g2, 28, [.bool false, .int .i64 0])] (fun wx cs M => HS1.out.below M.below) M2).mono ?_
            clear M2
            rintro e w3 ⟨rfl, M3⟩
            rw [← HP.out] at M3 ⊢
            rw [Bool.false_or] at M3
            go_wp2_with ((with_reducible refine (?_ : Go.wpList _ _ _ (_ :: _) _ _)); (first | go_skip | (refine wpL_ld M3 rfl rfl rfl (by repeat (first | exact Has.head _ _ _ _ | apply Has.tail)) (by first | exact rd_sat _ _ | exact rd_cnt _ _ | exact rd_unit _ _ | exact rd_num _ _ | exact rd_minus _ _ | exact rd_w _ _ | exact rd_hi _ _ | exact rd_lo _ _ | assumption) ?_) | (refine wpL_ldg M3 rfl rfl rfl (by repeat (first | exact Has.head _ _ _ _ | apply Has.tail)) (by first | exact rd_sat _ _ | exact rd_cnt _ _ | exact rd_unit _ _ | exact rd_num _ _ | exact rd_minus _ _ | exact rd_w _ _ | exact rd_hi _ _ | exact rd_lo _ _ | assumption) ?_) | (refine wpN_1 rfl rfl rfl ?_) | (refine wpN_0 rfl rfl ?_) | (refine wpU_0 rfl rfl ?_) | (refine wpN_2 rfl rfl rfl rfl ?_) | (refine wpL_st M3 rfl rfl rfl rfl (by repeat (first | exact Has.head _ _ _ _ | apply Has.tail)) (by first | exact wr_sat _ _ _ | exact wr_cnt _ _ _ | exact wr_unit _ rfl _ _ | exact wr_num _ (numC_len _ _) _ _ | exact wr_minus _ _ _ | exact wr_w _ rfl _ _ | exact wr_hi _ _ _ | assumption) (by repeat (first | exact Upd.head _ _ _ _ _ | apply Upd.tail)) ?_; clear M3; intro w' M3)))
            replace M3 := M3.perm (bs' := [(g2, 28, [.bool false, .int .i64 0]), (g1, 28, [.bool P.2, .int .i64 (0 + zs.length)])]) (List.Perm.swap _ _ _)
            refine (dot_any g2 false 0 q mode (by decide) zs ys HZ.out HY.out (by omega) (by omega) a b cap cap2 W _ [(g1, 28, [.bool P.2, .int .i64 (0 + zs.length)])] (fun wx cs M => HS1.out.below M.below) (fun wx cs M => HS2.out.below M.below) M3).mono ?_
            clear M3
            rintro e w4 ⟨rfl, M4⟩
            rw [← HD.out] at M4 ⊢
            rw [Bool.false_or] at M4
            go_wp2_with ((with_reducible refine (?_ : Go.wpList _ _ _ (_ :: _) _ _)); (first | go_skip | (refine wpL_ld M4 rfl rfl rfl (by repeat (first | exact Has.head _ _ _ _ | apply Has.tail)) (by first | exact rd_sat _ _ | exact rd_cnt _ _ | exact rd_unit _ _ | exact rd_num _ _ | exact rd_minus _ _ | exact rd_w _ _ | exact rd_hi _ _ | exact rd_lo _ _ | assumption) ?_) | (refine wpL_ldg M4 rfl rfl rfl (by repeat (first | exact Has.head _ _ _ _ | apply Has.tail)) (by first | exact rd_sat _ _ | exact rd_cnt _ _ | exact rd_unit _ _ | exact rd_num _ _ | exact rd_minus _ _ | exact rd_w _ _ | exact rd_hi _ _ | exact rd_lo _ _ | assumption) ?_) | (refine wpN_1 rfl rfl rfl ?_) | (refine wpN_0 rfl rfl ?_) | (refine wpU_0 rfl rfl ?_) | (refine wpN_2 rfl rfl rfl rfl ?_) | (refine wpL_st M4 rfl rfl rfl rfl (by repeat (first | exact Has.head _ _ _ _ | apply Has.tail)) (by first | exact wr_sat _ _ _ | exact wr_cnt _ _ _ | exact wr_unit _ rfl _ _ | exact wr_num _ (numC_len _ _) _ _ | exact wr_minus _ _ _ | exact wr_w _ rfl _ _ | exact wr_hi _ _ _ | assumption) (by repeat (first | exact Upd.head _ _ _ _ _ | apply Upd.tail)) ?_; clear M4; intro w' M4)))
            have C9 := C8.out
            have K := clamp_i64 x lo hi
            by_cases c1 : hi < x
            · have d1 : decide (hi < x) = true := decide_eq_true c1
              by_cases c2 : hi < lo
              · have d2 : decide (hi < lo) = true := decide_eq_true c2
                rw [show max (min x hi) lo = lo by omega] at K
                have b5 : (lo == lo) = true := by simp
                clear c1 c2
                (refine (K _).mono ?_; rintro e w2 ⟨rfl, hBl⟩; replace M4 := M4.call hBl; clear hBl K)
                go_wp2_with ((with_reducible refine (?_ : Go.wpList _ _ _ (_ :: _) _ _)); (first | go_skip | (refine wpL_ld M4 rfl rfl rfl (by repeat (first | exact Has.head _ _ _ _ | apply Has.tail)) (by first | exact rd_sat _ _ | exact rd_cnt _ _ | exact rd_unit _ _ | exact rd_num _ _ | exact rd_minus _ _ | exact rd_w _ _ | exact rd_hi _ _ | exact rd_lo _ _ | assumption) ?_) | (refine wpL_ldg M4 rfl rfl rfl (by repeat (first | exact Has.head _ _ _ _ | apply Has.tail)) (by first | exact rd_sat _ _ | exact rd_cnt _ _ | exact rd_unit _ _ | exact rd_num _ _ | exact rd_minus _ _ | exact rd_w _ _ | exact rd_hi _ _ | exact rd_lo _ _ | assumption) ?_) | (refine wpN_1 rfl rfl rfl ?_) | (refine wpN_0 rfl rfl ?_) | (refine wpU_0 rfl rfl ?_) | (refine wpN_2 rfl rfl rfl rfl ?_) | (refine wpL_st M4 rfl rfl rfl rfl (by repeat (first | exact Has.head _ _ _ _ | apply Has.tail)) (by first | exact wr_sat _ _ _ | exact wr_cnt _ _ _ | exact wr_unit _ rfl _ _ | exact wr_num _ (numC_len _ _) _ _ | exact wr_minus _ _ _ | exact wr_w _ rfl _ _ | exact wr_hi _ _ _ | assumption) (by repeat (first | exact Upd.head _ _ _ _ _ | apply Upd.tail)) ?_; clear M4; intro w' M4)))
                (refine (C9 _).mono ?_; rintro e w2 ⟨rfl, hBl⟩; replace M4 := M4.call hBl; clear hBl C9)
                go_wp2_with ((with_reducible refine (?_ : Go.wpList _ _ _ (_ :: _) _ _)); (first | go_skip | (refine wpL_ld M4 rfl rfl rfl (by repeat (first | exact Has.head _ _ _ _ | apply Has.tail)) (by first | exact rd_sat _ _ | exact rd_cnt _ _ | exact rd_unit _ _ | exact rd_num _ _ | exact rd_minus _ _ | exact rd_w _ _ | exact rd_hi _ _ | exact rd_lo _ _ | assumption) ?_) | (refine wpL_ldg M4 rfl rfl rfl (by repeat (first | exact Has.head _ _ _ _ | apply Has.tail)) (by first | exact rd_sat _ _ | exact rd_cnt _ _ | exact rd_unit _ _ | exact rd_num _ _ | exact rd_minus _ _ | exact rd_w _ _ | exact rd_hi _ _ | exact rd_lo _ _ | assumption) ?_) | (refine wpN_1 rfl rfl rfl ?_) | (refine wpN_0 rfl rfl ?_) | (refine wpU_0 rfl rfl ?_) | (refine wpN_2 rfl rfl rfl rfl ?_) | (refine wpL_st M4 rfl rfl rfl rfl (by repeat (first | exact Has.head _ _ _ _ | apply Has.tail)) (by first | exact wr_sat _ _ _ | exact wr_cnt _ _ _ | exact wr_unit _ rfl _ _ | exact wr_num _ (numC_len _ _) _ _ | exact wr_minus _ _ _ | exact wr_w _ rfl _ _ | exact wr_hi _ _ _ | assumption) (by repeat (first | exact Upd.head _ _ _ _ _ | apply Upd.tail)) ?_; clear M4; intro w' M4)))
                go_ret
                exact ⟨rfl, M4.below⟩
              · have d2 : decide (hi < lo) = false := decide_eq_false c2
                rw [show max (min x hi) lo = hi by omega] at K
                have b5 : (hi == hi) = true := by simp
                clear c1 c2
                (refine (K _).mono ?_; rintro e w2 ⟨rfl, hBl⟩; replace M4 := M4.call hBl; clear hBl K)
                go_wp2_with ((with_reducible refine (?_ : Go.wpList _ _ _ (_ :: _) _ _)); (first | go_skip | (refine wpL_ld M4 rfl rfl rfl (by repeat (first | exact Has.head _ _ _ _ | apply Has.tail)) (by first | exact rd_sat _ _ | exact rd_cnt _ _ | exact rd_unit _ _ | exact rd_num _ _ | exact rd_minus _ _ | exact rd_w _ _ | exact rd_hi _ _ | exact rd_lo _ _ | assumption) ?_) | (refine wpL_ldg M4 rfl rfl rfl (by repeat (first | exact Has.head _ _ _ _ | apply Has.tail)) (by first | exact rd_sat _ _ | exact rd_cnt _ _ | exact rd_unit _ _ | exact rd_num _ _ | exact rd_minus _ _ | exact rd_w _ _ | exact rd_hi _ _ | exact rd_lo _ _ | assumption) ?_) | (refine wpN_1 rfl rfl rfl ?_) | (refine wpN_0 rfl rfl ?_) | (refine wpU_0 rfl rfl ?_) | (refine wpN_2 rfl rfl rfl rfl ?_) | (refine wpL_st M4 rfl rfl rfl rfl (by repeat (first | exact Has.head _ _ _ _ | apply Has.tail)) (by first | exact wr_sat _ _ _ | exact wr_cnt _ _ _ | exact wr_unit _ rfl _ _ | exact wr_num _ (numC_len _ _) _ _ | exact wr_minus _ _ _ | exact wr_w _ rfl _ _ | exact wr_hi _ _ _ | assumption) (by repeat (first | exact Upd.head _ _ _ _ _ | apply Upd.tail)) ?_; clear M4; intro w' M4)))
                (refine (C9 _).mono ?_; rintro e w2 ⟨rfl, hBl⟩; replace M4 := M4.call hBl; clear hBl C9)
                go_wp2_with ((with_reducible refine (?_ : Go.wpList _ _ _ (_ :: _) _ _)); (first | go_skip | (refine wpL_ld M4 rfl rfl rfl (by repeat (first | exact Has.head _ _ _ _ | apply Has.tail)) (by first | exact rd_sat _ _ | exact rd_cnt _ _ | exact rd_unit _ _ | exact rd_num _ _ | exact rd_minus _ _ | exact rd_w _ _ | exact rd_hi _ _ | exact rd_lo _ _ | assumption) ?_) | (refine wpL_ldg M4 rfl rfl rfl (by repeat (first | exact Has.head _ _ _ _ | apply Has.tail)) (by first | exact rd_sat _ _ | exact rd_cnt _ _ | exact rd_unit _ _ | exact rd_num _ _ | exact rd_minus _ _ | exact rd_w _ _ | exact rd_hi _ _ | exact rd_lo _ _ | assumption) ?_) | (refine wpN_1 rfl rfl rfl ?_) | (refine wpN_0 rfl rfl ?_) | (refine wpU_0 rfl rfl ?_) | (refine wpN_2 rfl rfl rfl rfl ?_) | (refine wpL_st M4 rfl rfl rfl rfl (by repeat (first | exact Has.head _ _ _ _ | apply Has.tail)) (by first | exact wr_sat _ _ _ | exact wr_cnt _ _ _ | exact wr_unit _ rfl _ _ | exact wr_num _ (numC_len _ _) _ _ | exact wr_minus _ _ _ | exact wr_w _ rfl _ _ | exact wr_hi _ _ _ | assumption) (by repeat (first | exact Upd.head _ _ _ _ _ | apply Upd.tail)) ?_; clear M4; intro w' M4)))
                go_ret
                exact ⟨rfl, M4.below⟩
            · have d1 : decide (hi < x) = false := decide_eq_false c1
              by_cases c2 : x < lo
              · have d2 : decide (x < lo) = true := decide_eq_true c2
                rw [show max (min x hi) lo = lo by omega] at K
                have b5 : (lo == lo) = true := by simp
                clear c1 c2
                (refine (K _).mono ?_; rintro e w2 ⟨rfl, hBl⟩; replace M4 := M4.call hBl; clear hBl K)
                go_wp2_with ((with_reducible refine (?_ : Go.wpList _ _ _ (_ :: _) _ _)); (first | go_skip | (refine wpL_ld M4 rfl rfl rfl (by repeat (first | exact Has.head _ _ _ _ | apply Has.tail)) (by first | exact rd_sat _ _ | exact rd_cnt _ _ | exact rd_unit _ _ | exact rd_num _ _ | exact rd_minus _ _ | exact rd_w _ _ | exact rd_hi _ _ | exact rd_lo _ _ | assumption) ?_) | (refine wpL_ldg M4 rfl rfl rfl (by repeat (first | exact Has.head _ _ _ _ | apply Has.tail)) (by first | exact rd_sat _ _ | exact rd_cnt _ _ | exact rd_unit _ _ | exact rd_num _ _ | exact rd_minus _ _ | exact rd_w _ _ | exact rd_hi _ _ | exact rd_lo _ _ | assumption) ?_) | (refine wpN_1 rfl rfl rfl ?_) | (refine wpN_0 rfl rfl ?_) | (refine wpU_0 rfl rfl ?_) | (refine wpN_2 rfl rfl rfl rfl ?_) | (refine wpL_st M4 rfl rfl rfl rfl (by repeat (first | exact Has.head _ _ _ _ | apply Has.tail)) (by first | exact wr_sat _ _ _ | exact wr_cnt _ _ _ | exact wr_unit _ rfl _ _ | exact wr_num _ (numC_len _ _) _ _ | exact wr_minus _ _ _ | exact wr_w _ rfl _ _ | exact wr_hi _ _ _ | assumption) (by repeat (first | exact Upd.head _ _ _ _ _ | apply Upd.tail)) ?_; clear M4; intro w' M4)))
                (refine (C9 _).mono ?_; rintro e w2 ⟨rfl, hBl⟩; replace M4 := M4.call hBl; clear hBl C9)
                go_wp2_with ((with_reducible refine (?_ : Go.wpList _ _ _ (_ :: _) _ _)); (first | go_skip | (refine wpL_ld M4 rfl rfl rfl (by repeat (first | exact Has.head _ _ _ _ | apply Has.tail)) (by first | exact rd_sat _ _ | exact rd_cnt _ _ | exact rd_unit _ _ | exact rd_num _ _ | exact rd_minus _ _ | exact rd_w _ _ | exact rd_hi _ _ | exact rd_lo _ _ | assumption) ?_) | (refine wpL_ldg M4 rfl rfl rfl (by repeat (first | exact Has.head _ _ _ _ | apply Has.tail)) (by first | exact rd_sat _ _ | exact rd_cnt _ _ | exact rd_unit _ _ | exact rd_num _ _ | exact rd_minus _ _ | exact rd_w _ _ | exact rd_hi _ _ | exact rd_lo _ _ | assumption) ?_) | (refine wpN_1 rfl rfl rfl ?_) | (refine wpN_0 rfl rfl ?_) | (refine wpU_0 rfl rfl ?_) | (refine wpN_2 rfl rfl rfl rfl ?_) | (refine wpL_st M4 rfl rfl rfl rfl (by repeat (first | exact Has.head _ _ _ _ | apply Has.tail)) (by first | exact wr_sat _ _ _ | exact wr_cnt _ _ _ | exact wr_unit _ rfl _ _ | exact wr_num _ (numC_len _ _) _ _ | exact wr_minus _ _ _ | exact wr_w _ rfl _ _ | exact wr_hi _ _ _ | assumption) (by repeat (first | exact Upd.head _ _ _ _ _ | apply Upd.tail)) ?_; clear M4; intro w' M4)))
                go_ret
                exact ⟨rfl, M4.below⟩
              · have d2 : decide (x < lo) = false := decide_eq_false c2
                rw [show max (min x hi) lo = x by omega] at K
                have b5 : (x == x) = true := by simp
                clear c1 c2
                (refine (K _).mono ?_; rintro e w2 ⟨rfl, hBl⟩; replace M4 := M4.call hBl; clear hBl K)
                go_wp2_with ((with_reducible refine (?_ : Go.wpList _ _ _ (_ :: _) _ _)); (first | go_skip | (refine wpL_ld M4 rfl rfl rfl (by repeat (first | exact Has.head _ _ _ _ | apply Has.tail)) (by first | exact rd_sat _ _ | exact rd_cnt _ _ | exact rd_unit _ _ | exact rd_num _ _ | exact rd_minus _ _ | exact rd_w _ _ | exact rd_hi _ _ | exact rd_lo _ _ | assumption) ?_) | (refine wpL_ldg M4 rfl rfl rfl (by repeat (first | exact Has.head _ _ _ _ | apply Has.tail)) (by first | exact rd_sat _ _ | exact rd_cnt _ _ | exact rd_unit _ _ | exact rd_num _ _ | exact rd_minus _ _ | exact rd_w _ _ | exact rd_hi _ _ | exact rd_lo _ _ | assumption) ?_) | (refine wpN_1 rfl rfl rfl ?_) | (refine wpN_0 rfl rfl ?_) | (refine wpU_0 rfl rfl ?_) | (refine wpN_2 rfl rfl rfl rfl ?_) | (refine wpL_st M4 rfl rfl rfl rfl (by repeat (first | exact Has.head _ _ _ _ | apply Has.tail)) (by first | exact wr_sat _ _ _ | exact wr_cnt _ _ _ | exact wr_unit _ rfl _ _ | exact wr_num _ (numC_len _ _) _ _ | exact wr_minus _ _ _ | exact wr_w _ rfl _ _ | exact wr_hi _ _ _ | assumption) (by repeat (first | exact Upd.head _ _ _ _ _ | apply Upd.tail)) ?_; clear M4; intro w' M4)))
                (refine (C9 _).mono ?_; rintro e w2 ⟨rfl, hBl⟩; replace M4 := M4.call hBl; clear hBl C9)
                go_wp2_with ((with_reducible refine (?_ : Go.wpList _ _ _ (_ :: _) _ _)); (first | go_skip | (refine wpL_ld M4 rfl rfl rfl (by repeat (first | exact Has.head _ _ _ _ | apply Has.tail)) (by first | exact rd_sat _ _ | exact rd_cnt _ _ | exact rd_unit _ _ | exact rd_num _ _ | exact rd_minus _ _ | exact rd_w _ _ | exact rd_hi _ _ | exact rd_lo _ _ | assumption) ?_) | (refine wpL_ldg M4 rfl rfl rfl (by repeat (first | exact Has.head _ _ _ _ | apply Has.tail)) (by first | exact rd_sat _ _ | exact rd_cnt _ _ | exact rd_unit _ _ | exact rd_num _ _ | exact rd_minus _ _ | exact rd_w _ _ | exact rd_hi _ _ | exact rd_lo _ _ | assumption) ?_) | (refine wpN_1 rfl rfl rfl ?_) | (refine wpN_0 rfl rfl ?_) | (refine wpU_0 rfl rfl ?_) | (refine wpN_2 rfl rfl rfl rfl ?_) | (refine wpL_st M4 rfl rfl rfl rfl (by repeat (first | exact Has.head _ _ _ _ | apply Has.tail)) (by first | exact wr_sat _ _ _ | exact wr_cnt _ _ _ | exact wr_unit _ rfl _ _ | exact wr_num _ (numC_len _ _) _ _ | exact wr_minus _ _ _ | exact wr_w _ rfl _ _ | exact wr_hi _ _ _ | assumption) (by repeat (first | exact Upd.head _ _ _ _ _ | apply Upd.tail)) ?_; clear M4; intro w' M4)))
                go_ret
                exact ⟨rfl, M4.below⟩
          · clear hlt
            go_wp2_with ((with_reducible refine (?_ : Go.wpList _ _ _ (_ :: _) _ _)); (first | go_skip | (refine wpL_ld M2 rfl rfl rfl (by repeat (first | exact Has.head _ _ _ _ | apply Has.tail)) (by first | exact rd_sat _ _ | exact rd_cnt _ _ | exact rd_unit _ _ | exact rd_num _ _ | exact rd_minus _ _ | exact rd_w _ _ | exact rd_hi _ _ | exact rd_lo _ _ | assumption) ?_) | (refine wpL_ldg M2 rfl rfl rfl (by repeat (first | exact Has.head _ _ _ _ | apply Has.tail)) (by first | exact rd_sat _ _ | exact rd_cnt _ _ | exact rd_unit _ _ | exact rd_num _ _ | exact rd_minus _ _ | exact rd_w _ _ | exact rd_hi _ _ | exact rd_lo _ _ | assumption) ?_) | (refine wpN_1 rfl rfl rfl ?_) | (refine wpN_0 rfl rfl ?_) | (refine wpU_0 rfl rfl ?_) | (refine wpN_2 rfl rfl rfl rfl ?_) | (refine wpL_st M2 rfl rfl rfl rfl (by repeat (first | exact Has.head _ _ _ _ | apply Has.tail)) (by first | exact wr_sat _ _ _ | exact wr_cnt _ _ _ | exact wr_unit _ rfl _ _ | exact wr_num _ (numC_len _ _) _ _ | exact wr_minus _ _ _ | exact wr_w _ rfl _ _ | exact wr_hi _ _ _ | assumption) (by repeat (first | exact Upd.head _ _ _ _ _ | apply Upd.tail)) ?_; clear M2; intro w' M2)))
            replace M2 := M2.perm (bs' := [(g1, 28, [.bool false, .int .i64 0]), (g2, 28, [.bool false, .int .i64 0])]) (List.Perm.swap _ _ _)
            refine (sum_i64 g1 false 0 (by decide) zs HZ.out (by omega) a cap W _ [(g2, 28, [.bool false, .int .i64 0])] (fun wx cs M => HS1.out.below M.below) M2).mono ?_
            clear M2
            rintro e w3 ⟨rfl, M3⟩
            rw [← HP.out] at M3 ⊢
            rw [Bool.false_or] at M3
            go_wp2_with ((with_reducible refine (?_ : Go.wpList _ _ _ (_ :: _) _ _)); (first | go_skip | (refine wpL_ld M3 rfl rfl rfl (by repeat (first | exact Has.head _ _ _ _ | apply Has.tail)) (by first | exact rd_sat _ _ | exact rd_cnt _ _ | exact rd_unit _ _ | exact rd_num _ _ | exact rd_minus _ _ | exact rd_w _ _ | exact rd_hi _ _ | exact rd_lo _ _ | assumption) ?_) | (refine wpL_ldg M3 rfl rfl rfl (by repeat (first | exact Has.head _ _ _ _ | apply Has.tail)) (by first | exact rd_sat _ _ | exact rd_cnt _ _ | exact rd_unit _ _ | exact rd_num _ _ | exact rd_minus _ _ | exact rd_w _ _ | exact rd_hi _ _ | exact rd_lo _ _ | assumption) ?_) | (refine wpN_1 rfl rfl rfl ?_) | (refine wpN_0 rfl rfl ?_) | (refine wpU_0 rfl rfl ?_) | (refine wpN_2 rfl rfl rfl rfl ?_) | (refine wpL_st M3 rfl rfl rfl rfl (by repeat (first | exact Has.head _ _ _ _ | apply Has.tail)) (by first | exact wr_sat _ _ _ | exact wr_cnt _ _ _ | exact wr_unit _ rfl _ _ | exact wr_num _ (numC_len _ _) _ _ | exact wr_minus _ _ _ | exact wr_w _ rfl _ _ | exact wr_hi _ _ _ | assumption) (by repeat (first | exact Upd.head _ _ _ _ _ | apply Upd.tail)) ?_; clear M3; intro w' M3)))
            replace M3 := M3.perm (bs' := [(g2, 28, [.bool false, .int .i64 0]), (g1, 28, [.bool P.2, .int .i64 (0 + zs.length)])]) (List.Perm.swap _ _ _)
            refine (dot_any g2 false 0 q mode (by decide) zs ys HZ.out HY.out (by omega) (by omega) a b cap cap2 W _ [(g1, 28, [.bool P.2, .int .i64 (0 + zs.length)])] (fun wx cs M => HS1.out.below M.below) (fun wx cs M => HS2.out.below M.below) M3).mono ?_
            clear M3
            rintro e w4 ⟨rfl, M4⟩
            rw [← HD.out] at M4 ⊢
            rw [Bool.false_or] at M4
            go_wp2_with ((with_reducible refine (?_ : Go.wpList _ _ _ (_ :: _) _ _)); (first | go_skip | (refine wpL_ld M4 rfl rfl rfl (by repeat (first | exact Has.head _ _ _ _ | apply Has.tail)) (by first | exact rd_sat _ _ | exact rd_cnt _ _ | exact rd_unit _ _ | exact rd_num _ _ | exact rd_minus _ _ | exact rd_w _ _ | exact rd_hi _ _ | exact rd_lo _ _ | assumption) ?_) | (refine wpL_ldg M4 rfl rfl rfl (by repeat (first | exact Has.head _ _ _ _ | apply Has.tail)) (by first | exact rd_sat _ _ | exact rd_cnt _ _ | exact rd_unit _ _ | exact rd_num _ _ | exact rd_minus _ _ | exact rd_w _ _ | exact rd_hi _ _ | exact rd_lo _ _ | assumption) ?_) | (refine wpN_1 rfl rfl rfl ?_) | (refine wpN_0 rfl rfl ?_) | (refine wpU_0 rfl rfl ?_) | (refine wpN_2 rfl rfl rfl rfl ?_) | (refine wpL_st M4 rfl rfl rfl rfl (by repeat (first | exact Has.head _ _ _ _ | apply Has.tail)) (by first | exact wr_sat _ _ _ | exact wr_cnt _ _ _ | exact wr_unit _ rfl _ _ | exact wr_num _ (numC_len _ _) _ _ | exact wr_minus _ _ _ | exact wr_w _ rfl _ _ | exact wr_hi _ _ _ | assumption) (by repeat (first | exact Upd.head _ _ _ _ _ | apply Upd.tail)) ?_; clear M4; intro w' M4)))
            have C9 := C8.out
            have K := clamp_i64 x lo hi
            by_cases c1 : hi < x
            · have d1 : decide (hi < x) = true := decide_eq_true c1
              by_cases c2 : hi < lo
              · have d2 : decide (hi < lo) = true := decide_eq_true c2
                rw [show max (min x hi) lo = lo by omega] at K
                have b5 : (lo == lo) = true := by simp
                clear c1 c2
                (refine (K _).mono ?_; rintro e w2 ⟨rfl, hBl⟩; replace M4 := M4.call hBl; clear hBl K)
                go_wp2_with ((with_reducible refine (?_ : Go.wpList _ _ _ (_ :: _) _ _)); (first | go_skip | (refine wpL_ld M4 rfl rfl rfl (by repeat (first | exact Has.head _ _ _ _ | apply Has.tail)) (by first | exact rd_sat _ _ | exact rd_cnt _ _ | exact rd_unit _ _ | exact rd_num _ _ | exact rd_minus _ _ | exact rd_w _ _ | exact rd_hi _ _ | exact rd_lo _ _ | assumption) ?_) | (refine wpL_ldg M4 rfl rfl rfl (by repeat (first | exact Has.head _ _ _ _ | apply Has.tail)) (by first | exact rd_sat _ _ | exact rd_cnt _ _ | exact rd_unit _ _ | exact rd_num _ _ | exact rd_minus _ _ | exact rd_w _ _ | exact rd_hi _ _ | exact rd_lo _ _ | assumption) ?_) | (refine wpN_1 rfl rfl rfl ?_) | (refine wpN_0 rfl rfl ?_) | (refine wpU_0 rfl rfl ?_) | (refine wpN_2 rfl rfl rfl rfl ?_) | (refine wpL_st M4 rfl rfl rfl rfl (by repeat (first | exact Has.head _ _ _ _ | apply Has.tail)) (by first | exact wr_sat _ _ _ | exact wr_cnt _ _ _ | exact wr_unit _ rfl _ _ | exact wr_num _ (numC_len _ _) _ _ | exact wr_minus _ _ _ | exact wr_w _ rfl _ _ | exact wr_hi _ _ _ | assumption) (by repeat (first | exact Upd.head _ _ _ _ _ | apply Upd.tail)) ?_; clear M4; intro w' M4)))
                (refine (C9 _).mono ?_; rintro e w2 ⟨rfl, hBl⟩; replace M4 := M4.call hBl; clear hBl C9)
                go_wp2_with ((with_reducible refine (?_ : Go.wpList _ _ _ (_ :: _) _ _)); (first | go_skip | (refine wpL_ld M4 rfl rfl rfl (by repeat (first | exact Has.head _ _ _ _ | apply Has.tail)) (by first | exact rd_sat _ _ | exact rd_cnt _ _ | exact rd_unit _ _ | exact rd_num _ _ | exact rd_minus _ _ | exact rd_w _ _ | exact rd_hi _ _ | exact rd_lo _ _ | assumption) ?_) | (refine wpL_ldg M4 rfl rfl rfl (by repeat (first | exact Has.head _ _ _ _ | apply Has.tail)) (by first | exact rd_sat _ _ | exact rd_cnt _ _ | exact rd_unit _ _ | exact rd_num _ _ | exact rd_minus _ _ | exact rd_w _ _ | exact rd_hi _ _ | exact rd_lo _ _ | assumption) ?_) | (refine wpN_1 rfl rfl rfl ?_) | (refine wpN_0 rfl rfl ?_) | (refine wpU_0 rfl rfl ?_) | (refine wpN_2 rfl rfl rfl rfl ?_) | (refine wpL_st M4 rfl rfl rfl rfl (by repeat (first | exact Has.head _ _ _ _ | apply Has.tail)) (by first | exact wr_sat _ _ _ | exact wr_cnt _ _ _ | exact wr_unit _ rfl _ _ | exact wr_num _ (numC_len _ _) _ _ | exact wr_minus _ _ _ | exact wr_w _ rfl _ _ | exact wr_hi _ _ _ | assumption) (by repeat (first | exact Upd.head _ _ _ _ _ | apply Upd.tail)) ?_; clear M4; intro w' M4)))
                go_ret
                exact ⟨rfl, M4.below⟩
              · have d2 : decide (hi < lo) = false := decide_eq_false c2
                rw [show max (min x hi) lo = hi by omega] at K
                have b5 : (hi == hi) = true := by simp
                clear c1 c2
                (refine (K _).mono ?_; rintro e w2 ⟨rfl, hBl⟩; replace M4 := M4.call hBl; clear hBl K)
                go_wp2_with ((with_reducible refine (?_ : Go.wpList _ _ _ (_ :: _) _ _)); (first | go_skip | (refine wpL_ld M4 rfl rfl rfl (by repeat (first | exact Has.head _ _ _ _ | apply Has.tail)) (by first | exact rd_sat _ _ | exact rd_cnt _ _ | exact rd_unit _ _ | exact rd_num _ _ | exact rd_minus _ _ | exact rd_w _ _ | exact rd_hi _ _ | exact rd_lo _ _ | assumption) ?_) | (refine wpL_ldg M4 rfl rfl rfl (by repeat (first | exact Has.head _ _ _ _ | apply Has.tail)) (by first | exact rd_sat _ _ | exact rd_cnt _ _ | exact rd_unit _ _ | exact rd_num _ _ | exact rd_minus _ _ | exact rd_w _ _ | exact rd_hi _ _ | exact rd_lo _ _ | assumption) ?_) | (refine wpN_1 rfl rfl rfl ?_) | (refine wpN_0 rfl rfl ?_) | (refine wpU_0 rfl rfl ?_) | (refine wpN_2 rfl rfl rfl rfl ?_) | (refine wpL_st M4 rfl rfl rfl rfl (by repeat (first | exact Has.head _ _ _ _ | apply Has.tail)) (by first | exact wr_sat _ _ _ | exact wr_cnt _ _ _ | exact wr_unit _ rfl _ _ | exact wr_num _ (numC_len _ _) _ _ | exact wr_minus _ _ _ | exact wr_w _ rfl _ _ | exact wr_hi _ _ _ | assumption) (by repeat (first | exact Upd.head _ _ _ _ _ | apply Upd.tail)) ?_; clear M4; intro w' M4)))
                (refine (C9 _).mono ?_; rintro e w2 ⟨rfl, hBl⟩; replace M4 := M4.call hBl; clear hBl C9)
                go_wp2_with ((with_reducible refine (?_ : Go.wpList _ _ _ (_ :: _) _ _)); (first | go_skip | (refine wpL_ld M4 rfl rfl rfl (by repeat (first | exact Has.head _ _ _ _ | apply Has.tail)) (by first | exact rd_sat _ _ | exact rd_cnt _ _ | exact rd_unit _ _ | exact rd_num _ _ | exact rd_minus _ _ | exact rd_w _ _ | exact rd_hi _ _ | exact rd_lo _ _ | assumption) ?_) | (refine wpL_ldg M4 rfl rfl rfl (by repeat (first | exact Has.head _ _ _ _ | apply Has.tail)) (by first | exact rd_sat _ _ | exact rd_cnt _ _ | exact rd_unit _ _ | exact rd_num _ _ | exact rd_minus _ _ | exact rd_w _ _ | exact rd_hi _ _ | exact rd_lo _ _ | assumption) ?_) | (refine wpN_1 rfl rfl rfl ?_) | (refine wpN_0 rfl rfl ?_) | (refine wpU_0 rfl rfl ?_) | (refine wpN_2 rfl rfl rfl rfl ?_) | (refine wpL_st M4 rfl rfl rfl rfl (by repeat (first | exact Has.head _ _ _ _ | apply Has.tail)) (by first | exact wr_sat _ _ _ | exact wr_cnt _ _ _ | exact wr_unit _ rfl _ _ | exact wr_num _ (numC_len _ _) _ _ | exact wr_minus _ _ _ | exact wr_w _ rfl _ _ | exact wr_hi _ _ _ | assumption) (by repeat (first | exact Upd.head _ _ _ _ _ | apply Upd.tail)) ?_; clear M4; intro w' M4)))
                go_ret
                exact ⟨rfl, M4.below⟩
            · have d1 : decide (hi < x) = false := decide_eq_false c1
              by_cases c2 : x < lo
              · have d2 : decide (x < lo) = true := decide_eq_true c2
                rw [show max (min x hi) lo = lo by omega] at K
                have b5 : (lo == lo) = true := by simp
                clear c1 c2
                (refine (K _).mono ?_; rintro e w2 ⟨rfl, hBl⟩; replace M4 := M4.call hBl; clear hBl K)
                go_wp2_with ((with_reducible refine (?_ : Go.wpList _ _ _ (_ :: _) _ _)); (first | go_skip | (refine wpL_ld M4 rfl rfl rfl (by repeat (first | exact Has.head _ _ _ _ | apply Has.tail)) (by first | exact rd_sat _ _ | exact rd_cnt _ _ | exact rd_unit _ _ | exact rd_num _ _ | exact rd_minus _ _ | exact rd_w _ _ | exact rd_hi _ _ | exact rd_lo _ _ | assumption) ?_) | (refine wpL_ldg M4 rfl rfl rfl (by repeat (first | exact Has.head _ _ _ _ | apply Has.tail)) (by first | exact rd_sat _ _ | exact rd_cnt _ _ | exact rd_unit _ _ | exact rd_num _ _ | exact rd_minus _ _ | exact rd_w _ _ | exact rd_hi _ _ | exact rd_lo _ _ | assumption) ?_) | (refine wpN_1 rfl rfl rfl ?_) | (refine wpN_0 rfl rfl ?_) | (refine wpU_0 rfl rfl ?_) | (refine wpN_2 rfl rfl rfl rfl ?_) | (refine wpL_st M4 rfl rfl rfl rfl (by repeat (first | exact Has.head _ _ _ _ | apply Has.tail)) (by first | exact wr_sat _ _ _ | exact wr_cnt _ _ _ | exact wr_unit _ rfl _ _ | exact wr_num _ (numC_len _ _) _ _ | exact wr_minus _ _ _ | exact wr_w _ rfl _ _ | exact wr_hi _ _ _ | assumption) (by repeat (first | exact Upd.head _ _ _ _ _ | apply Upd.tail)) ?_; clear M4; intro w' M4)))
                (refine (C9 _).mono ?_; rintro e w2 ⟨rfl, hBl⟩; replace M4 := M4.call hBl; clear hBl C9)
                go_wp2_with ((with_reducible refine (?_ : Go.wpList _ _ _ (_ :: _) _ _)); (first | go_skip | (refine wpL_ld M4 rfl rfl rfl (by repeat (first | exact Has.head _ _ _ _ | apply Has.tail)) (by first | exact rd_sat _ _ | exact rd_cnt _ _ | exact rd_unit _ _ | exact rd_num _ _ | exact rd_minus _ _ | exact rd_w _ _ | exact rd_hi _ _ | exact rd_lo _ _ | assumption) ?_) | (refine wpL_ldg M4 rfl rfl rfl (by repeat (first | exact Has.head _ _ _ _ | apply Has.tail)) (by first | exact rd_sat _ _ | exact rd_cnt _ _ | exact rd_unit _ _ | exact rd_num _ _ | exact rd_minus _ _ | exact rd_w _ _ | exact rd_hi _ _ | exact rd_lo _ _ | assumption) ?_) | (refine wpN_1 rfl rfl rfl ?_) | (refine wpN_0 rfl rfl ?_) | (refine wpU_0 rfl rfl ?_) | (refine wpN_2 rfl rfl rfl rfl ?_) | (refine wpL_st M4 rfl rfl rfl rfl (by repeat (first | exact Has.head _ _ _ _ | apply Has.tail)) (by first | exact wr_sat _ _ _ | exact wr_cnt _ _ _ | exact wr_unit _ rfl _ _ | exact wr_num _ (numC_len _ _) _ _ | exact wr_minus _ _ _ | exact wr_w _ rfl _ _ | exact wr_hi _ _ _ | assumption) (by repeat (first | exact Upd.head _ _ _ _ _ | apply Upd.tail)) ?_; clear M4; intro w' M4)))
                go_ret
                exact ⟨rfl, M4.below⟩
              · have d2 : decide (x < lo) = false := decide_eq_false c2
                rw [show max (min x hi) lo = x by omega] at K
                have b5 : (x == x) = true := by simp
                clear c1 c2
                (refine (K _).mono ?_; rintro e w2 ⟨rfl, hBl⟩; replace M4 := M4.call hBl; clear hBl K)
                go_wp2_with ((with_reducible refine (?_ : Go.wpList _ _ _ (_ :: _) _ _)); (first | go_skip | (refine wpL_ld M4 rfl rfl rfl (by repeat (first | exact Has.head _ _ _ _ | apply Has.tail)) (by first | exact rd_sat _ _ | exact rd_cnt _ _ | exact rd_unit _ _ | exact rd_num _ _ | exact rd_minus _ _ | exact rd_w _ _ | exact rd_hi _ _ | exact rd_lo _ _ | assumption) ?_) | (refine wpL_ldg M4 rfl rfl rfl (by repeat (first | exact Has.head _ _ _ _ | apply Has.tail)) (by first | exact rd_sat _ _ | exact rd_cnt _ _ | exact rd_unit _ _ | exact rd_num _ _ | exact rd_minus _ _ | exact rd_w _ _ | exact rd_hi _ _ | exact rd_lo _ _ | assumption) ?_) | (refine wpN_1 rfl rfl rfl ?_) | (refine wpN_0 rfl rfl ?_) | (refine wpU_0 rfl rfl ?_) | (refine wpN_2 rfl rfl rfl rfl ?_) | (refine wpL_st M4 rfl rfl rfl rfl (by repeat (first | exact Has.head _ _ _ _ | apply Has.tail)) (by first | exact wr_sat _ _ _ | exact wr_cnt _ _ _ | exact wr_unit _ rfl _ _ | exact wr_num _ (numC_len _ _) _ _ | exact wr_minus _ _ _ | exact wr_w _ rfl _ _ | exact wr_hi _ _ _ | assumption) (by repeat (first | exact Upd.head _ _ _ _ _ | apply Upd.tail)) ?_; clear M4; intro w' M4)))
                (refine (C9 _).mono ?_; rintro e w2 ⟨rfl, hBl⟩; replace M4 := M4.call hBl; clear hBl C9)
                go_wp2_with ((with_reducible refine (?_ : Go.wpList _ _ _ (_ :: _) _ _)); (first | go_skip | (refine wpL_ld M4 rfl rfl rfl (by repeat (first | exact Has.head _ _ _ _ | apply Has.tail)) (by first | exact rd_sat _ _ | exact rd_cnt _ _ | exact rd_unit _ _ | exact rd_num _ _ | exact rd_minus _ _ | exact rd_w _ _ | exact rd_hi _ _ | exact rd_lo _ _ | assumption) ?_) | (refine wpL_ldg M4 rfl rfl rfl (by repeat (first | exact Has.head _ _ _ _ | apply Has.tail)) (by first | exact rd_sat _ _ | exact rd_cnt _ _ | exact rd_unit _ _ | exact rd_num _ _ | exact rd_minus _ _ | exact rd_w _ _ | exact rd_hi _ _ | exact rd_lo _ _ | assumption) ?_) | (refine wpN_1 rfl rfl rfl ?_) | (refine wpN_0 rfl rfl ?_) | (refine wpU_0 rfl rfl ?_) | (refine wpN_2 rfl rfl rfl rfl ?_) | (refine wpL_st M4 rfl rfl rfl rfl (by repeat (first | exact Has.head _ _ _ _ | apply Has.tail)) (by first | exact wr_sat _ _ _ | exact wr_cnt _ _ _ | exact wr_unit _ rfl _ _ | exact wr_num _ (numC_len _ _) _ _ | exact wr_minus _ _ _ | exact wr_w _ rfl _ _ | exact wr_hi _ _ _ | assumption) (by repeat (first | exact Upd.head _ _ _ _ _ | apply Upd.tail)) ?_; clear M4; intro w' M4)))
                go_ret
                exact ⟨rfl, M4.below⟩
theorem fxpRows_any (zs ys : List Int) (a b : Option Addr) (cap cap2 : Nat) (q mode x lo hi : Int) (W : World) (hz : ∀ z ∈ zs, In64 z) (hy : ∀ z ∈ ys, In64 z) (S1 : Sl W 1 (.slice a zs.length cap) zs.length (i64s zs)) (S2 : Sl W 1 (.slice b ys.length cap2) ys.length (i64s ys)) :
    Calls Try.prog 7 #[.slice a zs.length cap, .slice b ys.length cap2, .int .i64 q, .int .i64 mode, .int .i64 x, .int .i64 lo, .int .i64 hi] W fun e w' => e = .returned (.bool true) ∧ Below W.heap.size W w' := by
  by_cases hl : zs.length ≤ 60
  · by_cases hm : ys.length ≤ 60
    · exact fxpRows_short zs ys a b cap cap2 q mode x lo hi W hz hy S1 S2 hl hm
    · exact fxpRows_long2 zs ys a b cap cap2 q mode x lo hi W hl (by omega)
  · exact fxpRows_long1 zs ys a b cap cap2 q mode x lo hi W (by omega)
end Go.Proofs.Ytggmjdaolekgmaa
