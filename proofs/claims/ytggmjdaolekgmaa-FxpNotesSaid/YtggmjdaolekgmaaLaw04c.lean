/-
  The law of what is noted.
-/
import Derived.Test.YtggmjdaolekgmaaWorks04
import Derived.Test.YtggmjdaolekgmaaRef04C
import Derived.Test.YtggmjdaolekgmaaBytes
set_option linter.unusedVariables false
set_option linter.unusedSimpArgs false
namespace Go.Proofs.Ytggmjdaolekgmaa
open Go Go.RowKit Go.Th Go.Th.Wide

theorem u8s_cell (bs : List Nat) (i : Nat) (h : i < bs.length) : (u8s bs)[i]? = some (.int .u8 (bs[i] : Nat)) := by simp [u8s, h]
set_option maxRecDepth 20000 in
set_option maxHeartbeats 16000000 in
theorem fxpNotes_long (zs : List Int) (hz : ∀ z ∈ zs, In64 z) (bs : List Nat) (hb : ∀ x ∈ bs, x < 256) (a b : Option Addr) (cap cap2 : Nat) (q : Int) (W : World)
    (S1 : Sl W 1 (.slice a zs.length cap) zs.length (i64s zs)) (S2 : Sl W 1 (.slice b bs.length cap2) bs.length (u8s bs)) (hl : 100 < zs.length) :
    Calls Try.prog 6 #[.slice a zs.length cap, .slice b bs.length cap2, .int .i64 q] W fun e w' => e = .returned (.bool true) ∧ Below W.heap.size W w' := by
  have C8 := works_any
  have hl1 : decide (100 < (zs.length : Int)) = true := by rw [decide_eq_true_iff]; omega
  clear S1 S2 hz hb hl
  have M0 := Mem.start W
  go_enter Try.func6, Try.ntmps6
  go_wp2_with ((with_reducible refine (?_ : Go.wpList _ _ _ (_ :: _) _ _)); (first | go_skip | (refine wpL_ld M0 rfl rfl rfl (by repeat (first | exact Has.head _ _ _ _ | apply Has.tail)) (by first | exact rd_sat _ _ | exact rd_cnt _ _ | exact rd_unit _ _ | exact rd_num _ _ | exact rd_minus _ _ | exact rd_w _ _ | exact rd_hi _ _ | exact rd_lo _ _ | assumption) ?_) | (refine wpL_ldg M0 rfl rfl rfl (by repeat (first | exact Has.head _ _ _ _ | apply Has.tail)) (by first | exact rd_sat _ _ | exact rd_cnt _ _ | exact rd_unit _ _ | exact rd_num _ _ | exact rd_minus _ _ | exact rd_w _ _ | exact rd_hi _ _ | exact rd_lo _ _ | assumption) ?_) | (refine wpN_1 rfl rfl rfl ?_) | (refine wpN_0 rfl rfl ?_) | (refine wpU_0 rfl rfl ?_) | (refine wpN_2 rfl rfl rfl rfl ?_) | (refine wpL_st M0 rfl rfl rfl rfl (by repeat (first | exact Has.head _ _ _ _ | apply Has.tail)) (by first | exact wr_sat _ _ _ | exact wr_cnt _ _ _ | exact wr_unit _ rfl _ _ | exact wr_num _ (numC_len _ _) _ _ | exact wr_minus _ _ _ | exact wr_w _ rfl _ _ | exact wr_hi _ _ _ | assumption) (by repeat (first | exact Upd.head _ _ _ _ _ | apply Upd.tail)) ?_; clear M0; intro w' M0)))
  (refine (C8 _).mono ?_; rintro e w2 ⟨rfl, hBl⟩; replace M0 := M0.call hBl; clear hBl C8)
  go_wp2_with ((with_reducible refine (?_ : Go.wpList _ _ _ (_ :: _) _ _)); (first | go_skip | (refine wpL_ld M0 rfl rfl rfl (by repeat (first | exact Has.head _ _ _ _ | apply Has.tail)) (by first | exact rd_sat _ _ | exact rd_cnt _ _ | exact rd_unit _ _ | exact rd_num _ _ | exact rd_minus _ _ | exact rd_w _ _ | exact rd_hi _ _ | exact rd_lo _ _ | assumption) ?_) | (refine wpL_ldg M0 rfl rfl rfl (by repeat (first | exact Has.head _ _ _ _ | apply Has.tail)) (by first | exact rd_sat _ _ | exact rd_cnt _ _ | exact rd_unit _ _ | exact rd_num _ _ | exact rd_minus _ _ | exact rd_w _ _ | exact rd_hi _ _ | exact rd_lo _ _ | assumption) ?_) | (refine wpN_1 rfl rfl rfl ?_) | (refine wpN_0 rfl rfl ?_) | (refine wpU_0 rfl rfl ?_) | (refine wpN_2 rfl rfl rfl rfl ?_) | (refine wpL_st M0 rfl rfl rfl rfl (by repeat (first | exact Has.head _ _ _ _ | apply Has.tail)) (by first | exact wr_sat _ _ _ | exact wr_cnt _ _ _ | exact wr_unit _ rfl _ _ | exact wr_num _ (numC_len _ _) _ _ | exact wr_minus _ _ _ | exact wr_w _ rfl _ _ | exact wr_hi _ _ _ | assumption) (by repeat (first | exact Upd.head _ _ _ _ _ | apply Upd.tail)) ?_; clear M0; intro w' M0)))
  go_ret
  exact ⟨rfl, M0.below⟩
set_option maxRecDepth 20000 in
set_option maxHeartbeats 16000000 in
theorem fxpNotes_short (zs : List Int) (hz : ∀ z ∈ zs, In64 z) (bs : List Nat) (hb : ∀ x ∈ bs, x < 256) (a b : Option Addr) (cap cap2 : Nat) (q : Int) (W : World)
    (S1 : Sl W 1 (.slice a zs.length cap) zs.length (i64s zs)) (S2 : Sl W 1 (.slice b bs.length cap2) bs.length (u8s bs)) (hl : zs.length ≤ 100) (hn2 : bs.length ≤ 9223372036854775807) :
    Calls Try.prog 6 #[.slice a zs.length cap, .slice b bs.length cap2, .int .i64 q] W fun e w' => e = .returned (.bool true) ∧ Below W.heap.size W w' := by
  have C8 := Lib.hid works_any
  have hl1 : decide (100 < (zs.length : Int)) = false := by rw [decide_eq_false_iff_not]; omega
  have HZ := Lib.hid hz
  have HB := Lib.hid hb
  have HS1 := Lib.hid S1
  have HS2 := Lib.hid S2
  clear S1 S2 hz hb
  have M0 := Mem.start W
  go_enter Try.func6, Try.ntmps6
  go_wp2_with ((with_reducible refine (?_ : Go.wpList _ _ _ (_ :: _) _ _)); (first | go_skip | (refine wpL_ld M0 rfl rfl rfl (by repeat (first | exact Has.head _ _ _ _ | apply Has.tail)) (by first | exact rd_sat _ _ | exact rd_cnt _ _ | exact rd_unit _ _ | exact rd_num _ _ | exact rd_minus _ _ | exact rd_w _ _ | exact rd_hi _ _ | exact rd_lo _ _ | assumption) ?_) | (refine wpL_ldg M0 rfl rfl rfl (by repeat (first | exact Has.head _ _ _ _ | apply Has.tail)) (by first | exact rd_sat _ _ | exact rd_cnt _ _ | exact rd_unit _ _ | exact rd_num _ _ | exact rd_minus _ _ | exact rd_w _ _ | exact rd_hi _ _ | exact rd_lo _ _ | assumption) ?_) | (refine wpN_1 rfl rfl rfl ?_) | (refine wpN_0 rfl rfl ?_) | (refine wpU_0 rfl rfl ?_) | (refine wpN_2 rfl rfl rfl rfl ?_) | (refine wpL_st M0 rfl rfl rfl rfl (by repeat (first | exact Has.head _ _ _ _ | apply Has.tail)) (by first | exact wr_sat _ _ _ | exact wr_cnt _ _ _ | exact wr_unit _ rfl _ _ | exact wr_num _ (numC_len _ _) _ _ | exact wr_minus _ _ _ | exact wr_w _ rfl _ _ | exact wr_hi _ _ _ | assumption) (by repeat (first | exact Upd.head _ _ _ _ _ | apply Upd.tail)) ?_; clear M0; intro w' M0)))
  refine (one_any _ _ _ M0).mono ?_
  clear M0
  rintro e w1 ⟨g1, rfl, M1⟩
  go_wp2_with ((with_reducible refine (?_ : Go.wpList _ _ _ (_ :: _) _ _)); (first | go_skip | (refine wpL_ld M1 rfl rfl rfl (by repeat (first | exact Has.head _ _ _ _ | apply Has.tail)) (by first | exact rd_sat _ _ | exact rd_cnt _ _ | exact rd_unit _ _ | exact rd_num _ _ | exact rd_minus _ _ | exact rd_w _ _ | exact rd_hi _ _ | exact rd_lo _ _ | assumption) ?_) | (refine wpL_ldg M1 rfl rfl rfl (by repeat (first | exact Has.head _ _ _ _ | apply Has.tail)) (by first | exact rd_sat _ _ | exact rd_cnt _ _ | exact rd_unit _ _ | exact rd_num _ _ | exact rd_minus _ _ | exact rd_w _ _ | exact rd_hi _ _ | exact rd_lo _ _ | assumption) ?_) | (refine wpN_1 rfl rfl rfl ?_) | (refine wpN_0 rfl rfl ?_) | (refine wpU_0 rfl rfl ?_) | (refine wpN_2 rfl rfl rfl rfl ?_) | (refine wpL_st M1 rfl rfl rfl rfl (by repeat (first | exact Has.head _ _ _ _ | apply Has.tail)) (by first | exact wr_sat _ _ _ | exact wr_cnt _ _ _ | exact wr_unit _ rfl _ _ | exact wr_num _ (numC_len _ _) _ _ | exact wr_minus _ _ _ | exact wr_w _ rfl _ _ | exact wr_hi _ _ _ | assumption) (by repeat (first | exact Upd.head _ _ _ _ _ | apply Upd.tail)) ?_; clear M1; intro w' M1)))
  go_loopw [8, 9, 10] (fun at_ sat i wx => ∃ (k : Nat) (v : Int) (s : Bool), k ≤ zs.length ∧ i = .int .i64 k ∧ at_ = .int .i64 v ∧ sat = .bool s ∧ Hid (In64 v) ∧ Mem W wx [(g1, 28, [.bool s, .int .i64 k])]) (fun _ _ i _ => zs.length - (intOf i).toNat)
  case atStart => exact ⟨0, 1, false, by omega, rfl, rfl, rfl, Lib.hid ⟨by decide, by decide⟩, M1⟩
  case round =>
    clear M1
    obtain ⟨k, v, s, hk, rfl, rfl, rfl, hv, M1⟩ := hrel
    by_cases hlt : k < zs.length
    · have HA : Hid (∃ b0 o, a = some ⟨b0, o, none⟩ ∧ ∀ (wx : World) (cs : List (Nat × TypeId × List Value)), Mem W wx cs → wx.cell? ⟨b0, o + k, none⟩ = some (.int .i64 zs[k])) := by
        refine Lib.hid ?_
        obtain ⟨a', c', he, _, _, _, _, h5⟩ := HS1.out
        cases he
        obtain ⟨b0, o, ea, hc⟩ := h5 k _ (i64s_at zs k hlt)
        exact ⟨b0, o, ea, fun wx cs M => (M.below.cell (p := ⟨b0, o + k, none⟩) (World.block_lt_of_cell? W _ hc)).trans hc⟩
      have hx := HZ.out zs[k] (List.getElem_mem _)
      obtain ⟨x, hxe⟩ : ∃ x, x = zs[k] := ⟨_, rfl⟩
      rw [← hxe] at hx HA
      obtain ⟨b0, o0, rfl, hA⟩ := HA.out
      clear HA hxe
      have HX := Lib.hid hx
      have hA0 := hA _ _ M1
      have HA := Lib.hid hA
      clear hA hx
      have hi0 : (0 : Int) ≤ k := by omega
      have hi1 : (k : Int) < zs.length := by omega
      by_cases hkb : k < bs.length
      · have hB : ∃ b0 o, b = some ⟨b0, o, none⟩ ∧ wr.cell? ⟨b0, o + k, none⟩ = some (.int .u8 (bs[k] : Nat)) := by
          obtain ⟨a', c', he, _, _, _, _, h5⟩ := HS2.out
          cases he
          obtain ⟨b0, o, ea, hc⟩ := h5 k _ (u8s_cell bs k hkb)
          exact ⟨b0, o, ea, (M1.below.cell (p := ⟨b0, o + k, none⟩) (World.block_lt_of_cell? W _ hc)).trans hc⟩
        have hy := HB.out bs[k] (List.getElem_mem _)
        obtain ⟨y, hye⟩ : ∃ y, y = bs[k] := ⟨_, rfl⟩
        rw [← hye] at hy hB
        obtain ⟨b1, o1, rfl, hB0⟩ := hB
        clear hye
        have hj1 : (k : Int) < bs.length := by omega
        have h4 : y % 4 = 0 ∨ y % 4 = 1 ∨ y % 4 = 2 ∨ y % 4 = 3 := by omega
        rcases h4 with h4 | h4 | h4 | h4
        · have hq : ((y : Int) % 4) = 0 := by omega
          clear h4 hy
          have A1 := add4_any v x hv.out HX.out
          have U1 := uAdd g1 s k v x (by omega) hv.out HX.out
          have hv2 : Hid (In64 (cutV (v + x))) := Lib.hid (cutV_range _)
          obtain ⟨v2, hv2e⟩ : ∃ v2, v2 = cutV (v + x) := ⟨_, rfl⟩
          obtain ⟨s2, hs2e⟩ : ∃ s2, s2 = cutS (v + x) := ⟨_, rfl⟩
          rw [← hv2e] at A1 U1 hv2
          rw [← hs2e] at A1 U1
          clear hv2e hs2e hlt
          have b1 : (v2 != v2) = false := by simp
          have b2 : (s2 != s2) = false := by simp
          go_wp2_with ((with_reducible refine (?_ : Go.wpList _ _ _ (_ :: _) _ _)); (first | go_skip | (refine wpL_ld M1 rfl rfl rfl (by repeat (first | exact Has.head _ _ _ _ | apply Has.tail)) (by first | exact rd_sat _ _ | exact rd_cnt _ _ | exact rd_unit _ _ | exact rd_num _ _ | exact rd_minus _ _ | exact rd_w _ _ | exact rd_hi _ _ | exact rd_lo _ _ | assumption) ?_) | (refine wpL_ldg M1 rfl rfl rfl (by repeat (first | exact Has.head _ _ _ _ | apply Has.tail)) (by first | exact rd_sat _ _ | exact rd_cnt _ _ | exact rd_unit _ _ | exact rd_num _ _ | exact rd_minus _ _ | exact rd_w _ _ | exact rd_hi _ _ | exact rd_lo _ _ | assumption) ?_) | (refine wpN_1 rfl rfl rfl ?_) | (refine wpN_0 rfl rfl ?_) | (refine wpU_0 rfl rfl ?_) | (refine wpN_2 rfl rfl rfl rfl ?_) | (refine wpL_st M1 rfl rfl rfl rfl (by repeat (first | exact Has.head _ _ _ _ | apply Has.tail)) (by first | exact wr_sat _ _ _ | exact wr_cnt _ _ _ | exact wr_unit _ rfl _ _ | exact wr_num _ (numC_len _ _) _ _ | exact wr_minus _ _ _ | exact wr_w _ rfl _ _ | exact wr_hi _ _ _ | assumption) (by repeat (first | exact Upd.head _ _ _ _ _ | apply Upd.tail)) ?_; clear M1; intro w' M1)))
          (refine (A1 _).mono ?_; rintro e w2 ⟨rfl, hBl⟩; replace M1 := M1.call hBl; clear hBl A1)
          have hA1 := HA.out _ _ M1
          go_wp2_with ((with_reducible refine (?_ : Go.wpList _ _ _ (_ :: _) _ _)); (first | go_skip | (refine wpL_ld M1 rfl rfl rfl (by repeat (first | exact Has.head _ _ _ _ | apply Has.tail)) (by first | exact rd_sat _ _ | exact rd_cnt _ _ | exact rd_unit _ _ | exact rd_num _ _ | exact rd_minus _ _ | exact rd_w _ _ | exact rd_hi _ _ | exact rd_lo _ _ | assumption) ?_) | (refine wpL_ldg M1 rfl rfl rfl (by repeat (first | exact Has.head _ _ _ _ | apply Has.tail)) (by first | exact rd_sat _ _ | exact rd_cnt _ _ | exact rd_unit _ _ | exact rd_num _ _ | exact rd_minus _ _ | exact rd_w _ _ | exact rd_hi _ _ | exact rd_lo _ _ | assumption) ?_) | (refine wpN_1 rfl rfl rfl ?_) | (refine wpN_0 rfl rfl ?_) | (refine wpU_0 rfl rfl ?_) | (refine wpN_2 rfl rfl rfl rfl ?_) | (refine wpL_st M1 rfl rfl rfl rfl (by repeat (first | exact Has.head _ _ _ _ | apply Has.tail)) (by first | exact wr_sat _ _ _ | exact wr_cnt _ _ _ | exact wr_unit _ rfl _ _ | exact wr_num _ (numC_len _ _) _ _ | exact wr_minus _ _ _ | exact wr_w _ rfl _ _ | exact wr_hi _ _ _ | assumption) (by repeat (first | exact Upd.head _ _ _ _ _ | apply Upd.tail)) ?_; clear M1; intro w' M1)))
          (refine (U1 _ _ _ _ M1 (by repeat (first | exact Upd.head _ _ _ _ _ | apply Upd.tail))).mono ?_; clear M1; rintro e w2 ⟨rfl, M1⟩; clear U1)
          go_upto_region 25 with ((with_reducible refine (?_ : Go.wpList _ _ _ (_ :: _) _ _)); (first | go_skip | (refine wpL_ld M1 rfl rfl rfl (by repeat (first | exact Has.head _ _ _ _ | apply Has.tail)) (by first | exact rd_sat _ _ | exact rd_cnt _ _ | exact rd_unit _ _ | exact rd_num _ _ | exact rd_minus _ _ | exact rd_w _ _ | exact rd_hi _ _ | exact rd_lo _ _ | assumption) ?_) | (refine wpL_ldg M1 rfl rfl rfl (by repeat (first | exact Has.head _ _ _ _ | apply Has.tail)) (by first | exact rd_sat _ _ | exact rd_cnt _ _ | exact rd_unit _ _ | exact rd_num _ _ | exact rd_minus _ _ | exact rd_w _ _ | exact rd_hi _ _ | exact rd_lo _ _ | assumption) ?_) | (refine wpN_1 rfl rfl rfl ?_) | (refine wpN_0 rfl rfl ?_) | (refine wpU_0 rfl rfl ?_) | (refine wpN_2 rfl rfl rfl rfl ?_) | (refine wpL_st M1 rfl rfl rfl rfl (by repeat (first | exact Has.head _ _ _ _ | apply Has.tail)) (by first | exact wr_sat _ _ _ | exact wr_cnt _ _ _ | exact wr_unit _ rfl _ _ | exact wr_num _ (numC_len _ _) _ _ | exact wr_minus _ _ _ | exact wr_w _ rfl _ _ | exact wr_hi _ _ _ | assumption) (by repeat (first | exact Upd.head _ _ _ _ _ | apply Upd.tail)) ?_; clear M1; intro w' M1)))
          cases s
          · simp only [Bool.false_or] at M1
            go_wp2_with ((with_reducible refine (?_ : Go.wpList _ _ _ (_ :: _) _ _)); (first | go_skip | (refine wpL_ld M1 rfl rfl rfl (by repeat (first | exact Has.head _ _ _ _ | apply Has.tail)) (by first | exact rd_sat _ _ | exact rd_cnt _ _ | exact rd_unit _ _ | exact rd_num _ _ | exact rd_minus _ _ | exact rd_w _ _ | exact rd_hi _ _ | exact rd_lo _ _ | assumption) ?_) | (refine wpL_ldg M1 rfl rfl rfl (by repeat (first | exact Has.head _ _ _ _ | apply Has.tail)) (by first | exact rd_sat _ _ | exact rd_cnt _ _ | exact rd_unit _ _ | exact rd_num _ _ | exact rd_minus _ _ | exact rd_w _ _ | exact rd_hi _ _ | exact rd_lo _ _ | assumption) ?_) | (refine wpN_1 rfl rfl rfl ?_) | (refine wpN_0 rfl rfl ?_) | (refine wpU_0 rfl rfl ?_) | (refine wpN_2 rfl rfl rfl rfl ?_) | (refine wpL_st M1 rfl rfl rfl rfl (by repeat (first | exact Has.head _ _ _ _ | apply Has.tail)) (by first | exact wr_sat _ _ _ | exact wr_cnt _ _ _ | exact wr_unit _ rfl _ _ | exact wr_num _ (numC_len _ _) _ _ | exact wr_minus _ _ _ | exact wr_w _ rfl _ _ | exact wr_hi _ _ _ | assumption) (by repeat (first | exact Upd.head _ _ _ _ _ | apply Upd.tail)) ?_; clear M1; intro w' M1)))
            go_roundw
            case rel => exact ⟨k + 1, v2, s2, by omega, by go_num, rfl, rfl, hv2, M1⟩
            case measure => simp [intOf]; omega
          · simp only [Bool.true_or] at M1
            go_wp2_with ((with_reducible refine (?_ : Go.wpList _ _ _ (_ :: _) _ _)); (first | go_skip | (refine wpL_ld M1 rfl rfl rfl (by repeat (first | exact Has.head _ _ _ _ | apply Has.tail)) (by first | exact rd_sat _ _ | exact rd_cnt _ _ | exact rd_unit _ _ | exact rd_num _ _ | exact rd_minus _ _ | exact rd_w _ _ | exact rd_hi _ _ | exact rd_lo _ _ | assumption) ?_) | (refine wpL_ldg M1 rfl rfl rfl (by repeat (first | exact Has.head _ _ _ _ | apply Has.tail)) (by first | exact rd_sat _ _ | exact rd_cnt _ _ | exact rd_unit _ _ | exact rd_num _ _ | exact rd_minus _ _ | exact rd_w _ _ | exact rd_hi _ _ | exact rd_lo _ _ | assumption) ?_) | (refine wpN_1 rfl rfl rfl ?_) | (refine wpN_0 rfl rfl ?_) | (refine wpU_0 rfl rfl ?_) | (refine wpN_2 rfl rfl rfl rfl ?_) | (refine wpL_st M1 rfl rfl rfl rfl (by repeat (first | exact Has.head _ _ _ _ | apply Has.tail)) (by first | exact wr_sat _ _ _ | exact wr_cnt _ _ _ | exact wr_unit _ rfl _ _ | exact wr_num _ (numC_len _ _) _ _ | exact wr_minus _ _ _ | exact wr_w _ rfl _ _ | exact wr_hi _ _ _ | assumption) (by repeat (first | exact Upd.head _ _ _ _ _ | apply Upd.tail)) ?_; clear M1; intro w' M1)))
            go_roundw
            case rel => exact ⟨k + 1, v2, true, by omega, by go_num, rfl, rfl, hv2, M1⟩
            case measure => simp [intOf]; omega
        · have hq : ((y : Int) % 4) = 1 := by omega
          clear h4 hy
          have A1 := sub4_any v x hv.out HX.out
          have U1 := uSub g1 s k v x (by omega) hv.out HX.out
          have hv2 : Hid (In64 (cutV (v - x))) := Lib.hid (cutV_range _)
          obtain ⟨v2, hv2e⟩ : ∃ v2, v2 = cutV (v - x) := ⟨_, rfl⟩
          obtain ⟨s2, hs2e⟩ : ∃ s2, s2 = cutS (v - x) := ⟨_, rfl⟩
          rw [← hv2e] at A1 U1 hv2
          rw [← hs2e] at A1 U1
          clear hv2e hs2e hlt
          have b1 : (v2 != v2) = false := by simp
          have b2 : (s2 != s2) = false := by simp
          go_wp2_with ((with_reducible refine (?_ : Go.wpList _ _ _ (_ :: _) _ _)); (first | go_skip | (refine wpL_ld M1 rfl rfl rfl (by repeat (first | exact Has.head _ _ _ _ | apply Has.tail)) (by first | exact rd_sat _ _ | exact rd_cnt _ _ | exact rd_unit _ _ | exact rd_num _ _ | exact rd_minus _ _ | exact rd_w _ _ | exact rd_hi _ _ | exact rd_lo _ _ | assumption) ?_) | (refine wpL_ldg M1 rfl rfl rfl (by repeat (first | exact Has.head _ _ _ _ | apply Has.tail)) (by first | exact rd_sat _ _ | exact rd_cnt _ _ | exact rd_unit _ _ | exact rd_num _ _ | exact rd_minus _ _ | exact rd_w _ _ | exact rd_hi _ _ | exact rd_lo _ _ | assumption) ?_) | (refine wpN_1 rfl rfl rfl ?_) | (refine wpN_0 rfl rfl ?_) | (refine wpU_0 rfl rfl ?_) | (refine wpN_2 rfl rfl rfl rfl ?_) | (refine wpL_st M1 rfl rfl rfl rfl (by repeat (first | exact Has.head _ _ _ _ | apply Has.tail)) (by first | exact wr_sat _ _ _ | exact wr_cnt _ _ _ | exact wr_unit _ rfl _ _ | exact wr_num _ (numC_len _ _) _ _ | exact wr_minus _ _ _ | exact wr_w _ rfl _ _ | exact wr_hi _ _ _ | assumption) (by repeat (first | exact Upd.head _ _ _ _ _ | apply Upd.tail)) ?_; clear M1; intro w' M1)))
          (refine (A1 _).mono ?_; rintro e w2 ⟨rfl, hBl⟩; replace M1 := M1.call hBl; clear hBl A1)
          have hA1 := HA.out _ _ M1
          go_wp2_with ((with_reducible refine (?_ : Go.wpList _ _ _ (_ :: _) _ _)); (first | go_skip | (refine wpL_ld M1 rfl rfl rfl (by repeat (first | exact Has.head _ _ _ _ | apply Has.tail)) (by first | exact rd_sat _ _ | exact rd_cnt _ _ | exact rd_unit _ _ | exact rd_num _ _ | exact rd_minus _ _ | exact rd_w _ _ | exact rd_hi _ _ | exact rd_lo _ _ | assumption) ?_) | (refine wpL_ldg M1 rfl rfl rfl (by repeat (first | exact Has.head _ _ _ _ | apply Has.tail)) (by first | exact rd_sat _ _ | exact rd_cnt _ _ | exact rd_unit _ _ | exact rd_num _ _ | exact rd_minus _ _ | exact rd_w _ _ | exact rd_hi _ _ | exact rd_lo _ _ | assumption) ?_) | (refine wpN_1 rfl rfl rfl ?_) | (refine wpN_0 rfl rfl ?_) | (refine wpU_0 rfl rfl ?_) | (refine wpN_2 rfl rfl rfl rfl ?_) | (refine wpL_st M1 rfl rfl rfl rfl (by repeat (first | exact Has.head _ _ _ _ | apply Has.tail)) (by first | exact wr_sat _ _ _ | exact wr_cnt _ _ _ | exact wr_unit _ rfl _ _ | exact wr_num _ (numC_len _ _) _ _ | exact wr_minus _ _ _ | exact wr_w _ rfl _ _ | exact wr_hi _ _ _ | assumption) (by repeat (first | exact Upd.head _ _ _ _ _ | apply Upd.tail)) ?_; clear M1; intro w' M1)))
          (refine (U1 _ _ _ _ M1 (by repeat (first | exact Upd.head _ _ _ _ _ | apply Upd.tail))).mono ?_; clear M1; rintro e w2 ⟨rfl, M1⟩; clear U1)
          go_upto_region 25 with ((with_reducible refine (?_ : Go.wpList _ _ _ (_ :: _) _ _)); (first | go_skip | (refine wpL_ld M1 rfl rfl rfl (by repeat (first | exact Has.head _ _ _ _ | apply Has.tail)) (by first | exact rd_sat _ _ | exact rd_cnt _ _ | exact rd_unit _ _ | exact rd_num _ _ | exact rd_minus _ _ | exact rd_w _ _ | exact rd_hi _ _ | exact rd_lo _ _ | assumption) ?_) | (refine wpL_ldg M1 rfl rfl rfl (by repeat (first | exact Has.head _ _ _ _ | apply Has.tail)) (by first | exact rd_sat _ _ | exact rd_cnt _ _ | exact rd_unit _ _ | exact rd_num _ _ | exact rd_minus _ _ | exact rd_w _ _ | exact rd_hi _ _ | exact rd_lo _ _ | assumption) ?_) | (refine wpN_1 rfl rfl rfl ?_) | (refine wpN_0 rfl rfl ?_) | (refine wpU_0 rfl rfl ?_) | (refine wpN_2 rfl rfl rfl rfl ?_) | (refine wpL_st M1 rfl rfl rfl rfl (by repeat (first | exact Has.head _ _ _ _ | apply Has.tail)) (by first | exact wr_sat _ _ _ | exact wr_cnt _ _ _ | exact wr_unit _ rfl _ _ | exact wr_num _ (numC_len _ _) _ _ | exact wr_minus _ _ _ | exact wr_w _ rfl _ _ | exact wr_hi _ _ _ | assumption) (by repeat (first | exact Upd.head _ _ _ _ _ | apply Upd.tail)) ?_; clear M1; intro w' M1)))
          cases s
          · simp only [Bool.false_or] at M1
            go_wp2_with ((with_reducible refine (?_ : Go.wpList _ _ _ (_ :: _) _ _)); (first | go_skip | (refine wpL_ld M1 rfl rfl rfl (by repeat (first | exact Has.head _ _ _ _ | apply Has.tail)) (by first | exact rd_sat _ _ | exact rd_cnt _ _ | exact rd_unit _ _ | exact rd_num _ _ | exact rd_minus _ _ | exact rd_w _ _ | exact rd_hi _ _ | exact rd_lo _ _ | assumption) ?_) | (refine wpL_ldg M1 rfl rfl rfl (by repeat (first | exact Has.head _ _ _ _ | apply Has.tail)) (by first | exact rd_sat _ _ | exact rd_cnt _ _ | exact rd_unit _ _ | exact rd_num _ _ | exact rd_minus _ _ | exact rd_w _ _ | exact rd_hi _ _ | exact rd_lo _ _ | assumption) ?_) | (refine wpN_1 rfl rfl rfl ?_) | (refine wpN_0 rfl rfl ?_) | (refine wpU_0 rfl rfl ?_) | (refine wpN_2 rfl rfl rfl rfl ?_) | (refine wpL_st M1 rfl rfl rfl rfl (by repeat (first | exact Has.head _ _ _ _ | apply Has.tail)) (by first | exact wr_sat _ _ _ | exact wr_cnt _ _ _ | exact wr_unit _ rfl _ _ | exact wr_num _ (numC_len _ _) _ _ | exact wr_minus _ _ _ | exact wr_w _ rfl _ _ | exact wr_hi _ _ _ | assumption) (by repeat (first | exact Upd.head _ _ _ _ _ | apply Upd.tail)) ?_; clear M1; intro w' M1)))
            go_roundw
            case rel => exact ⟨k + 1, v2, s2, by omega, by go_num, rfl, rfl, hv2, M1⟩
            case measure => simp [intOf]; omega
          · simp only [Bool.true_or] at M1
            go_wp2_with ((with_reducible refine (?_ : Go.wpList _ _ _ (_ :: _) _ _)); (first | go_skip | (refine wpL_ld M1 rfl rfl rfl (by repeat (first | exact Has.head _ _ _ _ | apply Has.tail)) (by first | exact rd_sat _ _ | exact rd_cnt _ _ | exact rd_unit _ _ | exact rd_num _ _ | exact rd_minus _ _ | exact rd_w _ _ | exact rd_hi _ _ | exact rd_lo _ _ | assumption) ?_) | (refine wpL_ldg M1 rfl rfl rfl (by repeat (first | exact Has.head _ _ _ _ | apply Has.tail)) (by first | exact rd_sat _ _ | exact rd_cnt _ _ | exact rd_unit _ _ | exact rd_num _ _ | exact rd_minus _ _ | exact rd_w _ _ | exact rd_hi _ _ | exact rd_lo _ _ | assumption) ?_) | (refine wpN_1 rfl rfl rfl ?_) | (refine wpN_0 rfl rfl ?_) | (refine wpU_0 rfl rfl ?_) | (refine wpN_2 rfl rfl rfl rfl ?_) | (refine wpL_st M1 rfl rfl rfl rfl (by repeat (first | exact Has.head _ _ _ _ | apply Has.tail)) (by first | exact wr_sat _ _ _ | exact wr_cnt _ _ _ | exact wr_unit _ rfl _ _ | exact wr_num _ (numC_len _ _) _ _ | exact wr_minus _ _ _ | exact wr_w _ rfl _ _ | exact wr_hi _ _ _ | assumption) (by repeat (first | exact Upd.head _ _ _ _ _ | apply Upd.tail)) ?_; clear M1; intro w' M1)))
            go_roundw
            case rel => exact ⟨k + 1, v2, true, by omega, by go_num, rfl, rfl, hv2, M1⟩
            case measure => simp [intOf]; omega
        · have hq : ((y : Int) % 4) = 2 := by omega
          clear h4 hy
          have A1 := mul4_any v x q 2 hv.out HX.out
          have U1 := uMul g1 s k v x q 2 (by omega) hv.out HX.out
          have hv2 : Hid (In64 (mulV v x q 2)) := Lib.hid (partV_range _ _ _ _)
          obtain ⟨v2, hv2e⟩ : ∃ v2, v2 = mulV v x q 2 := ⟨_, rfl⟩
          obtain ⟨s2, hs2e⟩ : ∃ s2, s2 = mulS v x q 2 := ⟨_, rfl⟩
          rw [← hv2e] at A1 U1 hv2
          rw [← hs2e] at A1 U1
          clear hv2e hs2e hlt
          have b1 : (v2 != v2) = false := by simp
          have b2 : (s2 != s2) = false := by simp
          go_wp2_with ((with_reducible refine (?_ : Go.wpList _ _ _ (_ :: _) _ _)); (first | go_skip | (refine wpL_ld M1 rfl rfl rfl (by repeat (first | exact Has.head _ _ _ _ | apply Has.tail)) (by first | exact rd_sat _ _ | exact rd_cnt _ _ | exact rd_unit _ _ | exact rd_num _ _ | exact rd_minus _ _ | exact rd_w _ _ | exact rd_hi _ _ | exact rd_lo _ _ | assumption) ?_) | (refine wpL_ldg M1 rfl rfl rfl (by repeat (first | exact Has.head _ _ _ _ | apply Has.tail)) (by first | exact rd_sat _ _ | exact rd_cnt _ _ | exact rd_unit _ _ | exact rd_num _ _ | exact rd_minus _ _ | exact rd_w _ _ | exact rd_hi _ _ | exact rd_lo _ _ | assumption) ?_) | (refine wpN_1 rfl rfl rfl ?_) | (refine wpN_0 rfl rfl ?_) | (refine wpU_0 rfl rfl ?_) | (refine wpN_2 rfl rfl rfl rfl ?_) | (refine wpL_st M1 rfl rfl rfl rfl (by repeat (first | exact Has.head _ _ _ _ | apply Has.tail)) (by first | exact wr_sat _ _ _ | exact wr_cnt _ _ _ | exact wr_unit _ rfl _ _ | exact wr_num _ (numC_len _ _) _ _ | exact wr_minus _ _ _ | exact wr_w _ rfl _ _ | exact wr_hi _ _ _ | assumption) (by repeat (first | exact Upd.head _ _ _ _ _ | apply Upd.tail)) ?_; clear M1; intro w' M1)))
          (refine (A1 _).mono ?_; rintro e w2 ⟨rfl, hBl⟩; replace M1 := M1.call hBl; clear hBl A1)
          have hA1 := HA.out _ _ M1
          go_wp2_with ((with_reducible refine (?_ : Go.wpList _ _ _ (_ :: _) _ _)); (first | go_skip | (refine wpL_ld M1 rfl rfl rfl (by repeat (first | exact Has.head _ _ _ _ | apply Has.tail)) (by first | exact rd_sat _ _ | exact rd_cnt _ _ | exact rd_unit _ _ | exact rd_num _ _ | exact rd_minus _ _ | exact rd_w _ _ | exact rd_hi _ _ | exact rd_lo _ _ | assumption) ?_) | (refine wpL_ldg M1 rfl rfl rfl (by repeat (first | exact Has.head _ _ _ _ | apply Has.tail)) (by first | exact rd_sat _ _ | exact rd_cnt _ _ | exact rd_unit _ _ | exact rd_num _ _ | exact rd_minus _ _ | exact rd_w _ _ | exact rd_hi _ _ | exact rd_lo _ _ | assumption) ?_) | (refine wpN_1 rfl rfl rfl ?_) | (refine wpN_0 rfl rfl ?_) | (refine wpU_0 rfl rfl ?_) | (refine wpN_2 rfl rfl rfl rfl ?_) | (refine wpL_st M1 rfl rfl rfl rfl (by repeat (first | exact Has.head _ _ _ _ | apply Has.tail)) (by first | exact wr_sat _ _ _ | exact wr_cnt _ _ _ | exact wr_unit _ rfl _ _ | exact wr_num _ (numC_len _ _) _ _ | exact wr_minus _ _ _ | exact wr_w _ rfl _ _ | exact wr_hi _ _ _ | assumption) (by repeat (first | exact Upd.head _ _ _ _ _ | apply Upd.tail)) ?_; clear M1; intro w' M1)))
          (refine (U1 _ _ _ _ M1 (by repeat (first | exact Upd.head _ _ _ _ _ | apply Upd.tail))).mono ?_; clear M1; rintro e w2 ⟨rfl, M1⟩; clear U1)
          go_upto_region 25 with ((with_reducible refine (?_ : Go.wpList _ _ _ (_ :: _) _ _)); (first | go_skip | (refine wpL_ld M1 rfl rfl rfl (by repeat (first | exact Has.head _ _ _ _ | apply Has.tail)) (by first | exact rd_sat _ _ | exact rd_cnt _ _ | exact rd_unit _ _ | exact rd_num _ _ | exact rd_minus _ _ | exact rd_w _ _ | exact rd_hi _ _ | exact rd_lo _ _ | assumption) ?_) | (refine wpL_ldg M1 rfl rfl rfl (by repeat (first | exact Has.head _ _ _ _ | apply Has.tail)) (by first | exact rd_sat _ _ | exact rd_cnt _ _ | exact rd_unit _ _ | exact rd_num _ _ | exact rd_minus _ _ | exact rd_w _ _ | exact rd_hi _ _ | exact rd_lo _ _ | assumption) ?_) | (refine wpN_1 rfl rfl rfl ?_) | (refine wpN_0 rfl rfl ?_) | (refine wpU_0 rfl rfl ?_) | (refine wpN_2 rfl rfl rfl rfl ?_) | (refine wpL_st M1 rfl rfl rfl rfl (by repeat (first | exact Has.head _ _ _ _ | apply Has.tail)) (by first | exact wr_sat _ _ _ | exact wr_cnt _ _ _ | exact wr_unit _ rfl _ _ | exact wr_num _ (numC_len _ _) _ _ | exact wr_minus _ _ _ | exact wr_w _ rfl _ _ | exact wr_hi _ _ _ | assumption) (by repeat (first | exact Upd.head _ _ _ _ _ | apply Upd.tail)) ?_; clear M1; intro w' M1)))
          cases s
          · simp only [Bool.false_or] at M1
            go_wp2_with ((with_reducible refine (?_ : Go.wpList _ _ _ (_ :: _) _ _)); (first | go_skip | (refine wpL_ld M1 rfl rfl rfl (by repeat (first | exact Has.head _ _ _ _ | apply Has.tail)) (by first | exact rd_sat _ _ | exact rd_cnt _ _ | exact rd_unit _ _ | exact rd_num _ _ | exact rd_minus _ _ | exact rd_w _ _ | exact rd_hi _ _ | exact rd_lo _ _ | assumption) ?_) | (refine wpL_ldg M1 rfl rfl rfl (by repeat (first | exact Has.head _ _ _ _ | apply Has.tail)) (by first | exact rd_sat _ _ | exact rd_cnt _ _ | exact rd_unit _ _ | exact rd_num _ _ | exact rd_minus _ _ | exact rd_w _ _ | exact rd_hi _ _ | exact rd_lo _ _ | assumption) ?_) | (refine wpN_1 rfl rfl rfl ?_) | (refine wpN_0 rfl rfl ?_) | (refine wpU_0 rfl rfl ?_) | (refine wpN_2 rfl rfl rfl rfl ?_) | (refine wpL_st M1 rfl rfl rfl rfl (by repeat (first | exact Has.head _ _ _ _ | apply Has.tail)) (by first | exact wr_sat _ _ _ | exact wr_cnt _ _ _ | exact wr_unit _ rfl _ _ | exact wr_num _ (numC_len _ _) _ _ | exact wr_minus _ _ _ | exact wr_w _ rfl _ _ | exact wr_hi _ _ _ | assumption) (by repeat (first | exact Upd.head _ _ _ _ _ | apply Upd.tail)) ?_; clear M1; intro w' M1)))
            go_roundw
            case rel => exact ⟨k + 1, v2, s2, by omega, by go_num, rfl, rfl, hv2, M1⟩
            case measure => simp [intOf]; omega
          · simp only [Bool.true_or] at M1
            go_wp2_with ((with_reducible refine (?_ : Go.wpList _ _ _ (_ :: _) _ _)); (first | go_skip | (refine wpL_ld M1 rfl rfl rfl (by repeat (first | exact Has.head _ _ _ _ | apply Has.tail)) (by first | exact rd_sat _ _ | exact rd_cnt _ _ | exact rd_unit _ _ | exact rd_num _ _ | exact rd_minus _ _ | exact rd_w _ _ | exact rd_hi _ _ | exact rd_lo _ _ | assumption) ?_) | (refine wpL_ldg M1 rfl rfl rfl (by repeat (first | exact Has.head _ _ _ _ | apply Has.tail)) (by first | exact rd_sat _ _ | exact rd_cnt _ _ | exact rd_unit _ _ | exact rd_num _ _ | exact rd_minus _ _ | exact rd_w _ _ | exact rd_hi _ _ | exact rd_lo _ _ | assumption) ?_) | (refine wpN_1 rfl rfl rfl ?_) | (refine wpN_0 rfl rfl ?_) | (refine wpU_0 rfl rfl ?_) | (refine wpN_2 rfl rfl rfl rfl ?_) | (refine wpL_st M1 rfl rfl rfl rfl (by repeat (first | exact Has.head _ _ _ _ | apply Has.tail)) (by first | exact wr_sat _ _ _ | exact wr_cnt _ _ _ | exact wr_unit _ rfl _ _ | exact wr_num _ (numC_len _ _) _ _ | exact wr_minus _ _ _ | exact wr_w _ rfl _ _ | exact wr_hi _ _ _ | assumption) (by repeat (first | exact Upd.head _ _ _ _ _ | apply Upd.tail)) ?_; clear M1; intro w' M1)))
            go_roundw
            case rel => exact ⟨k + 1, v2, true, by omega, by go_num, rfl, rfl, hv2, M1⟩
            case measure => simp [intOf]; omega
        · have hq : ((y : Int) % 4) = 3 := by omega
          clear h4 hy
          have A1 := div4_any v x q 0 hv.out HX.out
          have U1 := uDiv g1 s k v x q 0 (by omega) hv.out HX.out
          have hv2 : Hid (In64 (quoV v x q 0)) := Lib.hid (partV_range _ _ _ _)
          obtain ⟨v2, hv2e⟩ : ∃ v2, v2 = quoV v x q 0 := ⟨_, rfl⟩
          obtain ⟨s2, hs2e⟩ : ∃ s2, s2 = quoS v x q 0 := ⟨_, rfl⟩
          rw [← hv2e] at A1 U1 hv2
          rw [← hs2e] at A1 U1
          clear hv2e hs2e hlt
          have b1 : (v2 != v2) = false := by simp
          have b2 : (s2 != s2) = false := by simp
          go_wp2_with ((with_reducible refine (?_ : Go.wpList _ _ _ (_ :: _) _ _)); (first | go_skip | (refine wpL_ld M1 rfl rfl rfl (by repeat (first | exact Has.head _ _ _ _ | apply Has.tail)) (by first | exact rd_sat _ _ | exact rd_cnt _ _ | exact rd_unit _ _ | exact rd_num _ _ | exact rd_minus _ _ | exact rd_w _ _ | exact rd_hi _ _ | exact rd_lo _ _ | assumption) ?_) | (refine wpL_ldg M1 rfl rfl rfl (by repeat (first | exact Has.head _ _ _ _ | apply Has.tail)) (by first | exact rd_sat _ _ | exact rd_cnt _ _ | exact rd_unit _ _ | exact rd_num _ _ | exact rd_minus _ _ | exact rd_w _ _ | exact rd_hi _ _ | exact rd_lo _ _ | assumption) ?_) | (refine wpN_1 rfl rfl rfl ?_) | (refine wpN_0 rfl rfl ?_) | (refine wpU_0 rfl rfl ?_) | (refine wpN_2 rfl rfl rfl rfl ?_) | (refine wpL_st M1 rfl rfl rfl rfl (by repeat (first | exact Has.head _ _ _ _ | apply Has.tail)) (by first | exact wr_sat _ _ _ | exact wr_cnt _ _ _ | exact wr_unit _ rfl _ _ | exact wr_num _ (numC_len _ _) _ _ | exact wr_minus _ _ _ | exact wr_w _ rfl _ _ | exact wr_hi _ _ _ | assumption) (by repeat (first | exact Upd.head _ _ _ _ _ | apply Upd.tail)) ?_; clear M1; intro w' M1)))
          (refine (A1 _).mono ?_; rintro e w2 ⟨rfl, hBl⟩; replace M1 := M1.call hBl; clear hBl A1)
          have hA1 := HA.out _ _ M1
          go_wp2_with ((with_reducible refine (?_ : Go.wpList _ _ _ (_ :: _) _ _)); (first | go_skip | (refine wpL_ld M1 rfl rfl rfl (by repeat (first | exact Has.head _ _ _ _ | apply Has.tail)) (by first | exact rd_sat _ _ | exact rd_cnt _ _ | exact rd_unit _ _ | exact rd_num _ _ | exact rd_minus _ _ | exact rd_w _ _ | exact rd_hi _ _ | exact rd_lo _ _ | assumption) ?_) | (refine wpL_ldg M1 rfl rfl rfl (by repeat (first | exact Has.head _ _ _ _ | apply Has.tail)) (by first | exact rd_sat _ _ | exact rd_cnt _ _ | exact rd_unit _ _ | exact rd_num _ _ | exact rd_minus _ _ | exact rd_w _ _ | exact rd_hi _ _ | exact rd_lo _ _ | assumption) ?_) | (refine wpN_1 rfl rfl rfl ?_) | (refine wpN_0 rfl rfl ?_) | (refine wpU_0 rfl rfl ?_) | (refine wpN_2 rfl rfl rfl rfl ?_) | (refine wpL_st M1 rfl rfl rfl rfl (by repeat (first | exact Has.head _ _ _ _ | apply Has.tail)) (by first | exact wr_sat _ _ _ | exact wr_cnt _ _ _ | exact wr_unit _ rfl _ _ | exact wr_num _ (numC_len _ _) _ _ | exact wr_minus _ _ _ | exact wr_w _ rfl _ _ | exact wr_hi _ _ _ | assumption) (by repeat (first | exact Upd.head _ _ _ _ _ | apply Upd.tail)) ?_; clear M1; intro w' M1)))
          (refine (U1 _ _ _ _ M1 (by repeat (first | exact Upd.head _ _ _ _ _ | apply Upd.tail))).mono ?_; clear M1; rintro e w2 ⟨rfl, M1⟩; clear U1)
          go_upto_region 25 with ((with_reducible refine (?_ : Go.wpList _ _ _ (_ :: _) _ _)); (first | go_skip | (refine wpL_ld M1 rfl rfl rfl (by repeat (first | exact Has.head _ _ _ _ | apply Has.tail)) (by first | exact rd_sat _ _ | exact rd_cnt _ _ | exact rd_unit _ _ | exact rd_num _ _ | exact rd_minus _ _ | exact rd_w _ _ | exact rd_hi _ _ | exact rd_lo _ _ | assumption) ?_) | (refine wpL_ldg M1 rfl rfl rfl (by repeat (first | exact Has.head _ _ _ _ | apply Has.tail)) (by first | exact rd_sat _ _ | exact rd_cnt _ _ | exact rd_unit _ _ | exact rd_num _ _ | exact rd_minus _ _ | exact rd_w _ _ | exact rd_hi _ _ | exact rd_lo _ _ | assumption) ?_) | (refine wpN_1 rfl rfl rfl ?_) | (refine wpN_0 rfl rfl ?_) | (refine wpU_0 rfl rfl ?_) | (refine wpN_2 rfl rfl rfl rfl ?_) | (refine wpL_st M1 rfl rfl rfl rfl (by repeat (first | exact Has.head _ _ _ _ | apply Has.tail)) (by first | exact wr_sat _ _ _ | exact wr_cnt _ _ _ | exact wr_unit _ rfl _ _ | exact wr_num _ (numC_len _ _) _ _ | exact wr_minus _ _ _ | exact wr_w _ rfl _ _ | exact wr_hi _ _ _ | assumption) (by repeat (first | exact Upd.head _ _ _ _ _ | apply Upd.tail)) ?_; clear M1; intro w' M1)))
          cases s
          · simp only [Bool.false_or] at M1
            go_wp2_with ((with_reducible refine (?_ : Go.wpList _ _ _ (_ :: _) _ _)); (first | go_skip | (refine wpL_ld M1 rfl rfl rfl (by repeat (first | exact Has.head _ _ _ _ | apply Has.tail)) (by first | exact rd_sat _ _ | exact rd_cnt _ _ | exact rd_unit _ _ | exact rd_num _ _ | exact rd_minus _ _ | exact rd_w _ _ | exact rd_hi _ _ | exact rd_lo _ _ | assumption) ?_) | (refine wpL_ldg M1 rfl rfl rfl (by repeat (first | exact Has.head _ _ _ _ | apply Has.tail)) (by first | exact rd_sat _ _ | exact rd_cnt _ _ | exact rd_unit _ _ | exact rd_num _ _ | exact rd_minus _ _ | exact rd_w _ _ | exact rd_hi _ _ | exact rd_lo _ _ | assumption) ?_) | (refine wpN_1 rfl rfl rfl ?_) | (refine wpN_0 rfl rfl ?_) | (refine wpU_0 rfl rfl ?_) | (refine wpN_2 rfl rfl rfl rfl ?_) | (refine wpL_st M1 rfl rfl rfl rfl (by repeat (first | exact Has.head _ _ _ _ | apply Has.tail)) (by first | exact wr_sat _ _ _ | exact wr_cnt _ _ _ | exact wr_unit _ rfl _ _ | exact wr_num _ (numC_len _ _) _ _ | exact wr_minus _ _ _ | exact wr_w _ rfl _ _ | exact wr_hi _ _ _ | assumption) (by repeat (first | exact Upd.head _ _ _ _ _ | apply Upd.tail)) ?_; clear M1; intro w' M1)))
            go_roundw
            case rel => exact ⟨k + 1, v2, s2, by omega, by go_num, rfl, rfl, hv2, M1⟩
            case measure => simp [intOf]; omega
          · simp only [Bool.true_or] at M1
            go_wp2_with ((with_reducible refine (?_ : Go.wpList _ _ _ (_ :: _) _ _)); (first | go_skip | (refine wpL_ld M1 rfl rfl rfl (by repeat (first | exact Has.head _ _ _ _ | apply Has.tail)) (by first | exact rd_sat _ _ | exact rd_cnt _ _ | exact rd_unit _ _ | exact rd_num _ _ | exact rd_minus _ _ | exact rd_w _ _ | exact rd_hi _ _ | exact rd_lo _ _ | assumption) ?_) | (refine wpL_ldg M1 rfl rfl rfl (by repeat (first | exact Has.head _ _ _ _ | apply Has.tail)) (by first | exact rd_sat _ _ | exact rd_cnt _ _ | exact rd_unit _ _ | exact rd_num _ _ | exact rd_minus _ _ | exact rd_w _ _ | exact rd_hi _ _ | exact rd_lo _ _ | assumption) ?_) | (refine wpN_1 rfl rfl rfl ?_) | (refine wpN_0 rfl rfl ?_) | (refine wpU_0 rfl rfl ?_) | (refine wpN_2 rfl rfl rfl rfl ?_) | (refine wpL_st M1 rfl rfl rfl rfl (by repeat (first | exact Has.head _ _ _ _ | apply Has.tail)) (by first | exact wr_sat _ _ _ | exact wr_cnt _ _ _ | exact wr_unit _ rfl _ _ | exact wr_num _ (numC_len _ _) _ _ | exact wr_minus _ _ _ | exact wr_w _ rfl _ _ | exact wr_hi _ _ _ | assumption) (by repeat (first | exact Upd.head _ _ _ _ _ | apply Upd.tail)) ?_; clear M1; intro w' M1)))
            go_roundw
            case rel => exact ⟨k + 1, v2, true, by omega, by go_num, rfl, rfl, hv2, M1⟩
            case measure => simp [intOf]; omega
      · have hj1 : (bs.length : Int) ≤ (k : Int) := by omega
        have A1 := add4_any v x hv.out HX.out
        have U1 := uAdd g1 s k v x (by omega) hv.out HX.out
        have hv2 : Hid (In64 (cutV (v + x))) := Lib.hid (cutV_range _)
        obtain ⟨v2, hv2e⟩ : ∃ v2, v2 = cutV (v + x) := ⟨_, rfl⟩
        obtain ⟨s2, hs2e⟩ : ∃ s2, s2 = cutS (v + x) := ⟨_, rfl⟩
        rw [← hv2e] at A1 U1 hv2
        rw [← hs2e] at A1 U1
        clear hv2e hs2e hlt
        have b1 : (v2 != v2) = false := by simp
        have b2 : (s2 != s2) = false := by simp
        go_wp2_with ((with_reducible refine (?_ : Go.wpList _ _ _ (_ :: _) _ _)); (first | go_skip | (refine wpL_ld M1 rfl rfl rfl (by repeat (first | exact Has.head _ _ _ _ | apply Has.tail)) (by first | exact rd_sat _ _ | exact rd_cnt _ _ | exact rd_unit _ _ | exact rd_num _ _ | exact rd_minus _ _ | exact rd_w _ _ | exact rd_hi _ _ | exact rd_lo _ _ | assumption) ?_) | (refine wpL_ldg M1 rfl rfl rfl (by repeat (first | exact Has.head _ _ _ _ | apply Has.tail)) (by first | exact rd_sat _ _ | exact rd_cnt _ _ | exact rd_unit _ _ | exact rd_num _ _ | exact rd_minus _ _ | exact rd_w _ _ | exact rd_hi _ _ | exact rd_lo _ _ | assumption) ?_) | (refine wpN_1 rfl rfl rfl ?_) | (refine wpN_0 rfl rfl ?_) | (refine wpU_0 rfl rfl ?_) | (refine wpN_2 rfl rfl rfl rfl ?_) | (refine wpL_st M1 rfl rfl rfl rfl (by repeat (first | exact Has.head _ _ _ _ | apply Has.tail)) (by first | exact wr_sat _ _ _ | exact wr_cnt _ _ _ | exact wr_unit _ rfl _ _ | exact wr_num _ (numC_len _ _) _ _ | exact wr_minus _ _ _ | exact wr_w _ rfl _ _ | exact wr_hi _ _ _ | assumption) (by repeat (first | exact Upd.head _ _ _ _ _ | apply Upd.tail)) ?_; clear M1; intro w' M1)))
        (refine (A1 _).mono ?_; rintro e w2 ⟨rfl, hBl⟩; replace M1 := M1.call hBl; clear hBl A1)
        have hA1 := HA.out _ _ M1
        go_wp2_with ((with_reducible refine (?_ : Go.wpList _ _ _ (_ :: _) _ _)); (first | go_skip | (refine wpL_ld M1 rfl rfl rfl (by repeat (first | exact Has.head _ _ _ _ | apply Has.tail)) (by first | exact rd_sat _ _ | exact rd_cnt _ _ | exact rd_unit _ _ | exact rd_num _ _ | exact rd_minus _ _ | exact rd_w _ _ | exact rd_hi _ _ | exact rd_lo _ _ | assumption) ?_) | (refine wpL_ldg M1 rfl rfl rfl (by repeat (first | exact Has.head _ _ _ _ | apply Has.tail)) (by first | exact rd_sat _ _ | exact rd_cnt _ _ | exact rd_unit _ _ | exact rd_num _ _ | exact rd_minus _ _ | exact rd_w _ _ | exact rd_hi _ _ | exact rd_lo _ _ | assumption) ?_) | (refine wpN_1 rfl rfl rfl ?_) | (refine wpN_0 rfl rfl ?_) | (refine wpU_0 rfl rfl ?_) | (refine wpN_2 rfl rfl rfl rfl ?_) | (refine wpL_st M1 rfl rfl rfl rfl (by repeat (first | exact Has.head _ _ _ _ | apply Has.tail)) (by first | exact wr_sat _ _ _ | exact wr_cnt _ _ _ | exact wr_unit _ rfl _ _ | exact wr_num _ (numC_len _ _) _ _ | exact wr_minus _ _ _ | exact wr_w _ rfl _ _ | exact wr_hi _ _ _ | assumption) (by repeat (first | exact Upd.head _ _ _ _ _ | apply Upd.tail)) ?_; clear M1; intro w' M1)))
        (refine (U1 _ _ _ _ M1 (by repeat (first | exact Upd.head _ _ _ _ _ | apply Upd.tail))).mono ?_; clear M1; rintro e w2 ⟨rfl, M1⟩; clear U1)
        go_upto_region 25 with ((with_reducible refine (?_ : Go.wpList _ _ _ (_ :: _) _ _)); (first | go_skip | (refine wpL_ld M1 rfl rfl rfl (by repeat (first | exact Has.head _ _ _ _ | apply Has.tail)) (by first | exact rd_sat _ _ | exact rd_cnt _ _ | exact rd_unit _ _ | exact rd_num _ _ | exact rd_minus _ _ | exact rd_w _ _ | exact rd_hi _ _ | exact rd_lo _ _ | assumption) ?_) | (refine wpL_ldg M1 rfl rfl rfl (by repeat (first | exact Has.head _ _ _ _ | apply Has.tail)) (by first | exact rd_sat _ _ | exact rd_cnt _ _ | exact rd_unit _ _ | exact rd_num _ _ | exact rd_minus _ _ | exact rd_w _ _ | exact rd_hi _ _ | exact rd_lo _ _ | assumption) ?_) | (refine wpN_1 rfl rfl rfl ?_) | (refine wpN_0 rfl rfl ?_) | (refine wpU_0 rfl rfl ?_) | (refine wpN_2 rfl rfl rfl rfl ?_) | (refine wpL_st M1 rfl rfl rfl rfl (by repeat (first | exact Has.head _ _ _ _ | apply Has.tail)) (by first | exact wr_sat _ _ _ | exact wr_cnt _ _ _ | exact wr_unit _ rfl _ _ | exact wr_num _ (numC_len _ _) _ _ | exact wr_minus _ _ _ | exact wr_w _ rfl _ _ | exact wr_hi _ _ _ | assumption) (by repeat (first | exact Upd.head _ _ _ _ _ | apply Upd.tail)) ?_; clear M1; intro w' M1)))
        cases s
        · simp only [Bool.false_or] at M1
          go_wp2_with ((with_reducible refine (?_ : Go.wpList _ _ _ (_ :: _) _ _)); (first | go_skip | (refine wpL_ld M1 rfl rfl rfl (by repeat (first | exact Has.head _ _ _ _ | apply Has.tail)) (by first | exact rd_sat _ _ | exact rd_cnt _ _ | exact rd_unit _ _ | exact rd_num _ _ | exact rd_minus _ _ | exact rd_w _ _ | exact rd_hi _ _ | exact rd_lo _ _ | assumption) ?_) | (refine wpL_ldg M1 rfl rfl rfl (by repeat (first | exact Has.head _ _ _ _ | apply Has.tail)) (by first | exact rd_sat _ _ | exact rd_cnt _ _ | exact rd_unit _ _ | exact rd_num _ _ | exact rd_minus _ _ | exact rd_w _ _ | exact rd_hi _ _ | exact rd_lo _ _ | assumption) ?_) | (refine wpN_1 rfl rfl rfl ?_) | (refine wpN_0 rfl rfl ?_) | (refine wpU_0 rfl rfl ?_) | (refine wpN_2 rfl rfl rfl rfl ?_) | (refine wpL_st M1 rfl rfl rfl rfl (by repeat (first | exact Has.head _ _ _ _ | apply Has.tail)) (by first | exact wr_sat _ _ _ | exact wr_cnt _ _ _ | exact wr_unit _ rfl _ _ | exact wr_num _ (numC_len _ _) _ _ | exact wr_minus _ _ _ | exact wr_w _ rfl _ _ | exact wr_hi _ _ _ | assumption) (by repeat (first | exact Upd.head _ _ _ _ _ | apply Upd.tail)) ?_; clear M1; intro w' M1)))
          go_roundw
          case rel => exact ⟨k + 1, v2, s2, by omega, by go_num, rfl, rfl, hv2, M1⟩
          case measure => simp [intOf]; omega
        · simp only [Bool.true_or] at M1
          go_wp2_with ((with_reducible refine (?_ : Go.wpList _ _ _ (_ :: _) _ _)); (first | go_skip | (refine wpL_ld M1 rfl rfl rfl (by repeat (first | exact Has.head _ _ _ _ | apply Has.tail)) (by first | exact rd_sat _ _ | exact rd_cnt _ _ | exact rd_unit _ _ | exact rd_num _ _ | exact rd_minus _ _ | exact rd_w _ _ | exact rd_hi _ _ | exact rd_lo _ _ | assumption) ?_) | (refine wpL_ldg M1 rfl rfl rfl (by repeat (first | exact Has.head _ _ _ _ | apply Has.tail)) (by first | exact rd_sat _ _ | exact rd_cnt _ _ | exact rd_unit _ _ | exact rd_num _ _ | exact rd_minus _ _ | exact rd_w _ _ | exact rd_hi _ _ | exact rd_lo _ _ | assumption) ?_) | (refine wpN_1 rfl rfl rfl ?_) | (refine wpN_0 rfl rfl ?_) | (refine wpU_0 rfl rfl ?_) | (refine wpN_2 rfl rfl rfl rfl ?_) | (refine wpL_st M1 rfl rfl rfl rfl (by repeat (first | exact Has.head _ _ _ _ | apply Has.tail)) (by first | exact wr_sat _ _ _ | exact wr_cnt _ _ _ | exact wr_unit _ rfl _ _ | exact wr_num _ (numC_len _ _) _ _ | exact wr_minus _ _ _ | exact wr_w _ rfl _ _ | exact wr_hi _ _ _ | assumption) (by repeat (first | exact Upd.head _ _ _ _ _ | apply Upd.tail)) ?_; clear M1; intro w' M1)))
          go_roundw
          case rel => exact ⟨k + 1, v2, true, by omega, by go_num, rfl, rfl, hv2, M1⟩
          case measure => simp [intOf]; omega
    · obtain rfl : k = zs.length := by omega
      have b3 : ((zs.length : Int) == (zs.length : Int)) = true := by simp
      have C9 := C8.out
      clear hlt
      go_wp2_with ((with_reducible refine (?_ : Go.wpList _ _ _ (_ :: _) _ _)); (first | go_skip | (refine wpL_ld M1 rfl rfl rfl (by repeat (first | exact Has.head _ _ _ _ | apply Has.tail)) (by first | exact rd_sat _ _ | exact rd_cnt _ _ | exact rd_unit _ _ | exact rd_num _ _ | exact rd_minus _ _ | exact rd_w _ _ | exact rd_hi _ _ | exact rd_lo _ _ | assumption) ?_) | (refine wpL_ldg M1 rfl rfl rfl (by repeat (first | exact Has.head _ _ _ _ | apply Has.tail)) (by first | exact rd_sat _ _ | exact rd_cnt _ _ | exact rd_unit _ _ | exact rd_num _ _ | exact rd_minus _ _ | exact rd_w _ _ | exact rd_hi _ _ | exact rd_lo _ _ | assumption) ?_) | (refine wpN_1 rfl rfl rfl ?_) | (refine wpN_0 rfl rfl ?_) | (refine wpU_0 rfl rfl ?_) | (refine wpN_2 rfl rfl rfl rfl ?_) | (refine wpL_st M1 rfl rfl rfl rfl (by repeat (first | exact Has.head _ _ _ _ | apply Has.tail)) (by first | exact wr_sat _ _ _ | exact wr_cnt _ _ _ | exact wr_unit _ rfl _ _ | exact wr_num _ (numC_len _ _) _ _ | exact wr_minus _ _ _ | exact wr_w _ rfl _ _ | exact wr_hi _ _ _ | assumption) (by repeat (first | exact Upd.head _ _ _ _ _ | apply Upd.tail)) ?_; clear M1; intro w' M1)))
      refine (uCount g1 _ _ _ _ _ _ M1 (by repeat (first | exact Upd.head _ _ _ _ _ | apply Upd.tail))).mono ?_
      clear M1
      rintro e w2 ⟨rfl, M1⟩
      go_wp2_with ((with_reducible refine (?_ : Go.wpList _ _ _ (_ :: _) _ _)); (first | go_skip | (refine wpL_ld M1 rfl rfl rfl (by repeat (first | exact Has.head _ _ _ _ | apply Has.tail)) (by first | exact rd_sat _ _ | exact rd_cnt _ _ | exact rd_unit _ _ | exact rd_num _ _ | exact rd_minus _ _ | exact rd_w _ _ | exact rd_hi _ _ | exact rd_lo _ _ | assumption) ?_) | (refine wpL_ldg M1 rfl rfl rfl (by repeat (first | exact Has.head _ _ _ _ | apply Has.tail)) (by first | exact rd_sat _ _ | exact rd_cnt _ _ | exact rd_unit _ _ | exact rd_num _ _ | exact rd_minus _ _ | exact rd_w _ _ | exact rd_hi _ _ | exact rd_lo _ _ | assumption) ?_) | (refine wpN_1 rfl rfl rfl ?_) | (refine wpN_0 rfl rfl ?_) | (refine wpU_0 rfl rfl ?_) | (refine wpN_2 rfl rfl rfl rfl ?_) | (refine wpL_st M1 rfl rfl rfl rfl (by repeat (first | exact Has.head _ _ _ _ | apply Has.tail)) (by first | exact wr_sat _ _ _ | exact wr_cnt _ _ _ | exact wr_unit _ rfl _ _ | exact wr_num _ (numC_len _ _) _ _ | exact wr_minus _ _ _ | exact wr_w _ rfl _ _ | exact wr_hi _ _ _ | assumption) (by repeat (first | exact Upd.head _ _ _ _ _ | apply Upd.tail)) ?_; clear M1; intro w' M1)))
      (refine (C9 _).mono ?_; rintro e w2 ⟨rfl, hBl⟩; replace M1 := M1.call hBl; clear hBl C9)
      go_wp2_with ((with_reducible refine (?_ : Go.wpList _ _ _ (_ :: _) _ _)); (first | go_skip | (refine wpL_ld M1 rfl rfl rfl (by repeat (first | exact Has.head _ _ _ _ | apply Has.tail)) (by first | exact rd_sat _ _ | exact rd_cnt _ _ | exact rd_unit _ _ | exact rd_num _ _ | exact rd_minus _ _ | exact rd_w _ _ | exact rd_hi _ _ | exact rd_lo _ _ | assumption) ?_) | (refine wpL_ldg M1 rfl rfl rfl (by repeat (first | exact Has.head _ _ _ _ | apply Has.tail)) (by first | exact rd_sat _ _ | exact rd_cnt _ _ | exact rd_unit _ _ | exact rd_num _ _ | exact rd_minus _ _ | exact rd_w _ _ | exact rd_hi _ _ | exact rd_lo _ _ | assumption) ?_) | (refine wpN_1 rfl rfl rfl ?_) | (refine wpN_0 rfl rfl ?_) | (refine wpU_0 rfl rfl ?_) | (refine wpN_2 rfl rfl rfl rfl ?_) | (refine wpL_st M1 rfl rfl rfl rfl (by repeat (first | exact Has.head _ _ _ _ | apply Has.tail)) (by first | exact wr_sat _ _ _ | exact wr_cnt _ _ _ | exact wr_unit _ rfl _ _ | exact wr_num _ (numC_len _ _) _ _ | exact wr_minus _ _ _ | exact wr_w _ rfl _ _ | exact wr_hi _ _ _ | assumption) (by repeat (first | exact Upd.head _ _ _ _ _ | apply Upd.tail)) ?_; clear M1; intro w' M1)))
      go_ret
      exact ⟨rfl, M1.below⟩
theorem fxpNotes_any (zs : List Int) (hz : ∀ z ∈ zs, In64 z) (bs : List Nat) (hb : ∀ x ∈ bs, x < 256) (a b : Option Addr) (cap cap2 : Nat) (q : Int) (W : World)
    (S1 : Sl W 1 (.slice a zs.length cap) zs.length (i64s zs)) (S2 : Sl W 1 (.slice b bs.length cap2) bs.length (u8s bs)) (hn2 : bs.length ≤ 9223372036854775807) :
    Calls Try.prog 6 #[.slice a zs.length cap, .slice b bs.length cap2, .int .i64 q] W fun e w' => e = .returned (.bool true) ∧ Below W.heap.size W w' := by
  by_cases hl : zs.length ≤ 100
  · exact fxpNotes_short zs hz bs hb a b cap cap2 q W S1 S2 hl hn2
  · exact fxpNotes_long zs hz bs hb a b cap cap2 q W S1 S2 (by omega)
end Go.Proofs.Ytggmjdaolekgmaa
