/-
  A quotient rounded up, bit by bit: the code's.
-/
import Derived.Test.YtallbegibdlpaaaGreatLedgE
set_option linter.unusedVariables false
set_option linter.unusedSimpArgs false
namespace Go.Proofs.YtallbegibdlpaaaGreat
open Go Go.RowKit Go.Th Go.Th.Wide Go.Th.Up

theorem cmp_le {a b : Nat} (h : a ≤ b) : cmpZ (a : Int) (b : Int) ≤ 0 := by unfold cmpZ; split; decide; rw [if_pos (by omega)]; exact Int.le_refl _
theorem cmp_gt {a b : Nat} (h : ¬ a ≤ b) : ¬ cmpZ (a : Int) (b : Int) ≤ 0 := by unfold cmpZ; rw [if_neg (by omega), if_neg (by omega)]; decide
theorem cmp_pos {a : Nat} (h : 0 < a) : 0 < cmpZ (a : Int) 0 := by unfold cmpZ; rw [if_neg (by omega), if_neg (by omega)]; decide
theorem cmp_nul {a : Nat} (h : ¬ 0 < a) : ¬ 0 < cmpZ (a : Int) 0 := by unfold cmpZ; rw [if_neg (by omega), if_pos (by omega)]; decide
theorem shl_val {x j pw : Nat} (hp : pw = 2 ^ j) (h1 : pw ≤ 1099511627776) (h2 : x ≤ 2199023255552) : Value.int .i64 (wrap64 ((x : Int) + wrap64 (2 ^ j))) = Value.int .i64 ((x + pw : Nat) : Int) := by
  have e : (2 : Int) ^ j = (pw : Int) := by rw [hp]; simp
  rw [e]
  congr 1
  simp only [wrap64]
  omega
abbrev wc (z : Nat) : List Value := [.int .i64 (hiZ (z : Int)), .int .u64 (loZ (z : Int))]

set_option maxRecDepth 20000 in
set_option maxHeartbeats 3200000 in
theorem divided_any (P z : Nat) (hz0 : 0 < z) (hz : z < 9223372036854775808) (hP : P < 170141183460469231731687303715884105728) (w : World) :
    Calls Tryz.prog 54 #[wn P, wn z] w fun e w' => e = .returned (.int .i64 (upD P z)) ∧ Below w.heap.size w w' := by
  have HZ := Lib.hid hz
  have HP := Lib.hid hP
  have M0 := Mem.start w
  clear hz hP
  go_enter Tryz.func54, Tryz.ntmps54
  go_wp2_with ((with_reducible refine (?_ : Go.wpList _ _ _ (_ :: _) _ _)); (first | go_skip | (refine wpL_bx M0 rfl rfl rfl rfl ?_; clear M0; intro g1 w1 M1) | (refine wpL_alc M0 rfl rfl ?_; clear M0; intro g1 w1 M1) | (refine wpL_ldc M0 rfl rfl rfl ?_) | (refine wpL_lgc M0 rfl rfl rfl ?_) | (refine wpL_stc M0 rfl rfl rfl rfl ?_; clear M0; intro w' M0) | (refine wpL_sti M0 rfl rfl rfl rfl ?_; clear M0; intro w' M0) | (refine wpL_sth M0 rfl rfl rfl rfl (wr_minus _ _ _) ?_; clear M0; intro w' M0) | (refine wpL_bx M1 rfl rfl rfl rfl ?_; clear M1; intro g2 w2 M2) | (refine wpL_alc M1 rfl rfl ?_; clear M1; intro g2 w2 M2) | (refine wpL_ldc M1 rfl rfl rfl ?_) | (refine wpL_lgc M1 rfl rfl rfl ?_) | (refine wpL_stc M1 rfl rfl rfl rfl ?_; clear M1; intro w' M1) | (refine wpL_sti M1 rfl rfl rfl rfl ?_; clear M1; intro w' M1) | (refine wpL_sth M1 rfl rfl rfl rfl (wr_minus _ _ _) ?_; clear M1; intro w' M1) | (refine wpL_ldc M2 rfl rfl rfl ?_) | (refine wpL_lgc M2 rfl rfl rfl ?_) | (refine wpL_stc M2 rfl rfl rfl rfl ?_; clear M2; intro w' M2) | (refine wpL_sti M2 rfl rfl rfl rfl ?_; clear M2; intro w' M2) | (refine wpL_sth M2 rfl rfl rfl rfl (wr_minus _ _ _) ?_; clear M2; intro w' M2)))
  go_loopw [5, 6] (fun s5 s6 wr => ∃ (k x r : Nat) (ni : Int), ni = (k : Int) - 1 ∧ s5 = .int .i64 x ∧ s6 = .int .i64 ni ∧ k ≤ 41 ∧ Hid (Dv z P k x r) ∧ Mem w wr [(g2, 51, wc z), (g1, 51, wc r)]) (fun _ s6 _ => (intOf s6 + 1).toNat)
  case atStart => exact ⟨41, 0, P, 40, rfl, rfl, rfl, by omega, Lib.hid (Dv.start z P), M2⟩
  case round =>
    clear M2
    obtain ⟨k, x, r, ni, hni, rfl, rfl, hk, HD, M2⟩ := hrel
    by_cases h0 : k = 0
    · subst h0
      obtain rfl : ni = -1 := by omega
      have hd := HD.out.done hz0
      have HX := HD
      clear HD hni
      have C1 := Lib.hid (Sign18 r)
      obtain ⟨v, hv⟩ : ∃ v, v = cmpZ (r : Int) 0 := ⟨_, rfl⟩
      rw [← hv] at C1
      have hx := HX.out.most
      by_cases hr : 0 < r
      · have hv2 := cmp_pos hr
        rw [← hv] at hv2
        rw [if_pos hr] at hd
        have C2 := Lib.hid (bound18 ((x : Int) + 1) (upD P z) (by omega))
        clear hd hr hv HX
        go_wp2_with ((with_reducible refine (?_ : Go.wpList _ _ _ (_ :: _) _ _)); (first | go_skip | (refine wpL_ldc M2 rfl rfl rfl ?_) | (refine wpL_lgc M2 rfl rfl rfl ?_) | (refine wpL_stc M2 rfl rfl rfl rfl ?_; clear M2; intro w' M2) | (refine wpL_sti M2 rfl rfl rfl rfl ?_; clear M2; intro w' M2) | (refine wpL_sth M2 rfl rfl rfl rfl (wr_minus _ _ _) ?_; clear M2; intro w' M2)))
        refine (C1.out _).mono ?_
        rintro e w3 ⟨rfl, hA⟩
        have M3 := M2.call hA
        clear hA C1 M2
        go_wp2_with fail
        refine (C2.out _).mono ?_
        rintro e w3 ⟨rfl, rfl⟩
        go_wp2_with fail
        go_ret
        exact ⟨rfl, M3.below⟩
      · have hv2 := cmp_nul hr
        rw [← hv] at hv2
        rw [if_neg hr] at hd
        have C2 := Lib.hid (bound18 (x : Int) (upD P z) (by omega))
        clear hd hr hv HX
        go_wp2_with ((with_reducible refine (?_ : Go.wpList _ _ _ (_ :: _) _ _)); (first | go_skip | (refine wpL_ldc M2 rfl rfl rfl ?_) | (refine wpL_lgc M2 rfl rfl rfl ?_) | (refine wpL_stc M2 rfl rfl rfl rfl ?_; clear M2; intro w' M2) | (refine wpL_sti M2 rfl rfl rfl rfl ?_; clear M2; intro w' M2) | (refine wpL_sth M2 rfl rfl rfl rfl (wr_minus _ _ _) ?_; clear M2; intro w' M2)))
        refine (C1.out _).mono ?_
        rintro e w3 ⟨rfl, hA⟩
        have M3 := M2.call hA
        clear hA C1 M2
        go_wp2_with fail
        refine (C2.out _).mono ?_
        rintro e w3 ⟨rfl, rfl⟩
        go_wp2_with fail
        go_ret
        exact ⟨rfl, M3.below⟩
    · obtain ⟨j, rfl⟩ : ∃ j, k = j + 1 := ⟨k - 1, by omega⟩
      obtain rfl : ni = (j : Int) := by omega
      clear hni h0
      have hj : (0 : Int) ≤ (j : Int) := by omega
      obtain ⟨pt, hpt⟩ : ∃ pt, pt = z * 2 ^ j := ⟨_, rfl⟩
      have C1 := Lib.hid (Shl18 z j pt HZ.out (by omega) hpt)
      have C2 := Lib.hid (Cmp18 pt r)
      have hp2 : (1 : Int) * 2 ^ (j : Int).toNat = ((2 ^ j : Nat) : Int) := by rw [Int.toNat_natCast]; simp
      obtain ⟨pw, hpw⟩ : ∃ pw, pw = 2 ^ j := ⟨_, rfl⟩
      have hpw2 : pw ≤ 1099511627776 := by rw [hpw]; exact Nat.le_trans (Nat.pow_le_pow_right (by decide) (show j ≤ 40 by omega)) (by decide)
      rw [← hpw] at hp2
      by_cases hl : pt ≤ r
      · have hv := cmp_le hl
        have HN := Lib.hid (HD.out.yes (hpt ▸ hl))
        rw [← hpt, ← hpw] at HN
        have hrP := HD.out.le
        have C3 := Lib.hid (Neg_z (pt : Int) (by have := HP.out; omega))
        have C4 := Lib.hid (Minus18 r pt (r - pt) (by have := HP.out; omega) hl rfl)
        obtain ⟨v, hv2⟩ : ∃ v, v = cmpZ (pt : Int) (r : Int) := ⟨_, rfl⟩
        rw [← hv2] at C2 hv
        have hx := HN.out.most
        have HW := Lib.hid hpw
        clear HD hpt hpw hv2 hrP hl
        go_wp2_with ((with_reducible refine (?_ : Go.wpList _ _ _ (_ :: _) _ _)); (first | go_skip | (refine wpL_ldc M2 rfl rfl rfl ?_) | (refine wpL_lgc M2 rfl rfl rfl ?_) | (refine wpL_stc M2 rfl rfl rfl rfl ?_; clear M2; intro w' M2) | (refine wpL_sti M2 rfl rfl rfl rfl ?_; clear M2; intro w' M2) | (refine wpL_sth M2 rfl rfl rfl rfl (wr_minus _ _ _) ?_; clear M2; intro w' M2)))
        refine (C1.out _).mono ?_
        rintro e w3 ⟨rfl, hA⟩
        replace M2 := M2.call hA
        clear hA C1
        go_wp2_with ((with_reducible refine (?_ : Go.wpList _ _ _ (_ :: _) _ _)); (first | go_skip | (refine wpL_bx M2 rfl rfl rfl rfl ?_; clear M2; intro g3 w3 M3) | (refine wpL_alc M2 rfl rfl ?_; clear M2; intro g3 w3 M3) | (refine wpL_ldc M2 rfl rfl rfl ?_) | (refine wpL_lgc M2 rfl rfl rfl ?_) | (refine wpL_stc M2 rfl rfl rfl rfl ?_; clear M2; intro w' M2) | (refine wpL_sti M2 rfl rfl rfl rfl ?_; clear M2; intro w' M2) | (refine wpL_sth M2 rfl rfl rfl rfl (wr_minus _ _ _) ?_; clear M2; intro w' M2) | (refine wpL_ldc M3 rfl rfl rfl ?_) | (refine wpL_lgc M3 rfl rfl rfl ?_) | (refine wpL_stc M3 rfl rfl rfl rfl ?_; clear M3; intro w' M3) | (refine wpL_sti M3 rfl rfl rfl rfl ?_; clear M3; intro w' M3) | (refine wpL_sth M3 rfl rfl rfl rfl (wr_minus _ _ _) ?_; clear M3; intro w' M3)))
        refine (C2.out _).mono ?_
        rintro e w4 ⟨rfl, hA⟩
        have M4 := M3.call hA
        clear hA C2 M3
        go_wp2_with ((with_reducible refine (?_ : Go.wpList _ _ _ (_ :: _) _ _)); (first | go_skip | (refine wpL_ldc M4 rfl rfl rfl ?_) | (refine wpL_lgc M4 rfl rfl rfl ?_) | (refine wpL_stc M4 rfl rfl rfl rfl ?_; clear M4; intro w' M4) | (refine wpL_sti M4 rfl rfl rfl rfl ?_; clear M4; intro w' M4) | (refine wpL_sth M4 rfl rfl rfl rfl (wr_minus _ _ _) ?_; clear M4; intro w' M4)))
        refine wp_region_N_drew (S := (fun w' : World => w'.cell? ⟨g1, 0, none⟩ = some (.int .i64 (hiZ (r : Int))) ∧ w'.cell? ⟨g1, 1, none⟩ = some (.int .u64 (loZ (r : Int))) ∧ w'.cell? ⟨g3, 0, none⟩ = some (.int .i64 (hiZ (pt : Int))) ∧ w'.cell? ⟨g3, 1, none⟩ = some (.int .u64 (loZ (pt : Int))))) 7 (by kernel_rfl) ?_
        have hHeld : (fun w' : World => w'.cell? ⟨g1, 0, none⟩ = some (.int .i64 (hiZ (r : Int))) ∧ w'.cell? ⟨g1, 1, none⟩ = some (.int .u64 (loZ (r : Int))) ∧ w'.cell? ⟨g3, 0, none⟩ = some (.int .i64 (hiZ (pt : Int))) ∧ w'.cell? ⟨g3, 1, none⟩ = some (.int .u64 (loZ (pt : Int)))) w4.drew := ⟨M4.drew.cell (.tail _ _ _ _ _ (.tail _ _ _ _ _ (Has.head _ _ _ _))) (i := 0) rfl, M4.drew.cell (.tail _ _ _ _ _ (.tail _ _ _ _ _ (Has.head _ _ _ _))) (i := 1) rfl, M4.drew.cell (Has.head _ _ _ _) (i := 0) rfl, M4.drew.cell (Has.head _ _ _ _) (i := 1) rfl⟩
        refine wpAnyN_take (i := 0) (v := ?v1) rfl (by kernel_rfl) (by kernel_rfl) (by kernel_rfl) (fun _ _ _ h => h) rfl (by kernel_rfl) (by kernel_rfl) (Or.inl ⟨by rfl, ?hy1⟩) hHeld ?rest1
        case hy1 => (intro w' hSw; (try dsimp only at hSw); go_simp; (try with_reducible rfl))
        try simp only [Act.put, puts]
        refine wpAnyN_take (i := 1) (v := ?v2) rfl (by kernel_rfl) (by kernel_rfl) (by kernel_rfl) (fun _ _ _ h => h) rfl (by kernel_rfl) (by kernel_rfl) (Or.inl ⟨by rfl, ?hy2⟩) hHeld ?rest2
        case hy2 => (intro w' hSw; (try dsimp only at hSw); go_simp; (try with_reducible rfl))
        try simp only [Act.put, puts]
        refine wpAnyN_ready (rs := [2]) (by kernel_rfl) (by simp) ?_
        refine AllReadyN.cons rfl (fun K hK => ?_) AllReadyN.nil
        go_simp
        refine (C3.out _).mono ?_
        rintro e w5 ⟨rfl, hA⟩
        have M5 := M4.drew.call hA
        try go_wp2_with fail
        replace hHeld : (fun w' : World => w'.cell? ⟨g1, 0, none⟩ = some (.int .i64 (hiZ (r : Int))) ∧ w'.cell? ⟨g1, 1, none⟩ = some (.int .u64 (loZ (r : Int))) ∧ w'.cell? ⟨g3, 0, none⟩ = some (.int .i64 (hiZ (pt : Int))) ∧ w'.cell? ⟨g3, 1, none⟩ = some (.int .u64 (loZ (pt : Int)))) _ := ⟨M5.cell (.tail _ _ _ _ _ (.tail _ _ _ _ _ (Has.head _ _ _ _))) (i := 0) rfl, M5.cell (.tail _ _ _ _ _ (.tail _ _ _ _ _ (Has.head _ _ _ _))) (i := 1) rfl, M5.cell (Has.head _ _ _ _) (i := 0) rfl, M5.cell (Has.head _ _ _ _) (i := 1) rfl⟩
        refine hK.out _ _ (fun _ => hHeld) ?_
        clear hK K
        try simp only [Act.put, puts]
        refine wpAnyN_ready (rs := [3]) (by kernel_rfl) (by simp) ?_
        refine AllReadyN.cons rfl (fun K hK => ?_) AllReadyN.nil
        go_simp
        refine (C4.out _).mono ?_
        rintro e w6 ⟨rfl, hA⟩
        have M6 := M5.call hA
        try go_wp2_with fail
        replace hHeld : (fun w' : World => w'.cell? ⟨g1, 0, none⟩ = some (.int .i64 (hiZ (r : Int))) ∧ w'.cell? ⟨g1, 1, none⟩ = some (.int .u64 (loZ (r : Int))) ∧ w'.cell? ⟨g3, 0, none⟩ = some (.int .i64 (hiZ (pt : Int))) ∧ w'.cell? ⟨g3, 1, none⟩ = some (.int .u64 (loZ (pt : Int)))) _ := ⟨M6.cell (.tail _ _ _ _ _ (.tail _ _ _ _ _ (Has.head _ _ _ _))) (i := 0) rfl, M6.cell (.tail _ _ _ _ _ (.tail _ _ _ _ _ (Has.head _ _ _ _))) (i := 1) rfl, M6.cell (Has.head _ _ _ _) (i := 0) rfl, M6.cell (Has.head _ _ _ _) (i := 1) rfl⟩
        refine hK.out _ _ (fun _ => hHeld) ?_
        clear hK K
        try simp only [Act.put, puts]
        refine wpAnyN_takeY (i := 4) (v := ?v5) rfl (by kernel_rfl) (by kernel_rfl) (by kernel_rfl) (fun _ _ _ h => h) rfl (Or.inl ⟨by rfl, ?hy5⟩) (fun _ => hHeld) ?rest5
        case hy5 => (intro w' _; go_simp; (try with_reducible rfl))
        try simp only [Act.put, puts]
        refine wpAnyN_takeY (i := 5) (v := ?v6) rfl (by kernel_rfl) (by kernel_rfl) (by kernel_rfl) (fun _ _ _ h => h) rfl (Or.inl ⟨by rfl, ?hy6⟩) (fun _ => hHeld) ?rest6
        case hy6 => (intro w' _; go_simp; (try with_reducible rfl))
        try simp only [Act.put, puts]
        refine wpAnyN_takeY (i := 6) (v := ?v7) rfl (by kernel_rfl) (by kernel_rfl) (by kernel_rfl) (fun _ _ _ h => h) rfl (Or.inl ⟨by rfl, ?hy7⟩) (fun _ => hHeld) ?rest7
        case hy7 => (intro w' _; go_simp; (try with_reducible rfl))
        try simp only [Act.put, puts]
        refine wpAnyN_ready (rs := [7]) (by kernel_rfl) (by simp) ?_
        refine AllReadyN.cons rfl (fun K hK => ?_) AllReadyN.nil
        rw [if_pos (by rfl)]
        refine wp_st M6 rfl rfl rfl (.tail _ _ _ _ _ (.tail _ _ _ _ _ (Has.head _ _ _ _))) (wr_w _ rfl _ _) (.tail _ _ _ _ _ _ _ (.tail _ _ _ _ _ _ _ (Upd.head _ _ _ _ _))) ?_
        intro w7 M7
        refine hK.out _ _ (fun h => by have h' : (true : Bool) = false := h; cases h') ?_
        clear hK K
        try simp only [Act.put, puts]
        refine wpAnyN_done (by kernel_rfl) ?_ _
        have M8 : Mem w w7 [(g2, 51, wc z), (g1, 51, wc (r - pt))] := M7.pick (by repeat (first | exact List.nil_sublist _ | apply List.Sublist.cons_cons | apply List.Sublist.cons))
        clear M4 C3 C4
        go_wp2_with fail
        go_roundw
        case rel => exact ⟨j, x + pw, r - pt, (j : Int) - 1, rfl, shl_val HW.out hpw2 (Nat.le_trans (Nat.le_trans (Nat.le_add_right _ _) (Nat.le_add_right _ _)) hx), rfl, by omega, HN, M8⟩
        case measure => simp [intOf]
      · have hv := cmp_gt hl
        have HN := Lib.hid (HD.out.no (by rw [← hpt]; omega))
        obtain ⟨v, hv2⟩ : ∃ v, v = cmpZ (pt : Int) (r : Int) := ⟨_, rfl⟩
        rw [← hv2] at C2 hv
        clear HD hpt hpw hv2 hl
        go_wp2_with ((with_reducible refine (?_ : Go.wpList _ _ _ (_ :: _) _ _)); (first | go_skip | (refine wpL_ldc M2 rfl rfl rfl ?_) | (refine wpL_lgc M2 rfl rfl rfl ?_) | (refine wpL_stc M2 rfl rfl rfl rfl ?_; clear M2; intro w' M2) | (refine wpL_sti M2 rfl rfl rfl rfl ?_; clear M2; intro w' M2) | (refine wpL_sth M2 rfl rfl rfl rfl (wr_minus _ _ _) ?_; clear M2; intro w' M2)))
        refine (C1.out _).mono ?_
        rintro e w3 ⟨rfl, hA⟩
        replace M2 := M2.call hA
        clear hA C1
        go_wp2_with ((with_reducible refine (?_ : Go.wpList _ _ _ (_ :: _) _ _)); (first | go_skip | (refine wpL_bx M2 rfl rfl rfl rfl ?_; clear M2; intro g3 w3 M3) | (refine wpL_alc M2 rfl rfl ?_; clear M2; intro g3 w3 M3) | (refine wpL_ldc M2 rfl rfl rfl ?_) | (refine wpL_lgc M2 rfl rfl rfl ?_) | (refine wpL_stc M2 rfl rfl rfl rfl ?_; clear M2; intro w' M2) | (refine wpL_sti M2 rfl rfl rfl rfl ?_; clear M2; intro w' M2) | (refine wpL_sth M2 rfl rfl rfl rfl (wr_minus _ _ _) ?_; clear M2; intro w' M2) | (refine wpL_ldc M3 rfl rfl rfl ?_) | (refine wpL_lgc M3 rfl rfl rfl ?_) | (refine wpL_stc M3 rfl rfl rfl rfl ?_; clear M3; intro w' M3) | (refine wpL_sti M3 rfl rfl rfl rfl ?_; clear M3; intro w' M3) | (refine wpL_sth M3 rfl rfl rfl rfl (wr_minus _ _ _) ?_; clear M3; intro w' M3)))
        refine (C2.out _).mono ?_
        rintro e w4 ⟨rfl, hA⟩
        have M4 := M3.call hA
        clear hA C2 M3
        go_wp2_with ((with_reducible refine (?_ : Go.wpList _ _ _ (_ :: _) _ _)); (first | go_skip | (refine wpL_ldc M4 rfl rfl rfl ?_) | (refine wpL_lgc M4 rfl rfl rfl ?_) | (refine wpL_stc M4 rfl rfl rfl rfl ?_; clear M4; intro w' M4) | (refine wpL_sti M4 rfl rfl rfl rfl ?_; clear M4; intro w' M4) | (refine wpL_sth M4 rfl rfl rfl rfl (wr_minus _ _ _) ?_; clear M4; intro w' M4)))
        have M8 : Mem w w4 [(g2, 51, wc z), (g1, 51, wc r)] := M4.pick (by repeat (first | exact List.nil_sublist _ | apply List.Sublist.cons_cons | apply List.Sublist.cons))
        go_roundw
        case rel => exact ⟨j, x, r, (j : Int) - 1, rfl, rfl, rfl, by omega, HN, M8⟩
        case measure => simp [intOf]
end Go.Proofs.YtallbegibdlpaaaGreat
