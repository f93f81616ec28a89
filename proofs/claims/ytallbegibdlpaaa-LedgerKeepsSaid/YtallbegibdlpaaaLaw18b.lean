/-
  LedgerKeeps: the walk.
-/
import Derived.Test.YtallbegibdlpaaaLaw18w
import Derived.Test.YtallbegibdlpaaaRef18B
set_option linter.unusedVariables false
set_option linter.unusedSimpArgs false
namespace Go.Proofs.Ytallbegibdlpaaa
open Go Go.RowKit Go.Th Go.Th.Wide Go.Th.Up

theorem shl_one {d pw : Nat} (hi : d ≤ 40) (hp : pw = 2 ^ d) : IntKind.i64.wrap (2 ^ d) = (pw : Int) := by
  have h2 : (2 : Int) ^ d = (pw : Int) := by rw [hp]; simp
  have h3 : pw ≤ 1099511627776 := by rw [hp]; exact Nat.le_trans (Nat.pow_le_pow_right (by decide) (show d ≤ 40 by omega)) (by decide)
  rw [h2, w64]
  simp only [wrap64]
  omega

set_option maxRecDepth 40000 in
set_option maxHeartbeats 12800000 in
theorem keeps_go (n b m s z st : Int) (P B M S Z Y c u1 u2 St : Nat) (vp vq vr vt vu : Int) (hn : 0 ≤ n ∧ n < 65536) (hb : 0 ≤ b ∧ b < 18446744073709551616) (hm : 0 ≤ m ∧ m < 4294967296) (hs : 0 ≤ s ∧ s < 4294967296) (hz : 0 ≤ z ∧ z < 18446744073709551616)
    (e1 : n.tmod 4097 = (P : Int)) (e2 : b.tmod 1099511627777 = (B : Int)) (e3 : m.tmod 65537 = (M : Int)) (e4 : s.tmod 1073741825 = (S : Int)) (e5 : z.tmod 70368744177664 = (Z : Int)) (e6 : (Z : Int).tmod 1073741824 = (Y : Int)) (e7 : st = (St : Int))
    (hP : P ≤ 4096) (hB : B ≤ 1099511627776) (hM : M ≤ 65536) (hS : S ≤ 1073741824) (hZ : Z < 70368744177664) (hY : Y < 1073741824) (hSt : St ≤ 1099511627776) (hc : c ≤ 5000000) (hu1 : u1 ≤ 1099511627776) (hu2 : u2 ≤ 1099511627776)
    (C3 : ∀ wx, Calls Try.prog 8 #[.int .i64 P] wx fun e w' => e = .returned (.int .i64 c) ∧ Below wx.heap.size wx w')
    (CP : ∀ wx, KAns 11 #[bk B St, .int .i64 P] vp (St + 1) wx)
    (CQ : ∀ wx, KAns 12 #[bk B St, .int .i64 P, .int .i64 M, .int .i64 S, wn Z] vq (St + 1) wx)
    (CR : ∀ wx, KAns 13 #[bk B St, .int .i64 P, .int .i64 S, .int .i64 Y] vr (St + 1) wx)
    (CT : ∀ wx, KAns 14 #[bk B St, .int .i64 P] vt (St + 1) wx)
    (CU : ∀ wx, KAns 15 #[bk B St, .int .i64 P] vu (St + 1) wx)
    (OZ : ∀ wx, Calls Try.prog 6 #[.int .i64 Z] wx fun e w' => e = .returned (wn Z) ∧ Below wx.heap.size wx w')
    (OY : ∀ wx, Calls Try.prog 6 #[.int .i64 Y] wx fun e w' => e = .returned (wn Y) ∧ Below wx.heap.size wx w')
    (SZ : ∀ wx, Calls Try.prog 5 #[.int .i64 B, .int .i64 M, .int .i64 S, wn Z] wx fun e w' => e = .returned (.int .i64 u1) ∧ Below wx.heap.size wx w')
    (SY : ∀ wx, Calls Try.prog 5 #[.int .i64 B, .int .i64 1, .int .i64 S, wn Y] wx fun e w' => e = .returned (.int .i64 u2) ∧ Below wx.heap.size wx w')
    (RP : ∀ wx, Calls Try.prog 16 #[.int .i64 B, .int .i64 (3 * (c : Int))] wx fun e w' => e = .returned (.int .i64 vp) ∧ Below wx.heap.size wx w')
    (RQ : ∀ wx, Calls Try.prog 16 #[.int .i64 u1, .int .i64 c] wx fun e w' => e = .returned (.int .i64 vq) ∧ Below wx.heap.size wx w')
    (RR : ∀ wx, Calls Try.prog 16 #[.int .i64 u2, .int .i64 c] wx fun e w' => e = .returned (.int .i64 vr) ∧ Below wx.heap.size wx w')
    (RT : ∀ wx, Calls Try.prog 16 #[.int .i64 B, .int .i64 (2 * (c : Int))] wx fun e w' => e = .returned (.int .i64 vt) ∧ Below wx.heap.size wx w')
    (RU : ∀ wx, Calls Try.prog 16 #[.int .i64 B, .int .i64 c] wx fun e w' => e = .returned (.int .i64 vu) ∧ Below wx.heap.size wx w') (w : World) :
    Calls Try.prog 4 #[.int .u64 b, .int .i64 st, .int .u16 n, .int .u32 m, .int .u32 s, .int .u64 z] w fun e w' => e = .returned (.bool true) ∧ Below w.heap.size w w' := by
  have H3 := Lib.hid C3
  have HP := Lib.hid CP
  have HQ := Lib.hid CQ
  have HR := Lib.hid CR
  have HT := Lib.hid CT
  have HU := Lib.hid CU
  have HOZ := Lib.hid OZ
  have HOY := Lib.hid OY
  have HSZ := Lib.hid SZ
  have HSY := Lib.hid SY
  have HRP := Lib.hid RP
  have HRQ := Lib.hid RQ
  have HRR := Lib.hid RR
  have HRT := Lib.hid RT
  have HRU := Lib.hid RU
  clear C3 CP CQ CR CT CU OZ OY SZ SY RP RQ RR RT RU
  obtain rfl := e7
  have k1 : ¬ (St : Int) < 0 := by omega
  have k2 : ¬ (1099511627776 : Int) < (St : Int) := by omega
  have k3 : IntKind.i64.wrap (3 * (c : Int)) = 3 * (c : Int) := by rw [w64]; simp only [wrap64]; omega
  have k4 : IntKind.i64.wrap (2 * (c : Int)) = 2 * (c : Int) := by rw [w64]; simp only [wrap64]; omega
  have q1 : (vp == vp) = true := by simp
  have q2 : (vq == vq) = true := by simp
  have q3 : (vr == vr) = true := by simp
  have q4 : (vt == vt) = true := by simp
  have q5 : (vu == vu) = true := by simp
  have p1 : (vp != vp) = false := by simp
  have p2 : (vq != vq) = false := by simp
  have p3 : (vr != vr) = false := by simp
  have p4 : (vt != vt) = false := by simp
  have p5 : (vu != vu) = false := by simp
  have M0 := Mem.start w
  go_enter Try.func4, Try.ntmps4
  go_wp2_with ((with_reducible refine (?_ : Go.wpList _ _ _ (_ :: _) _ _)); (first | go_skip | (refine wpL_bx M0 rfl rfl rfl rfl ?_; clear M0; intro g1 w1 M1) | (refine wpL_alc M0 rfl rfl ?_; clear M0; intro g1 w1 M1) | (refine wpL_ldc M0 rfl rfl rfl ?_) | (refine wpL_lgc M0 rfl rfl rfl ?_) | (refine wpL_stc M0 rfl rfl rfl rfl ?_; clear M0; intro w' M0) | (refine wpL_sti M0 rfl rfl rfl rfl ?_; clear M0; intro w' M0) | (refine wpL_sth M0 rfl rfl rfl rfl (wr_minus _ _ _) ?_; clear M0; intro w' M0) | (refine wpL_ldc M1 rfl rfl rfl ?_) | (refine wpL_lgc M1 rfl rfl rfl ?_) | (refine wpL_stc M1 rfl rfl rfl rfl ?_; clear M1; intro w' M1) | (refine wpL_sti M1 rfl rfl rfl rfl ?_; clear M1; intro w' M1) | (refine wpL_sth M1 rfl rfl rfl rfl (wr_minus _ _ _) ?_; clear M1; intro w' M1)))
  refine (H3.out _).mono ?_
  rintro e w2 ⟨rfl, hA⟩
  replace M1 := M1.call hA
  clear hA
  go_wp2_with ((with_reducible refine (?_ : Go.wpList _ _ _ (_ :: _) _ _)); (first | go_skip | (refine wpL_ldc M1 rfl rfl rfl ?_) | (refine wpL_lgc M1 rfl rfl rfl ?_) | (refine wpL_stc M1 rfl rfl rfl rfl ?_; clear M1; intro w' M1) | (refine wpL_sti M1 rfl rfl rfl rfl ?_; clear M1; intro w' M1) | (refine wpL_sth M1 rfl rfl rfl rfl (wr_minus _ _ _) ?_; clear M1; intro w' M1)))
  refine (HP.out _).mono ?_
  rintro e w2 ⟨rfl, hA⟩
  replace M1 := M1.call hA
  clear hA
  go_upto_region 8 with (((with_reducible refine (?_ : Go.wpList _ _ _ (_ :: _) _ _)); (first | go_skip | (refine wpL_bx M1 rfl rfl rfl rfl ?_; clear M1; intro g2 w2 M2) | (refine wpL_alc M1 rfl rfl ?_; clear M1; intro g2 w2 M2) | (refine wpL_ldc M1 rfl rfl rfl ?_) | (refine wpL_lgc M1 rfl rfl rfl ?_) | (refine wpL_stc M1 rfl rfl rfl rfl ?_; clear M1; intro w' M1) | (refine wpL_sti M1 rfl rfl rfl rfl ?_; clear M1; intro w' M1) | (refine wpL_sth M1 rfl rfl rfl rfl (wr_minus _ _ _) ?_; clear M1; intro w' M1) | (refine wpL_ldc M2 rfl rfl rfl ?_) | (refine wpL_lgc M2 rfl rfl rfl ?_) | (refine wpL_stc M2 rfl rfl rfl rfl ?_; clear M2; intro w' M2) | (refine wpL_sti M2 rfl rfl rfl rfl ?_; clear M2; intro w' M2) | (refine wpL_sth M2 rfl rfl rfl rfl (wr_minus _ _ _) ?_; clear M2; intro w' M2))))
  obtain ⟨wA, hwA⟩ : ∃ wA, wA = w' := ⟨_, rfl⟩
  rw [← hwA] at M2 ⊢
  clear hwA
  try simp only [Act.put, puts]
  go_cut [20] from 25 (fun s20 wx => ∃ (g3 : Nat), s20 = .pointer (some ⟨g3, 0, none⟩) ∧ Mem w wx [(g3, 35, bc vq (St + 1)), (g2, 35, bc vp (St + 1)), (g1, 35, bc B St)])
  case first =>
    have M3 := M2.drew
    clear M2
    refine wp_region_held_drew (S := (fun w' : World => w'.cell? ⟨g1, 0, none⟩ = some (.int .i64 (B : Int)) ∧ w'.cell? ⟨g1, 1, none⟩ = some (.int .i64 (St : Int)))) (by kernel_rfl) (⟨M3.cell (.tail _ _ _ _ _ (Has.head _ _ _ _)) (i := 0) rfl, M3.cell (.tail _ _ _ _ _ (Has.head _ _ _ _)) (i := 1) rfl⟩) (fun hHeld => ?_)
    refine tkT 0 ?v9501 ?hy9501 hHeld ?rest9501
    case hy9501 => (intro w' hSw; (try dsimp only at hSw); go_simp; (try with_reducible rfl))
    try simp only [Act.put, puts]
    refine tkT 1 ?v9502 ?hy9502 hHeld ?rest9502
    case hy9502 => (intro w' hSw; (try dsimp only at hSw); go_simp; (try with_reducible rfl))
    try simp only [Act.put, puts]
    refine tkT 2 ?v9503 ?hy9503 hHeld ?rest9503
    case hy9503 => (intro w' hSw; (try dsimp only at hSw); go_simp; (try with_reducible rfl))
    try simp only [Act.put, puts]
    refine tkT 3 ?v9504 ?hy9504 hHeld ?rest9504
    case hy9504 => (intro w' hSw; (try dsimp only at hSw); go_simp; (try with_reducible rfl))
    try simp only [Act.put, puts]
    refine tkT 4 ?v9505 ?hy9505 hHeld ?rest9505
    case hy9505 => (intro w' hSw; (try dsimp only at hSw); go_simp; (try with_reducible rfl))
    try simp only [Act.put, puts]
    refine wpAnyH_ready (rs := [5, 7]) (by kernel_rfl) (by simp) ?_
    refine AllReadyH.cons rfl (fun K hK => ?_) (AllReadyH.cons rfl (fun K hK => ?_) AllReadyH.nil)
    · go_simp
      refine (HOZ.out _).mono ?_
      rintro e wn ⟨rfl, hA⟩
      replace M3 := M3.call hA
      clear hA
      try go_wp2_with fail
      clear hHeld
      refine hK.out _ _ (⟨M3.cell (.tail _ _ _ _ _ (Has.head _ _ _ _)) (i := 0) rfl, M3.cell (.tail _ _ _ _ _ (Has.head _ _ _ _)) (i := 1) rfl⟩) (fun hHeld => ?_)
      clear hK K
      try simp only [Act.put, puts]
      refine wpAnyH_ready (rs := [6, 7]) (by kernel_rfl) (by simp) ?_
      refine AllReadyH.cons rfl (fun K hK => ?_) (AllReadyH.cons rfl (fun K hK => ?_) AllReadyH.nil)
      · go_simp
        refine (HQ.out _).mono ?_
        rintro e wn ⟨rfl, hA⟩
        replace M3 := M3.call hA
        clear hA
        try go_wp2_with fail
        clear hHeld
        refine hK.out _ _ (⟨M3.cell (.tail _ _ _ _ _ (Has.head _ _ _ _)) (i := 0) rfl, M3.cell (.tail _ _ _ _ _ (Has.head _ _ _ _)) (i := 1) rfl⟩) (fun hHeld => ?_)
        clear hK K
        try simp only [Act.put, puts]
        refine wpAnyH_ready (rs := [7]) (by kernel_rfl) (by simp) ?_
        refine AllReadyH.cons rfl (fun K hK => ?_) AllReadyH.nil
        rw [if_pos (by rfl)]
        refine wp_al M3 rfl zeroK rfl ?_
        clear M3
        intro g3 wn M3
        clear hHeld
        refine hK.out _ _ (⟨M3.cell (.tail _ _ _ _ _ (.tail _ _ _ _ _ (Has.head _ _ _ _))) (i := 0) rfl, M3.cell (.tail _ _ _ _ _ (.tail _ _ _ _ _ (Has.head _ _ _ _))) (i := 1) rfl⟩) (fun hHeld => ?_)
        clear hK K
        try simp only [Act.put, puts]
        refine wpAnyH_ready (rs := [8]) (by kernel_rfl) (by simp) ?_
        refine AllReadyH.cons rfl (fun K hK => ?_) AllReadyH.nil
        rw [if_pos (by rfl)]
        refine wp_st M3 rfl rfl rfl (Has.head _ _ _ _) (wr_bk _ _ _ _) (Upd.head _ _ _ _ _) ?_
        clear M3
        intro wz M3
        clear hHeld
        refine hK.out _ _ (⟨M3.cell (.tail _ _ _ _ _ (.tail _ _ _ _ _ (Has.head _ _ _ _))) (i := 0) rfl, M3.cell (.tail _ _ _ _ _ (.tail _ _ _ _ _ (Has.head _ _ _ _))) (i := 1) rfl⟩) (fun hHeld => ?_)
        clear hK K
        try simp only [Act.put, puts]
        refine wpAnyH_done (by kernel_rfl) ?_ _
        go_wp2_with fail
        go_meet
        exact ⟨g3, rfl, M3⟩
      · rw [if_pos (by rfl)]
        refine wp_al M3 rfl zeroK rfl ?_
        clear M3
        intro g3 wn M3
        clear hHeld
        refine hK.out _ _ (⟨M3.cell (.tail _ _ _ _ _ (.tail _ _ _ _ _ (Has.head _ _ _ _))) (i := 0) rfl, M3.cell (.tail _ _ _ _ _ (.tail _ _ _ _ _ (Has.head _ _ _ _))) (i := 1) rfl⟩) (fun hHeld => ?_)
        clear hK K
        try simp only [Act.put, puts]
        refine wpAnyH_ready (rs := [6]) (by kernel_rfl) (by simp) ?_
        refine AllReadyH.cons rfl (fun K hK => ?_) AllReadyH.nil
        go_simp
        refine (HQ.out _).mono ?_
        rintro e wn ⟨rfl, hA⟩
        replace M3 := M3.call hA
        clear hA
        try go_wp2_with fail
        clear hHeld
        refine hK.out _ _ (⟨M3.cell (.tail _ _ _ _ _ (.tail _ _ _ _ _ (Has.head _ _ _ _))) (i := 0) rfl, M3.cell (.tail _ _ _ _ _ (.tail _ _ _ _ _ (Has.head _ _ _ _))) (i := 1) rfl⟩) (fun hHeld => ?_)
        clear hK K
        try simp only [Act.put, puts]
        refine wpAnyH_ready (rs := [8]) (by kernel_rfl) (by simp) ?_
        refine AllReadyH.cons rfl (fun K hK => ?_) AllReadyH.nil
        rw [if_pos (by rfl)]
        refine wp_st M3 rfl rfl rfl (Has.head _ _ _ _) (wr_bk _ _ _ _) (Upd.head _ _ _ _ _) ?_
        clear M3
        intro wz M3
        clear hHeld
        refine hK.out _ _ (⟨M3.cell (.tail _ _ _ _ _ (.tail _ _ _ _ _ (Has.head _ _ _ _))) (i := 0) rfl, M3.cell (.tail _ _ _ _ _ (.tail _ _ _ _ _ (Has.head _ _ _ _))) (i := 1) rfl⟩) (fun hHeld => ?_)
        clear hK K
        try simp only [Act.put, puts]
        refine wpAnyH_done (by kernel_rfl) ?_ _
        go_wp2_with fail
        go_meet
        exact ⟨g3, rfl, M3⟩
    · rw [if_pos (by rfl)]
      refine wp_al M3 rfl zeroK rfl ?_
      clear M3
      intro g3 wn M3
      clear hHeld
      refine hK.out _ _ (⟨M3.cell (.tail _ _ _ _ _ (.tail _ _ _ _ _ (Has.head _ _ _ _))) (i := 0) rfl, M3.cell (.tail _ _ _ _ _ (.tail _ _ _ _ _ (Has.head _ _ _ _))) (i := 1) rfl⟩) (fun hHeld => ?_)
      clear hK K
      try simp only [Act.put, puts]
      refine wpAnyH_ready (rs := [5]) (by kernel_rfl) (by simp) ?_
      refine AllReadyH.cons rfl (fun K hK => ?_) AllReadyH.nil
      go_simp
      refine (HOZ.out _).mono ?_
      rintro e wn ⟨rfl, hA⟩
      replace M3 := M3.call hA
      clear hA
      try go_wp2_with fail
      clear hHeld
      refine hK.out _ _ (⟨M3.cell (.tail _ _ _ _ _ (.tail _ _ _ _ _ (Has.head _ _ _ _))) (i := 0) rfl, M3.cell (.tail _ _ _ _ _ (.tail _ _ _ _ _ (Has.head _ _ _ _))) (i := 1) rfl⟩) (fun hHeld => ?_)
      clear hK K
      try simp only [Act.put, puts]
      refine wpAnyH_ready (rs := [6]) (by kernel_rfl) (by simp) ?_
      refine AllReadyH.cons rfl (fun K hK => ?_) AllReadyH.nil
      go_simp
      refine (HQ.out _).mono ?_
      rintro e wn ⟨rfl, hA⟩
      replace M3 := M3.call hA
      clear hA
      try go_wp2_with fail
      clear hHeld
      refine hK.out _ _ (⟨M3.cell (.tail _ _ _ _ _ (.tail _ _ _ _ _ (Has.head _ _ _ _))) (i := 0) rfl, M3.cell (.tail _ _ _ _ _ (.tail _ _ _ _ _ (Has.head _ _ _ _))) (i := 1) rfl⟩) (fun hHeld => ?_)
      clear hK K
      try simp only [Act.put, puts]
      refine wpAnyH_ready (rs := [8]) (by kernel_rfl) (by simp) ?_
      refine AllReadyH.cons rfl (fun K hK => ?_) AllReadyH.nil
      rw [if_pos (by rfl)]
      refine wp_st M3 rfl rfl rfl (Has.head _ _ _ _) (wr_bk _ _ _ _) (Upd.head _ _ _ _ _) ?_
      clear M3
      intro wz M3
      clear hHeld
      refine hK.out _ _ (⟨M3.cell (.tail _ _ _ _ _ (.tail _ _ _ _ _ (Has.head _ _ _ _))) (i := 0) rfl, M3.cell (.tail _ _ _ _ _ (.tail _ _ _ _ _ (Has.head _ _ _ _))) (i := 1) rfl⟩) (fun hHeld => ?_)
      clear hK K
      try simp only [Act.put, puts]
      refine wpAnyH_done (by kernel_rfl) ?_ _
      go_wp2_with fail
      go_meet
      exact ⟨g3, rfl, M3⟩
  clear M2
  obtain ⟨g3, rfl, M3⟩ := hcut
  try simp only [Exit.then, Exit.inBlock]
  go_wp2_with ((with_reducible refine (?_ : Go.wpList _ _ _ (_ :: _) _ _)); (first | go_skip | (refine wpL_ldc M3 rfl rfl rfl ?_) | (refine wpL_lgc M3 rfl rfl rfl ?_) | (refine wpL_stc M3 rfl rfl rfl rfl ?_; clear M3; intro w' M3) | (refine wpL_sti M3 rfl rfl rfl rfl ?_; clear M3; intro w' M3) | (refine wpL_sth M3 rfl rfl rfl rfl (wr_minus _ _ _) ?_; clear M3; intro w' M3)))
  refine (HR.out _).mono ?_
  rintro e w4 ⟨rfl, hA⟩
  replace M3 := M3.call hA
  clear hA
  go_wp2_with ((with_reducible refine (?_ : Go.wpList _ _ _ (_ :: _) _ _)); (first | go_skip | (refine wpL_bx M3 rfl rfl rfl rfl ?_; clear M3; intro g4 w4 M4) | (refine wpL_alc M3 rfl rfl ?_; clear M3; intro g4 w4 M4) | (refine wpL_ldc M3 rfl rfl rfl ?_) | (refine wpL_lgc M3 rfl rfl rfl ?_) | (refine wpL_stc M3 rfl rfl rfl rfl ?_; clear M3; intro w' M3) | (refine wpL_sti M3 rfl rfl rfl rfl ?_; clear M3; intro w' M3) | (refine wpL_sth M3 rfl rfl rfl rfl (wr_minus _ _ _) ?_; clear M3; intro w' M3) | (refine wpL_ldc M4 rfl rfl rfl ?_) | (refine wpL_lgc M4 rfl rfl rfl ?_) | (refine wpL_stc M4 rfl rfl rfl rfl ?_; clear M4; intro w' M4) | (refine wpL_sti M4 rfl rfl rfl rfl ?_; clear M4; intro w' M4) | (refine wpL_sth M4 rfl rfl rfl rfl (wr_minus _ _ _) ?_; clear M4; intro w' M4)))
  refine (HT.out _).mono ?_
  rintro e w5 ⟨rfl, hA⟩
  replace M4 := M4.call hA
  clear hA
  go_wp2_with ((with_reducible refine (?_ : Go.wpList _ _ _ (_ :: _) _ _)); (first | go_skip | (refine wpL_bx M4 rfl rfl rfl rfl ?_; clear M4; intro g5 w5 M5) | (refine wpL_alc M4 rfl rfl ?_; clear M4; intro g5 w5 M5) | (refine wpL_ldc M4 rfl rfl rfl ?_) | (refine wpL_lgc M4 rfl rfl rfl ?_) | (refine wpL_stc M4 rfl rfl rfl rfl ?_; clear M4; intro w' M4) | (refine wpL_sti M4 rfl rfl rfl rfl ?_; clear M4; intro w' M4) | (refine wpL_sth M4 rfl rfl rfl rfl (wr_minus _ _ _) ?_; clear M4; intro w' M4) | (refine wpL_ldc M5 rfl rfl rfl ?_) | (refine wpL_lgc M5 rfl rfl rfl ?_) | (refine wpL_stc M5 rfl rfl rfl rfl ?_; clear M5; intro w' M5) | (refine wpL_sti M5 rfl rfl rfl rfl ?_; clear M5; intro w' M5) | (refine wpL_sth M5 rfl rfl rfl rfl (wr_minus _ _ _) ?_; clear M5; intro w' M5)))
  refine (HU.out _).mono ?_
  rintro e w6 ⟨rfl, hA⟩
  replace M5 := M5.call hA
  clear hA
  go_upto_region 12 with (((with_reducible refine (?_ : Go.wpList _ _ _ (_ :: _) _ _)); (first | go_skip | (refine wpL_bx M5 rfl rfl rfl rfl ?_; clear M5; intro g6 w6 M6) | (refine wpL_alc M5 rfl rfl ?_; clear M5; intro g6 w6 M6) | (refine wpL_ldc M5 rfl rfl rfl ?_) | (refine wpL_lgc M5 rfl rfl rfl ?_) | (refine wpL_stc M5 rfl rfl rfl rfl ?_; clear M5; intro w' M5) | (refine wpL_sti M5 rfl rfl rfl rfl ?_; clear M5; intro w' M5) | (refine wpL_sth M5 rfl rfl rfl rfl (wr_minus _ _ _) ?_; clear M5; intro w' M5) | (refine wpL_ldc M6 rfl rfl rfl ?_) | (refine wpL_lgc M6 rfl rfl rfl ?_) | (refine wpL_stc M6 rfl rfl rfl rfl ?_; clear M6; intro w' M6) | (refine wpL_sti M6 rfl rfl rfl rfl ?_; clear M6; intro w' M6) | (refine wpL_sth M6 rfl rfl rfl rfl (wr_minus _ _ _) ?_; clear M6; intro w' M6))))
  obtain ⟨wA, hwA⟩ : ∃ wA, wA = w' := ⟨_, rfl⟩
  rw [← hwA] at M6 ⊢
  clear hwA HP HQ HR HT HU H3
  try simp only [Act.put, puts]
  have M7 := M6.drew
  clear M6
  refine wp_region_held_drew (S := (fun w' : World => w'.cell? ⟨g1, 0, none⟩ = some (.int .i64 (B : Int)) ∧ w'.cell? ⟨g2, 0, none⟩ = some (.int .i64 vp) ∧ w'.cell? ⟨g3, 0, none⟩ = some (.int .i64 vq) ∧ w'.cell? ⟨g4, 0, none⟩ = some (.int .i64 vr) ∧ w'.cell? ⟨g5, 0, none⟩ = some (.int .i64 vt) ∧ w'.cell? ⟨g6, 0, none⟩ = some (.int .i64 vu))) (by kernel_rfl) (⟨M7.cell (.tail _ _ _ _ _ (.tail _ _ _ _ _ (.tail _ _ _ _ _ (.tail _ _ _ _ _ (.tail _ _ _ _ _ (Has.head _ _ _ _)))))) (i := 0) rfl, M7.cell (.tail _ _ _ _ _ (.tail _ _ _ _ _ (.tail _ _ _ _ _ (.tail _ _ _ _ _ (Has.head _ _ _ _))))) (i := 0) rfl, M7.cell (.tail _ _ _ _ _ (.tail _ _ _ _ _ (.tail _ _ _ _ _ (Has.head _ _ _ _)))) (i := 0) rfl, M7.cell (.tail _ _ _ _ _ (.tail _ _ _ _ _ (Has.head _ _ _ _))) (i := 0) rfl, M7.cell (.tail _ _ _ _ _ (Has.head _ _ _ _)) (i := 0) rfl, M7.cell (Has.head _ _ _ _) (i := 0) rfl⟩) (fun hHeld => ?_)
  refine tkT 0 ?v1 ?hy1 hHeld ?rest1 (hw := by kernel_rfl)
  case hy1 => (intro w' hSw; (try dsimp only at hSw); go_simp; (try with_reducible rfl))
  try simp only [Act.put, puts]
  refine tkT 1 ?v2 ?hy2 hHeld ?rest2 (hw := by kernel_rfl)
  case hy2 => (intro w' hSw; (try dsimp only at hSw); go_simp; (try with_reducible rfl))
  try simp only [Act.put, puts]
  refine tkT 2 ?v3 ?hy3 hHeld ?rest3 (hw := by kernel_rfl)
  case hy3 => (intro w' hSw; (try dsimp only at hSw); go_simp; (try with_reducible rfl))
  try simp only [Act.put, puts]
  refine tkT 3 ?v4 ?hy4 hHeld ?rest4 (hw := by kernel_rfl)
  case hy4 => (intro w' hSw; (try dsimp only at hSw); go_simp; (try with_reducible rfl))
  try simp only [Act.put, puts]
  refine tkT 4 ?v5 ?hy5 hHeld ?rest5 (hw := by kernel_rfl)
  case hy5 => (intro w' hSw; (try dsimp only at hSw); go_simp; (try with_reducible rfl))
  try simp only [Act.put, puts]
  refine tkT 5 ?v6 ?hy6 hHeld ?rest6 (hw := by kernel_rfl)
  case hy6 => (intro w' hSw; (try dsimp only at hSw); go_simp; (try with_reducible rfl))
  try simp only [Act.put, puts]
  refine wpAnyH_ready (rs := [6]) (by kernel_rfl) (by simp) ?_
  refine AllReadyH.cons rfl (fun K hK => ?_) AllReadyH.nil
  go_simp
  try rw [k3]
  refine (HRP.out _).mono ?_
  rintro e wn ⟨rfl, hA⟩
  replace M7 := M7.call hA
  clear hA hHeld
  try go_wp2_with fail
  refine hK.out _ _ (⟨M7.cell (.tail _ _ _ _ _ (.tail _ _ _ _ _ (.tail _ _ _ _ _ (.tail _ _ _ _ _ (.tail _ _ _ _ _ (Has.head _ _ _ _)))))) (i := 0) rfl, M7.cell (.tail _ _ _ _ _ (.tail _ _ _ _ _ (.tail _ _ _ _ _ (.tail _ _ _ _ _ (Has.head _ _ _ _))))) (i := 0) rfl, M7.cell (.tail _ _ _ _ _ (.tail _ _ _ _ _ (.tail _ _ _ _ _ (Has.head _ _ _ _)))) (i := 0) rfl, M7.cell (.tail _ _ _ _ _ (.tail _ _ _ _ _ (Has.head _ _ _ _))) (i := 0) rfl, M7.cell (.tail _ _ _ _ _ (Has.head _ _ _ _)) (i := 0) rfl, M7.cell (Has.head _ _ _ _) (i := 0) rfl⟩) (fun hHeld => ?_)
  clear hK K
  try simp only [Act.put, puts]
  refine tkT 7 ?v8 ?hy8 hHeld ?rest8 (hw := by kernel_rfl)
  case hy8 => (intro w' hSw; (try dsimp only at hSw); go_simp; (try with_reducible rfl))
  try simp only [Act.put, puts]
  refine tkT 8 ?v9 ?hy9 hHeld ?rest9 (hw := by kernel_rfl)
  case hy9 => (intro w' hSw; (try dsimp only at hSw); go_simp; (try with_reducible rfl))
  try simp only [Act.put, puts]
  refine tkT 9 ?v10 ?hy10 hHeld ?rest10 (hw := by kernel_rfl)
  case hy10 => (intro w' hSw; (try dsimp only at hSw); go_simp; (try with_reducible rfl))
  try simp only [Act.put, puts]
  refine tkT 10 ?v11 ?hy11 hHeld ?rest11 (hw := by kernel_rfl)
  case hy11 => (intro w' hSw; (try dsimp only at hSw); go_simp; (try with_reducible rfl))
  try simp only [Act.put, puts]
  refine tkT 11 ?v12 ?hy12 hHeld ?rest12 (hw := by kernel_rfl)
  case hy12 => (intro w' hSw; (try dsimp only at hSw); go_simp; (try with_reducible rfl))
  try simp only [Act.put, puts]
  refine tkT 12 ?v13 ?hy13 hHeld ?rest13 (hw := by kernel_rfl)
  case hy13 => (intro w' hSw; (try dsimp only at hSw); go_simp; (try with_reducible rfl))
  try simp only [Act.put, puts]
  refine tkT 13 ?v14 ?hy14 hHeld ?rest14 (hw := by kernel_rfl)
  case hy14 => (intro w' hSw; (try dsimp only at hSw); go_simp; (try with_reducible rfl))
  try simp only [Act.put, puts]
  refine tkT 14 ?v15 ?hy15 hHeld ?rest15 (hw := by kernel_rfl)
  case hy15 => (intro w' hSw; (try dsimp only at hSw); go_simp; (try with_reducible rfl))
  try simp only [Act.put, puts]
  refine tkT 15 ?v16 ?hy16 hHeld ?rest16 (hw := by kernel_rfl)
  case hy16 => (intro w' hSw; (try dsimp only at hSw); go_simp; (try with_reducible rfl))
  try simp only [Act.put, puts]
  refine tkT 18 ?v17 ?hy17 hHeld ?rest17 (hw := by kernel_rfl)
  case hy17 => (intro w' hSw; (try dsimp only at hSw); go_simp; (try with_reducible rfl))
  try simp only [Act.put, puts]
  refine wpAnyH_ready (rs := [16]) (by kernel_rfl) (by simp) ?_
  refine AllReadyH.cons rfl (fun K hK => ?_) AllReadyH.nil
  go_simp
  refine (HOZ.out _).mono ?_
  rintro e wn ⟨rfl, hA⟩
  replace M7 := M7.call hA
  clear hA hHeld
  try go_wp2_with fail
  refine hK.out _ _ (⟨M7.cell (.tail _ _ _ _ _ (.tail _ _ _ _ _ (.tail _ _ _ _ _ (.tail _ _ _ _ _ (.tail _ _ _ _ _ (Has.head _ _ _ _)))))) (i := 0) rfl, M7.cell (.tail _ _ _ _ _ (.tail _ _ _ _ _ (.tail _ _ _ _ _ (.tail _ _ _ _ _ (Has.head _ _ _ _))))) (i := 0) rfl, M7.cell (.tail _ _ _ _ _ (.tail _ _ _ _ _ (.tail _ _ _ _ _ (Has.head _ _ _ _)))) (i := 0) rfl, M7.cell (.tail _ _ _ _ _ (.tail _ _ _ _ _ (Has.head _ _ _ _))) (i := 0) rfl, M7.cell (.tail _ _ _ _ _ (Has.head _ _ _ _)) (i := 0) rfl, M7.cell (Has.head _ _ _ _) (i := 0) rfl⟩) (fun hHeld => ?_)
  clear hK K
  try simp only [Act.put, puts]
  refine wpAnyH_ready (rs := [17]) (by kernel_rfl) (by simp) ?_
  refine AllReadyH.cons rfl (fun K hK => ?_) AllReadyH.nil
  go_simp
  refine (HSZ.out _).mono ?_
  rintro e wn ⟨rfl, hA⟩
  replace M7 := M7.call hA
  clear hA hHeld
  try go_wp2_with fail
  refine hK.out _ _ (⟨M7.cell (.tail _ _ _ _ _ (.tail _ _ _ _ _ (.tail _ _ _ _ _ (.tail _ _ _ _ _ (.tail _ _ _ _ _ (Has.head _ _ _ _)))))) (i := 0) rfl, M7.cell (.tail _ _ _ _ _ (.tail _ _ _ _ _ (.tail _ _ _ _ _ (.tail _ _ _ _ _ (Has.head _ _ _ _))))) (i := 0) rfl, M7.cell (.tail _ _ _ _ _ (.tail _ _ _ _ _ (.tail _ _ _ _ _ (Has.head _ _ _ _)))) (i := 0) rfl, M7.cell (.tail _ _ _ _ _ (.tail _ _ _ _ _ (Has.head _ _ _ _))) (i := 0) rfl, M7.cell (.tail _ _ _ _ _ (Has.head _ _ _ _)) (i := 0) rfl, M7.cell (Has.head _ _ _ _) (i := 0) rfl⟩) (fun hHeld => ?_)
  clear hK K
  try simp only [Act.put, puts]
  refine wpAnyH_ready (rs := [19]) (by kernel_rfl) (by simp) ?_
  refine AllReadyH.cons rfl (fun K hK => ?_) AllReadyH.nil
  go_simp
  refine (HRQ.out _).mono ?_
  rintro e wn ⟨rfl, hA⟩
  replace M7 := M7.call hA
  clear hA hHeld
  try go_wp2_with fail
  refine hK.out _ _ (⟨M7.cell (.tail _ _ _ _ _ (.tail _ _ _ _ _ (.tail _ _ _ _ _ (.tail _ _ _ _ _ (.tail _ _ _ _ _ (Has.head _ _ _ _)))))) (i := 0) rfl, M7.cell (.tail _ _ _ _ _ (.tail _ _ _ _ _ (.tail _ _ _ _ _ (.tail _ _ _ _ _ (Has.head _ _ _ _))))) (i := 0) rfl, M7.cell (.tail _ _ _ _ _ (.tail _ _ _ _ _ (.tail _ _ _ _ _ (Has.head _ _ _ _)))) (i := 0) rfl, M7.cell (.tail _ _ _ _ _ (.tail _ _ _ _ _ (Has.head _ _ _ _))) (i := 0) rfl, M7.cell (.tail _ _ _ _ _ (Has.head _ _ _ _)) (i := 0) rfl, M7.cell (Has.head _ _ _ _) (i := 0) rfl⟩) (fun hHeld => ?_)
  clear hK K
  try simp only [Act.put, puts]
  refine tkT 20 ?v21 ?hy21 hHeld ?rest21 (hw := by kernel_rfl)
  case hy21 => (intro w' hSw; (try dsimp only at hSw); go_simp; (try with_reducible rfl))
  try simp only [Act.put, puts]
  refine tkT 21 ?v22 ?hy22 hHeld ?rest22 (hw := by kernel_rfl)
  case hy22 => (intro w' hSw; (try dsimp only at hSw); go_simp; (try with_reducible rfl))
  try simp only [Act.put, puts]
  refine tkT 22 ?v23 ?hy23 hHeld ?rest23 (hw := by kernel_rfl)
  case hy23 => (intro w' hSw; (try dsimp only at hSw); go_simp; (try with_reducible rfl))
  try simp only [Act.put, puts]
  refine tkT 23 ?v24 ?hy24 hHeld ?rest24 (hw := by kernel_rfl)
  case hy24 => (intro w' hSw; (try dsimp only at hSw); go_simp; (try with_reducible rfl))
  try simp only [Act.put, puts]
  refine tkT 24 ?v25 ?hy25 hHeld ?rest25 (hw := by kernel_rfl)
  case hy25 => (intro w' hSw; (try dsimp only at hSw); go_simp; (try with_reducible rfl))
  try simp only [Act.put, puts]
  refine tkT 25 ?v26 ?hy26 hHeld ?rest26 (hw := by kernel_rfl)
  case hy26 => (intro w' hSw; (try dsimp only at hSw); go_simp; (try with_reducible rfl))
  try simp only [Act.put, puts]
  refine tkT 26 ?v27 ?hy27 hHeld ?rest27 (hw := by kernel_rfl)
  case hy27 => (intro w' hSw; (try dsimp only at hSw); go_simp; (try with_reducible rfl))
  try simp only [Act.put, puts]
  refine tkT 27 ?v28 ?hy28 hHeld ?rest28 (hw := by kernel_rfl)
  case hy28 => (intro w' hSw; (try dsimp only at hSw); go_simp; (try with_reducible rfl))
  try simp only [Act.put, puts]
  refine tkT 28 ?v29 ?hy29 hHeld ?rest29 (hw := by kernel_rfl)
  case hy29 => (intro w' hSw; (try dsimp only at hSw); go_simp; (try with_reducible rfl))
  try simp only [Act.put, puts]
  refine tkT 29 ?v30 ?hy30 hHeld ?rest30 (hw := by kernel_rfl)
  case hy30 => (intro w' hSw; (try dsimp only at hSw); go_simp; (try with_reducible rfl))
  try simp only [Act.put, puts]
  refine tkT 32 ?v31 ?hy31 hHeld ?rest31 (hw := by kernel_rfl)
  case hy31 => (intro w' hSw; (try dsimp only at hSw); go_simp; (try with_reducible rfl))
  try simp only [Act.put, puts]
  refine wpAnyH_ready (rs := [30]) (by kernel_rfl) (by simp) ?_
  refine AllReadyH.cons rfl (fun K hK => ?_) AllReadyH.nil
  go_simp
  refine (HOY.out _).mono ?_
  rintro e wn ⟨rfl, hA⟩
  replace M7 := M7.call hA
  clear hA hHeld
  try go_wp2_with fail
  refine hK.out _ _ (⟨M7.cell (.tail _ _ _ _ _ (.tail _ _ _ _ _ (.tail _ _ _ _ _ (.tail _ _ _ _ _ (.tail _ _ _ _ _ (Has.head _ _ _ _)))))) (i := 0) rfl, M7.cell (.tail _ _ _ _ _ (.tail _ _ _ _ _ (.tail _ _ _ _ _ (.tail _ _ _ _ _ (Has.head _ _ _ _))))) (i := 0) rfl, M7.cell (.tail _ _ _ _ _ (.tail _ _ _ _ _ (.tail _ _ _ _ _ (Has.head _ _ _ _)))) (i := 0) rfl, M7.cell (.tail _ _ _ _ _ (.tail _ _ _ _ _ (Has.head _ _ _ _))) (i := 0) rfl, M7.cell (.tail _ _ _ _ _ (Has.head _ _ _ _)) (i := 0) rfl, M7.cell (Has.head _ _ _ _) (i := 0) rfl⟩) (fun hHeld => ?_)
  clear hK K
  try simp only [Act.put, puts]
  refine wpAnyH_ready (rs := [31]) (by kernel_rfl) (by simp) ?_
  refine AllReadyH.cons rfl (fun K hK => ?_) AllReadyH.nil
  go_simp
  refine (HSY.out _).mono ?_
  rintro e wn ⟨rfl, hA⟩
  replace M7 := M7.call hA
  clear hA hHeld
  try go_wp2_with fail
  refine hK.out _ _ (⟨M7.cell (.tail _ _ _ _ _ (.tail _ _ _ _ _ (.tail _ _ _ _ _ (.tail _ _ _ _ _ (.tail _ _ _ _ _ (Has.head _ _ _ _)))))) (i := 0) rfl, M7.cell (.tail _ _ _ _ _ (.tail _ _ _ _ _ (.tail _ _ _ _ _ (.tail _ _ _ _ _ (Has.head _ _ _ _))))) (i := 0) rfl, M7.cell (.tail _ _ _ _ _ (.tail _ _ _ _ _ (.tail _ _ _ _ _ (Has.head _ _ _ _)))) (i := 0) rfl, M7.cell (.tail _ _ _ _ _ (.tail _ _ _ _ _ (Has.head _ _ _ _))) (i := 0) rfl, M7.cell (.tail _ _ _ _ _ (Has.head _ _ _ _)) (i := 0) rfl, M7.cell (Has.head _ _ _ _) (i := 0) rfl⟩) (fun hHeld => ?_)
  clear hK K
  try simp only [Act.put, puts]
  refine wpAnyH_ready (rs := [33]) (by kernel_rfl) (by simp) ?_
  refine AllReadyH.cons rfl (fun K hK => ?_) AllReadyH.nil
  go_simp
  refine (HRR.out _).mono ?_
  rintro e wn ⟨rfl, hA⟩
  replace M7 := M7.call hA
  clear hA hHeld
  try go_wp2_with fail
  refine hK.out _ _ (⟨M7.cell (.tail _ _ _ _ _ (.tail _ _ _ _ _ (.tail _ _ _ _ _ (.tail _ _ _ _ _ (.tail _ _ _ _ _ (Has.head _ _ _ _)))))) (i := 0) rfl, M7.cell (.tail _ _ _ _ _ (.tail _ _ _ _ _ (.tail _ _ _ _ _ (.tail _ _ _ _ _ (Has.head _ _ _ _))))) (i := 0) rfl, M7.cell (.tail _ _ _ _ _ (.tail _ _ _ _ _ (.tail _ _ _ _ _ (Has.head _ _ _ _)))) (i := 0) rfl, M7.cell (.tail _ _ _ _ _ (.tail _ _ _ _ _ (Has.head _ _ _ _))) (i := 0) rfl, M7.cell (.tail _ _ _ _ _ (Has.head _ _ _ _)) (i := 0) rfl, M7.cell (Has.head _ _ _ _) (i := 0) rfl⟩) (fun hHeld => ?_)
  clear hK K
  try simp only [Act.put, puts]
  refine tkT 34 ?v35 ?hy35 hHeld ?rest35 (hw := by kernel_rfl)
  case hy35 => (intro w' hSw; (try dsimp only at hSw); go_simp; (try with_reducible rfl))
  try simp only [Act.put, puts]
  refine tkT 35 ?v36 ?hy36 hHeld ?rest36 (hw := by kernel_rfl)
  case hy36 => (intro w' hSw; (try dsimp only at hSw); go_simp; (try with_reducible rfl))
  try simp only [Act.put, puts]
  refine tkT 36 ?v37 ?hy37 hHeld ?rest37 (hw := by kernel_rfl)
  case hy37 => (intro w' hSw; (try dsimp only at hSw); go_simp; (try with_reducible rfl))
  try simp only [Act.put, puts]
  refine tkT 37 ?v38 ?hy38 hHeld ?rest38 (hw := by kernel_rfl)
  case hy38 => (intro w' hSw; (try dsimp only at hSw); go_simp; (try with_reducible rfl))
  try simp only [Act.put, puts]
  refine tkT 38 ?v39 ?hy39 hHeld ?rest39 (hw := by kernel_rfl)
  case hy39 => (intro w' hSw; (try dsimp only at hSw); go_simp; (try with_reducible rfl))
  try simp only [Act.put, puts]
  refine tkT 39 ?v40 ?hy40 hHeld ?rest40 (hw := by kernel_rfl)
  case hy40 => (intro w' hSw; (try dsimp only at hSw); go_simp; (try with_reducible rfl))
  try simp only [Act.put, puts]
  refine tkT 40 ?v41 ?hy41 hHeld ?rest41 (hw := by kernel_rfl)
  case hy41 => (intro w' hSw; (try dsimp only at hSw); go_simp; (try with_reducible rfl))
  try simp only [Act.put, puts]
  refine tkT 41 ?v42 ?hy42 hHeld ?rest42 (hw := by kernel_rfl)
  case hy42 => (intro w' hSw; (try dsimp only at hSw); go_simp; (try with_reducible rfl))
  try simp only [Act.put, puts]
  refine tkT 42 ?v43 ?hy43 hHeld ?rest43 (hw := by kernel_rfl)
  case hy43 => (intro w' hSw; (try dsimp only at hSw); go_simp; (try with_reducible rfl))
  try simp only [Act.put, puts]
  refine wpAnyH_ready (rs := [43]) (by kernel_rfl) (by simp) ?_
  refine AllReadyH.cons rfl (fun K hK => ?_) AllReadyH.nil
  go_simp
  try rw [k4]
  refine (HRT.out _).mono ?_
  rintro e wn ⟨rfl, hA⟩
  replace M7 := M7.call hA
  clear hA hHeld
  try go_wp2_with fail
  refine hK.out _ _ (⟨M7.cell (.tail _ _ _ _ _ (.tail _ _ _ _ _ (.tail _ _ _ _ _ (.tail _ _ _ _ _ (.tail _ _ _ _ _ (Has.head _ _ _ _)))))) (i := 0) rfl, M7.cell (.tail _ _ _ _ _ (.tail _ _ _ _ _ (.tail _ _ _ _ _ (.tail _ _ _ _ _ (Has.head _ _ _ _))))) (i := 0) rfl, M7.cell (.tail _ _ _ _ _ (.tail _ _ _ _ _ (.tail _ _ _ _ _ (Has.head _ _ _ _)))) (i := 0) rfl, M7.cell (.tail _ _ _ _ _ (.tail _ _ _ _ _ (Has.head _ _ _ _))) (i := 0) rfl, M7.cell (.tail _ _ _ _ _ (Has.head _ _ _ _)) (i := 0) rfl, M7.cell (Has.head _ _ _ _) (i := 0) rfl⟩) (fun hHeld => ?_)
  clear hK K
  try simp only [Act.put, puts]
  refine tkT 44 ?v45 ?hy45 hHeld ?rest45 (hw := by kernel_rfl)
  case hy45 => (intro w' hSw; (try dsimp only at hSw); go_simp; (try with_reducible rfl))
  try simp only [Act.put, puts]
  refine tkT 45 ?v46 ?hy46 hHeld ?rest46 (hw := by kernel_rfl)
  case hy46 => (intro w' hSw; (try dsimp only at hSw); go_simp; (try with_reducible rfl))
  try simp only [Act.put, puts]
  refine tkT 46 ?v47 ?hy47 hHeld ?rest47 (hw := by kernel_rfl)
  case hy47 => (intro w' hSw; (try dsimp only at hSw); go_simp; (try with_reducible rfl))
  try simp only [Act.put, puts]
  refine tkT 47 ?v48 ?hy48 hHeld ?rest48 (hw := by kernel_rfl)
  case hy48 => (intro w' hSw; (try dsimp only at hSw); go_simp; (try with_reducible rfl))
  try simp only [Act.put, puts]
  refine tkT 48 ?v49 ?hy49 hHeld ?rest49 (hw := by kernel_rfl)
  case hy49 => (intro w' hSw; (try dsimp only at hSw); go_simp; (try with_reducible rfl))
  try simp only [Act.put, puts]
  refine tkT 49 ?v50 ?hy50 hHeld ?rest50 (hw := by kernel_rfl)
  case hy50 => (intro w' hSw; (try dsimp only at hSw); go_simp; (try with_reducible rfl))
  try simp only [Act.put, puts]
  refine tkT 50 ?v51 ?hy51 hHeld ?rest51 (hw := by kernel_rfl)
  case hy51 => (intro w' hSw; (try dsimp only at hSw); go_simp; (try with_reducible rfl))
  try simp only [Act.put, puts]
  refine tkT 51 ?v52 ?hy52 hHeld ?rest52 (hw := by kernel_rfl)
  case hy52 => (intro w' hSw; (try dsimp only at hSw); go_simp; (try with_reducible rfl))
  try simp only [Act.put, puts]
  refine wpAnyH_ready (rs := [52]) (by kernel_rfl) (by simp) ?_
  refine AllReadyH.cons rfl (fun K hK => ?_) AllReadyH.nil
  go_simp
  refine (HRU.out _).mono ?_
  rintro e wn ⟨rfl, hA⟩
  replace M7 := M7.call hA
  clear hA hHeld
  try go_wp2_with fail
  refine hK.out _ _ (⟨M7.cell (.tail _ _ _ _ _ (.tail _ _ _ _ _ (.tail _ _ _ _ _ (.tail _ _ _ _ _ (.tail _ _ _ _ _ (Has.head _ _ _ _)))))) (i := 0) rfl, M7.cell (.tail _ _ _ _ _ (.tail _ _ _ _ _ (.tail _ _ _ _ _ (.tail _ _ _ _ _ (Has.head _ _ _ _))))) (i := 0) rfl, M7.cell (.tail _ _ _ _ _ (.tail _ _ _ _ _ (.tail _ _ _ _ _ (Has.head _ _ _ _)))) (i := 0) rfl, M7.cell (.tail _ _ _ _ _ (.tail _ _ _ _ _ (Has.head _ _ _ _))) (i := 0) rfl, M7.cell (.tail _ _ _ _ _ (Has.head _ _ _ _)) (i := 0) rfl, M7.cell (Has.head _ _ _ _) (i := 0) rfl⟩) (fun hHeld => ?_)
  clear hK K
  try simp only [Act.put, puts]
  refine tkT 53 ?v54 ?hy54 hHeld ?rest54 (hw := by kernel_rfl)
  case hy54 => (intro w' hSw; (try dsimp only at hSw); go_simp; (try with_reducible rfl))
  try simp only [Act.put, puts]
  refine tkT 54 ?v55 ?hy55 hHeld ?rest55 (hw := by kernel_rfl)
  case hy55 => (intro w' hSw; (try dsimp only at hSw); go_simp; (try with_reducible rfl))
  try simp only [Act.put, puts]
  refine wpAnyH_done (by kernel_rfl) ?_ _
  clear HOZ HOY HSZ HSY HRP HRQ HRR HRT HRU
  go_wp2_with fail
  go_loopw [24] (fun i wr => ∃ (k : Nat), k ≤ 41 ∧ i = .int .i64 k ∧ Mem w wr [(g6, 35, bc vu (St + 1)), (g5, 35, bc vt (St + 1)), (g4, 35, bc vr (St + 1)), (g3, 35, bc vq (St + 1)), (g2, 35, bc vp (St + 1)), (g1, 35, bc B St)]) (fun i _ => 41 - (intOf i).toNat)
  case atStart => exact ⟨0, Nat.zero_le _, rfl, M7⟩
  case round =>
    clear M7
    obtain ⟨k, hk, rfl, M7⟩ := hrel
    by_cases hlt : k < 41
    · have j1 : (k : Int) ≤ 40 := by omega
      have j0 : (0 : Int) ≤ 40 - (k : Int) := by omega
      obtain ⟨pw, hpw⟩ : ∃ pw, pw = 2 ^ (40 - k) := ⟨_, rfl⟩
      obtain ⟨d, hd⟩ : ∃ d, d = 40 - k := ⟨_, rfl⟩
      rw [← hd] at hpw
      have j3 : IntKind.i64.wrap (40 - (k : Int)) = (d : Int) := by rw [w64]; simp only [wrap64]; omega
      have j4 : (0 : Int) ≤ (d : Int) := by omega
      have j2 := shl_one (by omega) hpw
      have j7 : IntKind.i64.wrap (2 ^ min d 64) = (pw : Int) := by rw [Nat.min_eq_left (by omega)]; exact j2
      obtain ⟨bb, hbb⟩ : ∃ bb, decide ((pw : Int) < (B : Int)) = bb := ⟨_, rfl⟩
      have C := Lib.hid (over18 B St k pw bb (by omega) (by rw [← hd]; exact hpw) hbb)
      have hbb2 : decide (pw < B) = bb := by rw [← hbb]; exact decide_eq_decide.2 (by omega)
      have j5 : (bb != bb) = false := by cases bb <;> rfl
      have j6 : (bb == bb) = true := by cases bb <;> rfl
      clear hd j0 j1
      clear hpw
      go_upto_region 17 with fail
      have M8 := M7.drew
      clear M7
      refine wp_region_held_drew (S := (fun w' : World => w'.cell? ⟨g1, 0, none⟩ = some (.int .i64 (B : Int)) ∧ w'.cell? ⟨g1, 1, none⟩ = some (.int .i64 (St : Int)))) (by kernel_rfl) (⟨M8.cell (.tail _ _ _ _ _ (.tail _ _ _ _ _ (.tail _ _ _ _ _ (.tail _ _ _ _ _ (.tail _ _ _ _ _ (Has.head _ _ _ _)))))) (i := 0) rfl, M8.cell (.tail _ _ _ _ _ (.tail _ _ _ _ _ (.tail _ _ _ _ _ (.tail _ _ _ _ _ (.tail _ _ _ _ _ (Has.head _ _ _ _)))))) (i := 1) rfl⟩) (fun hHeld => ?_)
      refine tkT 0 ?v56 ?hy56 hHeld ?rest56
      case hy56 => (intro w' hSw; (try dsimp only at hSw); go_simp; (try with_reducible rfl))
      try simp only [Act.put, puts]
      refine tkT 1 ?v57 ?hy57 hHeld ?rest57
      case hy57 => (intro w' hSw; (try dsimp only at hSw); go_simp; (try with_reducible rfl))
      try simp only [Act.put, puts]
      refine tkT 3 ?v58 ?hy58 hHeld ?rest58
      case hy58 => (intro w' hSw; (try dsimp only at hSw); go_simp; (try with_reducible rfl))
      try simp only [Act.put, puts]
      refine tkT 4 ?v59 ?hy59 hHeld ?rest59
      case hy59 => (intro w' hSw; (try dsimp only at hSw); go_simp; (try with_reducible rfl))
      try simp only [Act.put, puts]
      refine tkT 5 ?v60 ?hy60 hHeld ?rest60
      case hy60 => (intro w' hSw; (try dsimp only at hSw); go_simp; (try with_reducible rfl))
      try simp only [Act.put, puts]
      refine tkT 6 ?v61 ?hy61 hHeld ?rest61
      case hy61 => (intro w' hSw; (try dsimp only at hSw); go_simp; (try with_reducible rfl))
      try simp only [Act.put, puts]
      refine tkT 7 ?v62 ?hy62 hHeld ?rest62
      case hy62 => (intro w' hSw; (try dsimp only at hSw); go_simp; (try with_reducible rfl))
      try simp only [Act.put, puts]
      refine tkT 8 ?v63 ?hy63 hHeld ?rest63
      case hy63 => (intro w' hSw; (try dsimp only at hSw); go_simp; (try with_reducible rfl))
      try simp only [Act.put, puts]
      refine wpAnyH_ready (rs := [2]) (by kernel_rfl) (by simp) ?_
      refine AllReadyH.cons rfl (fun K hK => ?_) AllReadyH.nil
      go_simp
      refine (C.out _).mono ?_
      rintro e wn ⟨rfl, hA⟩
      replace M8 := M8.call hA
      clear hA hHeld
      try go_wp2_with fail
      refine hK.out _ _ (⟨M8.cell (.tail _ _ _ _ _ (.tail _ _ _ _ _ (.tail _ _ _ _ _ (.tail _ _ _ _ _ (.tail _ _ _ _ _ (Has.head _ _ _ _)))))) (i := 0) rfl, M8.cell (.tail _ _ _ _ _ (.tail _ _ _ _ _ (.tail _ _ _ _ _ (.tail _ _ _ _ _ (.tail _ _ _ _ _ (Has.head _ _ _ _)))))) (i := 1) rfl⟩) (fun hHeld => ?_)
      clear hK K
      try simp only [Act.put, puts]
      refine tkT 9 ?v65 ?hy65 hHeld ?rest65
      case hy65 => (intro w' hSw; (try dsimp only at hSw); go_simp; (try with_reducible rfl))
      try simp only [Act.put, puts]
      refine wpAnyH_done (by kernel_rfl) ?_ _
      go_wp2_with fail
      exact ⟨⟨k + 1, by omega, by go_num, M8⟩, by simp [intOf]; omega⟩
    · obtain rfl : k = 41 := by omega
      have o1 := Lib.hid (over18_no (B : Int) (St : Int) (-1) (.inl (by omega)))
      have o2 := Lib.hid (over18_no (B : Int) (St : Int) 41 (.inr (by omega)))
      have s1 : ((St : Int) + 1 == (St : Int) + 1) = true := by simp
      have s2 : IntKind.i64.wrap ((St : Int) + 1) = (St : Int) + 1 := by rw [w64]; simp only [wrap64]; omega
      have M6 := M7
      clear M7
      go_wp2_with ((with_reducible refine (?_ : Go.wpList _ _ _ (_ :: _) _ _)); (first | go_skip | (refine wpL_ldc M6 rfl rfl rfl ?_) | (refine wpL_lgc M6 rfl rfl rfl ?_) | (refine wpL_stc M6 rfl rfl rfl rfl ?_; clear M6; intro w' M6) | (refine wpL_sti M6 rfl rfl rfl rfl ?_; clear M6; intro w' M6) | (refine wpL_sth M6 rfl rfl rfl rfl (wr_minus _ _ _) ?_; clear M6; intro w' M6)))
      refine (o1.out _).mono ?_
      rintro e w4 ⟨rfl, hA⟩
      replace M6 := M6.call hA
      clear hA
      go_wp2_with ((with_reducible refine (?_ : Go.wpList _ _ _ (_ :: _) _ _)); (first | go_skip | (refine wpL_ldc M6 rfl rfl rfl ?_) | (refine wpL_lgc M6 rfl rfl rfl ?_) | (refine wpL_stc M6 rfl rfl rfl rfl ?_; clear M6; intro w' M6) | (refine wpL_sti M6 rfl rfl rfl rfl ?_; clear M6; intro w' M6) | (refine wpL_sth M6 rfl rfl rfl rfl (wr_minus _ _ _) ?_; clear M6; intro w' M6)))
      refine (o2.out _).mono ?_
      rintro e w4 ⟨rfl, hA⟩
      replace M6 := M6.call hA
      clear hA
      go_wp2_with ((with_reducible refine (?_ : Go.wpList _ _ _ (_ :: _) _ _)); (first | go_skip | (refine wpL_ldc M6 rfl rfl rfl ?_) | (refine wpL_lgc M6 rfl rfl rfl ?_) | (refine wpL_stc M6 rfl rfl rfl rfl ?_; clear M6; intro w' M6) | (refine wpL_sti M6 rfl rfl rfl rfl ?_; clear M6; intro w' M6) | (refine wpL_sth M6 rfl rfl rfl rfl (wr_minus _ _ _) ?_; clear M6; intro w' M6)))
      refine (works_any18 _).mono ?_
      rintro e w4 ⟨rfl, hA⟩
      replace M6 := M6.call hA
      clear hA
      go_wp2_with ((with_reducible refine (?_ : Go.wpList _ _ _ (_ :: _) _ _)); (first | go_skip | (refine wpL_ldc M6 rfl rfl rfl ?_) | (refine wpL_lgc M6 rfl rfl rfl ?_) | (refine wpL_stc M6 rfl rfl rfl rfl ?_; clear M6; intro w' M6) | (refine wpL_sti M6 rfl rfl rfl rfl ?_; clear M6; intro w' M6) | (refine wpL_sth M6 rfl rfl rfl rfl (wr_minus _ _ _) ?_; clear M6; intro w' M6)))
      go_ret
      exact ⟨rfl, M6.below⟩

theorem tm18 {x k : Nat} : (x : Int).tmod (k : Int) = ((x % k : Nat) : Int) := by rw [Int.tmod_eq_emod_of_nonneg (by omega)]; exact (Int.natCast_emod x k).symm
set_option maxRecDepth 20000 in
theorem keeps_out (b n m s z : Nat) (st : Int) (h : st < 0 ∨ 1099511627776 < st) (B : Nat) (hb : b < 18446744073709551616) (hB : (b : Int).tmod 1099511627777 = (B : Int)) (hB2 : B ≤ 1099511627776) (w : World) :
    Calls Try.prog 4 #[.int .u64 (b : Int), .int .i64 st, .int .u16 (n : Int), .int .u32 (m : Int), .int .u32 (s : Int), .int .u64 (z : Int)] w fun e w' => e = .returned (.bool true) ∧ Below w.heap.size w w' := by
  have M0 := Mem.start w
  by_cases h0 : st < 0
  · have h1 : decide (st < 0) = true := decide_eq_true h0
    clear h h0
    go_enter Try.func4, Try.ntmps4
    go_wp2_with ((with_reducible refine (?_ : Go.wpList _ _ _ (_ :: _) _ _)); (first | go_skip | (refine wpL_bx M0 rfl rfl rfl rfl ?_; clear M0; intro g1 w1 M1) | (refine wpL_alc M0 rfl rfl ?_; clear M0; intro g1 w1 M1) | (refine wpL_ldc M0 rfl rfl rfl ?_) | (refine wpL_lgc M0 rfl rfl rfl ?_) | (refine wpL_stc M0 rfl rfl rfl rfl ?_; clear M0; intro w' M0) | (refine wpL_sti M0 rfl rfl rfl rfl ?_; clear M0; intro w' M0) | (refine wpL_sth M0 rfl rfl rfl rfl (wr_minus _ _ _) ?_; clear M0; intro w' M0) | (refine wpL_ldc M1 rfl rfl rfl ?_) | (refine wpL_lgc M1 rfl rfl rfl ?_) | (refine wpL_stc M1 rfl rfl rfl rfl ?_; clear M1; intro w' M1) | (refine wpL_sti M1 rfl rfl rfl rfl ?_; clear M1; intro w' M1) | (refine wpL_sth M1 rfl rfl rfl rfl (wr_minus _ _ _) ?_; clear M1; intro w' M1)))
    refine (works_any18 _).mono ?_
    rintro e w4 ⟨rfl, hA⟩
    replace M1 := M1.call hA
    clear hA
    go_wp2_with ((with_reducible refine (?_ : Go.wpList _ _ _ (_ :: _) _ _)); (first | go_skip | (refine wpL_ldc M1 rfl rfl rfl ?_) | (refine wpL_lgc M1 rfl rfl rfl ?_) | (refine wpL_stc M1 rfl rfl rfl rfl ?_; clear M1; intro w' M1) | (refine wpL_sti M1 rfl rfl rfl rfl ?_; clear M1; intro w' M1) | (refine wpL_sth M1 rfl rfl rfl rfl (wr_minus _ _ _) ?_; clear M1; intro w' M1)))
    go_ret
    exact ⟨rfl, M1.below⟩
  · have h1 : decide (st < 0) = false := decide_eq_false h0
    have h2 : decide (1099511627776 < st) = true := decide_eq_true (by omega)
    clear h h0
    go_enter Try.func4, Try.ntmps4
    go_wp2_with ((with_reducible refine (?_ : Go.wpList _ _ _ (_ :: _) _ _)); (first | go_skip | (refine wpL_bx M0 rfl rfl rfl rfl ?_; clear M0; intro g1 w1 M1) | (refine wpL_alc M0 rfl rfl ?_; clear M0; intro g1 w1 M1) | (refine wpL_ldc M0 rfl rfl rfl ?_) | (refine wpL_lgc M0 rfl rfl rfl ?_) | (refine wpL_stc M0 rfl rfl rfl rfl ?_; clear M0; intro w' M0) | (refine wpL_sti M0 rfl rfl rfl rfl ?_; clear M0; intro w' M0) | (refine wpL_sth M0 rfl rfl rfl rfl (wr_minus _ _ _) ?_; clear M0; intro w' M0) | (refine wpL_ldc M1 rfl rfl rfl ?_) | (refine wpL_lgc M1 rfl rfl rfl ?_) | (refine wpL_stc M1 rfl rfl rfl rfl ?_; clear M1; intro w' M1) | (refine wpL_sti M1 rfl rfl rfl rfl ?_; clear M1; intro w' M1) | (refine wpL_sth M1 rfl rfl rfl rfl (wr_minus _ _ _) ?_; clear M1; intro w' M1)))
    refine (works_any18 _).mono ?_
    rintro e w4 ⟨rfl, hA⟩
    replace M1 := M1.call hA
    clear hA
    go_wp2_with ((with_reducible refine (?_ : Go.wpList _ _ _ (_ :: _) _ _)); (first | go_skip | (refine wpL_ldc M1 rfl rfl rfl ?_) | (refine wpL_lgc M1 rfl rfl rfl ?_) | (refine wpL_stc M1 rfl rfl rfl rfl ?_; clear M1; intro w' M1) | (refine wpL_sti M1 rfl rfl rfl rfl ?_; clear M1; intro w' M1) | (refine wpL_sth M1 rfl rfl rfl rfl (wr_minus _ _ _) ?_; clear M1; intro w' M1)))
    go_ret
    exact ⟨rfl, M1.below⟩
/-- Two bounds together. -/
theorem plus_eq (a b : Nat) (c : Int) (ha : a ≤ 1099511627776) (hb : b ≤ 1099511627776) (hc : c = min ((a : Int) + (b : Int)) 1099511627776) (w : World) :
    Calls Try.prog 16 #[.int .i64 a, .int .i64 b] w fun e w' => e = .returned (.int .i64 c) ∧ Below w.heap.size w w' := by
  have h := refPlus18_any a b ha hb w
  have e : ((min (a + b) 1099511627776 : Nat) : Int) = c := by omega
  rw [e] at h
  exact h
theorem keeps_any (b : Nat) (st : Int) (n m s z : Nat) (hb : b < 18446744073709551616) (hst : -9223372036854775808 ≤ st ∧ st ≤ 9223372036854775807) (hn : n < 65536) (hm : m < 4294967296) (hs : s < 4294967296) (hz : z < 18446744073709551616) (w : World) :
    Calls Try.prog 4 #[.int .u64 (b : Int), .int .i64 st, .int .u16 (n : Int), .int .u32 (m : Int), .int .u32 (s : Int), .int .u64 (z : Int)] w fun e w' => e = .returned (.bool true) ∧ Below w.heap.size w w' := by
  by_cases ho : st < 0 ∨ 1099511627776 < st
  · exact keeps_out b n m s z st ho (b % 1099511627777) hb (tm18 (k := 1099511627777)) (by omega) w
  · obtain ⟨St, rfl⟩ := Int.eq_ofNat_of_zero_le (show 0 ≤ st by omega)
    have hSt : St ≤ 1099511627776 := by omega
    obtain ⟨P, hP⟩ : ∃ P, P = n % 4097 := ⟨_, rfl⟩
    obtain ⟨B, hB⟩ : ∃ B, B = b % 1099511627777 := ⟨_, rfl⟩
    obtain ⟨M, hM⟩ : ∃ M, M = m % 65537 := ⟨_, rfl⟩
    obtain ⟨S, hS⟩ : ∃ S, S = s % 1073741825 := ⟨_, rfl⟩
    obtain ⟨Z, hZ⟩ : ∃ Z, Z = z % 70368744177664 := ⟨_, rfl⟩
    obtain ⟨Y, hY⟩ : ∃ Y, Y = Z % 1073741824 := ⟨_, rfl⟩
    have lP : P ≤ 4096 := by omega
    have lB : B ≤ 1099511627776 := by omega
    have lM : M ≤ 65536 := by omega
    have lS : S ≤ 1073741824 := by omega
    have lZ : Z < 70368744177664 := by omega
    have lY : Y < 1073741824 := by omega
    have e1 : (n : Int).tmod 4097 = (P : Int) := by rw [hP]; exact tm18 (k := 4097)
    have e2 : (b : Int).tmod 1099511627777 = (B : Int) := by rw [hB]; exact tm18 (k := 1099511627777)
    have e3 : (m : Int).tmod 65537 = (M : Int) := by rw [hM]; exact tm18 (k := 65537)
    have e4 : (s : Int).tmod 1073741825 = (S : Int) := by rw [hS]; exact tm18 (k := 1073741825)
    have e5 : (z : Int).tmod 70368744177664 = (Z : Int) := by rw [hZ]; exact tm18 (k := 70368744177664)
    have e6 : (Z : Int).tmod 1073741824 = (Y : Int) := by rw [hY]; exact tm18 (k := 1073741824)
    have SZ := scaled_any B M S Z lB lM lS (by omega)
    have SY := scaled_any B 1 S Y lB (by omega) lS (by omega)
    have C3 := Cost_any P lP
    have hc := (costN_eq lP).2
    have hu1 := upD_le (B * M * S) Z
    have hu2 := upD_le (B * 1 * S) Y
    have CP := Spread18 (B : Int) (St : Int) _ P lP (by omega) (by omega) rfl
    have CQ := Weigh18 B S St P M Z _ lP (by omega) lB lM lS (by omega) rfl
    have CR := Cut18 B S St P Y _ lP (by omega) lB lS (by omega) rfl
    have CT := Split18 (B : Int) (St : Int) _ P lP (by omega) (by omega) rfl
    have CU := Join18 (B : Int) (St : Int) _ P lP (by omega) (by omega) rfl
    obtain ⟨u1, hv1⟩ : ∃ u1, u1 = upD (B * M * S) Z := ⟨_, rfl⟩
    obtain ⟨u2, hv2⟩ : ∃ u2, u2 = upD (B * 1 * S) Y := ⟨_, rfl⟩
    obtain ⟨c, hcc⟩ : ∃ c, c = costN P := ⟨_, rfl⟩
    rw [← hv1] at SZ CQ hu1
    rw [← hv2] at SY CR hu2
    rw [← hcc] at C3 CP CQ CR CT CU hc
    clear hv1 hv2 hcc hP hB hM hS hZ hY
    have hc2 : c ≤ 1099511627776 := by omega
    exact keeps_go n b m s z St P B M S Z Y c u1 u2 St _ _ _ _ _ (by omega) (by omega) (by omega) (by omega) (by omega) e1 e2 e3 e4 e5 e6 rfl lP lB lM lS lZ lY hSt hc hu1 hu2 C3 CP CQ CR CT CU
      (Of_any (Z : Int) (by omega)) (Of_any (Y : Int) (by omega)) SZ SY (plus_eq B (3 * c) _ lB (by omega) (by rw [Int.natCast_mul]; rfl)) (plus_eq u1 c _ hu1 hc2 rfl) (plus_eq u2 c _ hu2 hc2 rfl) (plus_eq B (2 * c) _ lB (by omega) (by rw [Int.natCast_mul]; rfl)) (plus_eq B c _ lB hc2 rfl) w
end Go.Proofs.Ytallbegibdlpaaa
