/-
  The chapter's example.
-/
import Derived.Test.YtallbegibdlpaaaGreatLedgH
import Derived.Deep.Cut
set_option linter.unusedVariables false
set_option linter.unusedSimpArgs false
namespace Go.Proofs.YtallbegibdlpaaaGreat
open Go Go.RowKit Go.Th Go.Th.Wide Go.Th.Up

theorem c64 : costN 64 = 65537 := by decide +kernel
theorem c4 : costN 4 = 4097 := by decide +kernel
theorem u45 : upD (196611 * 65536 * 1073741824) 35184372088832 = 393222 := by decide +kernel
theorem u2 : upD (0 * 1 * 4) 2 = 0 := by decide +kernel
theorem u0 : upD (5 * 1 * 1) 0 = 1099511627776 := by decide +kernel
/-- 2^45, of 128 bits. -/
def w45 : Int × Int := (hiZ 35184372088832, loZ 35184372088832)
theorem k_of (w : World) : Calls Tryz.prog 13 #[.int .i64 35184372088832] w fun e w' => e = .returned (.agg #[.int .i64 w45.1, .int .u64 w45.2]) ∧ Below w.heap.size w w' := Of_any _ (by decide) w
theorem k_spread (w : World) : KAns 11 #[bk 0 0, .int .i64 64] 196611 1 w := by
  have h := Spread18 0 0 196611 64 (by omega) (by omega) (by omega) (by rw [c64]; decide) w
  exact h
theorem k_weigh (w : World) : KAns 12 #[bk 196611 1, .int .i64 64, .int .i64 65536, .int .i64 1073741824, .agg #[.int .i64 w45.1, .int .u64 w45.2]] 458759 2 w := by
  have h := Weigh18 196611 1073741824 1 64 65536 35184372088832 458759 (by omega) (by omega) (by omega) (by omega) (by omega) (by omega) (by rw [u45, c64]; decide) w
  exact h
theorem k_join (w : World) : KAns 14 #[bk 458759 2, .int .i64 64] 524296 3 w := by
  have h := Join18 458759 2 524296 64 (by omega) (by omega) (by omega) (by rw [c64]; decide) w
  exact h
theorem k_split (w : World) : KAns 17 #[bk 1099511627776 0, .int .i64 4] 1099511627776 1 w := by
  have h := Split18 1099511627776 0 1099511627776 4 (by omega) (by omega) (by omega) (by rw [c4]; decide) w
  exact h
theorem k_cut (w : World) : KAns 18 #[bk 0 0, .int .i64 4, .int .i64 4, .int .i64 2] 4097 1 w := by
  have h := Cut18 0 4 0 4 2 4097 (by omega) (by omega) (by omega) (by omega) (by omega) (by rw [u2, c4]; decide) w
  exact h
theorem k_c64 (w : World) : Calls Tryz.prog 15 #[.int .i64 64] w fun e w' => e = .returned (.int .i64 65537) ∧ Below w.heap.size w w' := by
  have h := Cost_any 64 (by omega) w
  rw [c64] at h
  exact h
theorem k_c4 (w : World) : Calls Tryz.prog 15 #[.int .i64 4] w fun e w' => e = .returned (.int .i64 4097) ∧ Below w.heap.size w w' := by
  have h := Cost_any 4 (by omega) w
  rw [c4] at h
  exact h
theorem k_none (w : World) : Calls Tryz.prog 19 #[.int .i64 5, .int .i64 1, .int .i64 1, .agg #[.int .i64 0, .int .u64 0]] w fun e w' => e = .returned (.int .i64 1099511627776) ∧ Below w.heap.size w w' := by
  have h := scaled_any 5 1 1 0 (by omega) (by omega) (by omega) (by omega) w
  rw [u0] at h
  exact h
theorem k_over20 (w : World) : Calls Tryz.prog 16 #[bk 524296 3, .int .i64 20] w fun e w' => e = .returned (.bool false) ∧ Below w.heap.size w w' := over18 524296 3 20 1048576 false (by omega) (by decide) (by decide) w
theorem k_over30 (w : World) : Calls Tryz.prog 16 #[bk 524296 3, .int .i64 30] w fun e w' => e = .returned (.bool true) ∧ Below w.heap.size w w' := over18 524296 3 30 1024 true (by omega) (by decide) (by decide) w
theorem run_fk (B St : Int) (w : World) : Sem.run Tryz.prog (Instr.field 35 (bk B St) 0) w = .ok (.int .i64 B) w := by kernel_rfl
set_option maxRecDepth 20000 in
set_option maxHeartbeats 6400000 in
theorem works_any18 (w : World) : Calls Tryz.prog 5 #[] w fun e w' => e = .returned (.bool true) ∧ Below w.heap.size w w' := by
  obtain ⟨h45, hh⟩ : ∃ h45, h45 = w45.1 := ⟨_, rfl⟩
  obtain ⟨l45, hl⟩ : ∃ l45, l45 = w45.2 := ⟨_, rfl⟩
  have C0 := Lib.hid k_of
  have C1 := Lib.hid k_weigh
  rw [← hh, ← hl] at C0 C1
  clear hh hl
  have M0 := Mem.start w
  go_enter Tryz.func5, Tryz.ntmps5
  go_wp2_with ((with_reducible refine (?_ : Go.wpList _ _ _ (_ :: _) _ _)); (first | go_skip | (refine wpL_bx M0 rfl rfl rfl rfl ?_; clear M0; intro g1 w1 M1) | (refine wpL_alc M0 rfl rfl ?_; clear M0; intro g1 w1 M1) | (refine wpL_ldc M0 rfl rfl rfl ?_) | (refine wpL_lgc M0 rfl rfl rfl ?_) | (refine wpL_stc M0 rfl rfl rfl rfl ?_; clear M0; intro w' M0) | (refine wpL_sti M0 rfl rfl rfl rfl ?_; clear M0; intro w' M0) | (refine wpL_sth M0 rfl rfl rfl rfl (wr_minus _ _ _) ?_; clear M0; intro w' M0) | (refine wpL_ldc M1 rfl rfl rfl ?_) | (refine wpL_lgc M1 rfl rfl rfl ?_) | (refine wpL_stc M1 rfl rfl rfl rfl ?_; clear M1; intro w' M1) | (refine wpL_sti M1 rfl rfl rfl rfl ?_; clear M1; intro w' M1) | (refine wpL_sth M1 rfl rfl rfl rfl (wr_minus _ _ _) ?_; clear M1; intro w' M1)))
  refine (k_spread _).mono ?_
  rintro e w2 ⟨rfl, hA⟩
  replace M1 := M1.call hA
  clear hA
  go_upto_region 3 with (((with_reducible refine (?_ : Go.wpList _ _ _ (_ :: _) _ _)); (first | go_skip | (refine wpL_bx M1 rfl rfl rfl rfl ?_; clear M1; intro g2 w2 M2) | (refine wpL_alc M1 rfl rfl ?_; clear M1; intro g2 w2 M2) | (refine wpL_ldc M1 rfl rfl rfl ?_) | (refine wpL_lgc M1 rfl rfl rfl ?_) | (refine wpL_stc M1 rfl rfl rfl rfl ?_; clear M1; intro w' M1) | (refine wpL_sti M1 rfl rfl rfl rfl ?_; clear M1; intro w' M1) | (refine wpL_sth M1 rfl rfl rfl rfl (wr_minus _ _ _) ?_; clear M1; intro w' M1) | (refine wpL_ldc M2 rfl rfl rfl ?_) | (refine wpL_lgc M2 rfl rfl rfl ?_) | (refine wpL_stc M2 rfl rfl rfl rfl ?_; clear M2; intro w' M2) | (refine wpL_sti M2 rfl rfl rfl rfl ?_; clear M2; intro w' M2) | (refine wpL_sth M2 rfl rfl rfl rfl (wr_minus _ _ _) ?_; clear M2; intro w' M2))))
  obtain ⟨wA, hwA⟩ : ∃ wA, wA = w' := ⟨_, rfl⟩
  rw [← hwA] at M2 ⊢
  clear hwA
  try simp only [Act.put, puts]
  go_cut [3] from 5 (fun s3 wx => ∃ (g3 : Nat), s3 = .pointer (some ⟨g3, 0, none⟩) ∧ Mem w wx [(g3, 35, bc 458759 2), (g2, 35, bc 196611 1), (g1, 35, bc 0 0)])
  case first =>
    have M3 := M2.drew
    clear M2
    refine wp_region_held_drew (S := (fun w' : World => w'.cell? ⟨g2, 0, none⟩ = some (.int .i64 196611) ∧ w'.cell? ⟨g2, 1, none⟩ = some (.int .i64 1))) (by kernel_rfl) (⟨M3.cell (Has.head _ _ _ _) (i := 0) rfl, M3.cell (Has.head _ _ _ _) (i := 1) rfl⟩) (fun hHeld => ?_)
    refine tkT 0 ?v9501 ?hy9501 hHeld ?rest9501
    case hy9501 => (intro w' hSw; (try dsimp only at hSw); go_simp; (try with_reducible rfl))
    try simp only [Act.put, puts]
    refine wpAnyH_ready (rs := [1, 3]) (by kernel_rfl) (by simp) ?_
    refine AllReadyH.cons rfl (fun K hK => ?_) (AllReadyH.cons rfl (fun K hK => ?_) AllReadyH.nil)
    · go_simp
      refine (C0.out _).mono ?_
      rintro e wn ⟨rfl, hA⟩
      replace M3 := M3.call hA
      clear hA
      try go_wp2_with fail
      clear hHeld
      refine hK.out _ _ (⟨M3.cell (Has.head _ _ _ _) (i := 0) rfl, M3.cell (Has.head _ _ _ _) (i := 1) rfl⟩) (fun hHeld => ?_)
      clear hK K
      try simp only [Act.put, puts]
      refine wpAnyH_ready (rs := [2, 3]) (by kernel_rfl) (by simp) ?_
      refine AllReadyH.cons rfl (fun K hK => ?_) (AllReadyH.cons rfl (fun K hK => ?_) AllReadyH.nil)
      · go_simp
        refine (C1.out _).mono ?_
        rintro e wn ⟨rfl, hA⟩
        replace M3 := M3.call hA
        clear hA
        try go_wp2_with fail
        clear hHeld
        refine hK.out _ _ (⟨M3.cell (Has.head _ _ _ _) (i := 0) rfl, M3.cell (Has.head _ _ _ _) (i := 1) rfl⟩) (fun hHeld => ?_)
        clear hK K
        try simp only [Act.put, puts]
        refine wpAnyH_ready (rs := [3]) (by kernel_rfl) (by simp) ?_
        refine AllReadyH.cons rfl (fun K hK => ?_) AllReadyH.nil
        rw [if_pos (by rfl)]
        refine wp_al M3 rfl zeroK rfl ?_
        clear M3
        intro g3 wn M3
        clear hHeld
        refine hK.out _ _ (⟨M3.cell (.tail _ _ _ _ _ (Has.head _ _ _ _)) (i := 0) rfl, M3.cell (.tail _ _ _ _ _ (Has.head _ _ _ _)) (i := 1) rfl⟩) (fun hHeld => ?_)
        clear hK K
        try simp only [Act.put, puts]
        refine wpAnyH_ready (rs := [4]) (by kernel_rfl) (by simp) ?_
        refine AllReadyH.cons rfl (fun K hK => ?_) AllReadyH.nil
        rw [if_pos (by rfl)]
        refine wp_st M3 rfl rfl rfl (Has.head _ _ _ _) (wr_bk _ _ _ _) (Upd.head _ _ _ _ _) ?_
        clear M3
        intro wz M3
        clear hHeld
        refine hK.out _ _ (⟨M3.cell (.tail _ _ _ _ _ (Has.head _ _ _ _)) (i := 0) rfl, M3.cell (.tail _ _ _ _ _ (Has.head _ _ _ _)) (i := 1) rfl⟩) (fun hHeld => ?_)
        clear hK K
        try simp only [Act.put, puts]
        refine wpAnyH_done (by kernel_rfl) ?_ _
        go_wp2_with fail
        go_meet
        exact ⟨g3, rfl, M3⟩
      · rw [if_pos (by rfl)]
        refine wp_al M3 rfl zeroK rfl ?_
        clear M3
        intro g3 wn M3
        clear hHeld
        refine hK.out _ _ (⟨M3.cell (.tail _ _ _ _ _ (Has.head _ _ _ _)) (i := 0) rfl, M3.cell (.tail _ _ _ _ _ (Has.head _ _ _ _)) (i := 1) rfl⟩) (fun hHeld => ?_)
        clear hK K
        try simp only [Act.put, puts]
        refine wpAnyH_ready (rs := [2]) (by kernel_rfl) (by simp) ?_
        refine AllReadyH.cons rfl (fun K hK => ?_) AllReadyH.nil
        go_simp
        refine (C1.out _).mono ?_
        rintro e wn ⟨rfl, hA⟩
        replace M3 := M3.call hA
        clear hA
        try go_wp2_with fail
        clear hHeld
        refine hK.out _ _ (⟨M3.cell (.tail _ _ _ _ _ (Has.head _ _ _ _)) (i := 0) rfl, M3.cell (.tail _ _ _ _ _ (Has.head _ _ _ _)) (i := 1) rfl⟩) (fun hHeld => ?_)
        clear hK K
        try simp only [Act.put, puts]
        refine wpAnyH_ready (rs := [4]) (by kernel_rfl) (by simp) ?_
        refine AllReadyH.cons rfl (fun K hK => ?_) AllReadyH.nil
        rw [if_pos (by rfl)]
        refine wp_st M3 rfl rfl rfl (Has.head _ _ _ _) (wr_bk _ _ _ _) (Upd.head _ _ _ _ _) ?_
        clear M3
        intro wz M3
        clear hHeld
        refine hK.out _ _ (⟨M3.cell (.tail _ _ _ _ _ (Has.head _ _ _ _)) (i := 0) rfl, M3.cell (.tail _ _ _ _ _ (Has.head _ _ _ _)) (i := 1) rfl⟩) (fun hHeld => ?_)
        clear hK K
        try simp only [Act.put, puts]
        refine wpAnyH_done (by kernel_rfl) ?_ _
        go_wp2_with fail
        go_meet
        exact ⟨g3, rfl, M3⟩
    · rw [if_pos (by rfl)]
      refine wp_al M3 rfl zeroK rfl ?_
      clear M3
      intro g3 wn M3
      clear hHeld
      refine hK.out _ _ (⟨M3.cell (.tail _ _ _ _ _ (Has.head _ _ _ _)) (i := 0) rfl, M3.cell (.tail _ _ _ _ _ (Has.head _ _ _ _)) (i := 1) rfl⟩) (fun hHeld => ?_)
      clear hK K
      try simp only [Act.put, puts]
      refine wpAnyH_ready (rs := [1]) (by kernel_rfl) (by simp) ?_
      refine AllReadyH.cons rfl (fun K hK => ?_) AllReadyH.nil
      go_simp
      refine (C0.out _).mono ?_
      rintro e wn ⟨rfl, hA⟩
      replace M3 := M3.call hA
      clear hA
      try go_wp2_with fail
      clear hHeld
      refine hK.out _ _ (⟨M3.cell (.tail _ _ _ _ _ (Has.head _ _ _ _)) (i := 0) rfl, M3.cell (.tail _ _ _ _ _ (Has.head _ _ _ _)) (i := 1) rfl⟩) (fun hHeld => ?_)
      clear hK K
      try simp only [Act.put, puts]
      refine wpAnyH_ready (rs := [2]) (by kernel_rfl) (by simp) ?_
      refine AllReadyH.cons rfl (fun K hK => ?_) AllReadyH.nil
      go_simp
      refine (C1.out _).mono ?_
      rintro e wn ⟨rfl, hA⟩
      replace M3 := M3.call hA
      clear hA
      try go_wp2_with fail
      clear hHeld
      refine hK.out _ _ (⟨M3.cell (.tail _ _ _ _ _ (Has.head _ _ _ _)) (i := 0) rfl, M3.cell (.tail _ _ _ _ _ (Has.head _ _ _ _)) (i := 1) rfl⟩) (fun hHeld => ?_)
      clear hK K
      try simp only [Act.put, puts]
      refine wpAnyH_ready (rs := [4]) (by kernel_rfl) (by simp) ?_
      refine AllReadyH.cons rfl (fun K hK => ?_) AllReadyH.nil
      rw [if_pos (by rfl)]
      refine wp_st M3 rfl rfl rfl (Has.head _ _ _ _) (wr_bk _ _ _ _) (Upd.head _ _ _ _ _) ?_
      clear M3
      intro wz M3
      clear hHeld
      refine hK.out _ _ (⟨M3.cell (.tail _ _ _ _ _ (Has.head _ _ _ _)) (i := 0) rfl, M3.cell (.tail _ _ _ _ _ (Has.head _ _ _ _)) (i := 1) rfl⟩) (fun hHeld => ?_)
      clear hK K
      try simp only [Act.put, puts]
      refine wpAnyH_done (by kernel_rfl) ?_ _
      go_wp2_with fail
      go_meet
      exact ⟨g3, rfl, M3⟩
  clear M2
  obtain ⟨g3, rfl, M3⟩ := hcut
  clear C0 C1
  try simp only [Exit.then, Exit.inBlock]
  go_wp2_with ((with_reducible refine (?_ : Go.wpList _ _ _ (_ :: _) _ _)); (first | go_skip | (refine wpL_ldc M3 rfl rfl rfl ?_) | (refine wpL_lgc M3 rfl rfl rfl ?_) | (refine wpL_stc M3 rfl rfl rfl rfl ?_; clear M3; intro w' M3) | (refine wpL_sti M3 rfl rfl rfl rfl ?_; clear M3; intro w' M3) | (refine wpL_sth M3 rfl rfl rfl rfl (wr_minus _ _ _) ?_; clear M3; intro w' M3)))
  refine (k_join _).mono ?_
  rintro e w4 ⟨rfl, hA⟩
  replace M3 := M3.call hA
  clear hA
  go_wp2_with ((with_reducible refine (?_ : Go.wpList _ _ _ (_ :: _) _ _)); (first | go_skip | (refine wpL_bx M3 rfl rfl rfl rfl ?_; clear M3; intro g4 w4 M4) | (refine wpL_alc M3 rfl rfl ?_; clear M3; intro g4 w4 M4) | (refine wpL_ldc M3 rfl rfl rfl ?_) | (refine wpL_lgc M3 rfl rfl rfl ?_) | (refine wpL_stc M3 rfl rfl rfl rfl ?_; clear M3; intro w' M3) | (refine wpL_sti M3 rfl rfl rfl rfl ?_; clear M3; intro w' M3) | (refine wpL_sth M3 rfl rfl rfl rfl (wr_minus _ _ _) ?_; clear M3; intro w' M3) | (refine wpL_ldc M4 rfl rfl rfl ?_) | (refine wpL_lgc M4 rfl rfl rfl ?_) | (refine wpL_stc M4 rfl rfl rfl rfl ?_; clear M4; intro w' M4) | (refine wpL_sti M4 rfl rfl rfl rfl ?_; clear M4; intro w' M4) | (refine wpL_sth M4 rfl rfl rfl rfl (wr_minus _ _ _) ?_; clear M4; intro w' M4)))
  refine (k_c64 _).mono ?_
  rintro e w5 ⟨rfl, hA⟩
  replace M4 := M4.call hA
  clear hA
  go_wp2_with (first | ((with_reducible refine (?_ : Go.wpList _ _ _ (_ :: _) _ _)); (first | go_skip | (refine wpL_ldc M4 rfl rfl rfl ?_) | (refine wpL_lgc M4 rfl rfl rfl ?_) | (refine wpL_stc M4 rfl rfl rfl rfl ?_; clear M4; intro w' M4) | (refine wpL_sti M4 rfl rfl rfl rfl ?_; clear M4; intro w' M4) | (refine wpL_sth M4 rfl rfl rfl rfl (wr_minus _ _ _) ?_; clear M4; intro w' M4))) | simp only [run_fk, Result.andThen_ok, Oper.upon_value])
  refine (k_over20 _).mono ?_
  rintro e w5 ⟨rfl, hA⟩
  replace M4 := M4.call hA
  clear hA
  go_wp2_with (first | ((with_reducible refine (?_ : Go.wpList _ _ _ (_ :: _) _ _)); (first | go_skip | (refine wpL_ldc M4 rfl rfl rfl ?_) | (refine wpL_lgc M4 rfl rfl rfl ?_) | (refine wpL_stc M4 rfl rfl rfl rfl ?_; clear M4; intro w' M4) | (refine wpL_sti M4 rfl rfl rfl rfl ?_; clear M4; intro w' M4) | (refine wpL_sth M4 rfl rfl rfl rfl (wr_minus _ _ _) ?_; clear M4; intro w' M4))) | simp only [run_fk, Result.andThen_ok, Oper.upon_value])
  refine (k_over30 _).mono ?_
  rintro e w5 ⟨rfl, hA⟩
  replace M4 := M4.call hA
  clear hA
  go_wp2_with (first | ((with_reducible refine (?_ : Go.wpList _ _ _ (_ :: _) _ _)); (first | go_skip | (refine wpL_ldc M4 rfl rfl rfl ?_) | (refine wpL_lgc M4 rfl rfl rfl ?_) | (refine wpL_stc M4 rfl rfl rfl rfl ?_; clear M4; intro w' M4) | (refine wpL_sti M4 rfl rfl rfl rfl ?_; clear M4; intro w' M4) | (refine wpL_sth M4 rfl rfl rfl rfl (wr_minus _ _ _) ?_; clear M4; intro w' M4))) | simp only [run_fk, Result.andThen_ok, Oper.upon_value])
  refine (k_split _).mono ?_
  rintro e w5 ⟨rfl, hA⟩
  replace M4 := M4.call hA
  clear hA
  go_wp2_with (first | ((with_reducible refine (?_ : Go.wpList _ _ _ (_ :: _) _ _)); (first | go_skip | (refine wpL_ldc M4 rfl rfl rfl ?_) | (refine wpL_lgc M4 rfl rfl rfl ?_) | (refine wpL_stc M4 rfl rfl rfl rfl ?_; clear M4; intro w' M4) | (refine wpL_sti M4 rfl rfl rfl rfl ?_; clear M4; intro w' M4) | (refine wpL_sth M4 rfl rfl rfl rfl (wr_minus _ _ _) ?_; clear M4; intro w' M4))) | simp only [run_fk, Result.andThen_ok, Oper.upon_value])
  refine (k_cut _).mono ?_
  rintro e w5 ⟨rfl, hA⟩
  replace M4 := M4.call hA
  clear hA
  go_wp2_with (first | ((with_reducible refine (?_ : Go.wpList _ _ _ (_ :: _) _ _)); (first | go_skip | (refine wpL_ldc M4 rfl rfl rfl ?_) | (refine wpL_lgc M4 rfl rfl rfl ?_) | (refine wpL_stc M4 rfl rfl rfl rfl ?_; clear M4; intro w' M4) | (refine wpL_sti M4 rfl rfl rfl rfl ?_; clear M4; intro w' M4) | (refine wpL_sth M4 rfl rfl rfl rfl (wr_minus _ _ _) ?_; clear M4; intro w' M4))) | simp only [run_fk, Result.andThen_ok, Oper.upon_value])
  refine (k_c4 _).mono ?_
  rintro e w5 ⟨rfl, hA⟩
  replace M4 := M4.call hA
  clear hA
  go_wp2_with (first | ((with_reducible refine (?_ : Go.wpList _ _ _ (_ :: _) _ _)); (first | go_skip | (refine wpL_ldc M4 rfl rfl rfl ?_) | (refine wpL_lgc M4 rfl rfl rfl ?_) | (refine wpL_stc M4 rfl rfl rfl rfl ?_; clear M4; intro w' M4) | (refine wpL_sti M4 rfl rfl rfl rfl ?_; clear M4; intro w' M4) | (refine wpL_sth M4 rfl rfl rfl rfl (wr_minus _ _ _) ?_; clear M4; intro w' M4))) | simp only [run_fk, Result.andThen_ok, Oper.upon_value])
  refine (k_none _).mono ?_
  rintro e w5 ⟨rfl, hA⟩
  replace M4 := M4.call hA
  clear hA
  go_wp2_with (first | ((with_reducible refine (?_ : Go.wpList _ _ _ (_ :: _) _ _)); (first | go_skip | (refine wpL_ldc M4 rfl rfl rfl ?_) | (refine wpL_lgc M4 rfl rfl rfl ?_) | (refine wpL_stc M4 rfl rfl rfl rfl ?_; clear M4; intro w' M4) | (refine wpL_sti M4 rfl rfl rfl rfl ?_; clear M4; intro w' M4) | (refine wpL_sth M4 rfl rfl rfl rfl (wr_minus _ _ _) ?_; clear M4; intro w' M4))) | simp only [run_fk, Result.andThen_ok, Oper.upon_value])
  go_ret
  exact ⟨rfl, M4.below⟩
end Go.Proofs.YtallbegibdlpaaaGreat
