/-
  A book's steps: the code's.
-/
import Derived.Test.YtallbegibdlpaaaGreatLedgG
set_option linter.unusedVariables false
set_option linter.unusedSimpArgs false
namespace Go.Proofs.YtallbegibdlpaaaGreat
open Go Go.RowKit Go.Th Go.Th.Wide Go.Th.Up

set_option maxRecDepth 20000 in
set_option maxHeartbeats 3200000 in
theorem Spread18 (B St v : Int) (n : Nat) (hn : n ≤ 4096) (hSt : 0 ≤ St ∧ St ≤ 4611686018427387904) (hB : 0 ≤ B ∧ B ≤ 1099511627776) (hv : v = min (B + 3 * (costN n : Int)) 1099511627776) (w : World) :
    KAns 11 #[bk B St, .int .i64 n] v (St + 1) w := by
  have hcn := (costN_eq hn).2
  have C1 := Lib.hid (Cost_any n hn)
  have C2 := Lib.hid (next18 B St B (3 * (costN n : Int)) v hSt hB (by omega) hv)
  obtain ⟨c, hc⟩ : ∃ c, c = costN n := ⟨_, rfl⟩
  rw [← hc] at C1 C2 hcn
  have e1 : IntKind.i64.wrap (3 * (c : Int)) = 3 * (c : Int) := by rw [w64]; simp only [wrap64]; omega
  have M0 := Mem.start w
  clear hv hB hn hc
  go_enter Tryz.func11, Tryz.ntmps11
  go_wp2_with ((with_reducible refine (?_ : Go.wpList _ _ _ (_ :: _) _ _)); (first | go_skip | (refine wpL_bx M0 rfl rfl rfl rfl ?_; clear M0; intro g1 w1 M1) | (refine wpL_alc M0 rfl rfl ?_; clear M0; intro g1 w1 M1) | (refine wpL_ldc M0 rfl rfl rfl ?_) | (refine wpL_lgc M0 rfl rfl rfl ?_) | (refine wpL_stc M0 rfl rfl rfl rfl ?_; clear M0; intro w' M0) | (refine wpL_sti M0 rfl rfl rfl rfl ?_; clear M0; intro w' M0) | (refine wpL_sth M0 rfl rfl rfl rfl (wr_minus _ _ _) ?_; clear M0; intro w' M0) | (refine wpL_bx M1 rfl rfl rfl rfl ?_; clear M1; intro g2 w2 M2) | (refine wpL_alc M1 rfl rfl ?_; clear M1; intro g2 w2 M2) | (refine wpL_ldc M1 rfl rfl rfl ?_) | (refine wpL_lgc M1 rfl rfl rfl ?_) | (refine wpL_stc M1 rfl rfl rfl rfl ?_; clear M1; intro w' M1) | (refine wpL_sti M1 rfl rfl rfl rfl ?_; clear M1; intro w' M1) | (refine wpL_sth M1 rfl rfl rfl rfl (wr_minus _ _ _) ?_; clear M1; intro w' M1) | (refine wpL_ldc M2 rfl rfl rfl ?_) | (refine wpL_lgc M2 rfl rfl rfl ?_) | (refine wpL_stc M2 rfl rfl rfl rfl ?_; clear M2; intro w' M2) | (refine wpL_sti M2 rfl rfl rfl rfl ?_; clear M2; intro w' M2) | (refine wpL_sth M2 rfl rfl rfl rfl (wr_minus _ _ _) ?_; clear M2; intro w' M2)))
  have M3 := M2.drew
  refine wp_region_held_drew (S := (fun w' : World => w'.cell? ⟨g1, 0, none⟩ = some (.int .i64 B) ∧ w'.cell? ⟨g1, 1, none⟩ = some (.int .i64 St))) (by kernel_rfl) (⟨M3.cell (.tail _ _ _ _ _ (Has.head _ _ _ _)) (i := 0) rfl, M3.cell (.tail _ _ _ _ _ (Has.head _ _ _ _)) (i := 1) rfl⟩) (fun hHeld => ?_)
  refine tkT 0 ?v28 ?hy28 hHeld ?rest28
  case hy28 => (intro w' hSw; (try dsimp only at hSw); go_simp; (try with_reducible rfl))
  try simp only [Act.put, puts]
  refine tkT 1 ?v29 ?hy29 hHeld ?rest29
  case hy29 => (intro w' hSw; (try dsimp only at hSw); go_simp; (try with_reducible rfl))
  try simp only [Act.put, puts]
  refine tkT 2 ?v30 ?hy30 hHeld ?rest30
  case hy30 => (intro w' hSw; (try dsimp only at hSw); go_simp; (try with_reducible rfl))
  try simp only [Act.put, puts]
  refine tkT 3 ?v31 ?hy31 hHeld ?rest31
  case hy31 => (intro w' hSw; (try dsimp only at hSw); go_simp; (try with_reducible rfl))
  try simp only [Act.put, puts]
  refine wpAnyH_ready (rs := [4]) (by kernel_rfl) (by simp) ?_
  refine AllReadyH.cons rfl (fun K hK => ?_) AllReadyH.nil
  go_simp
  refine (C1.out _).mono ?_
  rintro e w5 ⟨rfl, hA⟩
  have M4 := M3.call hA
  try go_wp2_with fail
  refine hK.out _ _ (⟨M4.cell (.tail _ _ _ _ _ (Has.head _ _ _ _)) (i := 0) rfl, M4.cell (.tail _ _ _ _ _ (Has.head _ _ _ _)) (i := 1) rfl⟩) (fun hHeld => ?_)
  clear hK K
  try simp only [Act.put, puts]
  refine tkT 5 ?v33 ?hy33 hHeld ?rest33
  case hy33 => (intro w' hSw; (try dsimp only at hSw); go_simp; (try with_reducible rfl))
  try simp only [Act.put, puts]
  refine wpAnyH_ready (rs := [6]) (by kernel_rfl) (by simp) ?_
  refine AllReadyH.cons rfl (fun K hK => ?_) AllReadyH.nil
  go_simp
  try rw [e1]
  refine (C2.out _).mono ?_
  rintro e w5 ⟨rfl, hA⟩
  have M5 := M4.call hA
  try go_wp2_with fail
  refine hK.out _ _ (⟨M5.cell (.tail _ _ _ _ _ (Has.head _ _ _ _)) (i := 0) rfl, M5.cell (.tail _ _ _ _ _ (Has.head _ _ _ _)) (i := 1) rfl⟩) (fun hHeld => ?_)
  clear hK K
  try simp only [Act.put, puts]
  refine wpAnyH_ready (rs := [7]) (by kernel_rfl) (by simp) ?_
  refine AllReadyH.cons rfl (fun K hK => ?_) AllReadyH.nil
  rw [if_pos (by rfl)]
  refine wp_st M5 rfl rfl rfl (Has.head _ _ _ _) (wr_bk _ _ _ _) (Upd.head _ _ _ _ _) ?_
  intro w7 M6
  refine hK.out _ _ (⟨M6.cell (.tail _ _ _ _ _ (Has.head _ _ _ _)) (i := 0) rfl, M6.cell (.tail _ _ _ _ _ (Has.head _ _ _ _)) (i := 1) rfl⟩) (fun hHeld => ?_)
  clear hK K
  try simp only [Act.put, puts]
  refine wpAnyH_done (by kernel_rfl) ?_ _
  go_wp2_with fail
  refine bodyPost_ret (res_cell rfl M6 rfl (Has.head _ _ _ _) (rd_bk _ _)) rfl ?_
  exact ⟨rfl, M6.below⟩
set_option maxRecDepth 20000 in
set_option maxHeartbeats 3200000 in
theorem Split18 (B St v : Int) (n : Nat) (hn : n ≤ 4096) (hSt : 0 ≤ St ∧ St ≤ 4611686018427387904) (hB : 0 ≤ B ∧ B ≤ 1099511627776) (hv : v = min (B + 2 * (costN n : Int)) 1099511627776) (w : World) :
    KAns 17 #[bk B St, .int .i64 n] v (St + 1) w := by
  have hcn := (costN_eq hn).2
  have C1 := Lib.hid (Cost_any n hn)
  have C2 := Lib.hid (next18 B St B (2 * (costN n : Int)) v hSt hB (by omega) hv)
  obtain ⟨c, hc⟩ : ∃ c, c = costN n := ⟨_, rfl⟩
  rw [← hc] at C1 C2 hcn
  have e1 : IntKind.i64.wrap (2 * (c : Int)) = 2 * (c : Int) := by rw [w64]; simp only [wrap64]; omega
  have M0 := Mem.start w
  clear hv hB hn hc
  go_enter Tryz.func17, Tryz.ntmps17
  go_wp2_with ((with_reducible refine (?_ : Go.wpList _ _ _ (_ :: _) _ _)); (first | go_skip | (refine wpL_bx M0 rfl rfl rfl rfl ?_; clear M0; intro g1 w1 M1) | (refine wpL_alc M0 rfl rfl ?_; clear M0; intro g1 w1 M1) | (refine wpL_ldc M0 rfl rfl rfl ?_) | (refine wpL_lgc M0 rfl rfl rfl ?_) | (refine wpL_stc M0 rfl rfl rfl rfl ?_; clear M0; intro w' M0) | (refine wpL_sti M0 rfl rfl rfl rfl ?_; clear M0; intro w' M0) | (refine wpL_sth M0 rfl rfl rfl rfl (wr_minus _ _ _) ?_; clear M0; intro w' M0) | (refine wpL_bx M1 rfl rfl rfl rfl ?_; clear M1; intro g2 w2 M2) | (refine wpL_alc M1 rfl rfl ?_; clear M1; intro g2 w2 M2) | (refine wpL_ldc M1 rfl rfl rfl ?_) | (refine wpL_lgc M1 rfl rfl rfl ?_) | (refine wpL_stc M1 rfl rfl rfl rfl ?_; clear M1; intro w' M1) | (refine wpL_sti M1 rfl rfl rfl rfl ?_; clear M1; intro w' M1) | (refine wpL_sth M1 rfl rfl rfl rfl (wr_minus _ _ _) ?_; clear M1; intro w' M1) | (refine wpL_ldc M2 rfl rfl rfl ?_) | (refine wpL_lgc M2 rfl rfl rfl ?_) | (refine wpL_stc M2 rfl rfl rfl rfl ?_; clear M2; intro w' M2) | (refine wpL_sti M2 rfl rfl rfl rfl ?_; clear M2; intro w' M2) | (refine wpL_sth M2 rfl rfl rfl rfl (wr_minus _ _ _) ?_; clear M2; intro w' M2)))
  have M3 := M2.drew
  refine wp_region_held_drew (S := (fun w' : World => w'.cell? ⟨g1, 0, none⟩ = some (.int .i64 B) ∧ w'.cell? ⟨g1, 1, none⟩ = some (.int .i64 St))) (by kernel_rfl) (⟨M3.cell (.tail _ _ _ _ _ (Has.head _ _ _ _)) (i := 0) rfl, M3.cell (.tail _ _ _ _ _ (Has.head _ _ _ _)) (i := 1) rfl⟩) (fun hHeld => ?_)
  refine tkT 0 ?v36 ?hy36 hHeld ?rest36
  case hy36 => (intro w' hSw; (try dsimp only at hSw); go_simp; (try with_reducible rfl))
  try simp only [Act.put, puts]
  refine tkT 1 ?v37 ?hy37 hHeld ?rest37
  case hy37 => (intro w' hSw; (try dsimp only at hSw); go_simp; (try with_reducible rfl))
  try simp only [Act.put, puts]
  refine tkT 2 ?v38 ?hy38 hHeld ?rest38
  case hy38 => (intro w' hSw; (try dsimp only at hSw); go_simp; (try with_reducible rfl))
  try simp only [Act.put, puts]
  refine tkT 3 ?v39 ?hy39 hHeld ?rest39
  case hy39 => (intro w' hSw; (try dsimp only at hSw); go_simp; (try with_reducible rfl))
  try simp only [Act.put, puts]
  refine wpAnyH_ready (rs := [4]) (by kernel_rfl) (by simp) ?_
  refine AllReadyH.cons rfl (fun K hK => ?_) AllReadyH.nil
  go_simp
  refine (C1.out _).mono ?_
  rintro e w5 ⟨rfl, hA⟩
  have M4 := M3.call hA
  try go_wp2_with fail
  refine hK.out _ _ (⟨M4.cell (.tail _ _ _ _ _ (Has.head _ _ _ _)) (i := 0) rfl, M4.cell (.tail _ _ _ _ _ (Has.head _ _ _ _)) (i := 1) rfl⟩) (fun hHeld => ?_)
  clear hK K
  try simp only [Act.put, puts]
  refine tkT 5 ?v41 ?hy41 hHeld ?rest41
  case hy41 => (intro w' hSw; (try dsimp only at hSw); go_simp; (try with_reducible rfl))
  try simp only [Act.put, puts]
  refine wpAnyH_ready (rs := [6]) (by kernel_rfl) (by simp) ?_
  refine AllReadyH.cons rfl (fun K hK => ?_) AllReadyH.nil
  go_simp
  try rw [e1]
  refine (C2.out _).mono ?_
  rintro e w5 ⟨rfl, hA⟩
  have M5 := M4.call hA
  try go_wp2_with fail
  refine hK.out _ _ (⟨M5.cell (.tail _ _ _ _ _ (Has.head _ _ _ _)) (i := 0) rfl, M5.cell (.tail _ _ _ _ _ (Has.head _ _ _ _)) (i := 1) rfl⟩) (fun hHeld => ?_)
  clear hK K
  try simp only [Act.put, puts]
  refine wpAnyH_ready (rs := [7]) (by kernel_rfl) (by simp) ?_
  refine AllReadyH.cons rfl (fun K hK => ?_) AllReadyH.nil
  rw [if_pos (by rfl)]
  refine wp_st M5 rfl rfl rfl (Has.head _ _ _ _) (wr_bk _ _ _ _) (Upd.head _ _ _ _ _) ?_
  intro w7 M6
  refine hK.out _ _ (⟨M6.cell (.tail _ _ _ _ _ (Has.head _ _ _ _)) (i := 0) rfl, M6.cell (.tail _ _ _ _ _ (Has.head _ _ _ _)) (i := 1) rfl⟩) (fun hHeld => ?_)
  clear hK K
  try simp only [Act.put, puts]
  refine wpAnyH_done (by kernel_rfl) ?_ _
  go_wp2_with fail
  refine bodyPost_ret (res_cell rfl M6 rfl (Has.head _ _ _ _) (rd_bk _ _)) rfl ?_
  exact ⟨rfl, M6.below⟩
set_option maxRecDepth 20000 in
set_option maxHeartbeats 3200000 in
theorem Join18 (B St v : Int) (n : Nat) (hn : n ≤ 4096) (hSt : 0 ≤ St ∧ St ≤ 4611686018427387904) (hB : 0 ≤ B ∧ B ≤ 1099511627776) (hv : v = min (B + (costN n : Int)) 1099511627776) (w : World) :
    KAns 14 #[bk B St, .int .i64 n] v (St + 1) w := by
  have hcn := (costN_eq hn).2
  have C1 := Lib.hid (Cost_any n hn)
  have C2 := Lib.hid (next18 B St B (costN n : Int) v hSt hB (by omega) hv)
  obtain ⟨c, hc⟩ : ∃ c, c = costN n := ⟨_, rfl⟩
  rw [← hc] at C1 C2 hcn
  have M0 := Mem.start w
  clear hv hB hn hc
  go_enter Tryz.func14, Tryz.ntmps14
  go_wp2_with ((with_reducible refine (?_ : Go.wpList _ _ _ (_ :: _) _ _)); (first | go_skip | (refine wpL_bx M0 rfl rfl rfl rfl ?_; clear M0; intro g1 w1 M1) | (refine wpL_alc M0 rfl rfl ?_; clear M0; intro g1 w1 M1) | (refine wpL_ldc M0 rfl rfl rfl ?_) | (refine wpL_lgc M0 rfl rfl rfl ?_) | (refine wpL_stc M0 rfl rfl rfl rfl ?_; clear M0; intro w' M0) | (refine wpL_sti M0 rfl rfl rfl rfl ?_; clear M0; intro w' M0) | (refine wpL_sth M0 rfl rfl rfl rfl (wr_minus _ _ _) ?_; clear M0; intro w' M0) | (refine wpL_bx M1 rfl rfl rfl rfl ?_; clear M1; intro g2 w2 M2) | (refine wpL_alc M1 rfl rfl ?_; clear M1; intro g2 w2 M2) | (refine wpL_ldc M1 rfl rfl rfl ?_) | (refine wpL_lgc M1 rfl rfl rfl ?_) | (refine wpL_stc M1 rfl rfl rfl rfl ?_; clear M1; intro w' M1) | (refine wpL_sti M1 rfl rfl rfl rfl ?_; clear M1; intro w' M1) | (refine wpL_sth M1 rfl rfl rfl rfl (wr_minus _ _ _) ?_; clear M1; intro w' M1) | (refine wpL_ldc M2 rfl rfl rfl ?_) | (refine wpL_lgc M2 rfl rfl rfl ?_) | (refine wpL_stc M2 rfl rfl rfl rfl ?_; clear M2; intro w' M2) | (refine wpL_sti M2 rfl rfl rfl rfl ?_; clear M2; intro w' M2) | (refine wpL_sth M2 rfl rfl rfl rfl (wr_minus _ _ _) ?_; clear M2; intro w' M2)))
  have M3 := M2.drew
  refine wp_region_held_drew (S := (fun w' : World => w'.cell? ⟨g1, 0, none⟩ = some (.int .i64 B) ∧ w'.cell? ⟨g1, 1, none⟩ = some (.int .i64 St))) (by kernel_rfl) (⟨M3.cell (.tail _ _ _ _ _ (Has.head _ _ _ _)) (i := 0) rfl, M3.cell (.tail _ _ _ _ _ (Has.head _ _ _ _)) (i := 1) rfl⟩) (fun hHeld => ?_)
  refine tkT 0 ?v44 ?hy44 hHeld ?rest44
  case hy44 => (intro w' hSw; (try dsimp only at hSw); go_simp; (try with_reducible rfl))
  try simp only [Act.put, puts]
  refine tkT 1 ?v45 ?hy45 hHeld ?rest45
  case hy45 => (intro w' hSw; (try dsimp only at hSw); go_simp; (try with_reducible rfl))
  try simp only [Act.put, puts]
  refine tkT 2 ?v46 ?hy46 hHeld ?rest46
  case hy46 => (intro w' hSw; (try dsimp only at hSw); go_simp; (try with_reducible rfl))
  try simp only [Act.put, puts]
  refine tkT 3 ?v47 ?hy47 hHeld ?rest47
  case hy47 => (intro w' hSw; (try dsimp only at hSw); go_simp; (try with_reducible rfl))
  try simp only [Act.put, puts]
  refine wpAnyH_ready (rs := [4]) (by kernel_rfl) (by simp) ?_
  refine AllReadyH.cons rfl (fun K hK => ?_) AllReadyH.nil
  go_simp
  refine (C1.out _).mono ?_
  rintro e w5 ⟨rfl, hA⟩
  have M4 := M3.call hA
  try go_wp2_with fail
  refine hK.out _ _ (⟨M4.cell (.tail _ _ _ _ _ (Has.head _ _ _ _)) (i := 0) rfl, M4.cell (.tail _ _ _ _ _ (Has.head _ _ _ _)) (i := 1) rfl⟩) (fun hHeld => ?_)
  clear hK K
  try simp only [Act.put, puts]
  refine wpAnyH_ready (rs := [5]) (by kernel_rfl) (by simp) ?_
  refine AllReadyH.cons rfl (fun K hK => ?_) AllReadyH.nil
  go_simp
  refine (C2.out _).mono ?_
  rintro e w5 ⟨rfl, hA⟩
  have M5 := M4.call hA
  try go_wp2_with fail
  refine hK.out _ _ (⟨M5.cell (.tail _ _ _ _ _ (Has.head _ _ _ _)) (i := 0) rfl, M5.cell (.tail _ _ _ _ _ (Has.head _ _ _ _)) (i := 1) rfl⟩) (fun hHeld => ?_)
  clear hK K
  try simp only [Act.put, puts]
  refine wpAnyH_ready (rs := [6]) (by kernel_rfl) (by simp) ?_
  refine AllReadyH.cons rfl (fun K hK => ?_) AllReadyH.nil
  rw [if_pos (by rfl)]
  refine wp_st M5 rfl rfl rfl (Has.head _ _ _ _) (wr_bk _ _ _ _) (Upd.head _ _ _ _ _) ?_
  intro w7 M6
  refine hK.out _ _ (⟨M6.cell (.tail _ _ _ _ _ (Has.head _ _ _ _)) (i := 0) rfl, M6.cell (.tail _ _ _ _ _ (Has.head _ _ _ _)) (i := 1) rfl⟩) (fun hHeld => ?_)
  clear hK K
  try simp only [Act.put, puts]
  refine wpAnyH_done (by kernel_rfl) ?_ _
  go_wp2_with fail
  refine bodyPost_ret (res_cell rfl M6 rfl (Has.head _ _ _ _) (rd_bk _ _)) rfl ?_
  exact ⟨rfl, M6.below⟩
set_option maxRecDepth 20000 in
set_option maxHeartbeats 3200000 in
theorem Weigh18 (B s St : Nat) (n : Nat) (m : Nat) (z : Nat) (v : Int) (hn : n ≤ 4096) (hSt : St ≤ 4611686018427387904) (hB : B ≤ 1099511627776) (hm : m ≤ 65536) (hs : s ≤ 1073741824) (hz : z < 9223372036854775808) (hv : v = min ((upD (B * m * s) z : Int) + (costN n : Int)) 1099511627776) (w : World) :
    KAns 12 #[bk B St, .int .i64 n, .int .i64 m, .int .i64 s, wn z] v (St + 1) w := by
  have hu := upD_le (B * m * s) z
  have C1 := Lib.hid (scaled_any B m s z hB hm hs hz)
  have C2 := Lib.hid (Cost_any n hn)
  have C3 := Lib.hid (next18 B St (upD (B * m * s) z : Int) (costN n : Int) v (by omega) (by omega) (by omega) hv)
  obtain ⟨u, hu2⟩ : ∃ u, u = upD (B * m * s) z := ⟨_, rfl⟩
  rw [← hu2] at C1 C3
  have M0 := Mem.start w
  clear hv hB hn hu hs hz hu2
  go_enter Tryz.func12, Tryz.ntmps12
  go_wp2_with ((with_reducible refine (?_ : Go.wpList _ _ _ (_ :: _) _ _)); (first | go_skip | (refine wpL_bx M0 rfl rfl rfl rfl ?_; clear M0; intro g1 w1 M1) | (refine wpL_alc M0 rfl rfl ?_; clear M0; intro g1 w1 M1) | (refine wpL_ldc M0 rfl rfl rfl ?_) | (refine wpL_lgc M0 rfl rfl rfl ?_) | (refine wpL_stc M0 rfl rfl rfl rfl ?_; clear M0; intro w' M0) | (refine wpL_sti M0 rfl rfl rfl rfl ?_; clear M0; intro w' M0) | (refine wpL_sth M0 rfl rfl rfl rfl (wr_minus _ _ _) ?_; clear M0; intro w' M0) | (refine wpL_bx M1 rfl rfl rfl rfl ?_; clear M1; intro g2 w2 M2) | (refine wpL_alc M1 rfl rfl ?_; clear M1; intro g2 w2 M2) | (refine wpL_ldc M1 rfl rfl rfl ?_) | (refine wpL_lgc M1 rfl rfl rfl ?_) | (refine wpL_stc M1 rfl rfl rfl rfl ?_; clear M1; intro w' M1) | (refine wpL_sti M1 rfl rfl rfl rfl ?_; clear M1; intro w' M1) | (refine wpL_sth M1 rfl rfl rfl rfl (wr_minus _ _ _) ?_; clear M1; intro w' M1) | (refine wpL_bx M2 rfl rfl rfl rfl ?_; clear M2; intro g3 w3 M3) | (refine wpL_alc M2 rfl rfl ?_; clear M2; intro g3 w3 M3) | (refine wpL_ldc M2 rfl rfl rfl ?_) | (refine wpL_lgc M2 rfl rfl rfl ?_) | (refine wpL_stc M2 rfl rfl rfl rfl ?_; clear M2; intro w' M2) | (refine wpL_sti M2 rfl rfl rfl rfl ?_; clear M2; intro w' M2) | (refine wpL_sth M2 rfl rfl rfl rfl (wr_minus _ _ _) ?_; clear M2; intro w' M2) | (refine wpL_ldc M3 rfl rfl rfl ?_) | (refine wpL_lgc M3 rfl rfl rfl ?_) | (refine wpL_stc M3 rfl rfl rfl rfl ?_; clear M3; intro w' M3) | (refine wpL_sti M3 rfl rfl rfl rfl ?_; clear M3; intro w' M3) | (refine wpL_sth M3 rfl rfl rfl rfl (wr_minus _ _ _) ?_; clear M3; intro w' M3)))
  replace M3 := M3.drew
  refine wp_region_held_drew (S := (fun w' : World => w'.cell? ⟨g1, 0, none⟩ = some (.int .i64 B) ∧ w'.cell? ⟨g1, 1, none⟩ = some (.int .i64 St) ∧ w'.cell? ⟨g2, 0, none⟩ = some (.int .i64 (hiZ (z : Int))) ∧ w'.cell? ⟨g2, 1, none⟩ = some (.int .u64 (loZ (z : Int))))) (by kernel_rfl) (⟨M3.cell (.tail _ _ _ _ _ (.tail _ _ _ _ _ (Has.head _ _ _ _))) (i := 0) rfl, M3.cell (.tail _ _ _ _ _ (.tail _ _ _ _ _ (Has.head _ _ _ _))) (i := 1) rfl, M3.cell (.tail _ _ _ _ _ (Has.head _ _ _ _)) (i := 0) rfl, M3.cell (.tail _ _ _ _ _ (Has.head _ _ _ _)) (i := 1) rfl⟩) (fun hHeld => ?_)
  refine tkT 0 ?v9001 ?hy9001 hHeld ?rest9001
  case hy9001 => (intro w' hSw; (try dsimp only at hSw); go_simp; (try with_reducible rfl))
  try simp only [Act.put, puts]
  refine tkT 1 ?v9002 ?hy9002 hHeld ?rest9002
  case hy9002 => (intro w' hSw; (try dsimp only at hSw); go_simp; (try with_reducible rfl))
  try simp only [Act.put, puts]
  refine tkT 2 ?v9003 ?hy9003 hHeld ?rest9003
  case hy9003 => (intro w' hSw; (try dsimp only at hSw); go_simp; (try with_reducible rfl))
  try simp only [Act.put, puts]
  refine tkT 3 ?v9004 ?hy9004 hHeld ?rest9004
  case hy9004 => (intro w' hSw; (try dsimp only at hSw); go_simp; (try with_reducible rfl))
  try simp only [Act.put, puts]
  refine tkT 4 ?v9005 ?hy9005 hHeld ?rest9005
  case hy9005 => (intro w' hSw; (try dsimp only at hSw); go_simp; (try with_reducible rfl))
  try simp only [Act.put, puts]
  refine tkT 5 ?v9006 ?hy9006 hHeld ?rest9006
  case hy9006 => (intro w' hSw; (try dsimp only at hSw); go_simp; (try with_reducible rfl))
  try simp only [Act.put, puts]
  refine tkT 7 ?v9007 ?hy9007 hHeld ?rest9007
  case hy9007 => (intro w' hSw; (try dsimp only at hSw); go_simp; (try with_reducible rfl))
  try simp only [Act.put, puts]
  refine wpAnyH_ready (rs := [6]) (by kernel_rfl) (by simp) ?_
  refine AllReadyH.cons rfl (fun K hK => ?_) AllReadyH.nil
  go_simp
  refine (C1.out _).mono ?_
  rintro e wn6 ⟨rfl, hA⟩
  replace M3 := M3.call hA
  clear hA
  try go_wp2_with fail
  clear hHeld
  refine hK.out _ _ (⟨M3.cell (.tail _ _ _ _ _ (.tail _ _ _ _ _ (Has.head _ _ _ _))) (i := 0) rfl, M3.cell (.tail _ _ _ _ _ (.tail _ _ _ _ _ (Has.head _ _ _ _))) (i := 1) rfl, M3.cell (.tail _ _ _ _ _ (Has.head _ _ _ _)) (i := 0) rfl, M3.cell (.tail _ _ _ _ _ (Has.head _ _ _ _)) (i := 1) rfl⟩) (fun hHeld => ?_)
  clear hK K
  try simp only [Act.put, puts]
  refine wpAnyH_ready (rs := [8]) (by kernel_rfl) (by simp) ?_
  refine AllReadyH.cons rfl (fun K hK => ?_) AllReadyH.nil
  go_simp
  refine (C2.out _).mono ?_
  rintro e wn8 ⟨rfl, hA⟩
  replace M3 := M3.call hA
  clear hA
  try go_wp2_with fail
  clear hHeld
  refine hK.out _ _ (⟨M3.cell (.tail _ _ _ _ _ (.tail _ _ _ _ _ (Has.head _ _ _ _))) (i := 0) rfl, M3.cell (.tail _ _ _ _ _ (.tail _ _ _ _ _ (Has.head _ _ _ _))) (i := 1) rfl, M3.cell (.tail _ _ _ _ _ (Has.head _ _ _ _)) (i := 0) rfl, M3.cell (.tail _ _ _ _ _ (Has.head _ _ _ _)) (i := 1) rfl⟩) (fun hHeld => ?_)
  clear hK K
  try simp only [Act.put, puts]
  refine wpAnyH_ready (rs := [9]) (by kernel_rfl) (by simp) ?_
  refine AllReadyH.cons rfl (fun K hK => ?_) AllReadyH.nil
  go_simp
  refine (C3.out _).mono ?_
  rintro e w5 ⟨rfl, hA⟩
  replace M3 := M3.call hA
  clear hA
  try go_wp2_with fail
  clear hHeld
  refine hK.out _ _ (⟨M3.cell (.tail _ _ _ _ _ (.tail _ _ _ _ _ (Has.head _ _ _ _))) (i := 0) rfl, M3.cell (.tail _ _ _ _ _ (.tail _ _ _ _ _ (Has.head _ _ _ _))) (i := 1) rfl, M3.cell (.tail _ _ _ _ _ (Has.head _ _ _ _)) (i := 0) rfl, M3.cell (.tail _ _ _ _ _ (Has.head _ _ _ _)) (i := 1) rfl⟩) (fun hHeld => ?_)
  clear hK K
  try simp only [Act.put, puts]
  refine wpAnyH_ready (rs := [10]) (by kernel_rfl) (by simp) ?_
  refine AllReadyH.cons rfl (fun K hK => ?_) AllReadyH.nil
  rw [if_pos (by rfl)]
  refine wp_st M3 rfl rfl rfl (Has.head _ _ _ _) (wr_bk _ _ _ _) (Upd.head _ _ _ _ _) ?_
  clear M3
  intro w7 M3
  clear hHeld
  refine hK.out _ _ (⟨M3.cell (.tail _ _ _ _ _ (.tail _ _ _ _ _ (Has.head _ _ _ _))) (i := 0) rfl, M3.cell (.tail _ _ _ _ _ (.tail _ _ _ _ _ (Has.head _ _ _ _))) (i := 1) rfl, M3.cell (.tail _ _ _ _ _ (Has.head _ _ _ _)) (i := 0) rfl, M3.cell (.tail _ _ _ _ _ (Has.head _ _ _ _)) (i := 1) rfl⟩) (fun hHeld => ?_)
  clear hK K
  try simp only [Act.put, puts]
  refine wpAnyH_done (by kernel_rfl) ?_ _
  go_wp2_with fail
  refine bodyPost_ret (res_cell rfl M3 rfl (Has.head _ _ _ _) (rd_bk _ _)) rfl ?_
  exact ⟨rfl, M3.below⟩
set_option maxRecDepth 20000 in
set_option maxHeartbeats 3200000 in
theorem Cut18 (B s St : Nat) (n : Nat) (z : Nat) (v : Int) (hn : n ≤ 4096) (hSt : St ≤ 4611686018427387904) (hB : B ≤ 1099511627776) (hs : s ≤ 1073741824) (hz : z < 9223372036854775808) (hv : v = min ((upD (B * 1 * s) z : Int) + (costN n : Int)) 1099511627776) (w : World) :
    KAns 18 #[bk B St, .int .i64 n, .int .i64 s, .int .i64 z] v (St + 1) w := by
  have hu := upD_le (B * 1 * s) z
  have C1 := Lib.hid (scaled_any B 1 s z hB (by omega) hs hz)
  have C2 := Lib.hid (Cost_any n hn)
  have C3 := Lib.hid (next18 B St (upD (B * 1 * s) z : Int) (costN n : Int) v (by omega) (by omega) (by omega) hv)
  have C0 := Lib.hid (Of_any (z : Int) (by omega))
  rw [show ((1 : Nat) : Int) = 1 from rfl] at C1
  obtain ⟨u, hu2⟩ : ∃ u, u = upD (B * 1 * s) z := ⟨_, rfl⟩
  rw [← hu2] at C1 C3
  have M0 := Mem.start w
  clear hv hB hn hu hs hz hu2
  go_enter Tryz.func18, Tryz.ntmps18
  go_wp2_with ((with_reducible refine (?_ : Go.wpList _ _ _ (_ :: _) _ _)); (first | go_skip | (refine wpL_bx M0 rfl rfl rfl rfl ?_; clear M0; intro g1 w1 M1) | (refine wpL_alc M0 rfl rfl ?_; clear M0; intro g1 w1 M1) | (refine wpL_ldc M0 rfl rfl rfl ?_) | (refine wpL_lgc M0 rfl rfl rfl ?_) | (refine wpL_stc M0 rfl rfl rfl rfl ?_; clear M0; intro w' M0) | (refine wpL_sti M0 rfl rfl rfl rfl ?_; clear M0; intro w' M0) | (refine wpL_sth M0 rfl rfl rfl rfl (wr_minus _ _ _) ?_; clear M0; intro w' M0) | (refine wpL_bx M1 rfl rfl rfl rfl ?_; clear M1; intro g2 w2 M2) | (refine wpL_alc M1 rfl rfl ?_; clear M1; intro g2 w2 M2) | (refine wpL_ldc M1 rfl rfl rfl ?_) | (refine wpL_lgc M1 rfl rfl rfl ?_) | (refine wpL_stc M1 rfl rfl rfl rfl ?_; clear M1; intro w' M1) | (refine wpL_sti M1 rfl rfl rfl rfl ?_; clear M1; intro w' M1) | (refine wpL_sth M1 rfl rfl rfl rfl (wr_minus _ _ _) ?_; clear M1; intro w' M1) | (refine wpL_ldc M2 rfl rfl rfl ?_) | (refine wpL_lgc M2 rfl rfl rfl ?_) | (refine wpL_stc M2 rfl rfl rfl rfl ?_; clear M2; intro w' M2) | (refine wpL_sti M2 rfl rfl rfl rfl ?_; clear M2; intro w' M2) | (refine wpL_sth M2 rfl rfl rfl rfl (wr_minus _ _ _) ?_; clear M2; intro w' M2)))
  have M3 := M2.drew
  clear M2
  refine wp_region_held_drew (S := (fun w' : World => w'.cell? ⟨g1, 0, none⟩ = some (.int .i64 B) ∧ w'.cell? ⟨g1, 1, none⟩ = some (.int .i64 St))) (by kernel_rfl) (⟨M3.cell (.tail _ _ _ _ _ (Has.head _ _ _ _)) (i := 0) rfl, M3.cell (.tail _ _ _ _ _ (Has.head _ _ _ _)) (i := 1) rfl⟩) (fun hHeld => ?_)
  refine tkT 0 ?v9008 ?hy9008 hHeld ?rest9008
  case hy9008 => (intro w' hSw; (try dsimp only at hSw); go_simp; (try with_reducible rfl))
  try simp only [Act.put, puts]
  refine tkT 1 ?v9009 ?hy9009 hHeld ?rest9009
  case hy9009 => (intro w' hSw; (try dsimp only at hSw); go_simp; (try with_reducible rfl))
  try simp only [Act.put, puts]
  refine tkT 2 ?v9010 ?hy9010 hHeld ?rest9010
  case hy9010 => (intro w' hSw; (try dsimp only at hSw); go_simp; (try with_reducible rfl))
  try simp only [Act.put, puts]
  refine tkT 3 ?v9011 ?hy9011 hHeld ?rest9011
  case hy9011 => (intro w' hSw; (try dsimp only at hSw); go_simp; (try with_reducible rfl))
  try simp only [Act.put, puts]
  refine tkT 4 ?v9012 ?hy9012 hHeld ?rest9012
  case hy9012 => (intro w' hSw; (try dsimp only at hSw); go_simp; (try with_reducible rfl))
  try simp only [Act.put, puts]
  refine tkT 7 ?v9013 ?hy9013 hHeld ?rest9013
  case hy9013 => (intro w' hSw; (try dsimp only at hSw); go_simp; (try with_reducible rfl))
  try simp only [Act.put, puts]
  refine wpAnyH_ready (rs := [5]) (by kernel_rfl) (by simp) ?_
  refine AllReadyH.cons rfl (fun K hK => ?_) AllReadyH.nil
  go_simp
  refine (C0.out _).mono ?_
  rintro e wn5 ⟨rfl, hA⟩
  replace M3 := M3.call hA
  clear hA
  try go_wp2_with fail
  clear hHeld
  refine hK.out _ _ (⟨M3.cell (.tail _ _ _ _ _ (Has.head _ _ _ _)) (i := 0) rfl, M3.cell (.tail _ _ _ _ _ (Has.head _ _ _ _)) (i := 1) rfl⟩) (fun hHeld => ?_)
  clear hK K
  try simp only [Act.put, puts]
  refine wpAnyH_ready (rs := [6]) (by kernel_rfl) (by simp) ?_
  refine AllReadyH.cons rfl (fun K hK => ?_) AllReadyH.nil
  go_simp
  refine (C1.out _).mono ?_
  rintro e wn6 ⟨rfl, hA⟩
  replace M3 := M3.call hA
  clear hA
  try go_wp2_with fail
  clear hHeld
  refine hK.out _ _ (⟨M3.cell (.tail _ _ _ _ _ (Has.head _ _ _ _)) (i := 0) rfl, M3.cell (.tail _ _ _ _ _ (Has.head _ _ _ _)) (i := 1) rfl⟩) (fun hHeld => ?_)
  clear hK K
  try simp only [Act.put, puts]
  refine wpAnyH_ready (rs := [8]) (by kernel_rfl) (by simp) ?_
  refine AllReadyH.cons rfl (fun K hK => ?_) AllReadyH.nil
  go_simp
  refine (C2.out _).mono ?_
  rintro e wn8 ⟨rfl, hA⟩
  replace M3 := M3.call hA
  clear hA
  try go_wp2_with fail
  clear hHeld
  refine hK.out _ _ (⟨M3.cell (.tail _ _ _ _ _ (Has.head _ _ _ _)) (i := 0) rfl, M3.cell (.tail _ _ _ _ _ (Has.head _ _ _ _)) (i := 1) rfl⟩) (fun hHeld => ?_)
  clear hK K
  try simp only [Act.put, puts]
  refine wpAnyH_ready (rs := [9]) (by kernel_rfl) (by simp) ?_
  refine AllReadyH.cons rfl (fun K hK => ?_) AllReadyH.nil
  go_simp
  refine (C3.out _).mono ?_
  rintro e w5 ⟨rfl, hA⟩
  replace M3 := M3.call hA
  clear hA
  try go_wp2_with fail
  clear hHeld
  refine hK.out _ _ (⟨M3.cell (.tail _ _ _ _ _ (Has.head _ _ _ _)) (i := 0) rfl, M3.cell (.tail _ _ _ _ _ (Has.head _ _ _ _)) (i := 1) rfl⟩) (fun hHeld => ?_)
  clear hK K
  try simp only [Act.put, puts]
  refine wpAnyH_ready (rs := [10]) (by kernel_rfl) (by simp) ?_
  refine AllReadyH.cons rfl (fun K hK => ?_) AllReadyH.nil
  rw [if_pos (by rfl)]
  refine wp_st M3 rfl rfl rfl (Has.head _ _ _ _) (wr_bk _ _ _ _) (Upd.head _ _ _ _ _) ?_
  clear M3
  intro w7 M3
  clear hHeld
  refine hK.out _ _ (⟨M3.cell (.tail _ _ _ _ _ (Has.head _ _ _ _)) (i := 0) rfl, M3.cell (.tail _ _ _ _ _ (Has.head _ _ _ _)) (i := 1) rfl⟩) (fun hHeld => ?_)
  clear hK K
  try simp only [Act.put, puts]
  refine wpAnyH_done (by kernel_rfl) ?_ _
  go_wp2_with fail
  refine bodyPost_ret (res_cell rfl M3 rfl (Has.head _ _ _ _) (rd_bk _ _)) rfl ?_
  exact ⟨rfl, M3.below⟩
theorem over_val {B k pw : Nat} (hk : k ≤ 40) (hp : pw = 2 ^ (40 - k)) : (1099511627776 : Int) / 2 ^ (k : Int).toNat = (pw : Int) := by
  rw [Int.toNat_natCast, hp]
  have h : (1099511627776 : Int) = ((2 ^ (40 - k) * 2 ^ k : Nat) : Int) := by rw [← Nat.pow_add, show 40 - k + k = 40 by omega]; rfl
  have h2 : (2 : Int) ^ k = ((2 ^ k : Nat) : Int) := by simp
  rw [h, h2, Int.natCast_mul, Int.mul_ediv_cancel _ (by have := Nat.two_pow_pos k; omega)]
set_option maxRecDepth 20000 in
set_option maxHeartbeats 3200000 in
theorem over18 (B St : Int) (k pw : Nat) (b : Bool) (hk : k ≤ 40) (hp : pw = 2 ^ (40 - k)) (hb : decide ((pw : Int) < B) = b) (w : World) :
    Calls Tryz.prog 16 #[bk B St, .int .i64 k] w fun e w' => e = .returned (.bool b) ∧ Below w.heap.size w w' := by
  have e1 := over_val (B := 0) hk hp
  have h1 : decide ((k : Int) < 0) = false := decide_eq_false (by omega)
  have h2 : decide ((40 : Int) < (k : Int)) = false := decide_eq_false (by omega)
  have hk0 : (0 : Int) ≤ (k : Int) := by omega
  have e2 : (1099511627776 : Int) / 2 ^ k = (pw : Int) := by rw [← e1, Int.toNat_natCast]
  have e3 : (1099511627776 : Int) / 2 ^ min k 64 = (pw : Int) := by rw [Nat.min_eq_left (by omega)]; exact e2
  have M0 := Mem.start w
  clear hp hk e1 e2
  go_enter Tryz.func16, Tryz.ntmps16
  go_wp2_with ((with_reducible refine (?_ : Go.wpList _ _ _ (_ :: _) _ _)); (first | go_skip | (refine wpL_bx M0 rfl rfl rfl rfl ?_; clear M0; intro g1 w1 M1) | (refine wpL_alc M0 rfl rfl ?_; clear M0; intro g1 w1 M1) | (refine wpL_ldc M0 rfl rfl rfl ?_) | (refine wpL_lgc M0 rfl rfl rfl ?_) | (refine wpL_stc M0 rfl rfl rfl rfl ?_; clear M0; intro w' M0) | (refine wpL_sti M0 rfl rfl rfl rfl ?_; clear M0; intro w' M0) | (refine wpL_sth M0 rfl rfl rfl rfl (wr_minus _ _ _) ?_; clear M0; intro w' M0) | (refine wpL_ldc M1 rfl rfl rfl ?_) | (refine wpL_lgc M1 rfl rfl rfl ?_) | (refine wpL_stc M1 rfl rfl rfl rfl ?_; clear M1; intro w' M1) | (refine wpL_sti M1 rfl rfl rfl rfl ?_; clear M1; intro w' M1) | (refine wpL_sth M1 rfl rfl rfl rfl (wr_minus _ _ _) ?_; clear M1; intro w' M1)))
  have M2 := M1.drew
  refine wp_region_held_drew (S := (fun w' : World => w'.cell? ⟨g1, 0, none⟩ = some (.int .i64 B))) (by kernel_rfl) ((M2.cell (Has.head _ _ _ _) (i := 0) rfl)) (fun hHeld => ?_)
  refine tkT 0 ?v51 ?hy51 hHeld ?rest51
  case hy51 => (intro w' hSw; (try dsimp only at hSw); go_simp; (try with_reducible rfl))
  try simp only [Act.put, puts]
  refine tkT 1 ?v52 ?hy52 hHeld ?rest52
  case hy52 => (intro w' hSw; (try dsimp only at hSw); go_simp; (try with_reducible rfl))
  try simp only [Act.put, puts]
  refine tkT 2 ?v53 ?hy53 hHeld ?rest53
  case hy53 => (intro w' hSw; (try dsimp only at hSw); go_simp; (try with_reducible rfl))
  try simp only [Act.put, puts]
  refine tkT 3 ?v54 ?hy54 hHeld ?rest54
  case hy54 => (intro w' hSw; (try dsimp only at hSw); go_simp; (try with_reducible rfl))
  try simp only [Act.put, puts]
  refine tkT 4 ?v55 ?hy55 hHeld ?rest55
  case hy55 => (intro w' hSw; (try dsimp only at hSw); go_simp; (try with_reducible rfl))
  try simp only [Act.put, puts]
  refine tkT 5 ?v56 ?hy56 hHeld ?rest56
  case hy56 => (intro w' hSw; (try dsimp only at hSw); go_simp; (try with_reducible rfl))
  try simp only [Act.put, puts]
  refine tkT 6 ?v57 ?hy57 hHeld ?rest57
  case hy57 => (intro w' hSw; (try dsimp only at hSw); go_simp; (try with_reducible rfl))
  try simp only [Act.put, puts]
  refine tkT 7 ?v58 ?hy58 hHeld ?rest58
  case hy58 => (intro w' hSw; (try dsimp only at hSw); go_simp; (try with_reducible rfl))
  try simp only [Act.put, puts]
  refine tkT 8 ?v59 ?hy59 hHeld ?rest59
  case hy59 => (intro w' hSw; (try dsimp only at hSw); go_simp; (try with_reducible rfl))
  try simp only [Act.put, puts]
  refine tkT 9 ?v60 ?hy60 hHeld ?rest60
  case hy60 => (intro w' hSw; (try dsimp only at hSw); go_simp; (try with_reducible rfl))
  try simp only [Act.put, puts]
  refine tkT 10 ?v61 ?hy61 hHeld ?rest61
  case hy61 => (intro w' hSw; (try dsimp only at hSw); go_simp; (try with_reducible rfl))
  try simp only [Act.put, puts]
  refine tkT 11 ?v62 ?hy62 hHeld ?rest62
  case hy62 => (intro w' hSw; (try dsimp only at hSw); go_simp; (try with_reducible rfl))
  try simp only [Act.put, puts]
  refine tkT 12 ?v63 ?hy63 hHeld ?rest63
  case hy63 => (intro w' hSw; (try dsimp only at hSw); go_simp; (try with_reducible rfl))
  try simp only [Act.put, puts]
  refine tkT 13 ?v64 ?hy64 hHeld ?rest64
  case hy64 => (intro w' hSw; (try dsimp only at hSw); go_simp; (try with_reducible rfl))
  try simp only [Act.put, puts]
  refine wpAnyH_done (by kernel_rfl) ?_ _
  go_wp2_with fail
  go_ret
  exact ⟨rfl, M2.below⟩
end Go.Proofs.YtallbegibdlpaaaGreat
