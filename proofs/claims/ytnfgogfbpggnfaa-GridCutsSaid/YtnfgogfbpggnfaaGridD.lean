/-
  What is wrong with any grid; a grid made whole again: the code's.
-/
import Derived.Test.YtnfgogfbpggnfaaGridC
set_option linter.unusedVariables false
set_option linter.unusedSimpArgs false
namespace Go.Proofs.Ytnfgogfbpggnfaa
open Go Go.RowKit Go.Th Go.Th.Grid Go.Th.Wide

set_option maxRecDepth 20000 in
set_option maxHeartbeats 3200000 in
theorem gcheck_any (x y X Y s : Int) (a : Option Addr) (n cap : Nat) (p : List Int) (hp : p.length = n) (hn : n ≤ 1000000) (w : World) (hS : Sl w 1 (.slice a n cap) n (i64s p)) :
    Calls Try.prog 9 #[gv x y X Y s (.slice a n cap)] w fun e w' => e = .returned (.int .i64 (chk x y s p)) ∧ Below w.heap.size w w' := by
  have C1 := sides_any x y
  have C2 := step_any s
  have hR : chk x y s p = if sdG x y = false then 2 else if inR s 16 4096 = false then 2 else if (n : Int) ≠ x * y then 5 else if allIn p 1073741824 = false then 1 else if inR (sm p) (1073741824 - (n : Int)) 1073741824 then 0 else 11 := by
    unfold chk
    rw [sidesG_is, hp]
    cases sdG x y <;> cases inR s 16 4096 <;> simp [inR]
  obtain ⟨R, hRR⟩ : ∃ R, R = chk x y s p := ⟨_, rfl⟩
  rw [← hRR] at hR ⊢
  have HS := Lib.hid hS
  clear hRR hS
  (obtain ⟨w1, hw1⟩ : ∃ w1, w.alloc (.cells #[.int .i64 x, .int .i64 y, .int .i64 X, .int .i64 Y, .int .i64 s, .slice a n cap] 24) = w1 := ⟨_, rfl⟩; have M1 := (Mem.start w).alloc 24 (gc x y X Y s (.slice a n cap)); rw [show w.alloc (.cells (gc x y X Y s (.slice a n cap)).toArray 24) = w1 from hw1] at M1; have HW1 := Lib.hid hw1; clear hw1)
  go_enter Try.func9, Try.ntmps9
  ((go_upto_region 1 with fail); rw [HW1.out]; clear HW1; obtain ⟨gA, hgA⟩ : ∃ gA, gA = w.heap.size := ⟨_, rfl⟩; rw [← hgA] at M1 ⊢; clear hgA)
  obtain ⟨c0, c1, c2, c3, c4, c5⟩ := gcells (M1.has (Has.head _ _ _ _))
  cases hsd : sdG x y
  · rw [hsd] at C1
    rw [if_pos hsd] at hR
    have C1 := Lib.hid C1
    have HR := Lib.hid hR
    clear hR hsd C2 hp
    go_wp2_with fail
    refine (C1.out _).mono ?_
    rintro e wx ⟨rfl, rfl⟩
    go_wp2_with fail
    go_ret
    exact ⟨ret_int HR.out.symm, M1.below⟩
  rw [hsd] at C1
  rw [if_neg (by rw [hsd]; simp)] at hR
  obtain ⟨⟨q1, q2⟩, q3, q4⟩ := sdG_t hsd
  obtain ⟨i, hi⟩ := Int.eq_ofNat_of_zero_le (by omega : 0 ≤ x)
  obtain ⟨j, hj⟩ := Int.eq_ofNat_of_zero_le (by omega : 0 ≤ y)
  have hle : i * j ≤ 64 * 64 := Nat.mul_le_mul (by omega) (by omega)
  obtain ⟨m, hm⟩ : ∃ m, m = i * j := ⟨_, rfl⟩
  have hmul : x * y = (m : Int) := by rw [hi, hj, hm]; simp
  rw [← hm] at hle
  have C3 := Lib.hid (glen_any x y X Y s (m : Int) a n cap (by rw [hmul]; exact IntWalk.wrap64_in _ (by omega)))
  rw [hmul] at hR
  have C1 := Lib.hid C1
  clear hm hmul hsd hi hj
  cases hst : inR s 16 4096
  · rw [hst] at C2
    rw [if_pos hst] at hR
    have C2 := Lib.hid C2
    have HR := Lib.hid hR
    clear hR hst hp C3
    go_wp2_with fail
    refine (C1.out _).mono ?_
    rintro e wx ⟨rfl, rfl⟩
    go_wp2_with fail
    refine (C2.out _).mono ?_
    rintro e wx ⟨rfl, rfl⟩
    go_wp2_with fail
    go_ret
    exact ⟨ret_int HR.out.symm, M1.below⟩
  rw [hst] at C2
  rw [if_neg (by rw [hst]; simp)] at hR
  have C2 := Lib.hid C2
  have HR := Lib.hid hR
  have HP := Lib.hid hp
  clear hR hst hp
  go_wp2_with fail
  refine (C1.out _).mono ?_
  rintro e wx ⟨rfl, rfl⟩
  go_wp2_with fail
  refine (C2.out _).mono ?_
  rintro e wx ⟨rfl, rfl⟩
  clear C1 C2
  go_wp2_with fail
  refine wp_region_held_drew (S := (fun w' : World => w'.cell? ⟨gA, 0, none⟩ = some (.int .i64 x) ∧ w'.cell? ⟨gA, 1, none⟩ = some (.int .i64 y) ∧ w'.cell? ⟨gA, 2, none⟩ = some (.int .i64 X) ∧ w'.cell? ⟨gA, 3, none⟩ = some (.int .i64 Y) ∧ w'.cell? ⟨gA, 4, none⟩ = some (.int .i64 s) ∧ w'.cell? ⟨gA, 5, none⟩ = some (.slice a n cap))) (by kernel_rfl) (⟨c0, c1, c2, c3, c4, c5⟩) (fun hHeld => ?_)
  refine wpAnyH_take (i := 0) (v := ?v1) rfl (by kernel_rfl) (by kernel_rfl) (by kernel_rfl) (fun _ _ _ h => h) (Or.inl ⟨by rfl, ?hy1⟩) hHeld ?rest1
  case hy1 => (intro w' hSw; (try dsimp only at hSw); go_simp; (try with_reducible rfl))
  try simp only [Act.put, List.setIfInBounds_toArray, List.set_cons_zero, List.set_cons_succ, List.getElem_toArray, List.getElem_cons_zero, List.getElem_cons_succ]
  refine wpAnyH_take (i := 1) (v := ?v2) rfl (by kernel_rfl) (by kernel_rfl) (by kernel_rfl) (fun _ _ _ h => h) (Or.inl ⟨by rfl, ?hy2⟩) hHeld ?rest2
  case hy2 => (intro w' hSw; (try dsimp only at hSw); go_simp; (try with_reducible rfl))
  try simp only [Act.put, List.setIfInBounds_toArray, List.set_cons_zero, List.set_cons_succ, List.getElem_toArray, List.getElem_cons_zero, List.getElem_cons_succ]
  refine wpAnyH_take (i := 2) (v := ?v3) rfl (by kernel_rfl) (by kernel_rfl) (by kernel_rfl) (fun _ _ _ h => h) (Or.inl ⟨by rfl, ?hy3⟩) hHeld ?rest3
  case hy3 => (intro w' hSw; (try dsimp only at hSw); go_simp; (try with_reducible rfl))
  try simp only [Act.put, List.setIfInBounds_toArray, List.set_cons_zero, List.set_cons_succ, List.getElem_toArray, List.getElem_cons_zero, List.getElem_cons_succ]
  refine wpAnyH_take (i := 3) (v := ?v4) rfl (by kernel_rfl) (by kernel_rfl) (by kernel_rfl) (fun _ _ _ h => h) (Or.inl ⟨by rfl, ?hy4⟩) hHeld ?rest4
  case hy4 => (intro w' hSw; (try dsimp only at hSw); go_simp; (try with_reducible rfl))
  try simp only [Act.put, List.setIfInBounds_toArray, List.set_cons_zero, List.set_cons_succ, List.getElem_toArray, List.getElem_cons_zero, List.getElem_cons_succ]
  refine wpAnyH_ready (rs := [4]) (by kernel_rfl) (by simp) ?_
  refine AllReadyH.cons rfl (fun K hK => ?_) AllReadyH.nil
  go_simp
  refine (C3.out _).mono ?_
  rintro e w2 ⟨rfl, hA⟩
  have M2 := M1.drew.call hA
  try go_wp2_with fail
  refine hK.out _ _ (gcells (M2.has (Has.head _ _ _ _))) (fun hHeld => ?_)
  clear hK K
  try simp only [Act.put, List.setIfInBounds_toArray, List.set_cons_zero, List.set_cons_succ, List.getElem_toArray, List.getElem_cons_zero, List.getElem_cons_succ]
  refine wpAnyH_take (i := 5) (v := ?v6) rfl (by kernel_rfl) (by kernel_rfl) (by kernel_rfl) (fun _ _ _ h => h) (Or.inl ⟨by rfl, ?hy6⟩) hHeld ?rest6
  case hy6 => (intro w' hSw; (try dsimp only at hSw); go_simp; (try with_reducible rfl))
  try simp only [Act.put, List.setIfInBounds_toArray, List.set_cons_zero, List.set_cons_succ, List.getElem_toArray, List.getElem_cons_zero, List.getElem_cons_succ]
  refine wpAnyH_take (i := 6) (v := ?v7) rfl (by kernel_rfl) (by kernel_rfl) (by kernel_rfl) (fun _ _ _ h => h) (Or.inl ⟨by rfl, ?hy7⟩) hHeld ?rest7
  case hy7 => (intro w' hSw; (try dsimp only at hSw); go_simp; (try with_reducible rfl))
  try simp only [Act.put, List.setIfInBounds_toArray, List.set_cons_zero, List.set_cons_succ, List.getElem_toArray, List.getElem_cons_zero, List.getElem_cons_succ]
  refine wpAnyH_done (by kernel_rfl) ?_ _
  clear c0 c1 c2 c3 c4 c5 M1 hA
  by_cases hnm : n = m
  · subst hnm
    have HR2 := Lib.hid (HR.out.trans (if_neg (by simp)))
    have hq : ((n : Int) != (n : Int)) = false := by simp
    obtain ⟨c0, c1, c2, c3, c4, c5⟩ := gcells (M2.has (Has.head _ _ _ _))
    have CW := areWithin_any 1073741824 a n cap p HP.out w2 (HS.out.below M2.below)
    clear HR
    cases hall : allIn p 1073741824
    · rw [hall] at CW
      have HR3 := Lib.hid (HR2.out.trans (if_pos hall))
      have CW := Lib.hid CW
      clear hall HR2
      go_wp2_with fail
      refine CW.out.mono ?_
      rintro e w3 ⟨rfl, hA⟩
      have M3 := M2.call hA
      go_wp2_with fail
      go_ret
      exact ⟨ret_int HR3.out.symm, M3.below⟩
    · rw [hall] at CW
      have HR3 := Lib.hid (HR2.out.trans (if_neg (by rw [hall]; simp)))
      have hal := allIn_iff.1 hall
      have hsr := sm_rng hal
      have hfit := sm_fits (fun u hu => (hal u hu).1) (by rw [HP.out] at hsr; omega)
      have CS := Lib.hid (fun wx hs => gsum_any x y X Y s a n cap p HP.out hfit wx hs)
      have CW := Lib.hid CW
      rw [HP.out] at hsr
      obtain ⟨T, hT⟩ : ∃ T, T = sm p := ⟨_, rfl⟩
      rw [← hT] at CS hsr HR3
      obtain ⟨lo, hlo⟩ : ∃ lo, lo = 1073741824 - (n : Int) := ⟨_, rfl⟩
      have hw1 : wrap64 (1073741824 - (n : Int)) = lo := by rw [hlo]; exact IntWalk.wrap64_in _ (by omega)
      have hw2 : IntKind.i64.wrap (1073741824 - (n : Int)) = lo := by rw [hlo]; exact IntWalk.i64_in _ (by omega)
      have hw3 : (1073741824 - (n : Int)) = lo := hlo.symm
      have hw4 : IntKind.i64.wrap lo = lo := by rw [hlo]; exact IntWalk.i64_in _ (by omega)
      rw [← hlo] at HR3
      have CI := within_64 T lo 1073741824
      clear hall HR2 hal hfit hT hlo
      obtain ⟨B, hB⟩ : ∃ B, B = inR T lo 1073741824 := ⟨_, rfl⟩
      rw [← hB] at CI HR3
      have CI := Lib.hid CI
      clear hB
      go_wp2_with fail
      refine CW.out.mono ?_
      rintro e w3 ⟨rfl, hA⟩
      have M3 := M2.call hA
      clear c0 c1 c2 c3 c4 c5 M2 hA CW
      obtain ⟨c0, c1, c2, c3, c4, c5⟩ := gcells (M3.has (Has.head _ _ _ _))
      go_wp2_with fail
      refine wp_region_held_drew (S := (fun w' : World => w'.cell? ⟨gA, 0, none⟩ = some (.int .i64 x) ∧ w'.cell? ⟨gA, 1, none⟩ = some (.int .i64 y) ∧ w'.cell? ⟨gA, 2, none⟩ = some (.int .i64 X) ∧ w'.cell? ⟨gA, 3, none⟩ = some (.int .i64 Y) ∧ w'.cell? ⟨gA, 4, none⟩ = some (.int .i64 s) ∧ w'.cell? ⟨gA, 5, none⟩ = some (.slice a n cap))) (by kernel_rfl) (⟨c0, c1, c2, c3, c4, c5⟩) (fun hHeld => ?_)
      refine wpAnyH_take (i := 0) (v := ?v8) rfl (by kernel_rfl) (by kernel_rfl) (by kernel_rfl) (fun _ _ _ h => h) (Or.inl ⟨by rfl, ?hy8⟩) hHeld ?rest8
      case hy8 => (intro w' hSw; (try dsimp only at hSw); go_simp; (try with_reducible rfl))
      try simp only [Act.put, List.setIfInBounds_toArray, List.set_cons_zero, List.set_cons_succ, List.getElem_toArray, List.getElem_cons_zero, List.getElem_cons_succ]
      refine wpAnyH_take (i := 2) (v := ?v9) rfl (by kernel_rfl) (by kernel_rfl) (by kernel_rfl) (fun _ _ _ h => h) (Or.inl ⟨by rfl, ?hy9⟩) hHeld ?rest9
      case hy9 => (intro w' hSw; (try dsimp only at hSw); go_simp; (try with_reducible rfl))
      try simp only [Act.put, List.setIfInBounds_toArray, List.set_cons_zero, List.set_cons_succ, List.getElem_toArray, List.getElem_cons_zero, List.getElem_cons_succ]
      refine wpAnyH_ready (rs := [1]) (by kernel_rfl) (by simp) ?_
      refine AllReadyH.cons rfl (fun K hK => ?_) AllReadyH.nil
      go_simp
      refine (CS.out _ (HS.out.below M3.drew.below)).mono ?_
      rintro e w4 ⟨rfl, hA⟩
      have M4 := M3.drew.call hA
      try go_wp2_with fail
      refine hK.out _ _ (gcells (M4.has (Has.head _ _ _ _))) (fun hHeld => ?_)
      clear hK K
      try simp only [Act.put, List.setIfInBounds_toArray, List.set_cons_zero, List.set_cons_succ, List.getElem_toArray, List.getElem_cons_zero, List.getElem_cons_succ]
      refine wpAnyH_ready (rs := [3]) (by kernel_rfl) (by simp) ?_
      refine AllReadyH.cons rfl (fun K hK => ?_) AllReadyH.nil
      go_simp
      refine (C3.out _).mono ?_
      rintro e w5 ⟨rfl, hA⟩
      have M5 := M4.call hA
      try go_wp2_with fail
      refine hK.out _ _ (gcells (M5.has (Has.head _ _ _ _))) (fun hHeld => ?_)
      clear hK K
      try simp only [Act.put, List.setIfInBounds_toArray, List.set_cons_zero, List.set_cons_succ, List.getElem_toArray, List.getElem_cons_zero, List.getElem_cons_succ]
      refine wpAnyH_take (i := 4) (v := ?v12) rfl (by kernel_rfl) (by kernel_rfl) (by kernel_rfl) (fun _ _ _ h => h) (Or.inl ⟨by rfl, ?hy12⟩) hHeld ?rest12
      case hy12 => (intro w' hSw; (try dsimp only at hSw); go_simp; (try with_reducible rfl))
      try simp only [Act.put, List.setIfInBounds_toArray, List.set_cons_zero, List.set_cons_succ, List.getElem_toArray, List.getElem_cons_zero, List.getElem_cons_succ]
      refine wpAnyH_ready (rs := [5]) (by kernel_rfl) (by simp) ?_
      refine AllReadyH.cons rfl (fun K hK => ?_) AllReadyH.nil
      go_simp
      refine (CI.out _).mono ?_
      rintro e wx ⟨rfl, rfl⟩
      try go_wp2_with fail
      refine hK.out _ _ (gcells (M5.has (Has.head _ _ _ _))) (fun hHeld => ?_)
      clear hK K
      try simp only [Act.put, List.setIfInBounds_toArray, List.set_cons_zero, List.set_cons_succ, List.getElem_toArray, List.getElem_cons_zero, List.getElem_cons_succ]
      refine wpAnyH_take (i := 6) (v := ?v14) rfl (by kernel_rfl) (by kernel_rfl) (by kernel_rfl) (fun _ _ _ h => h) (Or.inl ⟨by rfl, ?hy14⟩) hHeld ?rest14
      case hy14 => (intro w' hSw; (try dsimp only at hSw); go_simp; (try with_reducible rfl))
      try simp only [Act.put, List.setIfInBounds_toArray, List.set_cons_zero, List.set_cons_succ, List.getElem_toArray, List.getElem_cons_zero, List.getElem_cons_succ]
      refine wpAnyH_take (i := 7) (v := ?v15) rfl (by kernel_rfl) (by kernel_rfl) (by kernel_rfl) (fun _ _ _ h => h) (Or.inl ⟨by rfl, ?hy15⟩) hHeld ?rest15
      case hy15 => (intro w' hSw; (try dsimp only at hSw); go_simp; (try with_reducible rfl))
      try simp only [Act.put, List.setIfInBounds_toArray, List.set_cons_zero, List.set_cons_succ, List.getElem_toArray, List.getElem_cons_zero, List.getElem_cons_succ]
      refine wpAnyH_done (by kernel_rfl) ?_ _
      cases B
      · go_wp2_with fail
        go_ret
        exact ⟨ret_int HR3.out.symm, M5.below⟩
      · go_wp2_with fail
        go_ret
        exact ⟨ret_int HR3.out.symm, M5.below⟩
  · have hq : ((n : Int) != (m : Int)) = true := by simp; omega
    have HR2 := Lib.hid (HR.out.trans (if_pos (by omega)))
    clear HR
    go_wp2_with fail
    go_ret
    exact ⟨ret_int HR2.out.symm, M2.below⟩

set_option maxRecDepth 20000 in
set_option maxHeartbeats 3200000 in
theorem gnorm_any (x y X Y s : Int) (a : Option Addr) (n cap : Nat) (p : List Int) (hp : p.length = n) (hn : n ≤ 1000000) (h0 : ∀ u ∈ p, 0 ≤ u) (hsm : sm p ≤ 9223372036854775807) (w : World) (hS : Sl w 1 (.slice a n cap) n (i64s p)) :
    Calls Try.prog 14 #[gv x y X Y s (.slice a n cap)] w (GRes x y X Y s n (norm p) (normC p) w) := by
  have CS := Lib.hid (fun wx hs => gsum_any x y X Y s a n cap p hp (sm_fits h0 hsm) wx hs)
  have HS := Lib.hid hS
  have h0s := sm_pos h0
  have hge := sm_ge h0
  by_cases hz : sm p = 0
  · have e1 : norm p = p := by unfold norm; rw [if_pos hz]
    have e2 : normC p = 7 := by unfold normC; rw [if_pos hz]
    rw [e1, e2]
    rw [hz] at CS
    have C2 := Lib.hid (fun wx hs => itself_any x y X Y s a n cap p hp hn wx hs)
    clear hp h0 hsm hz e1 e2 hS h0s hge
    (obtain ⟨w1, hw1⟩ : ∃ w1, w.alloc (.cells #[.int .i64 x, .int .i64 y, .int .i64 X, .int .i64 Y, .int .i64 s, .slice a n cap] 24) = w1 := ⟨_, rfl⟩; have M1 := (Mem.start w).alloc 24 (gc x y X Y s (.slice a n cap)); rw [show w.alloc (.cells (gc x y X Y s (.slice a n cap)).toArray 24) = w1 from hw1] at M1; obtain ⟨w2, hw2⟩ : ∃ w2, w1.alloc (.cells #[.int .i64 0, .int .i64 0, .int .i64 0, .int .i64 0, .int .i64 0, .slice none 0 0] 24) = w2 := ⟨_, rfl⟩; have M2 := M1.alloc 24 (gc 0 0 0 0 0 (.slice none 0 0)); rw [show w1.alloc (.cells (gc 0 0 0 0 0 (.slice none 0 0)).toArray 24) = w2 from hw2] at M2; have hsz : w1.heap.size = w.heap.size + 1 := (by rw [← hw1]; simp); have HW1 := Lib.hid hw1; have HW2 := Lib.hid hw2; clear hw1 hw2 M1)
    go_enter Try.func14, Try.ntmps14
    ((go_upto_region 1 with fail); rw [HW1.out, HW2.out, ← hsz]; clear HW1 HW2; obtain ⟨gB, hgB⟩ : ∃ gB, gB = w1.heap.size := ⟨_, rfl⟩; obtain ⟨gA, hgA⟩ : ∃ gA, gA = w.heap.size := ⟨_, rfl⟩; rw [← hgB] at M2 ⊢; rw [← hgA] at M2 ⊢; have hne : gA ≠ gB := (by omega); clear hgA hgB hsz)
    obtain ⟨c0, c1, c2, c3, c4, c5⟩ := gcells (M2.has (.tail _ _ _ _ _ (Has.head _ _ _ _)))
    go_wp2_with fail
    refine (CS.out _ (HS.out.below M2.below)).mono ?_
    rintro e w3 ⟨rfl, hA⟩
    have M3 := M2.call hA
    clear c0 c1 c2 c3 c4 c5 M2 hA CS
    obtain ⟨c0, c1, c2, c3, c4, c5⟩ := gcells (M3.has (.tail _ _ _ _ _ (Has.head _ _ _ _)))
    go_wp2_with fail
    refine (C2.out _ (HS.out.below M3.below)).mono ?_
    rintro e w4 ⟨a4, cap4, rfl, ho4, hA⟩
    have hz3 := M3.below.size
    replace M3 := M3.call hA
    clear c0 c1 c2 c3 c4 c5 hA C2
    go_wp2_with ((with_reducible refine (?_ : Go.wpList _ _ _ (_ :: _) _ _)); (first | go_skip | (refine wpL_stM (v := gv x y X Y s (.slice a4 n cap4)) M3 rfl rfl rfl rfl (wr_g _ _ _ _ _ _ _ _ _ _ _ _ _ _) (Upd.head _ _ _ _ _) ?_; intro w4 M4 hT4)))
    have ho5 := gown_turned ho4 (M3.has (Has.head _ _ _ _)) (by decide) hT4
    ((try simp only [Exit.inBlock, Exit.then]); refine bodyPost_ret (res_cell_tmp rfl M4 rfl (Has.head _ _ _ _) (rd_g _ _ _ _ _ _) rfl) rfl ?_)
    exact ⟨_, _, rfl, ownsRow_base ho5 hz3, M4.below⟩
  · have e1 : norm p = p.map (share (sm p)) := by unfold norm; rw [if_neg hz]
    have e2 : normC p = 0 := by unfold normC; rw [if_neg hz]
    rw [e1, e2]
    obtain ⟨T, hT⟩ : ∃ T, T = sm p := ⟨_, rfl⟩
    rw [← hT] at CS h0s hge hsm hz ⊢
    have CH := Lib.hid (fun wx hs => shares_any T a n cap p hp hn (by omega) hsm (fun u hu => ⟨h0 u hu, hge u hu⟩) wx hs)
    have C2 := Lib.hid (fun a' cap' => with_any x y X Y s (.slice a n cap) a' n cap' ⟨_, _, _, rfl⟩)
    have bz : (T == 0) = false := by simpa using hz
    have bz2 : ¬ T = 0 := hz
    clear hp h0 e1 e2 hS hge hT hz
    (obtain ⟨w1, hw1⟩ : ∃ w1, w.alloc (.cells #[.int .i64 x, .int .i64 y, .int .i64 X, .int .i64 Y, .int .i64 s, .slice a n cap] 24) = w1 := ⟨_, rfl⟩; have M1 := (Mem.start w).alloc 24 (gc x y X Y s (.slice a n cap)); rw [show w.alloc (.cells (gc x y X Y s (.slice a n cap)).toArray 24) = w1 from hw1] at M1; obtain ⟨w2, hw2⟩ : ∃ w2, w1.alloc (.cells #[.int .i64 0, .int .i64 0, .int .i64 0, .int .i64 0, .int .i64 0, .slice none 0 0] 24) = w2 := ⟨_, rfl⟩; have M2 := M1.alloc 24 (gc 0 0 0 0 0 (.slice none 0 0)); rw [show w1.alloc (.cells (gc 0 0 0 0 0 (.slice none 0 0)).toArray 24) = w2 from hw2] at M2; have hsz : w1.heap.size = w.heap.size + 1 := (by rw [← hw1]; simp); have HW1 := Lib.hid hw1; have HW2 := Lib.hid hw2; clear hw1 hw2 M1)
    go_enter Try.func14, Try.ntmps14
    ((go_upto_region 1 with fail); rw [HW1.out, HW2.out, ← hsz]; clear HW1 HW2; obtain ⟨gB, hgB⟩ : ∃ gB, gB = w1.heap.size := ⟨_, rfl⟩; obtain ⟨gA, hgA⟩ : ∃ gA, gA = w.heap.size := ⟨_, rfl⟩; rw [← hgB] at M2 ⊢; rw [← hgA] at M2 ⊢; have hne : gA ≠ gB := (by omega); clear hgA hgB hsz)
    obtain ⟨c0, c1, c2, c3, c4, c5⟩ := gcells (M2.has (.tail _ _ _ _ _ (Has.head _ _ _ _)))
    go_wp2_with fail
    refine (CS.out _ (HS.out.below M2.below)).mono ?_
    rintro e w3 ⟨rfl, hA⟩
    have M3 := M2.call hA
    clear c0 c1 c2 c3 c4 c5 M2 hA CS
    obtain ⟨c0, c1, c2, c3, c4, c5⟩ := gcells (M3.has (.tail _ _ _ _ _ (Has.head _ _ _ _)))
    have hz3 := M3.below.size
    go_wp2_with fail
    refine wp_region_held_drew (S := (fun w' : World => w'.cell? ⟨gA, 0, none⟩ = some (.int .i64 x) ∧ w'.cell? ⟨gA, 1, none⟩ = some (.int .i64 y) ∧ w'.cell? ⟨gA, 2, none⟩ = some (.int .i64 X) ∧ w'.cell? ⟨gA, 3, none⟩ = some (.int .i64 Y) ∧ w'.cell? ⟨gA, 4, none⟩ = some (.int .i64 s) ∧ w'.cell? ⟨gA, 5, none⟩ = some (.slice a n cap))) (by kernel_rfl) (⟨c0, c1, c2, c3, c4, c5⟩) (fun hHeld => ?_)
    refine wpAnyH_take (i := 0) (v := ?v16) rfl (by kernel_rfl) (by kernel_rfl) (by kernel_rfl) (fun _ _ _ h => h) (Or.inl ⟨by rfl, ?hy16⟩) hHeld ?rest16
    case hy16 => (intro w' hSw; (try dsimp only at hSw); go_simp; (try with_reducible rfl))
    try simp only [Act.put, List.setIfInBounds_toArray, List.set_cons_zero, List.set_cons_succ, List.getElem_toArray, List.getElem_cons_zero, List.getElem_cons_succ]
    refine wpAnyH_take (i := 1) (v := ?v17) rfl (by kernel_rfl) (by kernel_rfl) (by kernel_rfl) (fun _ _ _ h => h) (Or.inl ⟨by rfl, ?hy17⟩) hHeld ?rest17
    case hy17 => (intro w' hSw; (try dsimp only at hSw); go_simp; (try with_reducible rfl))
    try simp only [Act.put, List.setIfInBounds_toArray, List.set_cons_zero, List.set_cons_succ, List.getElem_toArray, List.getElem_cons_zero, List.getElem_cons_succ]
    refine wpAnyH_take (i := 2) (v := ?v18) rfl (by kernel_rfl) (by kernel_rfl) (by kernel_rfl) (fun _ _ _ h => h) (Or.inl ⟨by rfl, ?hy18⟩) hHeld ?rest18
    case hy18 => (intro w' hSw; (try dsimp only at hSw); go_simp; (try with_reducible rfl))
    try simp only [Act.put, List.setIfInBounds_toArray, List.set_cons_zero, List.set_cons_succ, List.getElem_toArray, List.getElem_cons_zero, List.getElem_cons_succ]
    refine wpAnyH_take (i := 3) (v := ?v19) rfl (by kernel_rfl) (by kernel_rfl) (by kernel_rfl) (fun _ _ _ h => h) (Or.inl ⟨by rfl, ?hy19⟩) hHeld ?rest19
    case hy19 => (intro w' hSw; (try dsimp only at hSw); go_simp; (try with_reducible rfl))
    try simp only [Act.put, List.setIfInBounds_toArray, List.set_cons_zero, List.set_cons_succ, List.getElem_toArray, List.getElem_cons_zero, List.getElem_cons_succ]
    refine wpAnyH_ready (rs := [4]) (by kernel_rfl) (by simp) ?_
    refine AllReadyH.cons rfl (fun K hK => ?_) AllReadyH.nil
    go_simp
    refine (CH.out _ (HS.out.below M3.drew.below)).mono ?_
    rintro e w4 ⟨a4, cap4, rfl, ho4, hA⟩
    have M4 := M3.drew.call hA
    try go_wp2_with fail
    refine hK.out _ _ (gcells (M4.has (.tail _ _ _ _ _ (Has.head _ _ _ _)))) (fun hHeld => ?_)
    clear hK K
    try simp only [Act.put, List.setIfInBounds_toArray, List.set_cons_zero, List.set_cons_succ, List.getElem_toArray, List.getElem_cons_zero, List.getElem_cons_succ]
    refine wpAnyH_ready (rs := [5]) (by kernel_rfl) (by simp) ?_
    refine AllReadyH.cons rfl (fun K hK => ?_) AllReadyH.nil
    go_simp
    refine (C2.out a4 cap4 _).mono ?_
    rintro e w5 ⟨rfl, hA5⟩
    have M5 := M4.call hA5
    have ho5 := ownsRow_below ho4 hA5
    try go_wp2_with fail
    refine hK.out _ _ (gcells (M5.has (.tail _ _ _ _ _ (Has.head _ _ _ _)))) (fun hHeld => ?_)
    clear hK K
    try simp only [Act.put, List.setIfInBounds_toArray, List.set_cons_zero, List.set_cons_succ, List.getElem_toArray, List.getElem_cons_zero, List.getElem_cons_succ]
    refine wpAnyH_ready (rs := [6]) (by kernel_rfl) (by simp) ?_
    refine AllReadyH.cons rfl (fun K hK => ?_) AllReadyH.nil
    rw [if_pos (by rfl)]
    refine wp_stM M5 rfl rfl rfl (wr_g _ _ _ _ _ _ _ _ _ _ _ _ _ _) (Upd.head _ _ _ _ _) ?_
    intro w6 M6 hT6
    refine hK.out _ _ (gcells (M6.has (.tail _ _ _ _ _ (Has.head _ _ _ _)))) (fun hHeld => ?_)
    clear hK K
    try simp only [Act.put, List.setIfInBounds_toArray, List.set_cons_zero, List.set_cons_succ, List.getElem_toArray, List.getElem_cons_zero, List.getElem_cons_succ]
    refine wpAnyH_take (i := 7) (v := ?v23) rfl (by kernel_rfl) (by kernel_rfl) (by kernel_rfl) (fun _ _ _ h => h) (Or.inl ⟨by rfl, ?hy23⟩) hHeld ?rest23
    case hy23 => (intro w' hSw; (try dsimp only at hSw); go_simp; (try with_reducible rfl))
    try simp only [Act.put, List.setIfInBounds_toArray, List.set_cons_zero, List.set_cons_succ, List.getElem_toArray, List.getElem_cons_zero, List.getElem_cons_succ]
    refine wpAnyH_done (by kernel_rfl) ?_ _
    have ho6 := gown_turned ho5 (M5.has (Has.head _ _ _ _)) (by decide) hT6
    go_wp2_with fail
    ((try simp only [Exit.inBlock, Exit.then]); refine bodyPost_ret (res_cell_tmp rfl M6 rfl (Has.head _ _ _ _) (rd_g _ _ _ _ _ _) rfl) rfl ?_)
    exact ⟨_, _, rfl, ownsRow_base ho6 hz3, M6.below⟩
end Go.Proofs.Ytnfgogfbpggnfaa
