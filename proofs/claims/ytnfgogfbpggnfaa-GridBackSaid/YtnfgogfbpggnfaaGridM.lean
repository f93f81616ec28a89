/-
  Where a place lies; a grid that is moved: the code's.
-/
import Derived.Test.YtnfgogfbpggnfaaGridG
set_option linter.unusedVariables false
set_option linter.unusedSimpArgs false
namespace Go.Proofs.Ytnfgogfbpggnfaa
open Go Go.RowKit Go.Th Go.Th.Grid Go.Th.Wide

theorem size2s : (Try.prog.info? 51).map (·.size) = some 2 := by kernel_rfl
theorem rd_sp (u v : Int) : Rd Try.prog 51 0 [.int .i64 u, .int .i64 v] (.agg #[.int .i64 u, .int .i64 v]) :=
  Rd.agg (ds := [.int .i64 u, .int .i64 v]) Try.underlying51 rfl size2s (fun j u hj => by rw [Nat.zero_add]; exact hj)
theorem wr_sp (u v u' v' : Int) : Wr Try.prog 51 0 [.int .i64 u', .int .i64 v'] (.agg #[.int .i64 u, .int .i64 v]) [.int .i64 u, .int .i64 v] :=
  Wr.whole (ds := [.int .i64 u, .int .i64 v]) size2s rfl (by intro u hu; simp at hu; rcases hu with rfl | rfl <;> rfl)

set_option maxRecDepth 20000 in
set_option maxHeartbeats 3200000 in
theorem at_any (x y s : Nat) (X Y i u v : Int) (b : Bool) (a : Option Addr) (n cap : Nat) (hxy : n = x * y) (hsd : sdG x y = true) (hs : s ≤ 4096) (hX : -1000000000000 ≤ X ∧ X ≤ 1000000000000) (hY : -1000000000000 ≤ Y ∧ Y ≤ 1000000000000) (hb : inR i 0 ((n : Int) - 1) = b)
    (hno : b = false → u = 0 ∧ v = 0) (hyes : b = true → u = X + ((i.toNat % x : Nat) : Int) * (s : Int) ∧ v = Y + ((i.toNat / x : Nat) : Int) * (s : Int)) :
    Ans 31 #[gv x y X Y s (.slice a n cap), .int .i64 i] (.tuple #[.agg #[.int .i64 u, .int .i64 v], .bool b]) := by
  intro w
  obtain ⟨⟨q1, q2⟩, q3, q4⟩ := sdG_t hsd
  have hle : x * y ≤ 64 * 64 := Nat.mul_le_mul (by omega) (by omega)
  have hmul : (x : Int) * (y : Int) = (n : Int) := by rw [hxy]; simp
  have hn : n ≤ 4096 := by omega
  have C1 := sides_any x y
  rw [hsd] at C1
  have C3 := Lib.hid (glen_any x y X Y s (n : Int) a n cap (by rw [hmul]; exact IntWalk.wrap64_in _ (by omega)))
  have CI := within_int i 0 ((n : Int) - 1)
  rw [hb] at CI
  have hi := fun (h : b = true) => inR_t (hb.trans h)
  have C1 := Lib.hid C1
  have CI := Lib.hid CI
  have HI := Lib.hid hi
  have HNO := Lib.hid hno
  have HYES := Lib.hid hyes
  have HXY := Lib.hid hxy
  clear hb hno hyes hmul hsd hle hi hxy
  obtain ⟨w1, hw1⟩ : ∃ w1, w.alloc (.cells #[.int .i64 x, .int .i64 y, .int .i64 X, .int .i64 Y, .int .i64 s, .slice a n cap] 24) = w1 := ⟨_, rfl⟩
  have M1 := (Mem.start w).alloc 24 (gc x y X Y s (.slice a n cap))
  rw [show w.alloc (.cells (gc x y X Y s (.slice a n cap)).toArray 24) = w1 from hw1] at M1
  obtain ⟨w2, hw2⟩ : ∃ w2, w1.alloc (.cells #[.int .i64 0, .int .i64 0] 51) = w2 := ⟨_, rfl⟩
  have M2 := M1.alloc 51 [.int .i64 0, .int .i64 0]
  rw [show w1.alloc (.cells [Value.int .i64 0, .int .i64 0].toArray 51) = w2 from hw2] at M2
  have hsz : w1.heap.size = w.heap.size + 1 := by rw [← hw1]; simp
  have HW1 := Lib.hid hw1
  have HW2 := Lib.hid hw2
  clear hw1 hw2 M1
  go_enter Try.func31, Try.ntmps31
  ((go_upto_region 1 with fail); rw [HW1.out, HW2.out, ← hsz]; clear HW1 HW2; obtain ⟨gB, hgB⟩ : ∃ gB, gB = w1.heap.size := ⟨_, rfl⟩; obtain ⟨gA, hgA⟩ : ∃ gA, gA = w.heap.size := ⟨_, rfl⟩; rw [← hgB] at M2 ⊢; rw [← hgA] at M2 ⊢; have hne : gA ≠ gB := (by omega); clear hgA hgB hsz)
  obtain ⟨c0, c1, c2, c3, c4, c5⟩ := gcells (M2.has (.tail _ _ _ _ _ (Has.head _ _ _ _)))
  go_wp2_with fail
  refine (C1.out _).mono ?_
  rintro e wx ⟨rfl, rfl⟩
  go_wp2_with fail
  refine (C3.out _).mono ?_
  rintro e w3 ⟨rfl, hA⟩
  have M3 := M2.call hA
  clear c0 c1 c2 c3 c4 c5 M2 hA C1 C3
  go_wp2_with fail
  refine (CI.out _).mono ?_
  rintro e wx ⟨rfl, rfl⟩
  cases b
  · obtain ⟨rfl, rfl⟩ := HNO.out rfl
    have K := M3.has (Has.head _ _ _ _)
    have d0 := K.cell (i := 0) rfl
    have d1 := K.cell (i := 1) rfl
    have f0 := K.free 0
    have f1 := K.free 1
    have M4 := ((M3.set 0 (.int .i64 0) (Upd.head _ _ _ _ _) (by simp)).set 1 (.int .i64 0) (Upd.head _ _ _ _ _) (by simp))
    go_wp2_with fail
    ((try simp only [Exit.inBlock, Exit.then]); refine bodyPost_ret (res_cell_tmp rfl M4 rfl (Has.head _ _ _ _) (rd_sp _ _) rfl) rfl ?_)
    exact ⟨rfl, M4.below⟩
  · obtain ⟨hi0, hi1⟩ := HI.out rfl
    obtain ⟨k, rfl⟩ := Int.eq_ofNat_of_zero_le hi0
    obtain ⟨hu, hv⟩ := HYES.out rfl
    rw [Int.toNat_natCast] at hu hv
    have hm1 : k % x < x := Nat.mod_lt _ (by omega)
    have hd1 : k / x < y := Nat.div_lt_of_lt_mul (by rw [← HXY.out]; omega)
    have e1 : (k : Int) % (x : Int) = ((k % x : Nat) : Int) := by simp
    have e2 : (k : Int) / (x : Int) = ((k / x : Nat) : Int) := by simp
    obtain ⟨km, hkm⟩ : ∃ km, km = k % x := ⟨_, rfl⟩
    obtain ⟨kd, hkd⟩ : ∃ kd, kd = k / x := ⟨_, rfl⟩
    rw [← hkm] at hu hm1 e1
    rw [← hkd] at hv hd1 e2
    have b1 : km * s ≤ 64 * 4096 := Nat.mul_le_mul (by omega) hs
    have b2 : kd * s ≤ 64 * 4096 := Nat.mul_le_mul (by omega) hs
    obtain ⟨pm, hpm⟩ : ∃ pm, pm = km * s := ⟨_, rfl⟩
    obtain ⟨pd, hpd⟩ : ∃ pd, pd = kd * s := ⟨_, rfl⟩
    have m1 : (km : Int) * (s : Int) = (pm : Int) := by rw [hpm]; simp
    have m2 : (kd : Int) * (s : Int) = (pd : Int) := by rw [hpd]; simp
    rw [← hpm] at b1
    rw [← hpd] at b2
    rw [m1] at hu
    rw [m2] at hv
    have wm : IntKind.i64.wrap (pm : Int) = (pm : Int) := IntWalk.i64_in _ (by omega)
    have wd : IntKind.i64.wrap (pd : Int) = (pd : Int) := IntWalk.i64_in _ (by omega)
    have wkm : IntKind.i64.wrap (km : Int) = (km : Int) := IntWalk.i64_in _ (by omega)
    have wkd : IntKind.i64.wrap (kd : Int) = (kd : Int) := IntWalk.i64_in _ (by omega)
    have wkd2 : wrap64 (kd : Int) = (kd : Int) := IntWalk.wrap64_in _ (by omega)
    have eu : X + (pm : Int) = u := hu.symm
    have ev : Y + (pd : Int) = v := hv.symm
    have wu : IntKind.i64.wrap u = u := IntWalk.i64_in _ (by omega)
    have wv : IntKind.i64.wrap v = v := IntWalk.i64_in _ (by omega)
    have hx0 : ¬ (x = 0) := by omega
    have e1t : (k : Int).tmod (x : Int) = (km : Int) := by rw [Int.tmod_eq_emod_of_nonneg (by omega)]; exact e1
    have e2t : (k : Int).tdiv (x : Int) = (kd : Int) := by rw [Int.tdiv_eq_ediv_of_nonneg (by omega)]; exact e2
    clear hkm hkd hpm hpd hu hv HI HNO HYES
    obtain ⟨c0, c1, c2, c3, c4, c5⟩ := gcells (M3.has (.tail _ _ _ _ _ (Has.head _ _ _ _)))
    go_wp2_with fail
    refine wp_region_held_drew (S := (fun w' : World => w'.cell? ⟨gA, 0, none⟩ = some (.int .i64 x) ∧ w'.cell? ⟨gA, 1, none⟩ = some (.int .i64 y) ∧ w'.cell? ⟨gA, 2, none⟩ = some (.int .i64 X) ∧ w'.cell? ⟨gA, 3, none⟩ = some (.int .i64 Y) ∧ w'.cell? ⟨gA, 4, none⟩ = some (.int .i64 s) ∧ w'.cell? ⟨gA, 5, none⟩ = some (.slice a n cap))) (by kernel_rfl) (⟨c0, c1, c2, c3, c4, c5⟩) (fun hHeld => ?_)
    refine wpAnyH_take (i := 0) (v := ?v1) rfl (by kernel_rfl) (by kernel_rfl) (by kernel_rfl) (fun _ _ _ h => h) (Or.inl ⟨by rfl, ?hy1⟩) hHeld ?rest1
    case hy1 => (intro w' hSw; (try dsimp only at hSw); go_simp; (try with_reducible rfl))
    try simp only [Act.put, List.setIfInBounds_toArray, List.set_cons_zero, List.set_cons_succ, List.getElem_toArray, List.getElem_cons_zero, List.getElem_cons_succ]
    refine wpAnyH_take (i := 1) (v := ?v2) rfl (by kernel_rfl) (by kernel_rfl) (by kernel_rfl) (fun _ _ _ h => h) (Or.inl ⟨by rfl, ?hy2⟩) hHeld ?rest2
    case hy2 => (intro w' hSw; (try dsimp only at hSw); go_simp; (try with_reducible rfl))
    try simp only [Act.put, List.setIfInBounds_toArray, List.set_cons_zero, List.set_cons_succ, List.getElem_toArray, List.getElem_cons_zero, List.getElem_cons_succ]
    refine wpAnyH_take (i := 2) (v := ?v3) rfl (by kernel_rfl) (by kernel_rfl) (by kernel_rfl) (fun _ _ _ h => h) (Or.inl ⟨by rfl, ?hy3⟩) hHeld ?rest3
    case hy3 => (intro w' hSw; (try dsimp only at hSw); go_simp; (try with_reducible rfl))
    try simp only [Act.put, List.setIfInBounds_toArray, List.set_cons_zero, List.set_cons_succ, List.getElem_toArray, List.getElem_cons_zero, List.getElem_cons_succ]
    refine wpAnyH_take (i := 3) (v := ?v4) rfl (by kernel_rfl) (by kernel_rfl) (by kernel_rfl) (fun _ _ _ h => h) (Or.inl ⟨by rfl, ?hy4⟩) hHeld ?rest4
    case hy4 => (intro w' hSw; (try dsimp only at hSw); go_simp; (try with_reducible rfl))
    try simp only [Act.put, List.setIfInBounds_toArray, List.set_cons_zero, List.set_cons_succ, List.getElem_toArray, List.getElem_cons_zero, List.getElem_cons_succ]
    refine wpAnyH_take (i := 4) (v := ?v5) rfl (by kernel_rfl) (by kernel_rfl) (by kernel_rfl) (fun _ _ _ h => h) (Or.inl ⟨by rfl, ?hy5⟩) hHeld ?rest5
    case hy5 => (intro w' hSw; (try dsimp only at hSw); go_simp; (try with_reducible rfl))
    try simp only [Act.put, List.setIfInBounds_toArray, List.set_cons_zero, List.set_cons_succ, List.getElem_toArray, List.getElem_cons_zero, List.getElem_cons_succ]
    refine wpAnyH_take (i := 5) (v := ?v6) rfl (by kernel_rfl) (by kernel_rfl) (by kernel_rfl) (fun _ _ _ h => h) (Or.inl ⟨by rfl, ?hy6⟩) hHeld ?rest6
    case hy6 => (intro w' hSw; (try dsimp only at hSw); go_simp; (try with_reducible rfl))
    try simp only [Act.put, List.setIfInBounds_toArray, List.set_cons_zero, List.set_cons_succ, List.getElem_toArray, List.getElem_cons_zero, List.getElem_cons_succ]
    refine wpAnyH_take (i := 6) (v := ?v7) rfl (by kernel_rfl) (by kernel_rfl) (by kernel_rfl) (fun _ _ _ h => h) (Or.inl ⟨by rfl, ?hy7⟩) hHeld ?rest7
    case hy7 => (intro w' hSw; (try dsimp only at hSw); go_simp; (try with_reducible rfl))
    try simp only [Act.put, List.setIfInBounds_toArray, List.set_cons_zero, List.set_cons_succ, List.getElem_toArray, List.getElem_cons_zero, List.getElem_cons_succ]
    refine wpAnyH_take (i := 7) (v := ?v8) rfl (by kernel_rfl) (by kernel_rfl) (by kernel_rfl) (fun _ _ _ h => h) (Or.inl ⟨by rfl, ?hy8⟩) hHeld ?rest8
    case hy8 => (intro w' hSw; (try dsimp only at hSw); go_simp; (try with_reducible rfl))
    try simp only [Act.put, List.setIfInBounds_toArray, List.set_cons_zero, List.set_cons_succ, List.getElem_toArray, List.getElem_cons_zero, List.getElem_cons_succ]
    refine wpAnyH_take (i := 8) (v := ?v9) rfl (by kernel_rfl) (by kernel_rfl) (by kernel_rfl) (fun _ _ _ h => h) (Or.inl ⟨by rfl, ?hy9⟩) hHeld ?rest9
    case hy9 => (intro w' hSw; (try dsimp only at hSw); go_simp; (try with_reducible rfl))
    try simp only [Act.put, List.setIfInBounds_toArray, List.set_cons_zero, List.set_cons_succ, List.getElem_toArray, List.getElem_cons_zero, List.getElem_cons_succ]
    refine wpAnyH_take (i := 9) (v := ?v10) rfl (by kernel_rfl) (by kernel_rfl) (by kernel_rfl) (fun _ _ _ h => h) (Or.inl ⟨by rfl, ?hy10⟩) hHeld ?rest10
    case hy10 => (intro w' hSw; (try dsimp only at hSw); go_simp; (try with_reducible rfl))
    try simp only [Act.put, List.setIfInBounds_toArray, List.set_cons_zero, List.set_cons_succ, List.getElem_toArray, List.getElem_cons_zero, List.getElem_cons_succ]
    refine wpAnyH_take (i := 10) (v := ?v11) rfl (by kernel_rfl) (by kernel_rfl) (by kernel_rfl) (fun _ _ _ h => h) (Or.inl ⟨by rfl, ?hy11⟩) hHeld ?rest11
    case hy11 => (intro w' hSw; (try dsimp only at hSw); go_simp; (try with_reducible rfl))
    try simp only [Act.put, List.setIfInBounds_toArray, List.set_cons_zero, List.set_cons_succ, List.getElem_toArray, List.getElem_cons_zero, List.getElem_cons_succ]
    refine wpAnyH_take (i := 11) (v := ?v12) rfl (by kernel_rfl) (by kernel_rfl) (by kernel_rfl) (fun _ _ _ h => h) (Or.inl ⟨by rfl, ?hy12⟩) hHeld ?rest12
    case hy12 => (intro w' hSw; (try dsimp only at hSw); go_simp; (try with_reducible rfl))
    try simp only [Act.put, List.setIfInBounds_toArray, List.set_cons_zero, List.set_cons_succ, List.getElem_toArray, List.getElem_cons_zero, List.getElem_cons_succ]
    refine wpAnyH_take (i := 12) (v := ?v13) rfl (by kernel_rfl) (by kernel_rfl) (by kernel_rfl) (fun _ _ _ h => h) (Or.inl ⟨by rfl, ?hy13⟩) hHeld ?rest13
    case hy13 => (intro w' hSw; (try dsimp only at hSw); go_simp; (try with_reducible rfl))
    try simp only [Act.put, List.setIfInBounds_toArray, List.set_cons_zero, List.set_cons_succ, List.getElem_toArray, List.getElem_cons_zero, List.getElem_cons_succ]
    refine wpAnyH_take (i := 13) (v := ?v14) rfl (by kernel_rfl) (by kernel_rfl) (by kernel_rfl) (fun _ _ _ h => h) (Or.inl ⟨by rfl, ?hy14⟩) hHeld ?rest14
    case hy14 => (intro w' hSw; (try dsimp only at hSw); go_simp; (try with_reducible rfl))
    try simp only [Act.put, List.setIfInBounds_toArray, List.set_cons_zero, List.set_cons_succ, List.getElem_toArray, List.getElem_cons_zero, List.getElem_cons_succ]
    refine wpAnyH_take (i := 14) (v := ?v15) rfl (by kernel_rfl) (by kernel_rfl) (by kernel_rfl) (fun _ _ _ h => h) (Or.inl ⟨by rfl, ?hy15⟩) hHeld ?rest15
    case hy15 => (intro w' hSw; (try dsimp only at hSw); go_simp; (try with_reducible rfl))
    try simp only [Act.put, List.setIfInBounds_toArray, List.set_cons_zero, List.set_cons_succ, List.getElem_toArray, List.getElem_cons_zero, List.getElem_cons_succ]
    refine wpAnyH_take (i := 15) (v := ?v16) rfl (by kernel_rfl) (by kernel_rfl) (by kernel_rfl) (fun _ _ _ h => h) (Or.inl ⟨by rfl, ?hy16⟩) hHeld ?rest16
    case hy16 => (intro w' hSw; (try dsimp only at hSw); go_simp; (try with_reducible rfl))
    try simp only [Act.put, List.setIfInBounds_toArray, List.set_cons_zero, List.set_cons_succ, List.getElem_toArray, List.getElem_cons_zero, List.getElem_cons_succ]
    refine wpAnyH_take (i := 16) (v := ?v17) rfl (by kernel_rfl) (by kernel_rfl) (by kernel_rfl) (fun _ _ _ h => h) (Or.inl ⟨by rfl, ?hy17⟩) hHeld ?rest17
    case hy17 => (intro w' hSw; (try dsimp only at hSw); go_simp; (try with_reducible rfl))
    try simp only [Act.put, List.setIfInBounds_toArray, List.set_cons_zero, List.set_cons_succ, List.getElem_toArray, List.getElem_cons_zero, List.getElem_cons_succ]
    refine wpAnyH_take (i := 17) (v := ?v18) rfl (by kernel_rfl) (by kernel_rfl) (by kernel_rfl) (fun _ _ _ h => h) (Or.inl ⟨by rfl, ?hy18⟩) hHeld ?rest18
    case hy18 => (intro w' hSw; (try dsimp only at hSw); go_simp; (try with_reducible rfl))
    try simp only [Act.put, List.setIfInBounds_toArray, List.set_cons_zero, List.set_cons_succ, List.getElem_toArray, List.getElem_cons_zero, List.getElem_cons_succ]
    refine wpAnyH_take (i := 18) (v := ?v19) rfl (by kernel_rfl) (by kernel_rfl) (by kernel_rfl) (fun _ _ _ h => h) (Or.inl ⟨by rfl, ?hy19⟩) hHeld ?rest19
    case hy19 => (intro w' hSw; (try dsimp only at hSw); go_simp; (try with_reducible rfl))
    try simp only [Act.put, List.setIfInBounds_toArray, List.set_cons_zero, List.set_cons_succ, List.getElem_toArray, List.getElem_cons_zero, List.getElem_cons_succ]
    refine wpAnyH_take (i := 19) (v := ?v20) rfl (by kernel_rfl) (by kernel_rfl) (by kernel_rfl) (fun _ _ _ h => h) (Or.inl ⟨by rfl, ?hy20⟩) hHeld ?rest20
    case hy20 => (intro w' hSw; (try dsimp only at hSw); go_simp; (try with_reducible rfl))
    try simp only [Act.put, List.setIfInBounds_toArray, List.set_cons_zero, List.set_cons_succ, List.getElem_toArray, List.getElem_cons_zero, List.getElem_cons_succ]
    refine wpAnyH_take (i := 20) (v := ?v21) rfl (by kernel_rfl) (by kernel_rfl) (by kernel_rfl) (fun _ _ _ h => h) (Or.inl ⟨by rfl, ?hy21⟩) hHeld ?rest21
    case hy21 => (intro w' hSw; (try dsimp only at hSw); go_simp; (try with_reducible rfl))
    try simp only [Act.put, List.setIfInBounds_toArray, List.set_cons_zero, List.set_cons_succ, List.getElem_toArray, List.getElem_cons_zero, List.getElem_cons_succ]
    refine wpAnyH_ready (rs := [21]) (by kernel_rfl) (by simp) ?_
    refine AllReadyH.cons rfl (fun K hK => ?_) AllReadyH.nil
    rw [if_pos (by rfl)]
    refine wp_stM (v := .agg #[.int .i64 u, .int .i64 v]) M3.drew rfl rfl rfl (wr_sp _ _ _ _) (Upd.head _ _ _ _ _) ?_
    intro w4 M4 hT4
    refine hK.out _ _ (gcells (M4.has (.tail _ _ _ _ _ (Has.head _ _ _ _)))) (fun hHeld => ?_)
    clear hK K
    try simp only [Act.put, List.setIfInBounds_toArray, List.set_cons_zero, List.set_cons_succ, List.getElem_toArray, List.getElem_cons_zero, List.getElem_cons_succ]
    refine wpAnyH_take (i := 22) (v := ?v23) rfl (by kernel_rfl) (by kernel_rfl) (by kernel_rfl) (fun _ _ _ h => h) (Or.inl ⟨by rfl, ?hy23⟩) hHeld ?rest23
    case hy23 => (intro w' hSw; (try dsimp only at hSw); go_simp; (try with_reducible rfl))
    try simp only [Act.put, List.setIfInBounds_toArray, List.set_cons_zero, List.set_cons_succ, List.getElem_toArray, List.getElem_cons_zero, List.getElem_cons_succ]
    refine wpAnyH_done (by kernel_rfl) ?_ _
    go_wp2_with fail
    ((try simp only [Exit.inBlock, Exit.then]); refine bodyPost_ret (res_cell_tmp rfl M4 rfl (Has.head _ _ _ _) (rd_sp _ _) rfl) rfl ?_)
    exact ⟨rfl, M4.below⟩

set_option maxRecDepth 20000 in
set_option maxHeartbeats 1600000 in
theorem move_any (x y X Y s dx dy NX NY : Int) (a : Option Addr) (n cap : Nat) (p : List Int) (hp : p.length = n) (hn : n ≤ 1000000) (hNX : X + dx = NX) (hNY : Y + dy = NY) (hX : -1000000000000 ≤ NX ∧ NX ≤ 1000000000000) (hY : -1000000000000 ≤ NY ∧ NY ≤ 1000000000000) (w : World) (hS : Sl w 1 (.slice a n cap) n (i64s p)) :
    Calls Try.prog 33 #[gv x y X Y s (.slice a n cap), .int .i64 dx, .int .i64 dy] w fun e w' => ∃ a' cap', e = .returned (gv x y NX NY s (.slice a' n cap')) ∧ w'.ownsRow w.heap.size 2 1 (.slice a' n cap') n (i64s p) ∧ Below w.heap.size w w' := by
  have wNX : IntKind.i64.wrap NX = NX := IntWalk.i64_in _ (by omega)
  have wNY : IntKind.i64.wrap NY = NY := IntWalk.i64_in _ (by omega)
  have wNX2 : wrap64 (X + dx) = NX := by rw [hNX]; exact IntWalk.wrap64_in _ (by omega)
  have wNY2 : wrap64 (Y + dy) = NY := by rw [hNY]; exact IntWalk.wrap64_in _ (by omega)
  have C1 := Lib.hid (fun wx hs => itself_any x y NX NY s a n cap p hp hn wx hs)
  have HS := Lib.hid hS
  clear hS hp
  (obtain ⟨w1, hw1⟩ : ∃ w1, w.alloc (.cells #[.int .i64 x, .int .i64 y, .int .i64 X, .int .i64 Y, .int .i64 s, .slice a n cap] 24) = w1 := ⟨_, rfl⟩; have M1 := (Mem.start w).alloc 24 (gc x y X Y s (.slice a n cap)); rw [show w.alloc (.cells (gc x y X Y s (.slice a n cap)).toArray 24) = w1 from hw1] at M1; obtain ⟨w2, hw2⟩ : ∃ w2, w1.alloc (.cells #[.int .i64 0, .int .i64 0, .int .i64 0, .int .i64 0, .int .i64 0, .slice none 0 0] 24) = w2 := ⟨_, rfl⟩; have M2 := M1.alloc 24 (gc 0 0 0 0 0 (.slice none 0 0)); rw [show w1.alloc (.cells (gc 0 0 0 0 0 (.slice none 0 0)).toArray 24) = w2 from hw2] at M2; have hsz : w1.heap.size = w.heap.size + 1 := (by rw [← hw1]; simp); have HW1 := Lib.hid hw1; have HW2 := Lib.hid hw2; clear hw1 hw2 M1)
  go_enter Try.func33, Try.ntmps33
  ((go_upto_region 1 with fail); rw [HW1.out, HW2.out, ← hsz]; clear HW1 HW2; obtain ⟨gB, hgB⟩ : ∃ gB, gB = w1.heap.size := ⟨_, rfl⟩; obtain ⟨gA, hgA⟩ : ∃ gA, gA = w.heap.size := ⟨_, rfl⟩; rw [← hgB] at M2 ⊢; rw [← hgA] at M2 ⊢; have hne : gA ≠ gB := (by omega); clear hgA hgB hsz)
  obtain ⟨c0, c1, c2, c3, c4, c5⟩ := gcells (M2.has (.tail _ _ _ _ _ (Has.head _ _ _ _)))
  have f2 := M2.free (.tail _ _ _ _ _ (Has.head _ _ _ _)) 2
  have M3 := M2.set 2 (.int .i64 NX) (.tail _ _ _ _ _ _ _ (Upd.head _ _ _ _ _)) (by simp)
  go_upto_region 2 with fail
  obtain ⟨w3, hw3⟩ : ∃ w3, w2.setCell ⟨gA, 2, none⟩ (.int .i64 NX) = w3 := ⟨_, rfl⟩
  try rw [wNX2]
  try rw [hNX]
  rw [hw3] at M3 ⊢
  clear hw3 c0 c1 c2 c3 c4 c5 f2 M2
  obtain ⟨c0, c1, c2, c3, c4, c5⟩ := gcells (M3.has (.tail _ _ _ _ _ (Has.head _ _ _ _)))
  have f3 := M3.free (.tail _ _ _ _ _ (Has.head _ _ _ _)) 3
  have M4 := M3.set 3 (.int .i64 NY) (.tail _ _ _ _ _ _ _ (Upd.head _ _ _ _ _)) (by simp)
  go_upto_region 3 with fail
  obtain ⟨w4, hw4⟩ : ∃ w4, w3.setCell ⟨gA, 3, none⟩ (.int .i64 NY) = w4 := ⟨_, rfl⟩
  try rw [wNY2]
  try rw [hNY]
  rw [hw4] at M4 ⊢
  clear hw4 c0 c1 c2 c3 c4 c5 f3 M3
  obtain ⟨c0, c1, c2, c3, c4, c5⟩ := gcells (M4.has (.tail _ _ _ _ _ (Has.head _ _ _ _)))
  have hz4 := M4.below.size
  go_wp2_with fail
  refine (C1.out _ (HS.out.below M4.below)).mono ?_
  rintro e w5 ⟨a4, cap4, rfl, ho5, hA⟩
  have M5 := M4.call hA
  clear c0 c1 c2 c3 c4 c5 hA
  go_wp2_with ((with_reducible refine (?_ : Go.wpList _ _ _ (_ :: _) _ _)); (first | go_skip | (refine wpL_stM (v := gv x y NX NY s (.slice a4 n cap4)) M5 rfl rfl rfl rfl (wr_g _ _ _ _ _ _ _ _ _ _ _ _ _ _) (Upd.head _ _ _ _ _) ?_; intro w6 M6 hT6)))
  have ho6 := gown_turned ho5 (M5.has (Has.head _ _ _ _)) (by decide) hT6
  ((try simp only [Exit.inBlock, Exit.then]); refine bodyPost_ret (res_cell rfl M6 rfl (Has.head _ _ _ _) (rd_g _ _ _ _ _ _)) rfl ?_)
  exact ⟨_, _, rfl, ownsRow_base ho6 hz4, M6.below⟩
end Go.Proofs.Ytnfgogfbpggnfaa
