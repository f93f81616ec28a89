/-
  The law of how a difference is believed: the nearer, the more.
-/
import Derived.Test.YtolneillcdaibaaLaw13a
set_option linter.unusedVariables false
set_option linter.unusedSimpArgs false
namespace Go.Proofs.Ytolneillcdaibaa
open Go Go.RowKit Go.Th Go.Th.Noise Go.Th.Expo Go.Th.Wide
set_option maxRecDepth 20000 in
set_option maxHeartbeats 3200000 in
theorem bell_pos (a b : Nat) (m s f d D D2 ND pa pb wt lg : Int) (hl : decide (d < -1152921504606846976) = false) (hu : decide (1152921504606846976 < d) = false) (h0 : ¬ d < 0) (hD : d = D) (hm : wrap64 m = m) (hm2 : IntKind.i64.wrap m = m) (hs : wrap64 (D + m) = D2) (hs2 : IntKind.i64.wrap (D + m) = D2) (hn : wrap64 (-D) = ND) (h1 : pa ≤ pb) (h2 : f ≤ wt) (h3 : wt ≤ 65536) (h4 : lg ≤ 0)
    (C0 : Ans 17 #[.int .u32 a, .int .u16 b, .int .u8 3] (nv s f 4)) (C1 : Ans 8 #[nv s f 4, .int .i64 D] (.int .i64 pa)) (C2 : Ans 8 #[nv s f 4, .int .i64 D2] (.int .i64 pb))
    (C3 : Ans 10 #[nv s f 4, .int .i64 D] (.int .i64 wt)) (C4 : Ans 10 #[nv s f 4, .int .i64 ND] (.int .i64 wt)) (C5 : Ans 10 #[nv s f 4, .int .i64 0] (.int .i64 65536)) (C6 : Ans 14 #[nv s f 4, .int .i64 D] (.int .i64 lg)) (C7 : Ans 16 #[] (.bool true)) :
    Ans 4 #[.int .u32 a, .int .u16 b, .int .i64 d, .int .u32 m] (.bool true) := by
  intro w
  have e1 : (wt == wt) = true := by simp
  subst hD
  have C0 := Lib.hid C0
  have C1 := Lib.hid C1
  have C2 := Lib.hid C2
  have C3 := Lib.hid C3
  have C4 := Lib.hid C4
  have C5 := Lib.hid C5
  have C6 := Lib.hid C6
  have C7 := Lib.hid C7
  go_enter Try.func4, Try.ntmps4
  go_wp2_with fail
  refine (C0.out _).mono ?_
  rintro e w2 ⟨rfl, hA⟩
  have M2 := (Mem.start w).call hA
  obtain ⟨w3, hw3⟩ : ∃ w3, w2.alloc (.cells #[.int .i64 s, .int .i64 f, .int .i64 4] 23) = w3 := ⟨_, rfl⟩
  have M3 := M2.alloc 23 (nc s f 4)
  rw [show w2.alloc (.cells (nc s f 4).toArray 23) = w3 from hw3] at M3
  have HW := Lib.hid hw3
  clear hw3 M2 hA C0
  go_upto_region 2 with fail
  rw [HW.out]
  clear HW
  obtain ⟨gN, hgN⟩ : ∃ gN, gN = w2.heap.size := ⟨_, rfl⟩
  rw [← hgN] at M3 ⊢
  clear hgN
  have c0 := M3.cell (Has.head _ _ _ _) (i := 0) rfl
  have c1 := M3.cell (Has.head _ _ _ _) (i := 1) rfl
  have c2 := M3.cell (Has.head _ _ _ _) (i := 2) rfl
  go_wp2_with fail
  refine wp_region_held_drew (S := (fun w' : World => w'.cell? ⟨gN, 0, none⟩ = some (.int .i64 s) ∧ w'.cell? ⟨gN, 1, none⟩ = some (.int .i64 f) ∧ w'.cell? ⟨gN, 2, none⟩ = some (.int .i64 4))) (by kernel_rfl) (⟨c0, c1, c2⟩) (fun hHeld => ?_)
  refine wpAnyH_take (i := 0) (v := ?v1) rfl (by kernel_rfl) (by kernel_rfl) (by kernel_rfl) (fun _ _ _ h => h) (Or.inl ⟨by rfl, ?hy1⟩) hHeld ?rest1
  case hy1 => (intro w' hSw; (try dsimp only at hSw); go_simp; (try with_reducible rfl))
  try simp only [Act.put, List.setIfInBounds_toArray, List.set_cons_zero, List.set_cons_succ, List.getElem_toArray, List.getElem_cons_zero, List.getElem_cons_succ]
  refine wpAnyH_take (i := 1) (v := ?v2) rfl (by kernel_rfl) (by kernel_rfl) (by kernel_rfl) (fun _ _ _ h => h) (Or.inl ⟨by rfl, ?hy2⟩) hHeld ?rest2
  case hy2 => (intro w' hSw; (try dsimp only at hSw); go_simp; (try with_reducible rfl))
  try simp only [Act.put, List.setIfInBounds_toArray, List.set_cons_zero, List.set_cons_succ, List.getElem_toArray, List.getElem_cons_zero, List.getElem_cons_succ]
  refine wpAnyH_take (i := 3) (v := ?v3) rfl (by kernel_rfl) (by kernel_rfl) (by kernel_rfl) (fun _ _ _ h => h) (Or.inl ⟨by rfl, ?hy3⟩) hHeld ?rest3
  case hy3 => (intro w' hSw; (try dsimp only at hSw); go_simp; (try with_reducible rfl))
  try simp only [Act.put, List.setIfInBounds_toArray, List.set_cons_zero, List.set_cons_succ, List.getElem_toArray, List.getElem_cons_zero, List.getElem_cons_succ]
  refine wpAnyH_take (i := 4) (v := ?v4) rfl (by kernel_rfl) (by kernel_rfl) (by kernel_rfl) (fun _ _ _ h => h) (Or.inl ⟨by rfl, ?hy4⟩) hHeld ?rest4
  case hy4 => (intro w' hSw; (try dsimp only at hSw); go_simp; (try with_reducible rfl))
  try simp only [Act.put, List.setIfInBounds_toArray, List.set_cons_zero, List.set_cons_succ, List.getElem_toArray, List.getElem_cons_zero, List.getElem_cons_succ]
  refine wpAnyH_take (i := 5) (v := ?v5) rfl (by kernel_rfl) (by kernel_rfl) (by kernel_rfl) (fun _ _ _ h => h) (Or.inl ⟨by rfl, ?hy5⟩) hHeld ?rest5
  case hy5 => (intro w' hSw; (try dsimp only at hSw); go_simp; (try with_reducible rfl))
  try simp only [Act.put, List.setIfInBounds_toArray, List.set_cons_zero, List.set_cons_succ, List.getElem_toArray, List.getElem_cons_zero, List.getElem_cons_succ]
  refine wpAnyH_take (i := 6) (v := ?v6) rfl (by kernel_rfl) (by kernel_rfl) (by kernel_rfl) (fun _ _ _ h => h) (Or.inl ⟨by rfl, ?hy6⟩) hHeld ?rest6
  case hy6 => (intro w' hSw; (try dsimp only at hSw); go_simp; (try with_reducible rfl))
  try simp only [Act.put, List.setIfInBounds_toArray, List.set_cons_zero, List.set_cons_succ, List.getElem_toArray, List.getElem_cons_zero, List.getElem_cons_succ]
  refine wpAnyH_take (i := 7) (v := ?v7) rfl (by kernel_rfl) (by kernel_rfl) (by kernel_rfl) (fun _ _ _ h => h) (Or.inl ⟨by rfl, ?hy7⟩) hHeld ?rest7
  case hy7 => (intro w' hSw; (try dsimp only at hSw); go_simp; (try with_reducible rfl))
  try simp only [Act.put, List.setIfInBounds_toArray, List.set_cons_zero, List.set_cons_succ, List.getElem_toArray, List.getElem_cons_zero, List.getElem_cons_succ]
  refine wpAnyH_ready (rs := [2]) (by kernel_rfl) (by simp) ?_
  refine AllReadyH.cons rfl (fun K hK => ?_) AllReadyH.nil
  go_simp
  refine (C1.out _).mono ?_
  rintro e w4 ⟨rfl, hA⟩
  have M4 := (M3.drew).call hA
  clear hA C1 M3 c0 c1 c2
  try go_wp2_with fail
  refine hK.out _ _ (⟨M4.cell (Has.head _ _ _ _) (i := 0) rfl, M4.cell (Has.head _ _ _ _) (i := 1) rfl, M4.cell (Has.head _ _ _ _) (i := 2) rfl⟩) (fun hHeld => ?_)
  clear hK K
  try simp only [Act.put, List.setIfInBounds_toArray, List.set_cons_zero, List.set_cons_succ, List.getElem_toArray, List.getElem_cons_zero, List.getElem_cons_succ]
  refine wpAnyH_ready (rs := [8]) (by kernel_rfl) (by simp) ?_
  refine AllReadyH.cons rfl (fun K hK => ?_) AllReadyH.nil
  go_simp
  refine (C2.out _).mono ?_
  rintro e w5 ⟨rfl, hA⟩
  have M5 := M4.call hA
  clear hA C2 M4
  try go_wp2_with fail
  refine hK.out _ _ (⟨M5.cell (Has.head _ _ _ _) (i := 0) rfl, M5.cell (Has.head _ _ _ _) (i := 1) rfl, M5.cell (Has.head _ _ _ _) (i := 2) rfl⟩) (fun hHeld => ?_)
  clear hK K
  try simp only [Act.put, List.setIfInBounds_toArray, List.set_cons_zero, List.set_cons_succ, List.getElem_toArray, List.getElem_cons_zero, List.getElem_cons_succ]
  refine wpAnyH_take (i := 9) (v := ?v10) rfl (by kernel_rfl) (by kernel_rfl) (by kernel_rfl) (fun _ _ _ h => h) (Or.inl ⟨by rfl, ?hy10⟩) hHeld ?rest10
  case hy10 => (intro w' hSw; (try dsimp only at hSw); go_simp; (try with_reducible rfl))
  try simp only [Act.put, List.setIfInBounds_toArray, List.set_cons_zero, List.set_cons_succ, List.getElem_toArray, List.getElem_cons_zero, List.getElem_cons_succ]
  refine wpAnyH_take (i := 10) (v := ?v11) rfl (by kernel_rfl) (by kernel_rfl) (by kernel_rfl) (fun _ _ _ h => h) (Or.inl ⟨by rfl, ?hy11⟩) hHeld ?rest11
  case hy11 => (intro w' hSw; (try dsimp only at hSw); go_simp; (try with_reducible rfl))
  try simp only [Act.put, List.setIfInBounds_toArray, List.set_cons_zero, List.set_cons_succ, List.getElem_toArray, List.getElem_cons_zero, List.getElem_cons_succ]
  refine wpAnyH_done (by kernel_rfl) ?_ _
  have c0 := M5.cell (Has.head _ _ _ _) (i := 0) rfl
  have c1 := M5.cell (Has.head _ _ _ _) (i := 1) rfl
  have c2 := M5.cell (Has.head _ _ _ _) (i := 2) rfl
  go_wp2_with fail
  refine (C3.out _).mono ?_
  rintro e w6 ⟨rfl, hA⟩
  have M6 := (M5).call hA
  clear hA C3 M5 c0 c1 c2
  have c0 := M6.cell (Has.head _ _ _ _) (i := 0) rfl
  have c1 := M6.cell (Has.head _ _ _ _) (i := 1) rfl
  have c2 := M6.cell (Has.head _ _ _ _) (i := 2) rfl
  go_wp2_with fail
  refine (C4.out _).mono ?_
  rintro e w7 ⟨rfl, hA⟩
  have M7 := (M6).call hA
  clear hA C4 M6 c0 c1 c2
  have c0 := M7.cell (Has.head _ _ _ _) (i := 0) rfl
  have c1 := M7.cell (Has.head _ _ _ _) (i := 1) rfl
  have c2 := M7.cell (Has.head _ _ _ _) (i := 2) rfl
  go_wp2_with fail
  refine (C5.out _).mono ?_
  rintro e w8 ⟨rfl, hA⟩
  have M8 := (M7).call hA
  clear hA C5 M7 c0 c1 c2
  have c0 := M8.cell (Has.head _ _ _ _) (i := 0) rfl
  have c1 := M8.cell (Has.head _ _ _ _) (i := 1) rfl
  have c2 := M8.cell (Has.head _ _ _ _) (i := 2) rfl
  go_wp2_with fail
  refine (C6.out _).mono ?_
  rintro e w9 ⟨rfl, hA⟩
  have M9 := (M8).call hA
  clear hA C6 M8 c0 c1 c2
  go_wp2_with fail
  refine (C7.out _).mono ?_
  rintro e w10 ⟨rfl, hA⟩
  have M10 := (M9).call hA
  clear hA C7 M9
  go_wp2_with fail
  go_ret
  exact ⟨rfl, M10.below⟩
set_option maxRecDepth 20000 in
set_option maxHeartbeats 3200000 in
theorem bell_neg (a b : Nat) (m s f d D D2 ND pa pb wt lg : Int) (hl : decide (d < -1152921504606846976) = false) (hu : decide (1152921504606846976 < d) = false) (h0 : d < 0) (hD : wrap64 (-d) = D) (hm : wrap64 m = m) (hm2 : IntKind.i64.wrap m = m) (hs : wrap64 (D + m) = D2) (hs2 : IntKind.i64.wrap (D + m) = D2) (hn : wrap64 (-D) = ND) (h1 : pa ≤ pb) (h2 : f ≤ wt) (h3 : wt ≤ 65536) (h4 : lg ≤ 0)
    (C0 : Ans 17 #[.int .u32 a, .int .u16 b, .int .u8 3] (nv s f 4)) (C1 : Ans 8 #[nv s f 4, .int .i64 D] (.int .i64 pa)) (C2 : Ans 8 #[nv s f 4, .int .i64 D2] (.int .i64 pb))
    (C3 : Ans 10 #[nv s f 4, .int .i64 D] (.int .i64 wt)) (C4 : Ans 10 #[nv s f 4, .int .i64 ND] (.int .i64 wt)) (C5 : Ans 10 #[nv s f 4, .int .i64 0] (.int .i64 65536)) (C6 : Ans 14 #[nv s f 4, .int .i64 D] (.int .i64 lg)) (C7 : Ans 16 #[] (.bool true)) :
    Ans 4 #[.int .u32 a, .int .u16 b, .int .i64 d, .int .u32 m] (.bool true) := by
  intro w
  have e1 : (wt == wt) = true := by simp
  have C0 := Lib.hid C0
  have C1 := Lib.hid C1
  have C2 := Lib.hid C2
  have C3 := Lib.hid C3
  have C4 := Lib.hid C4
  have C5 := Lib.hid C5
  have C6 := Lib.hid C6
  have C7 := Lib.hid C7
  go_enter Try.func4, Try.ntmps4
  go_wp2_with fail
  refine (C0.out _).mono ?_
  rintro e w2 ⟨rfl, hA⟩
  have M2 := (Mem.start w).call hA
  obtain ⟨w3, hw3⟩ : ∃ w3, w2.alloc (.cells #[.int .i64 s, .int .i64 f, .int .i64 4] 23) = w3 := ⟨_, rfl⟩
  have M3 := M2.alloc 23 (nc s f 4)
  rw [show w2.alloc (.cells (nc s f 4).toArray 23) = w3 from hw3] at M3
  have HW := Lib.hid hw3
  clear hw3 M2 hA C0
  go_upto_region 2 with fail
  rw [HW.out]
  clear HW
  obtain ⟨gN, hgN⟩ : ∃ gN, gN = w2.heap.size := ⟨_, rfl⟩
  rw [← hgN] at M3 ⊢
  clear hgN
  have c0 := M3.cell (Has.head _ _ _ _) (i := 0) rfl
  have c1 := M3.cell (Has.head _ _ _ _) (i := 1) rfl
  have c2 := M3.cell (Has.head _ _ _ _) (i := 2) rfl
  go_wp2_with fail
  refine wp_region_held_drew (S := (fun w' : World => w'.cell? ⟨gN, 0, none⟩ = some (.int .i64 s) ∧ w'.cell? ⟨gN, 1, none⟩ = some (.int .i64 f) ∧ w'.cell? ⟨gN, 2, none⟩ = some (.int .i64 4))) (by kernel_rfl) (⟨c0, c1, c2⟩) (fun hHeld => ?_)
  refine wpAnyH_take (i := 0) (v := ?v12) rfl (by kernel_rfl) (by kernel_rfl) (by kernel_rfl) (fun _ _ _ h => h) (Or.inl ⟨by rfl, ?hy12⟩) hHeld ?rest12
  case hy12 => (intro w' hSw; (try dsimp only at hSw); go_simp; (try with_reducible rfl))
  try simp only [Act.put, List.setIfInBounds_toArray, List.set_cons_zero, List.set_cons_succ, List.getElem_toArray, List.getElem_cons_zero, List.getElem_cons_succ]
  refine wpAnyH_take (i := 1) (v := ?v13) rfl (by kernel_rfl) (by kernel_rfl) (by kernel_rfl) (fun _ _ _ h => h) (Or.inl ⟨by rfl, ?hy13⟩) hHeld ?rest13
  case hy13 => (intro w' hSw; (try dsimp only at hSw); go_simp; (try with_reducible rfl))
  try simp only [Act.put, List.setIfInBounds_toArray, List.set_cons_zero, List.set_cons_succ, List.getElem_toArray, List.getElem_cons_zero, List.getElem_cons_succ]
  refine wpAnyH_take (i := 3) (v := ?v14) rfl (by kernel_rfl) (by kernel_rfl) (by kernel_rfl) (fun _ _ _ h => h) (Or.inl ⟨by rfl, ?hy14⟩) hHeld ?rest14
  case hy14 => (intro w' hSw; (try dsimp only at hSw); go_simp; (try with_reducible rfl))
  try simp only [Act.put, List.setIfInBounds_toArray, List.set_cons_zero, List.set_cons_succ, List.getElem_toArray, List.getElem_cons_zero, List.getElem_cons_succ]
  refine wpAnyH_take (i := 4) (v := ?v15) rfl (by kernel_rfl) (by kernel_rfl) (by kernel_rfl) (fun _ _ _ h => h) (Or.inl ⟨by rfl, ?hy15⟩) hHeld ?rest15
  case hy15 => (intro w' hSw; (try dsimp only at hSw); go_simp; (try with_reducible rfl))
  try simp only [Act.put, List.setIfInBounds_toArray, List.set_cons_zero, List.set_cons_succ, List.getElem_toArray, List.getElem_cons_zero, List.getElem_cons_succ]
  refine wpAnyH_take (i := 5) (v := ?v16) rfl (by kernel_rfl) (by kernel_rfl) (by kernel_rfl) (fun _ _ _ h => h) (Or.inl ⟨by rfl, ?hy16⟩) hHeld ?rest16
  case hy16 => (intro w' hSw; (try dsimp only at hSw); go_simp; (try with_reducible rfl))
  try simp only [Act.put, List.setIfInBounds_toArray, List.set_cons_zero, List.set_cons_succ, List.getElem_toArray, List.getElem_cons_zero, List.getElem_cons_succ]
  refine wpAnyH_take (i := 6) (v := ?v17) rfl (by kernel_rfl) (by kernel_rfl) (by kernel_rfl) (fun _ _ _ h => h) (Or.inl ⟨by rfl, ?hy17⟩) hHeld ?rest17
  case hy17 => (intro w' hSw; (try dsimp only at hSw); go_simp; (try with_reducible rfl))
  try simp only [Act.put, List.setIfInBounds_toArray, List.set_cons_zero, List.set_cons_succ, List.getElem_toArray, List.getElem_cons_zero, List.getElem_cons_succ]
  refine wpAnyH_take (i := 7) (v := ?v18) rfl (by kernel_rfl) (by kernel_rfl) (by kernel_rfl) (fun _ _ _ h => h) (Or.inl ⟨by rfl, ?hy18⟩) hHeld ?rest18
  case hy18 => (intro w' hSw; (try dsimp only at hSw); go_simp; (try with_reducible rfl))
  try simp only [Act.put, List.setIfInBounds_toArray, List.set_cons_zero, List.set_cons_succ, List.getElem_toArray, List.getElem_cons_zero, List.getElem_cons_succ]
  refine wpAnyH_ready (rs := [2]) (by kernel_rfl) (by simp) ?_
  refine AllReadyH.cons rfl (fun K hK => ?_) AllReadyH.nil
  go_simp
  refine (C1.out _).mono ?_
  rintro e w4 ⟨rfl, hA⟩
  have M4 := (M3.drew).call hA
  clear hA C1 M3 c0 c1 c2
  try go_wp2_with fail
  refine hK.out _ _ (⟨M4.cell (Has.head _ _ _ _) (i := 0) rfl, M4.cell (Has.head _ _ _ _) (i := 1) rfl, M4.cell (Has.head _ _ _ _) (i := 2) rfl⟩) (fun hHeld => ?_)
  clear hK K
  try simp only [Act.put, List.setIfInBounds_toArray, List.set_cons_zero, List.set_cons_succ, List.getElem_toArray, List.getElem_cons_zero, List.getElem_cons_succ]
  refine wpAnyH_ready (rs := [8]) (by kernel_rfl) (by simp) ?_
  refine AllReadyH.cons rfl (fun K hK => ?_) AllReadyH.nil
  go_simp
  refine (C2.out _).mono ?_
  rintro e w5 ⟨rfl, hA⟩
  have M5 := M4.call hA
  clear hA C2 M4
  try go_wp2_with fail
  refine hK.out _ _ (⟨M5.cell (Has.head _ _ _ _) (i := 0) rfl, M5.cell (Has.head _ _ _ _) (i := 1) rfl, M5.cell (Has.head _ _ _ _) (i := 2) rfl⟩) (fun hHeld => ?_)
  clear hK K
  try simp only [Act.put, List.setIfInBounds_toArray, List.set_cons_zero, List.set_cons_succ, List.getElem_toArray, List.getElem_cons_zero, List.getElem_cons_succ]
  refine wpAnyH_take (i := 9) (v := ?v21) rfl (by kernel_rfl) (by kernel_rfl) (by kernel_rfl) (fun _ _ _ h => h) (Or.inl ⟨by rfl, ?hy21⟩) hHeld ?rest21
  case hy21 => (intro w' hSw; (try dsimp only at hSw); go_simp; (try with_reducible rfl))
  try simp only [Act.put, List.setIfInBounds_toArray, List.set_cons_zero, List.set_cons_succ, List.getElem_toArray, List.getElem_cons_zero, List.getElem_cons_succ]
  refine wpAnyH_take (i := 10) (v := ?v22) rfl (by kernel_rfl) (by kernel_rfl) (by kernel_rfl) (fun _ _ _ h => h) (Or.inl ⟨by rfl, ?hy22⟩) hHeld ?rest22
  case hy22 => (intro w' hSw; (try dsimp only at hSw); go_simp; (try with_reducible rfl))
  try simp only [Act.put, List.setIfInBounds_toArray, List.set_cons_zero, List.set_cons_succ, List.getElem_toArray, List.getElem_cons_zero, List.getElem_cons_succ]
  refine wpAnyH_done (by kernel_rfl) ?_ _
  have c0 := M5.cell (Has.head _ _ _ _) (i := 0) rfl
  have c1 := M5.cell (Has.head _ _ _ _) (i := 1) rfl
  have c2 := M5.cell (Has.head _ _ _ _) (i := 2) rfl
  go_wp2_with fail
  refine (C3.out _).mono ?_
  rintro e w6 ⟨rfl, hA⟩
  have M6 := (M5).call hA
  clear hA C3 M5 c0 c1 c2
  have c0 := M6.cell (Has.head _ _ _ _) (i := 0) rfl
  have c1 := M6.cell (Has.head _ _ _ _) (i := 1) rfl
  have c2 := M6.cell (Has.head _ _ _ _) (i := 2) rfl
  go_wp2_with fail
  refine (C4.out _).mono ?_
  rintro e w7 ⟨rfl, hA⟩
  have M7 := (M6).call hA
  clear hA C4 M6 c0 c1 c2
  have c0 := M7.cell (Has.head _ _ _ _) (i := 0) rfl
  have c1 := M7.cell (Has.head _ _ _ _) (i := 1) rfl
  have c2 := M7.cell (Has.head _ _ _ _) (i := 2) rfl
  go_wp2_with fail
  refine (C5.out _).mono ?_
  rintro e w8 ⟨rfl, hA⟩
  have M8 := (M7).call hA
  clear hA C5 M7 c0 c1 c2
  have c0 := M8.cell (Has.head _ _ _ _) (i := 0) rfl
  have c1 := M8.cell (Has.head _ _ _ _) (i := 1) rfl
  have c2 := M8.cell (Has.head _ _ _ _) (i := 2) rfl
  go_wp2_with fail
  refine (C6.out _).mono ?_
  rintro e w9 ⟨rfl, hA⟩
  have M9 := (M8).call hA
  clear hA C6 M8 c0 c1 c2
  go_wp2_with fail
  refine (C7.out _).mono ?_
  rintro e w10 ⟨rfl, hA⟩
  have M10 := (M9).call hA
  clear hA C7 M9
  go_wp2_with fail
  go_ret
  exact ⟨rfl, M10.below⟩
set_option maxRecDepth 20000 in
set_option maxHeartbeats 3200000 in
theorem bell_far (a b : Nat) (m s f d : Int) (h : decide (d < -1152921504606846976) = true ∨ (decide (d < -1152921504606846976) = false ∧ decide (1152921504606846976 < d) = true)) (C0 : Ans 17 #[.int .u32 a, .int .u16 b, .int .u8 3] (nv s f 4)) (C7 : Ans 16 #[] (.bool true)) :
    Ans 4 #[.int .u32 a, .int .u16 b, .int .i64 d, .int .u32 m] (.bool true) := by
  intro w
  have C0 := Lib.hid C0
  have C7 := Lib.hid C7
  rcases h with h | ⟨h, h'⟩
  · go_enter Try.func4, Try.ntmps4
    go_wp2_with fail
    refine (C0.out _).mono ?_
    rintro e w2 ⟨rfl, hA⟩
    have M2 := (Mem.start w).call hA
    obtain ⟨w3, hw3⟩ : ∃ w3, w2.alloc (.cells #[.int .i64 s, .int .i64 f, .int .i64 4] 23) = w3 := ⟨_, rfl⟩
    have M3 := M2.alloc 23 (nc s f 4)
    rw [show w2.alloc (.cells (nc s f 4).toArray 23) = w3 from hw3] at M3
    have HW := Lib.hid hw3
    clear hw3 M2 hA C0
    go_upto_region 2 with fail
    rw [HW.out]
    clear HW
    go_wp2_with fail
    refine (C7.out _).mono ?_
    rintro e w4 ⟨rfl, hA⟩
    go_wp2_with fail
    go_ret
    exact ⟨rfl, (M3.call hA).below⟩
  · go_enter Try.func4, Try.ntmps4
    go_wp2_with fail
    refine (C0.out _).mono ?_
    rintro e w2 ⟨rfl, hA⟩
    have M2 := (Mem.start w).call hA
    obtain ⟨w3, hw3⟩ : ∃ w3, w2.alloc (.cells #[.int .i64 s, .int .i64 f, .int .i64 4] 23) = w3 := ⟨_, rfl⟩
    have M3 := M2.alloc 23 (nc s f 4)
    rw [show w2.alloc (.cells (nc s f 4).toArray 23) = w3 from hw3] at M3
    have HW := Lib.hid hw3
    clear hw3 M2 hA C0
    go_upto_region 2 with fail
    rw [HW.out]
    clear HW
    go_wp2_with fail
    refine (C7.out _).mono ?_
    rintro e w4 ⟨rfl, hA⟩
    go_wp2_with fail
    go_ret
    exact ⟨rfl, (M3.call hA).below⟩
theorem bell_any (a b m : Nat) (d : Int) (ha : a < 4294967296) (hb : b < 65536) (hm : m < 4294967296) :
    Ans 4 #[.int .u32 a, .int .u16 b, .int .i64 d, .int .u32 m] (.bool true) := by
  have C0 := made_any a b 3 ha hb (by decide)
  rw [show ((1 + 3 % 16 : Nat) : Int) = 4 from by decide] at C0
  obtain ⟨s, hs⟩ : ∃ s : Int, s = (1 + a % 1048576 : Nat) := ⟨_, rfl⟩
  obtain ⟨f, hf⟩ : ∃ f : Int, f = (1 + b % 16384 : Nat) := ⟨_, rfl⟩
  rw [← hs, ← hf] at C0
  have ok : okN s f 4 = true := okN_iff.2 (by omega)
  clear hs hf
  by_cases h1 : d < -1152921504606846976
  · exact bell_far a b m s f d (Or.inl (decide_eq_true h1)) C0 works13_any
  by_cases h2 : 1152921504606846976 < d
  · exact bell_far a b m s f d (Or.inr ⟨decide_eq_false h1, decide_eq_true h2⟩) C0 works13_any
  have C5 := nweight_any s f 4 0
  rw [wgtS_0 ok] at C5
  by_cases h3 : d < 0
  · have hp := pow_mono (d := -d) (e := -d + m) ok (by omega) (by omega)
    have hw := wgtS_le (d := -d) ok
    have C4 := nweight_any s f 4 d
    rw [← wgtS_neg] at C4
    exact bell_neg a b m s f d (-d) (-d + m) d _ _ _ _ (decide_eq_false h1) (decide_eq_false h2) h3 (IntWalk.wrap64_in _ (by omega)) (IntWalk.wrap64_in _ (by omega)) (IntWalk.i64_in _ (by omega)) (IntWalk.wrap64_in _ (by omega)) (IntWalk.i64_in _ (by omega)) (by rw [Int.neg_neg]; exact IntWalk.wrap64_in _ (by omega)) (by exact_mod_cast hp) hw.1 (by omega) (logN_le ok) C0
      (npower_any s f 4 (-d)) (npower_any s f 4 (-d + m)) (nweight_any s f 4 (-d)) C4 C5 (nlog_any s f 4 (-d)) works13_any
  · have hp := pow_mono (d := d) (e := d + m) ok (by omega) (by omega)
    have hw := wgtS_le (d := d) ok
    have C4 := nweight_any s f 4 (-d)
    rw [wgtS_neg] at C4
    exact bell_pos a b m s f d d (d + m) (-d) _ _ _ _ (decide_eq_false h1) (decide_eq_false h2) h3 rfl (IntWalk.wrap64_in _ (by omega)) (IntWalk.i64_in _ (by omega)) (IntWalk.wrap64_in _ (by omega)) (IntWalk.i64_in _ (by omega)) (IntWalk.wrap64_in _ (by omega)) (by exact_mod_cast hp) hw.1 (by omega) (logN_le ok) C0
      (npower_any s f 4 d) (npower_any s f 4 (d + m)) (nweight_any s f 4 d) C4 C5 (nlog_any s f 4 d) works13_any
end Go.Proofs.Ytolneillcdaibaa
