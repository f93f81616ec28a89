/-
  The laws of a noise: the examples; what the law makes; what the chapter says.
-/
import Derived.Test.YtolneillcdaibaaNoiseF
import Derived.Test.YtolneillcdaibaaNoiseC
import Derived.Deep.RegionHeld3
set_option linter.unusedVariables false
set_option linter.unusedSimpArgs false
namespace Go.Proofs.Ytolneillcdaibaa
open Go Go.RowKit Go.Th Go.Th.Noise Go.Th.Expo Go.Th.Wide

theorem widen_any (s f g r : Int) (h : okN s f g = true) : Ans 18 #[nv s f g, .int .i64 r] (nv (widS s r) f g) := by
  have h1 := okN_iff.1 h
  refine widen_go s f g r _ _ _ _ _ _ rfl (IntWalk.wrap64_in _ (by omega)) rfl (fun g0 u w0 w M => ?_)
  have := amendN_any s f g (widS s r) f g 0 0 0 g0 u w0 w M
  rw [h, if_pos rfl] at this
  exact this

set_option maxRecDepth 20000 in
set_option maxHeartbeats 1600000 in
theorem made_go (a b c : Nat) (p0 q0 r0 p q r : Int) (ha : wrap64 (a : Int) = (a : Int)) (hb : wrap64 (b : Int) = (b : Int)) (hc : wrap64 (c : Int) = (c : Int)) (fa : (a : Int).tmod 1048576 = p0) (fb : (b : Int).tmod 16384 = q0) (fc : (c : Int).tmod 16 = r0) (ea : wrap64 (1 + p0) = p) (eb : wrap64 (1 + q0) = q) (ec : wrap64 (1 + r0) = r) : Ans 17 #[.int .u32 a, .int .u16 b, .int .u8 c] (nv p q r) := by
  intro w
  go_enter Try.func17, Try.ntmps17
  go_wp2_with fail
  have M1 := (Mem.start w).alloc 23 (nc p q r)
  refine bodyPost_ret (res_cell rfl M1 rfl (Has.head _ _ _ _) (rd_n _ _ _)) rfl ?_
  exact ⟨rfl, M1.below⟩
theorem made_any (a b c : Nat) (ha : a < 4294967296) (hb : b < 65536) (hc : c < 256) : Ans 17 #[.int .u32 a, .int .u16 b, .int .u8 c] (nv (1 + a % 1048576 : Nat) (1 + b % 16384 : Nat) (1 + c % 16 : Nat)) :=
  made_go a b c (a % 1048576 : Nat) (b % 16384 : Nat) (c % 16 : Nat) _ _ _ (IntWalk.wrap64_in _ (by omega)) (IntWalk.wrap64_in _ (by omega)) (IntWalk.wrap64_in _ (by omega)) (by rw [Int.tmod_eq_emod_of_nonneg (by omega)]; omega) (by rw [Int.tmod_eq_emod_of_nonneg (by omega)]; omega) (by rw [Int.tmod_eq_emod_of_nonneg (by omega)]; omega)
    (by rw [IntWalk.wrap64_in _ (by omega)]; omega) (by rw [IntWalk.wrap64_in _ (by omega)]; omega) (by rw [IntWalk.wrap64_in _ (by omega)]; omega)

set_option maxRecDepth 20000 in
set_option maxHeartbeats 3200000 in
theorem works13_go (L : Int) (hL : L < 0) (C1 : Ans 6 #[nv 160 655 4] (.int .i64 0)) (C2 : Ans 6 #[nv 0 0 0] (.int .i64 2)) (C3 : Ans 10 #[nv 160 655 4, .int .i64 0] (.int .i64 65536))
    (C4 : Ans 8 #[nv 160 655 4, .int .i64 160] (.int .i64 47274)) (C5 : Ans 10 #[nv 160 655 4, .int .i64 160] (.int .i64 40007)) (C6 : Ans 10 #[nv 160 655 4, .int .i64 1099511627776] (.int .i64 655))
    (C7 : Ans 12 #[nv 160 655 4, .int .i64 641] (.bool true)) (C8 : Ans 12 #[nv 160 655 4, .int .i64 (-640)] (.bool false)) (C9 : Ans 14 #[nv 160 655 4, .int .i64 0] (.int .i64 0)) (C10 : Ans 14 #[nv 160 655 4, .int .i64 160] (.int .i64 L))
    (C11 : Ans 18 #[nv 160 655 4, .int .i64 40] (nv 200 655 4)) (C12 : Ans 18 #[nv 160 655 4, .int .i64 1125899906842624] (nv 1048576 655 4)) :
    Ans 16 #[] (.bool true) := by
  intro w
  have fd1 : ∀ wx : World, (Instr.field 23 (nv 200 655 4) 0).run Try.prog wx = .ok (.int .i64 200) wx := fun wx => by kernel_rfl
  have fd2 : ∀ wx : World, (Instr.field 23 (nv 1048576 655 4) 0).run Try.prog wx = .ok (.int .i64 1048576) wx := fun wx => by kernel_rfl
  have C1 := Lib.hid C1
  have C2 := Lib.hid C2
  have C3 := Lib.hid C3
  have C4 := Lib.hid C4
  have C5 := Lib.hid C5
  have C6 := Lib.hid C6
  have C7 := Lib.hid C7
  have C8 := Lib.hid C8
  have C9 := Lib.hid C9
  have C10 := Lib.hid C10
  have C11 := Lib.hid C11
  have C12 := Lib.hid C12
  obtain ⟨w1, hw1⟩ : ∃ w1, (w.alloc (.cells #[.int .i64 160, .int .i64 655, .int .i64 4] 23)) = w1 := ⟨_, rfl⟩
  have M1 : Mem w w1 [(w.heap.size, 23, nc 160 655 4)] := by
    rw [← hw1]
    exact (Mem.start w).alloc 23 (nc 160 655 4)
  have HW1 := Lib.hid hw1
  clear hw1
  have hh : ∀ (wx wy : World), Mem w wx [(w.heap.size, 23, nc 160 655 4)] → Below wx.heap.size wx wy → Mem w wy [(w.heap.size, 23, nc 160 655 4)] ∧ wy.cell? ⟨w.heap.size, 0, none⟩ = some (.int .i64 160) ∧ wy.cell? ⟨w.heap.size, 1, none⟩ = some (.int .i64 655) ∧ wy.cell? ⟨w.heap.size, 2, none⟩ = some (.int .i64 4) :=
    fun wx wy M h => ⟨M.call h, (M.call h).cell (Has.head _ _ _ _) (i := 0) rfl, (M.call h).cell (Has.head _ _ _ _) (i := 1) rfl, (M.call h).cell (Has.head _ _ _ _) (i := 2) rfl⟩
  have hh := Lib.hid hh
  obtain ⟨M1, c0, c1, c2⟩ := hh.out w1 w1 M1 (Below.refl _ _)
  go_enter Try.func16, Try.ntmps16
  go_upto_region 2 with fail
  rw [HW1.out]
  go_wp2_with fail
  refine (C1.out _).mono ?_
  rintro e w2 ⟨rfl, hA⟩
  replace M1 := hh.out _ _ M1 hA
  clear hA C1 c0 c1 c2
  obtain ⟨M1, c0, c1, c2⟩ := M1
  go_wp2_with fail
  refine (C2.out _).mono ?_
  rintro e w2 ⟨rfl, hA⟩
  replace M1 := hh.out _ _ M1 hA
  clear hA C2 c0 c1 c2
  obtain ⟨M1, c0, c1, c2⟩ := M1
  go_wp2_with fail
  refine (C3.out _).mono ?_
  rintro e w2 ⟨rfl, hA⟩
  replace M1 := hh.out _ _ M1 hA
  clear hA C3 c0 c1 c2
  obtain ⟨M1, c0, c1, c2⟩ := M1
  go_wp2_with fail
  refine (C4.out _).mono ?_
  rintro e w2 ⟨rfl, hA⟩
  replace M1 := hh.out _ _ M1 hA
  clear hA C4 c0 c1 c2
  obtain ⟨M1, c0, c1, c2⟩ := M1
  go_wp2_with fail
  refine (C5.out _).mono ?_
  rintro e w2 ⟨rfl, hA⟩
  replace M1 := hh.out _ _ M1 hA
  clear hA C5 c0 c1 c2
  obtain ⟨M1, c0, c1, c2⟩ := M1
  go_wp2_with fail
  refine (C6.out _).mono ?_
  rintro e w2 ⟨rfl, hA⟩
  replace M1 := hh.out _ _ M1 hA
  clear hA C6 c0 c1 c2
  obtain ⟨M1, c0, c1, c2⟩ := M1
  go_wp2_with fail
  refine (C7.out _).mono ?_
  rintro e w2 ⟨rfl, hA⟩
  replace M1 := hh.out _ _ M1 hA
  clear hA C7 c0 c1 c2
  obtain ⟨M1, c0, c1, c2⟩ := M1
  go_wp2_with fail
  refine (C8.out _).mono ?_
  rintro e w2 ⟨rfl, hA⟩
  replace M1 := hh.out _ _ M1 hA
  clear hA C8 c0 c1 c2
  obtain ⟨M1, c0, c1, c2⟩ := M1
  go_wp2_with fail
  refine (C9.out _).mono ?_
  rintro e w2 ⟨rfl, hA⟩
  replace M1 := hh.out _ _ M1 hA
  clear hA C9 c0 c1 c2
  obtain ⟨M1, c0, c1, c2⟩ := M1
  go_wp2_with fail
  refine (C10.out _).mono ?_
  rintro e w2 ⟨rfl, hA⟩
  replace M1 := hh.out _ _ M1 hA
  clear hA C10 c0 c1 c2
  obtain ⟨M1, c0, c1, c2⟩ := M1
  go_wp2_with fail
  refine (C11.out _).mono ?_
  rintro e w2 ⟨rfl, hA⟩
  replace M1 := hh.out _ _ M1 hA
  clear hA C11 c0 c1 c2
  obtain ⟨M1, c0, c1, c2⟩ := M1
  go_wp2_with fail
  refine (C12.out _).mono ?_
  rintro e w2 ⟨rfl, hA⟩
  replace M1 := hh.out _ _ M1 hA
  clear hA C12 c0 c1 c2
  obtain ⟨M1, c0, c1, c2⟩ := M1
  go_wp2_with fail
  go_ret
  exact ⟨rfl, M1.below⟩
theorem works13_any : Ans 16 #[] (.bool true) := by
  have C1 := ncheck_any 160 655 4
  rw [show ncode 160 655 4 = 0 from by decide] at C1
  have C2 := ncheck_any 0 0 0
  rw [show ncode 0 0 0 = 2 from by decide] at C2
  have C3 := nweight_any 160 655 4 0
  rw [wgtS_0 ok_160] at C3
  have C4 := npower_any 160 655 4 160
  rw [pow_160] at C4
  have C5 := nweight_any 160 655 4 160
  rw [wgt_160] at C5
  have C6 := nweight_any 160 655 4 1099511627776
  rw [wgt_far] at C6
  have C7 := far_any 160 655 4 641
  rw [show (!inN 160 655 4 641 4) = true from by decide] at C7
  have C8 := far_any 160 655 4 (-640)
  rw [show (!inN 160 655 4 (-640) 4) = false from by decide] at C8
  have C9 := nlog_any 160 655 4 0
  rw [logN_0 ok_160] at C9
  have C11 := widen_any 160 655 4 40 ok_160
  rw [show widS 160 40 = 200 from by decide] at C11
  have C12 := widen_any 160 655 4 1125899906842624 ok_160
  rw [show widS 160 1125899906842624 = 1048576 from by decide] at C12
  exact works13_go _ log_160 C1 C2 C3 C4 C5 C6 C7 C8 C9 (nlog_any 160 655 4 160) C11 C12

set_option maxRecDepth 20000 in
set_option maxHeartbeats 3200000 in
theorem tells_go (s f g d ck pw wt lg : Int) (fr : Bool) (C1 : Ans 6 #[nv s f g] (.int .i64 ck)) (C2 : Ans 7 #[nv s f g] (.int .i64 ck)) (C3 : Ans 8 #[nv s f g, .int .i64 d] (.int .i64 pw)) (C4 : Ans 9 #[nv s f g, .int .i64 d] (.int .i64 pw))
    (C5 : Ans 10 #[nv s f g, .int .i64 d] (.int .i64 wt)) (C6 : Ans 11 #[nv s f g, .int .i64 d] (.int .i64 wt)) (C7 : Ans 12 #[nv s f g, .int .i64 d] (.bool fr)) (C8 : Ans 13 #[nv s f g, .int .i64 d] (.bool fr))
    (C9 : Ans 14 #[nv s f g, .int .i64 d] (.int .i64 lg)) (C10 : Ans 15 #[nv s f g, .int .i64 d] (.int .i64 lg)) (C11 : Ans 16 #[] (.bool true)) :
    Ans 3 #[nv s f g, .int .i64 d] (.bool true) := by
  intro w
  have e1 : (ck == ck) = true := by simp
  have e2 : (pw == pw) = true := by simp
  have e3 : (wt == wt) = true := by simp
  have e4 : (fr == fr) = true := by simp
  have e5 : (lg == lg) = true := by simp
  have C1 := Lib.hid C1
  have C2 := Lib.hid C2
  have C3 := Lib.hid C3
  have C4 := Lib.hid C4
  have C5 := Lib.hid C5
  have C6 := Lib.hid C6
  have C7 := Lib.hid C7
  have C8 := Lib.hid C8
  have C9 := Lib.hid C9
  have C10 := Lib.hid C10
  have C11 := Lib.hid C11
  obtain ⟨w1, hw1⟩ : ∃ w1, (w.alloc (.cells #[.int .i64 s, .int .i64 f, .int .i64 g] 23)) = w1 := ⟨_, rfl⟩
  have M1 : Mem w w1 [(w.heap.size, 23, nc s f g)] := by
    rw [← hw1]
    exact (Mem.start w).alloc 23 (nc s f g)
  have HW1 := Lib.hid hw1
  clear hw1
  have c0 := M1.cell (Has.head _ _ _ _) (i := 0) rfl
  have c1 := M1.cell (Has.head _ _ _ _) (i := 1) rfl
  have c2 := M1.cell (Has.head _ _ _ _) (i := 2) rfl
  go_enter Try.func3, Try.ntmps3
  go_upto_region 1 with fail
  rw [HW1.out]
  go_wp2_with fail
  obtain ⟨gN, hgN⟩ : ∃ gN, gN = w.heap.size := ⟨_, rfl⟩
  rw [← hgN] at c0 c1 c2 M1 ⊢
  clear hgN
  refine wp_region_held_drew (S := (fun w' : World => w'.cell? ⟨gN, 0, none⟩ = some (.int .i64 s) ∧ w'.cell? ⟨gN, 1, none⟩ = some (.int .i64 f) ∧ w'.cell? ⟨gN, 2, none⟩ = some (.int .i64 g))) (by kernel_rfl) (⟨c0, c1, c2⟩) (fun hHeld => ?_)
  refine wpAnyH_take (i := 0) (v := ?v1) rfl (by kernel_rfl) (by kernel_rfl) (by kernel_rfl) (fun _ _ _ h => h) (Or.inl ⟨by rfl, ?hy1⟩) hHeld ?rest1
  case hy1 => (intro w' hSw; (try dsimp only at hSw); go_simp; (try with_reducible rfl))
  try simp only [Act.put, List.setIfInBounds_toArray, List.set_cons_zero, List.set_cons_succ, List.getElem_toArray, List.getElem_cons_zero, List.getElem_cons_succ]
  refine wpAnyH_take (i := 2) (v := ?v2) rfl (by kernel_rfl) (by kernel_rfl) (by kernel_rfl) (fun _ _ _ h => h) (Or.inl ⟨by rfl, ?hy2⟩) hHeld ?rest2
  case hy2 => (intro w' hSw; (try dsimp only at hSw); go_simp; (try with_reducible rfl))
  try simp only [Act.put, List.setIfInBounds_toArray, List.set_cons_zero, List.set_cons_succ, List.getElem_toArray, List.getElem_cons_zero, List.getElem_cons_succ]
  refine wpAnyH_ready (rs := [1]) (by kernel_rfl) (by simp) ?_
  refine AllReadyH.cons rfl (fun K hK => ?_) AllReadyH.nil
  go_simp
  refine (C1.out _).mono ?_
  rintro e w2 ⟨rfl, hA⟩
  have M2 := (M1.drew).call hA
  clear hA C1 M1
  try go_wp2_with fail
  refine hK.out _ _ (⟨M2.cell (Has.head _ _ _ _) (i := 0) rfl, M2.cell (Has.head _ _ _ _) (i := 1) rfl, M2.cell (Has.head _ _ _ _) (i := 2) rfl⟩) (fun hHeld => ?_)
  clear hK K
  try simp only [Act.put, List.setIfInBounds_toArray, List.set_cons_zero, List.set_cons_succ, List.getElem_toArray, List.getElem_cons_zero, List.getElem_cons_succ]
  refine wpAnyH_ready (rs := [3]) (by kernel_rfl) (by simp) ?_
  refine AllReadyH.cons rfl (fun K hK => ?_) AllReadyH.nil
  go_simp
  refine (C2.out _).mono ?_
  rintro e w3 ⟨rfl, hA⟩
  have M3 := (M2).call hA
  clear hA C2 M2
  try go_wp2_with fail
  refine hK.out _ _ (⟨M3.cell (Has.head _ _ _ _) (i := 0) rfl, M3.cell (Has.head _ _ _ _) (i := 1) rfl, M3.cell (Has.head _ _ _ _) (i := 2) rfl⟩) (fun hHeld => ?_)
  clear hK K
  try simp only [Act.put, List.setIfInBounds_toArray, List.set_cons_zero, List.set_cons_succ, List.getElem_toArray, List.getElem_cons_zero, List.getElem_cons_succ]
  refine wpAnyH_take (i := 4) (v := ?v5) rfl (by kernel_rfl) (by kernel_rfl) (by kernel_rfl) (fun _ _ _ h => h) (Or.inl ⟨by rfl, ?hy5⟩) hHeld ?rest5
  case hy5 => (intro w' hSw; (try dsimp only at hSw); go_simp; (try with_reducible rfl))
  try simp only [Act.put, List.setIfInBounds_toArray, List.set_cons_zero, List.set_cons_succ, List.getElem_toArray, List.getElem_cons_zero, List.getElem_cons_succ]
  refine wpAnyH_take (i := 5) (v := ?v6) rfl (by kernel_rfl) (by kernel_rfl) (by kernel_rfl) (fun _ _ _ h => h) (Or.inl ⟨by rfl, ?hy6⟩) hHeld ?rest6
  case hy6 => (intro w' hSw; (try dsimp only at hSw); go_simp; (try with_reducible rfl))
  try simp only [Act.put, List.setIfInBounds_toArray, List.set_cons_zero, List.set_cons_succ, List.getElem_toArray, List.getElem_cons_zero, List.getElem_cons_succ]
  refine wpAnyH_take (i := 6) (v := ?v7) rfl (by kernel_rfl) (by kernel_rfl) (by kernel_rfl) (fun _ _ _ h => h) (Or.inl ⟨by rfl, ?hy7⟩) hHeld ?rest7
  case hy7 => (intro w' hSw; (try dsimp only at hSw); go_simp; (try with_reducible rfl))
  try simp only [Act.put, List.setIfInBounds_toArray, List.set_cons_zero, List.set_cons_succ, List.getElem_toArray, List.getElem_cons_zero, List.getElem_cons_succ]
  refine wpAnyH_take (i := 7) (v := ?v8) rfl (by kernel_rfl) (by kernel_rfl) (by kernel_rfl) (fun _ _ _ h => h) (Or.inl ⟨by rfl, ?hy8⟩) hHeld ?rest8
  case hy8 => (intro w' hSw; (try dsimp only at hSw); go_simp; (try with_reducible rfl))
  try simp only [Act.put, List.setIfInBounds_toArray, List.set_cons_zero, List.set_cons_succ, List.getElem_toArray, List.getElem_cons_zero, List.getElem_cons_succ]
  refine wpAnyH_take (i := 9) (v := ?v9) rfl (by kernel_rfl) (by kernel_rfl) (by kernel_rfl) (fun _ _ _ h => h) (Or.inl ⟨by rfl, ?hy9⟩) hHeld ?rest9
  case hy9 => (intro w' hSw; (try dsimp only at hSw); go_simp; (try with_reducible rfl))
  try simp only [Act.put, List.setIfInBounds_toArray, List.set_cons_zero, List.set_cons_succ, List.getElem_toArray, List.getElem_cons_zero, List.getElem_cons_succ]
  refine wpAnyH_take (i := 10) (v := ?v10) rfl (by kernel_rfl) (by kernel_rfl) (by kernel_rfl) (fun _ _ _ h => h) (Or.inl ⟨by rfl, ?hy10⟩) hHeld ?rest10
  case hy10 => (intro w' hSw; (try dsimp only at hSw); go_simp; (try with_reducible rfl))
  try simp only [Act.put, List.setIfInBounds_toArray, List.set_cons_zero, List.set_cons_succ, List.getElem_toArray, List.getElem_cons_zero, List.getElem_cons_succ]
  refine wpAnyH_ready (rs := [8]) (by kernel_rfl) (by simp) ?_
  refine AllReadyH.cons rfl (fun K hK => ?_) AllReadyH.nil
  go_simp
  refine (C3.out _).mono ?_
  rintro e w4 ⟨rfl, hA⟩
  have M4 := (M3).call hA
  clear hA C3 M3
  try go_wp2_with fail
  refine hK.out _ _ (⟨M4.cell (Has.head _ _ _ _) (i := 0) rfl, M4.cell (Has.head _ _ _ _) (i := 1) rfl, M4.cell (Has.head _ _ _ _) (i := 2) rfl⟩) (fun hHeld => ?_)
  clear hK K
  try simp only [Act.put, List.setIfInBounds_toArray, List.set_cons_zero, List.set_cons_succ, List.getElem_toArray, List.getElem_cons_zero, List.getElem_cons_succ]
  refine wpAnyH_ready (rs := [11]) (by kernel_rfl) (by simp) ?_
  refine AllReadyH.cons rfl (fun K hK => ?_) AllReadyH.nil
  go_simp
  refine (C4.out _).mono ?_
  rintro e w5 ⟨rfl, hA⟩
  have M5 := (M4).call hA
  clear hA C4 M4
  try go_wp2_with fail
  refine hK.out _ _ (⟨M5.cell (Has.head _ _ _ _) (i := 0) rfl, M5.cell (Has.head _ _ _ _) (i := 1) rfl, M5.cell (Has.head _ _ _ _) (i := 2) rfl⟩) (fun hHeld => ?_)
  clear hK K
  try simp only [Act.put, List.setIfInBounds_toArray, List.set_cons_zero, List.set_cons_succ, List.getElem_toArray, List.getElem_cons_zero, List.getElem_cons_succ]
  refine wpAnyH_take (i := 12) (v := ?v13) rfl (by kernel_rfl) (by kernel_rfl) (by kernel_rfl) (fun _ _ _ h => h) (Or.inl ⟨by rfl, ?hy13⟩) hHeld ?rest13
  case hy13 => (intro w' hSw; (try dsimp only at hSw); go_simp; (try with_reducible rfl))
  try simp only [Act.put, List.setIfInBounds_toArray, List.set_cons_zero, List.set_cons_succ, List.getElem_toArray, List.getElem_cons_zero, List.getElem_cons_succ]
  refine wpAnyH_take (i := 13) (v := ?v14) rfl (by kernel_rfl) (by kernel_rfl) (by kernel_rfl) (fun _ _ _ h => h) (Or.inl ⟨by rfl, ?hy14⟩) hHeld ?rest14
  case hy14 => (intro w' hSw; (try dsimp only at hSw); go_simp; (try with_reducible rfl))
  try simp only [Act.put, List.setIfInBounds_toArray, List.set_cons_zero, List.set_cons_succ, List.getElem_toArray, List.getElem_cons_zero, List.getElem_cons_succ]
  refine wpAnyH_take (i := 14) (v := ?v15) rfl (by kernel_rfl) (by kernel_rfl) (by kernel_rfl) (fun _ _ _ h => h) (Or.inl ⟨by rfl, ?hy15⟩) hHeld ?rest15
  case hy15 => (intro w' hSw; (try dsimp only at hSw); go_simp; (try with_reducible rfl))
  try simp only [Act.put, List.setIfInBounds_toArray, List.set_cons_zero, List.set_cons_succ, List.getElem_toArray, List.getElem_cons_zero, List.getElem_cons_succ]
  refine wpAnyH_take (i := 15) (v := ?v16) rfl (by kernel_rfl) (by kernel_rfl) (by kernel_rfl) (fun _ _ _ h => h) (Or.inl ⟨by rfl, ?hy16⟩) hHeld ?rest16
  case hy16 => (intro w' hSw; (try dsimp only at hSw); go_simp; (try with_reducible rfl))
  try simp only [Act.put, List.setIfInBounds_toArray, List.set_cons_zero, List.set_cons_succ, List.getElem_toArray, List.getElem_cons_zero, List.getElem_cons_succ]
  refine wpAnyH_take (i := 16) (v := ?v17) rfl (by kernel_rfl) (by kernel_rfl) (by kernel_rfl) (fun _ _ _ h => h) (Or.inl ⟨by rfl, ?hy17⟩) hHeld ?rest17
  case hy17 => (intro w' hSw; (try dsimp only at hSw); go_simp; (try with_reducible rfl))
  try simp only [Act.put, List.setIfInBounds_toArray, List.set_cons_zero, List.set_cons_succ, List.getElem_toArray, List.getElem_cons_zero, List.getElem_cons_succ]
  refine wpAnyH_take (i := 18) (v := ?v18) rfl (by kernel_rfl) (by kernel_rfl) (by kernel_rfl) (fun _ _ _ h => h) (Or.inl ⟨by rfl, ?hy18⟩) hHeld ?rest18
  case hy18 => (intro w' hSw; (try dsimp only at hSw); go_simp; (try with_reducible rfl))
  try simp only [Act.put, List.setIfInBounds_toArray, List.set_cons_zero, List.set_cons_succ, List.getElem_toArray, List.getElem_cons_zero, List.getElem_cons_succ]
  refine wpAnyH_take (i := 19) (v := ?v19) rfl (by kernel_rfl) (by kernel_rfl) (by kernel_rfl) (fun _ _ _ h => h) (Or.inl ⟨by rfl, ?hy19⟩) hHeld ?rest19
  case hy19 => (intro w' hSw; (try dsimp only at hSw); go_simp; (try with_reducible rfl))
  try simp only [Act.put, List.setIfInBounds_toArray, List.set_cons_zero, List.set_cons_succ, List.getElem_toArray, List.getElem_cons_zero, List.getElem_cons_succ]
  refine wpAnyH_ready (rs := [17]) (by kernel_rfl) (by simp) ?_
  refine AllReadyH.cons rfl (fun K hK => ?_) AllReadyH.nil
  go_simp
  refine (C5.out _).mono ?_
  rintro e w6 ⟨rfl, hA⟩
  have M6 := (M5).call hA
  clear hA C5 M5
  try go_wp2_with fail
  refine hK.out _ _ (⟨M6.cell (Has.head _ _ _ _) (i := 0) rfl, M6.cell (Has.head _ _ _ _) (i := 1) rfl, M6.cell (Has.head _ _ _ _) (i := 2) rfl⟩) (fun hHeld => ?_)
  clear hK K
  try simp only [Act.put, List.setIfInBounds_toArray, List.set_cons_zero, List.set_cons_succ, List.getElem_toArray, List.getElem_cons_zero, List.getElem_cons_succ]
  refine wpAnyH_ready (rs := [20]) (by kernel_rfl) (by simp) ?_
  refine AllReadyH.cons rfl (fun K hK => ?_) AllReadyH.nil
  go_simp
  refine (C6.out _).mono ?_
  rintro e w7 ⟨rfl, hA⟩
  have M7 := (M6).call hA
  clear hA C6 M6
  try go_wp2_with fail
  refine hK.out _ _ (⟨M7.cell (Has.head _ _ _ _) (i := 0) rfl, M7.cell (Has.head _ _ _ _) (i := 1) rfl, M7.cell (Has.head _ _ _ _) (i := 2) rfl⟩) (fun hHeld => ?_)
  clear hK K
  try simp only [Act.put, List.setIfInBounds_toArray, List.set_cons_zero, List.set_cons_succ, List.getElem_toArray, List.getElem_cons_zero, List.getElem_cons_succ]
  refine wpAnyH_take (i := 21) (v := ?v22) rfl (by kernel_rfl) (by kernel_rfl) (by kernel_rfl) (fun _ _ _ h => h) (Or.inl ⟨by rfl, ?hy22⟩) hHeld ?rest22
  case hy22 => (intro w' hSw; (try dsimp only at hSw); go_simp; (try with_reducible rfl))
  try simp only [Act.put, List.setIfInBounds_toArray, List.set_cons_zero, List.set_cons_succ, List.getElem_toArray, List.getElem_cons_zero, List.getElem_cons_succ]
  refine wpAnyH_take (i := 22) (v := ?v23) rfl (by kernel_rfl) (by kernel_rfl) (by kernel_rfl) (fun _ _ _ h => h) (Or.inl ⟨by rfl, ?hy23⟩) hHeld ?rest23
  case hy23 => (intro w' hSw; (try dsimp only at hSw); go_simp; (try with_reducible rfl))
  try simp only [Act.put, List.setIfInBounds_toArray, List.set_cons_zero, List.set_cons_succ, List.getElem_toArray, List.getElem_cons_zero, List.getElem_cons_succ]
  refine wpAnyH_take (i := 23) (v := ?v24) rfl (by kernel_rfl) (by kernel_rfl) (by kernel_rfl) (fun _ _ _ h => h) (Or.inl ⟨by rfl, ?hy24⟩) hHeld ?rest24
  case hy24 => (intro w' hSw; (try dsimp only at hSw); go_simp; (try with_reducible rfl))
  try simp only [Act.put, List.setIfInBounds_toArray, List.set_cons_zero, List.set_cons_succ, List.getElem_toArray, List.getElem_cons_zero, List.getElem_cons_succ]
  refine wpAnyH_take (i := 24) (v := ?v25) rfl (by kernel_rfl) (by kernel_rfl) (by kernel_rfl) (fun _ _ _ h => h) (Or.inl ⟨by rfl, ?hy25⟩) hHeld ?rest25
  case hy25 => (intro w' hSw; (try dsimp only at hSw); go_simp; (try with_reducible rfl))
  try simp only [Act.put, List.setIfInBounds_toArray, List.set_cons_zero, List.set_cons_succ, List.getElem_toArray, List.getElem_cons_zero, List.getElem_cons_succ]
  refine wpAnyH_take (i := 25) (v := ?v26) rfl (by kernel_rfl) (by kernel_rfl) (by kernel_rfl) (fun _ _ _ h => h) (Or.inl ⟨by rfl, ?hy26⟩) hHeld ?rest26
  case hy26 => (intro w' hSw; (try dsimp only at hSw); go_simp; (try with_reducible rfl))
  try simp only [Act.put, List.setIfInBounds_toArray, List.set_cons_zero, List.set_cons_succ, List.getElem_toArray, List.getElem_cons_zero, List.getElem_cons_succ]
  refine wpAnyH_take (i := 27) (v := ?v27) rfl (by kernel_rfl) (by kernel_rfl) (by kernel_rfl) (fun _ _ _ h => h) (Or.inl ⟨by rfl, ?hy27⟩) hHeld ?rest27
  case hy27 => (intro w' hSw; (try dsimp only at hSw); go_simp; (try with_reducible rfl))
  try simp only [Act.put, List.setIfInBounds_toArray, List.set_cons_zero, List.set_cons_succ, List.getElem_toArray, List.getElem_cons_zero, List.getElem_cons_succ]
  refine wpAnyH_take (i := 28) (v := ?v28) rfl (by kernel_rfl) (by kernel_rfl) (by kernel_rfl) (fun _ _ _ h => h) (Or.inl ⟨by rfl, ?hy28⟩) hHeld ?rest28
  case hy28 => (intro w' hSw; (try dsimp only at hSw); go_simp; (try with_reducible rfl))
  try simp only [Act.put, List.setIfInBounds_toArray, List.set_cons_zero, List.set_cons_succ, List.getElem_toArray, List.getElem_cons_zero, List.getElem_cons_succ]
  refine wpAnyH_ready (rs := [26]) (by kernel_rfl) (by simp) ?_
  refine AllReadyH.cons rfl (fun K hK => ?_) AllReadyH.nil
  go_simp
  refine (C7.out _).mono ?_
  rintro e w8 ⟨rfl, hA⟩
  have M8 := (M7).call hA
  clear hA C7 M7
  try go_wp2_with fail
  refine hK.out _ _ (⟨M8.cell (Has.head _ _ _ _) (i := 0) rfl, M8.cell (Has.head _ _ _ _) (i := 1) rfl, M8.cell (Has.head _ _ _ _) (i := 2) rfl⟩) (fun hHeld => ?_)
  clear hK K
  try simp only [Act.put, List.setIfInBounds_toArray, List.set_cons_zero, List.set_cons_succ, List.getElem_toArray, List.getElem_cons_zero, List.getElem_cons_succ]
  refine wpAnyH_ready (rs := [29]) (by kernel_rfl) (by simp) ?_
  refine AllReadyH.cons rfl (fun K hK => ?_) AllReadyH.nil
  go_simp
  refine (C8.out _).mono ?_
  rintro e w9 ⟨rfl, hA⟩
  have M9 := (M8).call hA
  clear hA C8 M8
  try go_wp2_with fail
  refine hK.out _ _ (⟨M9.cell (Has.head _ _ _ _) (i := 0) rfl, M9.cell (Has.head _ _ _ _) (i := 1) rfl, M9.cell (Has.head _ _ _ _) (i := 2) rfl⟩) (fun hHeld => ?_)
  clear hK K
  try simp only [Act.put, List.setIfInBounds_toArray, List.set_cons_zero, List.set_cons_succ, List.getElem_toArray, List.getElem_cons_zero, List.getElem_cons_succ]
  refine wpAnyH_take (i := 30) (v := ?v31) rfl (by kernel_rfl) (by kernel_rfl) (by kernel_rfl) (fun _ _ _ h => h) (Or.inl ⟨by rfl, ?hy31⟩) hHeld ?rest31
  case hy31 => (intro w' hSw; (try dsimp only at hSw); go_simp; (try with_reducible rfl))
  try simp only [Act.put, List.setIfInBounds_toArray, List.set_cons_zero, List.set_cons_succ, List.getElem_toArray, List.getElem_cons_zero, List.getElem_cons_succ]
  refine wpAnyH_take (i := 31) (v := ?v32) rfl (by kernel_rfl) (by kernel_rfl) (by kernel_rfl) (fun _ _ _ h => h) (Or.inl ⟨by rfl, ?hy32⟩) hHeld ?rest32
  case hy32 => (intro w' hSw; (try dsimp only at hSw); go_simp; (try with_reducible rfl))
  try simp only [Act.put, List.setIfInBounds_toArray, List.set_cons_zero, List.set_cons_succ, List.getElem_toArray, List.getElem_cons_zero, List.getElem_cons_succ]
  refine wpAnyH_take (i := 32) (v := ?v33) rfl (by kernel_rfl) (by kernel_rfl) (by kernel_rfl) (fun _ _ _ h => h) (Or.inl ⟨by rfl, ?hy33⟩) hHeld ?rest33
  case hy33 => (intro w' hSw; (try dsimp only at hSw); go_simp; (try with_reducible rfl))
  try simp only [Act.put, List.setIfInBounds_toArray, List.set_cons_zero, List.set_cons_succ, List.getElem_toArray, List.getElem_cons_zero, List.getElem_cons_succ]
  refine wpAnyH_take (i := 33) (v := ?v34) rfl (by kernel_rfl) (by kernel_rfl) (by kernel_rfl) (fun _ _ _ h => h) (Or.inl ⟨by rfl, ?hy34⟩) hHeld ?rest34
  case hy34 => (intro w' hSw; (try dsimp only at hSw); go_simp; (try with_reducible rfl))
  try simp only [Act.put, List.setIfInBounds_toArray, List.set_cons_zero, List.set_cons_succ, List.getElem_toArray, List.getElem_cons_zero, List.getElem_cons_succ]
  refine wpAnyH_take (i := 34) (v := ?v35) rfl (by kernel_rfl) (by kernel_rfl) (by kernel_rfl) (fun _ _ _ h => h) (Or.inl ⟨by rfl, ?hy35⟩) hHeld ?rest35
  case hy35 => (intro w' hSw; (try dsimp only at hSw); go_simp; (try with_reducible rfl))
  try simp only [Act.put, List.setIfInBounds_toArray, List.set_cons_zero, List.set_cons_succ, List.getElem_toArray, List.getElem_cons_zero, List.getElem_cons_succ]
  refine wpAnyH_take (i := 36) (v := ?v36) rfl (by kernel_rfl) (by kernel_rfl) (by kernel_rfl) (fun _ _ _ h => h) (Or.inl ⟨by rfl, ?hy36⟩) hHeld ?rest36
  case hy36 => (intro w' hSw; (try dsimp only at hSw); go_simp; (try with_reducible rfl))
  try simp only [Act.put, List.setIfInBounds_toArray, List.set_cons_zero, List.set_cons_succ, List.getElem_toArray, List.getElem_cons_zero, List.getElem_cons_succ]
  refine wpAnyH_take (i := 37) (v := ?v37) rfl (by kernel_rfl) (by kernel_rfl) (by kernel_rfl) (fun _ _ _ h => h) (Or.inl ⟨by rfl, ?hy37⟩) hHeld ?rest37
  case hy37 => (intro w' hSw; (try dsimp only at hSw); go_simp; (try with_reducible rfl))
  try simp only [Act.put, List.setIfInBounds_toArray, List.set_cons_zero, List.set_cons_succ, List.getElem_toArray, List.getElem_cons_zero, List.getElem_cons_succ]
  refine wpAnyH_ready (rs := [35]) (by kernel_rfl) (by simp) ?_
  refine AllReadyH.cons rfl (fun K hK => ?_) AllReadyH.nil
  go_simp
  refine (C9.out _).mono ?_
  rintro e w10 ⟨rfl, hA⟩
  have M10 := (M9).call hA
  clear hA C9 M9
  try go_wp2_with fail
  refine hK.out _ _ (⟨M10.cell (Has.head _ _ _ _) (i := 0) rfl, M10.cell (Has.head _ _ _ _) (i := 1) rfl, M10.cell (Has.head _ _ _ _) (i := 2) rfl⟩) (fun hHeld => ?_)
  clear hK K
  try simp only [Act.put, List.setIfInBounds_toArray, List.set_cons_zero, List.set_cons_succ, List.getElem_toArray, List.getElem_cons_zero, List.getElem_cons_succ]
  refine wpAnyH_ready (rs := [38]) (by kernel_rfl) (by simp) ?_
  refine AllReadyH.cons rfl (fun K hK => ?_) AllReadyH.nil
  go_simp
  refine (C10.out _).mono ?_
  rintro e w11 ⟨rfl, hA⟩
  have M11 := (M10).call hA
  clear hA C10 M10
  try go_wp2_with fail
  refine hK.out _ _ (⟨M11.cell (Has.head _ _ _ _) (i := 0) rfl, M11.cell (Has.head _ _ _ _) (i := 1) rfl, M11.cell (Has.head _ _ _ _) (i := 2) rfl⟩) (fun hHeld => ?_)
  clear hK K
  try simp only [Act.put, List.setIfInBounds_toArray, List.set_cons_zero, List.set_cons_succ, List.getElem_toArray, List.getElem_cons_zero, List.getElem_cons_succ]
  refine wpAnyH_take (i := 39) (v := ?v40) rfl (by kernel_rfl) (by kernel_rfl) (by kernel_rfl) (fun _ _ _ h => h) (Or.inl ⟨by rfl, ?hy40⟩) hHeld ?rest40
  case hy40 => (intro w' hSw; (try dsimp only at hSw); go_simp; (try with_reducible rfl))
  try simp only [Act.put, List.setIfInBounds_toArray, List.set_cons_zero, List.set_cons_succ, List.getElem_toArray, List.getElem_cons_zero, List.getElem_cons_succ]
  refine wpAnyH_take (i := 40) (v := ?v41) rfl (by kernel_rfl) (by kernel_rfl) (by kernel_rfl) (fun _ _ _ h => h) (Or.inl ⟨by rfl, ?hy41⟩) hHeld ?rest41
  case hy41 => (intro w' hSw; (try dsimp only at hSw); go_simp; (try with_reducible rfl))
  try simp only [Act.put, List.setIfInBounds_toArray, List.set_cons_zero, List.set_cons_succ, List.getElem_toArray, List.getElem_cons_zero, List.getElem_cons_succ]
  refine wpAnyH_take (i := 41) (v := ?v42) rfl (by kernel_rfl) (by kernel_rfl) (by kernel_rfl) (fun _ _ _ h => h) (Or.inl ⟨by rfl, ?hy42⟩) hHeld ?rest42
  case hy42 => (intro w' hSw; (try dsimp only at hSw); go_simp; (try with_reducible rfl))
  try simp only [Act.put, List.setIfInBounds_toArray, List.set_cons_zero, List.set_cons_succ, List.getElem_toArray, List.getElem_cons_zero, List.getElem_cons_succ]
  refine wpAnyH_ready (rs := [42]) (by kernel_rfl) (by simp) ?_
  refine AllReadyH.cons rfl (fun K hK => ?_) AllReadyH.nil
  go_simp
  refine (C11.out _).mono ?_
  rintro e w12 ⟨rfl, hA⟩
  have M12 := (M11).call hA
  clear hA C11 M11
  try go_wp2_with fail
  refine hK.out _ _ (⟨M12.cell (Has.head _ _ _ _) (i := 0) rfl, M12.cell (Has.head _ _ _ _) (i := 1) rfl, M12.cell (Has.head _ _ _ _) (i := 2) rfl⟩) (fun hHeld => ?_)
  clear hK K
  try simp only [Act.put, List.setIfInBounds_toArray, List.set_cons_zero, List.set_cons_succ, List.getElem_toArray, List.getElem_cons_zero, List.getElem_cons_succ]
  refine wpAnyH_take (i := 43) (v := ?v44) rfl (by kernel_rfl) (by kernel_rfl) (by kernel_rfl) (fun _ _ _ h => h) (Or.inl ⟨by rfl, ?hy44⟩) hHeld ?rest44
  case hy44 => (intro w' hSw; (try dsimp only at hSw); go_simp; (try with_reducible rfl))
  try simp only [Act.put, List.setIfInBounds_toArray, List.set_cons_zero, List.set_cons_succ, List.getElem_toArray, List.getElem_cons_zero, List.getElem_cons_succ]
  refine wpAnyH_take (i := 44) (v := ?v45) rfl (by kernel_rfl) (by kernel_rfl) (by kernel_rfl) (fun _ _ _ h => h) (Or.inl ⟨by rfl, ?hy45⟩) hHeld ?rest45
  case hy45 => (intro w' hSw; (try dsimp only at hSw); go_simp; (try with_reducible rfl))
  try simp only [Act.put, List.setIfInBounds_toArray, List.set_cons_zero, List.set_cons_succ, List.getElem_toArray, List.getElem_cons_zero, List.getElem_cons_succ]
  refine wpAnyH_done (by kernel_rfl) ?_ _
  go_wp2_with fail
  go_ret
  exact ⟨rfl, M12.below⟩
theorem tells_any (s f g d : Int) : Ans 3 #[nv s f g, .int .i64 d] (.bool true) :=
  tells_go s f g d _ _ _ _ _ (ncheck_any s f g) (ref13Check_any s f g) (npower_any s f g d) (ref13Power_any s f g d) (nweight_any s f g d) (ref13Weight_any s f g d) (far_any s f g d) (ref13Far_any s f g d) (nlog_any s f g d) (ref13Log_any s f g d) works13_any
end Go.Proofs.Ytolneillcdaibaa
