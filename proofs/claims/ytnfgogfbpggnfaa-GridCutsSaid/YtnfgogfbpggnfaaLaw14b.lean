/-
  GridSpreads: the walk.
-/
import Derived.Test.YtnfgogfbpggnfaaLaw14m
import Derived.Test.YtnfgogfbpggnfaaGridF
import Derived.Test.YtnfgogfbpggnfaaGridRA
import Derived.Test.YtnfgogfbpggnfaaGridRC
import Derived.Test.YtnfgogfbpggnfaaGridK
set_option linter.unusedVariables false
set_option linter.unusedSimpArgs false
namespace Go.Proofs.Ytnfgogfbpggnfaa
open Go Go.RowKit Go.Th Go.Th.Grid Go.Th.Wide

set_option maxRecDepth 100000 in
set_option maxHeartbeats 6400000 in
theorem spreads_go (p q st x y S n k capl : Nat) (al : Option Addr) (z G A : List Int) (Q c SG SA Dl : Int) (hk : ¬ ((100 : Int) < (k : Int))) (hn : n ≤ 64) (hAl : A.length = n) (hA : ∀ i, i < n → 0 ≤ A.getD i 0) (hD : SG - SA = Dl) (hD0 : 0 ≤ Dl ∧ Dl ≤ 2 * (n : Int))
    (CM : ∀ w, Sl w 1 (.slice al k capl) k (u16s z) → Calls Try.prog 16 #[.int .u8 p, .int .u8 q, .slice al k capl, .int .u8 3] w fun e w' => ∃ a cap, e = .returned (gv x y 1000 (-1000) S (.slice a n cap)) ∧ Sl w' 1 (.slice a n cap) n (i64s G) ∧ Below w.heap.size w w')
    (CA : ∀ a cap w, Sl w 1 (.slice a n cap) n (i64s G) → Calls Try.prog 17 #[gv x y 1000 (-1000) S (.slice a n cap), .int .i64 Q] w (GSaid x y 1000 (-1000) S n A c w))
    (CB : ∀ a cap w, Sl w 1 (.slice a n cap) n (i64s G) → Calls Try.prog 18 #[gv x y 1000 (-1000) S (.slice a n cap), .int .i64 Q] w (GSaid x y 1000 (-1000) S n A c w))
    (CS : ∀ a ca b cb w, Sl w 1 (.slice a n ca) n (i64s A) → Sl w 1 (.slice b n cb) n (i64s A) → Calls Try.prog 13 #[gv x y 1000 (-1000) S (.slice a n ca), gv x y 1000 (-1000) S (.slice b n cb)] w fun e w' => e = .returned (.bool true) ∧ Below w.heap.size w w')
    (T1 : ∀ a cap w, Sl w 1 (.slice a n cap) n (i64s G) → Calls Try.prog 19 #[.slice a n cap] w fun e w' => e = .returned (.int .i64 SG) ∧ w = w')
    (T2 : ∀ a cap w, Sl w 1 (.slice a n cap) n (i64s A) → Calls Try.prog 19 #[.slice a n cap] w fun e w' => e = .returned (.int .i64 SA) ∧ w = w')
    (C0 : Ans 8 #[] (.bool true)) (w : World) (hT : Sl w 1 (.slice al k capl) k (u16s z)) :
    Calls Try.prog 4 #[.int .u8 p, .int .u8 q, .slice al k capl, .int .i64 Q] w fun e w' => e = .returned (.bool true) ∧ Below w.heap.size w w' := by
  have M0 := Mem.start w
  have hmy := hT.max
  have bcc : (c != c) = false := by simp
  have wD : IntKind.i64.wrap Dl = Dl := IntWalk.i64_in _ (by omega)
  obtain ⟨hD1, hD2⟩ := hD0
  have CM := Lib.hid CM
  have CA := Lib.hid CA
  have CB := Lib.hid CB
  have CS := Lib.hid CS
  have T1 := Lib.hid T1
  have T2 := Lib.hid T2
  have C0 := Lib.hid C0
  have hT := Lib.hid hT
  have hA := Lib.hid hA
  have hAl := Lib.hid hAl
  go_enter Try.func4, Try.ntmps4
  go_wp2_with fail
  refine (CM.out _ hT.out).mono ?_
  rintro e w1 ⟨a1, cap1, rfl, s1, hA⟩
  have M1 := M0.call hA
  clear M0
  have R1 := Lib.hid s1
  clear s1
  clear hA
  obtain ⟨w2, hw2⟩ : ∃ wq, w1.alloc (.cells #[.int .i64 x, .int .i64 y, .int .i64 1000, .int .i64 (-1000), .int .i64 S, .slice a1 n cap1] 24) = wq := ⟨_, rfl⟩
  have M2 := M1.alloc 24 [.int .i64 x, .int .i64 y, .int .i64 1000, .int .i64 (-1000), .int .i64 S, .slice a1 n cap1]
  rw [show w1.alloc (.cells [Value.int .i64 x, .int .i64 y, .int .i64 1000, .int .i64 (-1000), .int .i64 S, .slice a1 n cap1].toArray 24) = w2 from hw2] at M2
  have hA : Below w1.heap.size w1 w2 := by rw [← hw2]; exact (Below.refl _ _).alloc (Nat.le_refl _) _
  replace R1 := Lib.hid (R1.out.below hA)
  have HW2 := Lib.hid hw2
  clear hw2 hA M1
  go_upto_region 4 with fail
  rw [HW2.out]
  clear HW2
  obtain ⟨gG, hgG⟩ : ∃ g9, g9 = w1.heap.size := ⟨_, rfl⟩
  rw [← hgG] at M2 ⊢
  clear hgG
  have c_gG_0 := M2.cell (Has.head _ _ _ _) (i := 0) rfl
  have c_gG_1 := M2.cell (Has.head _ _ _ _) (i := 1) rfl
  have c_gG_2 := M2.cell (Has.head _ _ _ _) (i := 2) rfl
  have c_gG_3 := M2.cell (Has.head _ _ _ _) (i := 3) rfl
  have c_gG_4 := M2.cell (Has.head _ _ _ _) (i := 4) rfl
  have c_gG_5 := M2.cell (Has.head _ _ _ _) (i := 5) rfl
  go_wp2_with fail
  refine (CA.out _ _ _ R1.out).mono ?_
  rintro e w3 ⟨a2, cap2, rfl, s2, hA⟩
  have M3 := M2.call hA
  clear c_gG_0 c_gG_1 c_gG_2 c_gG_3 c_gG_4 c_gG_5
  clear M2
  replace R1 := Lib.hid (R1.out.below hA)
  have R2 := Lib.hid s2
  clear s2
  clear hA
  obtain ⟨w4, hw4⟩ : ∃ wq, w3.alloc (.cells #[.int .i64 x, .int .i64 y, .int .i64 1000, .int .i64 (-1000), .int .i64 S, .slice a2 n cap2] 24) = wq := ⟨_, rfl⟩
  have M4 := M3.alloc 24 [.int .i64 x, .int .i64 y, .int .i64 1000, .int .i64 (-1000), .int .i64 S, .slice a2 n cap2]
  rw [show w3.alloc (.cells [Value.int .i64 x, .int .i64 y, .int .i64 1000, .int .i64 (-1000), .int .i64 S, .slice a2 n cap2].toArray 24) = w4 from hw4] at M4
  have hA : Below w3.heap.size w3 w4 := by rw [← hw4]; exact (Below.refl _ _).alloc (Nat.le_refl _) _
  replace R1 := Lib.hid (R1.out.below hA)
  replace R2 := Lib.hid (R2.out.below hA)
  have HW4 := Lib.hid hw4
  clear hw4 hA M3
  go_upto_region 5 with fail
  rw [HW4.out]
  clear HW4
  obtain ⟨gA, hgA⟩ : ∃ g9, g9 = w3.heap.size := ⟨_, rfl⟩
  rw [← hgA] at M4 ⊢
  clear hgA
  have c_gG_0 := M4.cell (.tail _ _ _ _ _ (Has.head _ _ _ _)) (i := 0) rfl
  have c_gG_1 := M4.cell (.tail _ _ _ _ _ (Has.head _ _ _ _)) (i := 1) rfl
  have c_gG_2 := M4.cell (.tail _ _ _ _ _ (Has.head _ _ _ _)) (i := 2) rfl
  have c_gG_3 := M4.cell (.tail _ _ _ _ _ (Has.head _ _ _ _)) (i := 3) rfl
  have c_gG_4 := M4.cell (.tail _ _ _ _ _ (Has.head _ _ _ _)) (i := 4) rfl
  have c_gG_5 := M4.cell (.tail _ _ _ _ _ (Has.head _ _ _ _)) (i := 5) rfl
  go_wp2_with fail
  refine (CB.out _ _ _ R1.out).mono ?_
  rintro e w5 ⟨a3, cap3, rfl, s3, hA⟩
  have M5 := M4.call hA
  clear c_gG_0 c_gG_1 c_gG_2 c_gG_3 c_gG_4 c_gG_5
  clear M4
  replace R1 := Lib.hid (R1.out.below hA)
  replace R2 := Lib.hid (R2.out.below hA)
  have R3 := Lib.hid s3
  clear s3
  clear hA
  obtain ⟨w6, hw6⟩ : ∃ wq, w5.alloc (.cells #[.int .i64 x, .int .i64 y, .int .i64 1000, .int .i64 (-1000), .int .i64 S, .slice a3 n cap3] 24) = wq := ⟨_, rfl⟩
  have M6 := M5.alloc 24 [.int .i64 x, .int .i64 y, .int .i64 1000, .int .i64 (-1000), .int .i64 S, .slice a3 n cap3]
  rw [show w5.alloc (.cells [Value.int .i64 x, .int .i64 y, .int .i64 1000, .int .i64 (-1000), .int .i64 S, .slice a3 n cap3].toArray 24) = w6 from hw6] at M6
  have hA : Below w5.heap.size w5 w6 := by rw [← hw6]; exact (Below.refl _ _).alloc (Nat.le_refl _) _
  replace R1 := Lib.hid (R1.out.below hA)
  replace R2 := Lib.hid (R2.out.below hA)
  replace R3 := Lib.hid (R3.out.below hA)
  have HW6 := Lib.hid hw6
  clear hw6 hA M5
  go_upto_region 6 with fail
  rw [HW6.out]
  clear HW6
  obtain ⟨gR, hgR⟩ : ∃ g9, g9 = w5.heap.size := ⟨_, rfl⟩
  rw [← hgR] at M6 ⊢
  clear hgR
  have c_gA_0 := M6.cell (.tail _ _ _ _ _ (Has.head _ _ _ _)) (i := 0) rfl
  have c_gA_1 := M6.cell (.tail _ _ _ _ _ (Has.head _ _ _ _)) (i := 1) rfl
  have c_gA_2 := M6.cell (.tail _ _ _ _ _ (Has.head _ _ _ _)) (i := 2) rfl
  have c_gA_3 := M6.cell (.tail _ _ _ _ _ (Has.head _ _ _ _)) (i := 3) rfl
  have c_gA_4 := M6.cell (.tail _ _ _ _ _ (Has.head _ _ _ _)) (i := 4) rfl
  have c_gA_5 := M6.cell (.tail _ _ _ _ _ (Has.head _ _ _ _)) (i := 5) rfl
  have c_gR_0 := M6.cell (Has.head _ _ _ _) (i := 0) rfl
  have c_gR_1 := M6.cell (Has.head _ _ _ _) (i := 1) rfl
  have c_gR_2 := M6.cell (Has.head _ _ _ _) (i := 2) rfl
  have c_gR_3 := M6.cell (Has.head _ _ _ _) (i := 3) rfl
  have c_gR_4 := M6.cell (Has.head _ _ _ _) (i := 4) rfl
  have c_gR_5 := M6.cell (Has.head _ _ _ _) (i := 5) rfl
  go_wp2_with fail
  refine (CS.out _ _ _ _ _ R2.out R3.out).mono ?_
  rintro e w7 ⟨rfl, hA⟩
  have M7 := M6.call hA
  clear c_gA_0 c_gA_1 c_gA_2 c_gA_3 c_gA_4 c_gA_5 c_gR_0 c_gR_1 c_gR_2 c_gR_3 c_gR_4 c_gR_5
  clear M6
  replace R1 := Lib.hid (R1.out.below hA)
  replace R2 := Lib.hid (R2.out.below hA)
  replace R3 := Lib.hid (R3.out.below hA)
  clear hA
  have d1 := M7.cell (.tail _ _ _ _ _ (.tail _ _ _ _ _ (Has.head _ _ _ _))) (i := 5) rfl
  have d2 := M7.cell (.tail _ _ _ _ _ (Has.head _ _ _ _)) (i := 5) rfl
  go_wp2_with fail
  refine wp_region_held_drew (S := (fun w' : World => w'.cell? ⟨gG, 5, none⟩ = some (.slice a1 n cap1) ∧ w'.cell? ⟨gA, 5, none⟩ = some (.slice a2 n cap2))) (by kernel_rfl) (⟨d1, d2⟩) (fun hHeld => ?_)
  refine wpAnyH_take (i := 0) (v := ?v1) rfl (by kernel_rfl) (by kernel_rfl) (by kernel_rfl) (fun _ _ _ h => h) (Or.inl ⟨by rfl, ?hy1⟩) hHeld ?rest1
  case hy1 => (intro w' hSw; (try dsimp only at hSw); go_simp; (try with_reducible rfl))
  try simp only [Act.put, List.setIfInBounds_toArray, List.set_cons_zero, List.set_cons_succ, List.getElem_toArray, List.getElem_cons_zero, List.getElem_cons_succ]
  refine wpAnyH_take (i := 1) (v := ?v2) rfl (by kernel_rfl) (by kernel_rfl) (by kernel_rfl) (fun _ _ _ h => h) (Or.inl ⟨by rfl, ?hy2⟩) hHeld ?rest2
  case hy2 => (intro w' hSw; (try dsimp only at hSw); go_simp; (try with_reducible rfl))
  try simp only [Act.put, List.setIfInBounds_toArray, List.set_cons_zero, List.set_cons_succ, List.getElem_toArray, List.getElem_cons_zero, List.getElem_cons_succ]
  refine wpAnyH_take (i := 3) (v := ?v3) rfl (by kernel_rfl) (by kernel_rfl) (by kernel_rfl) (fun _ _ _ h => h) (Or.inl ⟨by rfl, ?hy3⟩) hHeld ?rest3
  case hy3 => (intro w' hSw; (try dsimp only at hSw); go_simp; (try with_reducible rfl))
  try simp only [Act.put, List.setIfInBounds_toArray, List.set_cons_zero, List.set_cons_succ, List.getElem_toArray, List.getElem_cons_zero, List.getElem_cons_succ]
  refine wpAnyH_take (i := 4) (v := ?v4) rfl (by kernel_rfl) (by kernel_rfl) (by kernel_rfl) (fun _ _ _ h => h) (Or.inl ⟨by rfl, ?hy4⟩) hHeld ?rest4
  case hy4 => (intro w' hSw; (try dsimp only at hSw); go_simp; (try with_reducible rfl))
  try simp only [Act.put, List.setIfInBounds_toArray, List.set_cons_zero, List.set_cons_succ, List.getElem_toArray, List.getElem_cons_zero, List.getElem_cons_succ]
  refine wpAnyH_ready (rs := [2]) (by kernel_rfl) (by simp) ?_
  refine AllReadyH.cons rfl (fun K hK => ?_) AllReadyH.nil
  go_simp
  refine (T1.out _ _ _ (R1.out.below (Below.refl _ _).drew)).mono ?_
  rintro e wx ⟨rfl, rfl⟩
  try go_wp2_with fail
  refine hK.out _ _ (⟨d1, d2⟩) (fun hHeld => ?_)
  clear hK K
  try simp only [Act.put, List.setIfInBounds_toArray, List.set_cons_zero, List.set_cons_succ, List.getElem_toArray, List.getElem_cons_zero, List.getElem_cons_succ]
  refine wpAnyH_ready (rs := [5]) (by kernel_rfl) (by simp) ?_
  refine AllReadyH.cons rfl (fun K hK => ?_) AllReadyH.nil
  go_simp
  refine (T2.out _ _ _ (R2.out.below (Below.refl _ _).drew)).mono ?_
  rintro e wx ⟨rfl, rfl⟩
  try go_wp2_with fail
  refine hK.out _ _ (⟨d1, d2⟩) (fun hHeld => ?_)
  clear hK K
  try simp only [Act.put, List.setIfInBounds_toArray, List.set_cons_zero, List.set_cons_succ, List.getElem_toArray, List.getElem_cons_zero, List.getElem_cons_succ]
  refine wpAnyH_take (i := 6) (v := ?v7) rfl (by kernel_rfl) (by kernel_rfl) (by kernel_rfl) (fun _ _ _ h => h) (Or.inl ⟨by rfl, ?hy7⟩) hHeld ?rest7
  case hy7 => (intro w' hSw; (try dsimp only at hSw); go_simp; (try with_reducible rfl))
  try simp only [Act.put, List.setIfInBounds_toArray, List.set_cons_zero, List.set_cons_succ, List.getElem_toArray, List.getElem_cons_zero, List.getElem_cons_succ]
  refine wpAnyH_take (i := 7) (v := ?v8) rfl (by kernel_rfl) (by kernel_rfl) (by kernel_rfl) (fun _ _ _ h => h) (Or.inl ⟨by rfl, ?hy8⟩) hHeld ?rest8
  case hy8 => (intro w' hSw; (try dsimp only at hSw); go_simp; (try with_reducible rfl))
  try simp only [Act.put, List.setIfInBounds_toArray, List.set_cons_zero, List.set_cons_succ, List.getElem_toArray, List.getElem_cons_zero, List.getElem_cons_succ]
  refine wpAnyH_done (by kernel_rfl) ?_ _
  have Md := M7.drew
  have R2 := Lib.hid (R2.out.below ((Below.refl _ _).drew : Below w7.heap.size w7 w7.drew))
  obtain ⟨wl, hwl⟩ : ∃ wl, wl = w7.drew := ⟨_, rfl⟩
  rw [← hwl] at Md R2 ⊢
  clear hwl d1 d2 M7
  go_wp2_with fail
  go_loopw [15] (fun c9 wx => ∃ i : Nat, i ≤ n ∧ c9 = .int .i64 i ∧ wx = wl) (fun c9 _ => n - (intOf c9).toNat)
  case atStart => exact ⟨0, Nat.zero_le _, rfl, rfl⟩
  case round =>
    obtain ⟨i, hi, rfl, rfl⟩ := hrel
    have d2 := Md.cell (.tail _ _ _ _ _ (Has.head _ _ _ _)) (i := 5) rfl
    by_cases hlt : i < n
    · obtain ⟨b, o, rfl, _, cu⟩ := cell64 R2.out i (by rw [hAl.out]; exact hlt)
      have hu0 := hA.out i hlt
      obtain ⟨u, hu⟩ : ∃ u, u = A.getD i 0 := ⟨_, rfl⟩
      rw [← hu] at cu hu0
      clear hu
      go_wp2_with fail
      go_roundw
      case rel => exact ⟨i + 1, by omega, by go_num, by first | rfl | trivial⟩
      case measure => simp [intOf]; omega
    · obtain rfl : n = i := by omega
      have d1 := Md.cell (.tail _ _ _ _ _ (.tail _ _ _ _ _ (Has.head _ _ _ _))) (i := 5) rfl
      go_wp2_with fail
      refine (C0.out _).mono ?_
      rintro e w9 ⟨rfl, hA9⟩
      go_wp2_with fail
      go_ret
      exact ⟨rfl, (Md.call hA9).below⟩
end Go.Proofs.Ytnfgogfbpggnfaa
