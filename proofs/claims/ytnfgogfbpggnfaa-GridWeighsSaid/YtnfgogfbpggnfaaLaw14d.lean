/-
  GridBack: the walk.
-/
import Derived.Test.YtnfgogfbpggnfaaLaw14m
import Derived.Test.YtnfgogfbpggnfaaGridH
import Derived.Test.YtnfgogfbpggnfaaGridI
import Derived.Test.YtnfgogfbpggnfaaGridK
import Derived.Test.YtnfgogfbpggnfaaGridJ
set_option linter.unusedVariables false
set_option linter.unusedSimpArgs false
namespace Go.Proofs.Ytnfgogfbpggnfaa
open Go Go.RowKit Go.Th Go.Th.Grid Go.Th.Wide

set_option maxRecDepth 100000 in
set_option maxHeartbeats 6400000 in
theorem back_no (p q st x y S n k capl : Nat) (al : Option Addr) (z G : List Int) (hk : ¬ ((100 : Int) < (k : Int))) (CM : ∀ w, Sl w 1 (.slice al k capl) k (u16s z) → Calls Try.prog 16 #[.int .u8 p, .int .u8 q, .slice al k capl, .int .u8 st] w fun e w' => ∃ a cap, e = .returned (gv x y 1000 (-1000) S (.slice a n cap)) ∧ Sl w' 1 (.slice a n cap) n (i64s G) ∧ Below w.heap.size w w') (hS : (S : Int) < 32) (CA : ∀ a cap w, Sl w 1 (.slice a n cap) n (i64s G) → Calls Try.prog 27 #[gv x y 1000 (-1000) S (.slice a n cap)] w (GSaid x y 1000 (-1000) S n G 12 w)) (C0 : Ans 8 #[] (.bool true)) (w : World) (hT : Sl w 1 (.slice al k capl) k (u16s z)) :
    Calls Try.prog 7 #[.int .u8 p, .int .u8 q, .slice al k capl, .int .u8 st] w fun e w' => e = .returned (.bool true) ∧ Below w.heap.size w w' := by
  have M0 := Mem.start w
  have hmy := hT.max
  have CM := Lib.hid CM
  have CA := Lib.hid CA
  have C0 := Lib.hid C0
  have hT := Lib.hid hT
  go_enter Try.func7, Try.ntmps7
  go_wp2_with fail
  refine (CM.out _ hT.out).mono ?_
  rintro e w1 ⟨a1, cap1, rfl, s1, hA⟩
  have M1 := M0.call hA
  clear M0
  have R1 := Lib.hid s1
  clear s1
  clear hA
  obtain ⟨w2, hw2⟩ : ∃ wq, w1.alloc (.cells #[.int .i64 x, .int .i64 y, .int .i64 1000, .int .i64 (-1000), .int .i64 S, .slice a1 n cap1] 24) = wq := ⟨_, rfl⟩
  have M2 := M1.alloc 24 [.int .i64 x, .int .i64 y, .int .i64 1000, .int .i64 (-1000), .int .i64 S, .slice a1 n cap1]
  rw [show w1.alloc (.cells [Value.int .i64 x, .int .i64 y, .int .i64 1000, .int .i64 (-1000), .int .i64 S, .slice a1 n cap1].toArray 24) = w2 from hw2] at M2
  have hA : Below w1.heap.size w1 w2 := by rw [← hw2]; exact (Below.refl _ _).alloc (Nat.le_refl _) _
  replace R1 := Lib.hid (R1.out.below hA)
  have HW2 := Lib.hid hw2
  clear hw2 hA M1
  go_upto_region 4 with fail
  rw [HW2.out]
  clear HW2
  obtain ⟨gG, hgG⟩ : ∃ g9, g9 = w1.heap.size := ⟨_, rfl⟩
  rw [← hgG] at M2 ⊢
  clear hgG
  have c_gG_0 := M2.cell (Has.head _ _ _ _) (i := 0) rfl
  have c_gG_1 := M2.cell (Has.head _ _ _ _) (i := 1) rfl
  have c_gG_2 := M2.cell (Has.head _ _ _ _) (i := 2) rfl
  have c_gG_3 := M2.cell (Has.head _ _ _ _) (i := 3) rfl
  have c_gG_4 := M2.cell (Has.head _ _ _ _) (i := 4) rfl
  have c_gG_5 := M2.cell (Has.head _ _ _ _) (i := 5) rfl
  go_wp2_with fail
  refine (CA.out _ _ _ R1.out).mono ?_
  rintro e w3 ⟨a2, cap2, rfl, s2, hA⟩
  have M3 := M2.call hA
  clear c_gG_0 c_gG_1 c_gG_2 c_gG_3 c_gG_4 c_gG_5
  clear M2
  replace R1 := Lib.hid (R1.out.below hA)
  have R2 := Lib.hid s2
  clear s2
  clear hA
  obtain ⟨w4, hw4⟩ : ∃ wq, w3.alloc (.cells #[.int .i64 x, .int .i64 y, .int .i64 1000, .int .i64 (-1000), .int .i64 S, .slice a2 n cap2] 24) = wq := ⟨_, rfl⟩
  have M4 := M3.alloc 24 [.int .i64 x, .int .i64 y, .int .i64 1000, .int .i64 (-1000), .int .i64 S, .slice a2 n cap2]
  rw [show w3.alloc (.cells [Value.int .i64 x, .int .i64 y, .int .i64 1000, .int .i64 (-1000), .int .i64 S, .slice a2 n cap2].toArray 24) = w4 from hw4] at M4
  have hA : Below w3.heap.size w3 w4 := by rw [← hw4]; exact (Below.refl _ _).alloc (Nat.le_refl _) _
  replace R1 := Lib.hid (R1.out.below hA)
  replace R2 := Lib.hid (R2.out.below hA)
  have HW4 := Lib.hid hw4
  clear hw4 hA M3
  go_upto_region 5 with fail
  rw [HW4.out]
  clear HW4
  obtain ⟨gA, hgA⟩ : ∃ g9, g9 = w3.heap.size := ⟨_, rfl⟩
  rw [← hgA] at M4 ⊢
  clear hgA
  have c_gG_0 := M4.cell (.tail _ _ _ _ _ (Has.head _ _ _ _)) (i := 0) rfl
  have c_gG_1 := M4.cell (.tail _ _ _ _ _ (Has.head _ _ _ _)) (i := 1) rfl
  have c_gG_2 := M4.cell (.tail _ _ _ _ _ (Has.head _ _ _ _)) (i := 2) rfl
  have c_gG_3 := M4.cell (.tail _ _ _ _ _ (Has.head _ _ _ _)) (i := 3) rfl
  have c_gG_4 := M4.cell (.tail _ _ _ _ _ (Has.head _ _ _ _)) (i := 4) rfl
  have c_gG_5 := M4.cell (.tail _ _ _ _ _ (Has.head _ _ _ _)) (i := 5) rfl
  go_wp2_with fail
  refine (C0.out _).mono ?_
  rintro e w5 ⟨rfl, hA⟩
  have M5 := M4.call hA
  clear c_gG_0 c_gG_1 c_gG_2 c_gG_3 c_gG_4 c_gG_5
  clear M4
  replace R1 := Lib.hid (R1.out.below hA)
  replace R2 := Lib.hid (R2.out.below hA)
  clear hA
  go_wp2_with fail
  go_ret
  exact ⟨rfl, M5.below⟩

set_option maxRecDepth 100000 in
set_option maxHeartbeats 6400000 in
theorem back_yes (p q st x y S n m k capl : Nat) (al : Option Addr) (z G : List Int) (hk : ¬ ((100 : Int) < (k : Int))) (CM : ∀ w, Sl w 1 (.slice al k capl) k (u16s z) → Calls Try.prog 16 #[.int .u8 p, .int .u8 q, .slice al k capl, .int .u8 st] w fun e w' => ∃ a cap, e = .returned (gv x y 1000 (-1000) S (.slice a n cap)) ∧ Sl w' 1 (.slice a n cap) n (i64s G) ∧ Below w.heap.size w w') (W2 H2 NX NY D2 SA : Int) (A B : List Int) (hn : n ≤ 64) (hGl : G.length = n) (hBl : B.length = n) (hd : ∀ i, i < n → ∃ u v d : Int, G.getD i 0 = u ∧ B.getD i 0 = v ∧ u - v = d ∧ 0 ≤ d ∧ d ≤ 3)
    (CA : ∀ a cap w, Sl w 1 (.slice a n cap) n (i64s G) → Calls Try.prog 27 #[gv x y 1000 (-1000) S (.slice a n cap)] w (GSaid W2 H2 NX NY D2 m A 0 w))
    (CB : ∀ a cap w, Sl w 1 (.slice a m cap) m (i64s A) → Calls Try.prog 29 #[gv W2 H2 NX NY D2 (.slice a m cap)] w (GSaid x y 1000 (-1000) S n B 0 w))
    (T1 : ∀ a cap w, Sl w 1 (.slice a m cap) m (i64s A) → Calls Try.prog 19 #[.slice a m cap] w fun e w' => e = .returned (.int .i64 SA) ∧ w = w')
    (T2 : ∀ a cap w, Sl w 1 (.slice a n cap) n (i64s B) → Calls Try.prog 19 #[.slice a n cap] w fun e w' => e = .returned (.int .i64 SA) ∧ w = w')
    (C0 : Ans 8 #[] (.bool true)) (w : World) (hT : Sl w 1 (.slice al k capl) k (u16s z)) :
    Calls Try.prog 7 #[.int .u8 p, .int .u8 q, .slice al k capl, .int .u8 st] w fun e w' => e = .returned (.bool true) ∧ Below w.heap.size w w' := by
  have M0 := Mem.start w
  have hmy := hT.max
  have CM := Lib.hid CM
  have CA := Lib.hid CA
  have CB := Lib.hid CB
  have T1 := Lib.hid T1
  have T2 := Lib.hid T2
  have hd := Lib.hid hd
  have hGl := Lib.hid hGl
  have hBl := Lib.hid hBl
  have C0 := Lib.hid C0
  have hT := Lib.hid hT
  have b1 : ((1000 : Int) != 1000) = false := rfl
  have b2 : ((-1000 : Int) != -1000) = false := rfl
  have b3 : ((S : Int) != (S : Int)) = false := by simp
  have b4 : ((n : Int) != (n : Int)) = false := by simp
  have b5 : (SA != SA) = false := by simp
  go_enter Try.func7, Try.ntmps7
  go_wp2_with fail
  refine (CM.out _ hT.out).mono ?_
  rintro e w1 ⟨a1, cap1, rfl, s1, hA⟩
  have M1 := M0.call hA
  clear M0
  have R1 := Lib.hid s1
  clear s1
  clear hA
  obtain ⟨w2, hw2⟩ : ∃ wq, w1.alloc (.cells #[.int .i64 x, .int .i64 y, .int .i64 1000, .int .i64 (-1000), .int .i64 S, .slice a1 n cap1] 24) = wq := ⟨_, rfl⟩
  have M2 := M1.alloc 24 [.int .i64 x, .int .i64 y, .int .i64 1000, .int .i64 (-1000), .int .i64 S, .slice a1 n cap1]
  rw [show w1.alloc (.cells [Value.int .i64 x, .int .i64 y, .int .i64 1000, .int .i64 (-1000), .int .i64 S, .slice a1 n cap1].toArray 24) = w2 from hw2] at M2
  have hA : Below w1.heap.size w1 w2 := by rw [← hw2]; exact (Below.refl _ _).alloc (Nat.le_refl _) _
  replace R1 := Lib.hid (R1.out.below hA)
  have HW2 := Lib.hid hw2
  clear hw2 hA M1
  go_upto_region 4 with fail
  rw [HW2.out]
  clear HW2
  obtain ⟨gG, hgG⟩ : ∃ g9, g9 = w1.heap.size := ⟨_, rfl⟩
  rw [← hgG] at M2 ⊢
  clear hgG
  have c_gG_0 := M2.cell (Has.head _ _ _ _) (i := 0) rfl
  have c_gG_1 := M2.cell (Has.head _ _ _ _) (i := 1) rfl
  have c_gG_2 := M2.cell (Has.head _ _ _ _) (i := 2) rfl
  have c_gG_3 := M2.cell (Has.head _ _ _ _) (i := 3) rfl
  have c_gG_4 := M2.cell (Has.head _ _ _ _) (i := 4) rfl
  have c_gG_5 := M2.cell (Has.head _ _ _ _) (i := 5) rfl
  go_wp2_with fail
  refine (CA.out _ _ _ R1.out).mono ?_
  rintro e w3 ⟨a2, cap2, rfl, s2, hA⟩
  have M3 := M2.call hA
  clear c_gG_0 c_gG_1 c_gG_2 c_gG_3 c_gG_4 c_gG_5
  clear M2
  replace R1 := Lib.hid (R1.out.below hA)
  have R2 := Lib.hid s2
  clear s2
  clear hA
  obtain ⟨w4, hw4⟩ : ∃ wq, w3.alloc (.cells #[.int .i64 W2, .int .i64 H2, .int .i64 NX, .int .i64 NY, .int .i64 D2, .slice a2 m cap2] 24) = wq := ⟨_, rfl⟩
  have M4 := M3.alloc 24 [.int .i64 W2, .int .i64 H2, .int .i64 NX, .int .i64 NY, .int .i64 D2, .slice a2 m cap2]
  rw [show w3.alloc (.cells [Value.int .i64 W2, .int .i64 H2, .int .i64 NX, .int .i64 NY, .int .i64 D2, .slice a2 m cap2].toArray 24) = w4 from hw4] at M4
  have hA : Below w3.heap.size w3 w4 := by rw [← hw4]; exact (Below.refl _ _).alloc (Nat.le_refl _) _
  replace R1 := Lib.hid (R1.out.below hA)
  replace R2 := Lib.hid (R2.out.below hA)
  have HW4 := Lib.hid hw4
  clear hw4 hA M3
  go_upto_region 5 with fail
  rw [HW4.out]
  clear HW4
  obtain ⟨gA, hgA⟩ : ∃ g9, g9 = w3.heap.size := ⟨_, rfl⟩
  rw [← hgA] at M4 ⊢
  clear hgA
  have c_gA_0 := M4.cell (Has.head _ _ _ _) (i := 0) rfl
  have c_gA_1 := M4.cell (Has.head _ _ _ _) (i := 1) rfl
  have c_gA_2 := M4.cell (Has.head _ _ _ _) (i := 2) rfl
  have c_gA_3 := M4.cell (Has.head _ _ _ _) (i := 3) rfl
  have c_gA_4 := M4.cell (Has.head _ _ _ _) (i := 4) rfl
  have c_gA_5 := M4.cell (Has.head _ _ _ _) (i := 5) rfl
  go_wp2_with fail
  refine (CB.out _ _ _ R2.out).mono ?_
  rintro e w5 ⟨a3, cap3, rfl, s3, hA⟩
  have M5 := M4.call hA
  clear c_gA_0 c_gA_1 c_gA_2 c_gA_3 c_gA_4 c_gA_5
  clear M4
  replace R1 := Lib.hid (R1.out.below hA)
  replace R2 := Lib.hid (R2.out.below hA)
  have R3 := Lib.hid s3
  clear s3
  clear hA
  obtain ⟨w6, hw6⟩ : ∃ wq, w5.alloc (.cells #[.int .i64 x, .int .i64 y, .int .i64 1000, .int .i64 (-1000), .int .i64 S, .slice a3 n cap3] 24) = wq := ⟨_, rfl⟩
  have M6 := M5.alloc 24 [.int .i64 x, .int .i64 y, .int .i64 1000, .int .i64 (-1000), .int .i64 S, .slice a3 n cap3]
  rw [show w5.alloc (.cells [Value.int .i64 x, .int .i64 y, .int .i64 1000, .int .i64 (-1000), .int .i64 S, .slice a3 n cap3].toArray 24) = w6 from hw6] at M6
  have hA : Below w5.heap.size w5 w6 := by rw [← hw6]; exact (Below.refl _ _).alloc (Nat.le_refl _) _
  replace R1 := Lib.hid (R1.out.below hA)
  replace R2 := Lib.hid (R2.out.below hA)
  replace R3 := Lib.hid (R3.out.below hA)
  have HW6 := Lib.hid hw6
  clear hw6 hA M5
  go_upto_region 8 with fail
  rw [HW6.out]
  clear HW6
  obtain ⟨gB9, hgB9⟩ : ∃ g9, g9 = w5.heap.size := ⟨_, rfl⟩
  rw [← hgB9] at M6 ⊢
  clear hgB9
  have f_gG_2 := M6.cell (.tail _ _ _ _ _ (.tail _ _ _ _ _ (Has.head _ _ _ _))) (i := 2) rfl
  have f_gG_3 := M6.cell (.tail _ _ _ _ _ (.tail _ _ _ _ _ (Has.head _ _ _ _))) (i := 3) rfl
  have f_gG_4 := M6.cell (.tail _ _ _ _ _ (.tail _ _ _ _ _ (Has.head _ _ _ _))) (i := 4) rfl
  have f_gG_5 := M6.cell (.tail _ _ _ _ _ (.tail _ _ _ _ _ (Has.head _ _ _ _))) (i := 5) rfl
  have f_gB9_2 := M6.cell (Has.head _ _ _ _) (i := 2) rfl
  have f_gB9_3 := M6.cell (Has.head _ _ _ _) (i := 3) rfl
  have f_gB9_4 := M6.cell (Has.head _ _ _ _) (i := 4) rfl
  have f_gB9_5 := M6.cell (Has.head _ _ _ _) (i := 5) rfl
  have f_gA_5 := M6.cell (.tail _ _ _ _ _ (Has.head _ _ _ _)) (i := 5) rfl
  refine wp_region_held_drew (S := (fun w' : World => w'.cell? ⟨gG, 2, none⟩ = some (.int .i64 1000) ∧ w'.cell? ⟨gG, 3, none⟩ = some (.int .i64 (-1000)) ∧ w'.cell? ⟨gG, 4, none⟩ = some (.int .i64 S) ∧ w'.cell? ⟨gG, 5, none⟩ = some (.slice a1 n cap1) ∧ w'.cell? ⟨gB9, 2, none⟩ = some (.int .i64 1000) ∧ w'.cell? ⟨gB9, 3, none⟩ = some (.int .i64 (-1000)) ∧ w'.cell? ⟨gB9, 4, none⟩ = some (.int .i64 S) ∧ w'.cell? ⟨gB9, 5, none⟩ = some (.slice a3 n cap3) ∧ w'.cell? ⟨gA, 5, none⟩ = some (.slice a2 m cap2))) (by kernel_rfl) (⟨f_gG_2, f_gG_3, f_gG_4, f_gG_5, f_gB9_2, f_gB9_3, f_gB9_4, f_gB9_5, f_gA_5⟩) (fun hHeld => ?_)
  refine wpAnyH_take (i := 0) (v := ?v1) rfl (by kernel_rfl) (by kernel_rfl) (by kernel_rfl) (fun _ _ _ h => h) (Or.inl ⟨by rfl, ?hy1⟩) hHeld ?rest1
  case hy1 => (intro w' hSw; (try dsimp only at hSw); go_simp; (try with_reducible rfl))
  try simp only [Act.put, List.setIfInBounds_toArray, List.set_cons_zero, List.set_cons_succ, List.getElem_toArray, List.getElem_cons_zero, List.getElem_cons_succ]
  refine wpAnyH_take (i := 1) (v := ?v2) rfl (by kernel_rfl) (by kernel_rfl) (by kernel_rfl) (fun _ _ _ h => h) (Or.inl ⟨by rfl, ?hy2⟩) hHeld ?rest2
  case hy2 => (intro w' hSw; (try dsimp only at hSw); go_simp; (try with_reducible rfl))
  try simp only [Act.put, List.setIfInBounds_toArray, List.set_cons_zero, List.set_cons_succ, List.getElem_toArray, List.getElem_cons_zero, List.getElem_cons_succ]
  refine wpAnyH_take (i := 2) (v := ?v3) rfl (by kernel_rfl) (by kernel_rfl) (by kernel_rfl) (fun _ _ _ h => h) (Or.inl ⟨by rfl, ?hy3⟩) hHeld ?rest3
  case hy3 => (intro w' hSw; (try dsimp only at hSw); go_simp; (try with_reducible rfl))
  try simp only [Act.put, List.setIfInBounds_toArray, List.set_cons_zero, List.set_cons_succ, List.getElem_toArray, List.getElem_cons_zero, List.getElem_cons_succ]
  refine wpAnyH_take (i := 3) (v := ?v4) rfl (by kernel_rfl) (by kernel_rfl) (by kernel_rfl) (fun _ _ _ h => h) (Or.inl ⟨by rfl, ?hy4⟩) hHeld ?rest4
  case hy4 => (intro w' hSw; (try dsimp only at hSw); go_simp; (try with_reducible rfl))
  try simp only [Act.put, List.setIfInBounds_toArray, List.set_cons_zero, List.set_cons_succ, List.getElem_toArray, List.getElem_cons_zero, List.getElem_cons_succ]
  refine wpAnyH_take (i := 4) (v := ?v5) rfl (by kernel_rfl) (by kernel_rfl) (by kernel_rfl) (fun _ _ _ h => h) (Or.inl ⟨by rfl, ?hy5⟩) hHeld ?rest5
  case hy5 => (intro w' hSw; (try dsimp only at hSw); go_simp; (try with_reducible rfl))
  try simp only [Act.put, List.setIfInBounds_toArray, List.set_cons_zero, List.set_cons_succ, List.getElem_toArray, List.getElem_cons_zero, List.getElem_cons_succ]
  refine wpAnyH_take (i := 5) (v := ?v6) rfl (by kernel_rfl) (by kernel_rfl) (by kernel_rfl) (fun _ _ _ h => h) (Or.inl ⟨by rfl, ?hy6⟩) hHeld ?rest6
  case hy6 => (intro w' hSw; (try dsimp only at hSw); go_simp; (try with_reducible rfl))
  try simp only [Act.put, List.setIfInBounds_toArray, List.set_cons_zero, List.set_cons_succ, List.getElem_toArray, List.getElem_cons_zero, List.getElem_cons_succ]
  refine wpAnyH_take (i := 6) (v := ?v7) rfl (by kernel_rfl) (by kernel_rfl) (by kernel_rfl) (fun _ _ _ h => h) (Or.inl ⟨by rfl, ?hy7⟩) hHeld ?rest7
  case hy7 => (intro w' hSw; (try dsimp only at hSw); go_simp; (try with_reducible rfl))
  try simp only [Act.put, List.setIfInBounds_toArray, List.set_cons_zero, List.set_cons_succ, List.getElem_toArray, List.getElem_cons_zero, List.getElem_cons_succ]
  refine wpAnyH_take (i := 7) (v := ?v8) rfl (by kernel_rfl) (by kernel_rfl) (by kernel_rfl) (fun _ _ _ h => h) (Or.inl ⟨by rfl, ?hy8⟩) hHeld ?rest8
  case hy8 => (intro w' hSw; (try dsimp only at hSw); go_simp; (try with_reducible rfl))
  try simp only [Act.put, List.setIfInBounds_toArray, List.set_cons_zero, List.set_cons_succ, List.getElem_toArray, List.getElem_cons_zero, List.getElem_cons_succ]
  refine wpAnyH_take (i := 8) (v := ?v9) rfl (by kernel_rfl) (by kernel_rfl) (by kernel_rfl) (fun _ _ _ h => h) (Or.inl ⟨by rfl, ?hy9⟩) hHeld ?rest9
  case hy9 => (intro w' hSw; (try dsimp only at hSw); go_simp; (try with_reducible rfl))
  try simp only [Act.put, List.setIfInBounds_toArray, List.set_cons_zero, List.set_cons_succ, List.getElem_toArray, List.getElem_cons_zero, List.getElem_cons_succ]
  refine wpAnyH_take (i := 9) (v := ?v10) rfl (by kernel_rfl) (by kernel_rfl) (by kernel_rfl) (fun _ _ _ h => h) (Or.inl ⟨by rfl, ?hy10⟩) hHeld ?rest10
  case hy10 => (intro w' hSw; (try dsimp only at hSw); go_simp; (try with_reducible rfl))
  try simp only [Act.put, List.setIfInBounds_toArray, List.set_cons_zero, List.set_cons_succ, List.getElem_toArray, List.getElem_cons_zero, List.getElem_cons_succ]
  refine wpAnyH_take (i := 10) (v := ?v11) rfl (by kernel_rfl) (by kernel_rfl) (by kernel_rfl) (fun _ _ _ h => h) (Or.inl ⟨by rfl, ?hy11⟩) hHeld ?rest11
  case hy11 => (intro w' hSw; (try dsimp only at hSw); go_simp; (try with_reducible rfl))
  try simp only [Act.put, List.setIfInBounds_toArray, List.set_cons_zero, List.set_cons_succ, List.getElem_toArray, List.getElem_cons_zero, List.getElem_cons_succ]
  refine wpAnyH_take (i := 11) (v := ?v12) rfl (by kernel_rfl) (by kernel_rfl) (by kernel_rfl) (fun _ _ _ h => h) (Or.inl ⟨by rfl, ?hy12⟩) hHeld ?rest12
  case hy12 => (intro w' hSw; (try dsimp only at hSw); go_simp; (try with_reducible rfl))
  try simp only [Act.put, List.setIfInBounds_toArray, List.set_cons_zero, List.set_cons_succ, List.getElem_toArray, List.getElem_cons_zero, List.getElem_cons_succ]
  refine wpAnyH_take (i := 12) (v := ?v13) rfl (by kernel_rfl) (by kernel_rfl) (by kernel_rfl) (fun _ _ _ h => h) (Or.inl ⟨by rfl, ?hy13⟩) hHeld ?rest13
  case hy13 => (intro w' hSw; (try dsimp only at hSw); go_simp; (try with_reducible rfl))
  try simp only [Act.put, List.setIfInBounds_toArray, List.set_cons_zero, List.set_cons_succ, List.getElem_toArray, List.getElem_cons_zero, List.getElem_cons_succ]
  refine wpAnyH_take (i := 13) (v := ?v14) rfl (by kernel_rfl) (by kernel_rfl) (by kernel_rfl) (fun _ _ _ h => h) (Or.inl ⟨by rfl, ?hy14⟩) hHeld ?rest14
  case hy14 => (intro w' hSw; (try dsimp only at hSw); go_simp; (try with_reducible rfl))
  try simp only [Act.put, List.setIfInBounds_toArray, List.set_cons_zero, List.set_cons_succ, List.getElem_toArray, List.getElem_cons_zero, List.getElem_cons_succ]
  refine wpAnyH_take (i := 14) (v := ?v15) rfl (by kernel_rfl) (by kernel_rfl) (by kernel_rfl) (fun _ _ _ h => h) (Or.inl ⟨by rfl, ?hy15⟩) hHeld ?rest15
  case hy15 => (intro w' hSw; (try dsimp only at hSw); go_simp; (try with_reducible rfl))
  try simp only [Act.put, List.setIfInBounds_toArray, List.set_cons_zero, List.set_cons_succ, List.getElem_toArray, List.getElem_cons_zero, List.getElem_cons_succ]
  refine wpAnyH_take (i := 15) (v := ?v16) rfl (by kernel_rfl) (by kernel_rfl) (by kernel_rfl) (fun _ _ _ h => h) (Or.inl ⟨by rfl, ?hy16⟩) hHeld ?rest16
  case hy16 => (intro w' hSw; (try dsimp only at hSw); go_simp; (try with_reducible rfl))
  try simp only [Act.put, List.setIfInBounds_toArray, List.set_cons_zero, List.set_cons_succ, List.getElem_toArray, List.getElem_cons_zero, List.getElem_cons_succ]
  refine wpAnyH_take (i := 16) (v := ?v17) rfl (by kernel_rfl) (by kernel_rfl) (by kernel_rfl) (fun _ _ _ h => h) (Or.inl ⟨by rfl, ?hy17⟩) hHeld ?rest17
  case hy17 => (intro w' hSw; (try dsimp only at hSw); go_simp; (try with_reducible rfl))
  try simp only [Act.put, List.setIfInBounds_toArray, List.set_cons_zero, List.set_cons_succ, List.getElem_toArray, List.getElem_cons_zero, List.getElem_cons_succ]
  refine wpAnyH_take (i := 17) (v := ?v18) rfl (by kernel_rfl) (by kernel_rfl) (by kernel_rfl) (fun _ _ _ h => h) (Or.inl ⟨by rfl, ?hy18⟩) hHeld ?rest18
  case hy18 => (intro w' hSw; (try dsimp only at hSw); go_simp; (try with_reducible rfl))
  try simp only [Act.put, List.setIfInBounds_toArray, List.set_cons_zero, List.set_cons_succ, List.getElem_toArray, List.getElem_cons_zero, List.getElem_cons_succ]
  refine wpAnyH_take (i := 18) (v := ?v19) rfl (by kernel_rfl) (by kernel_rfl) (by kernel_rfl) (fun _ _ _ h => h) (Or.inl ⟨by rfl, ?hy19⟩) hHeld ?rest19
  case hy19 => (intro w' hSw; (try dsimp only at hSw); go_simp; (try with_reducible rfl))
  try simp only [Act.put, List.setIfInBounds_toArray, List.set_cons_zero, List.set_cons_succ, List.getElem_toArray, List.getElem_cons_zero, List.getElem_cons_succ]
  refine wpAnyH_take (i := 19) (v := ?v20) rfl (by kernel_rfl) (by kernel_rfl) (by kernel_rfl) (fun _ _ _ h => h) (Or.inl ⟨by rfl, ?hy20⟩) hHeld ?rest20
  case hy20 => (intro w' hSw; (try dsimp only at hSw); go_simp; (try with_reducible rfl))
  try simp only [Act.put, List.setIfInBounds_toArray, List.set_cons_zero, List.set_cons_succ, List.getElem_toArray, List.getElem_cons_zero, List.getElem_cons_succ]
  refine wpAnyH_take (i := 20) (v := ?v21) rfl (by kernel_rfl) (by kernel_rfl) (by kernel_rfl) (fun _ _ _ h => h) (Or.inl ⟨by rfl, ?hy21⟩) hHeld ?rest21
  case hy21 => (intro w' hSw; (try dsimp only at hSw); go_simp; (try with_reducible rfl))
  try simp only [Act.put, List.setIfInBounds_toArray, List.set_cons_zero, List.set_cons_succ, List.getElem_toArray, List.getElem_cons_zero, List.getElem_cons_succ]
  refine wpAnyH_take (i := 21) (v := ?v22) rfl (by kernel_rfl) (by kernel_rfl) (by kernel_rfl) (fun _ _ _ h => h) (Or.inl ⟨by rfl, ?hy22⟩) hHeld ?rest22
  case hy22 => (intro w' hSw; (try dsimp only at hSw); go_simp; (try with_reducible rfl))
  try simp only [Act.put, List.setIfInBounds_toArray, List.set_cons_zero, List.set_cons_succ, List.getElem_toArray, List.getElem_cons_zero, List.getElem_cons_succ]
  refine wpAnyH_take (i := 22) (v := ?v23) rfl (by kernel_rfl) (by kernel_rfl) (by kernel_rfl) (fun _ _ _ h => h) (Or.inl ⟨by rfl, ?hy23⟩) hHeld ?rest23
  case hy23 => (intro w' hSw; (try dsimp only at hSw); go_simp; (try with_reducible rfl))
  try simp only [Act.put, List.setIfInBounds_toArray, List.set_cons_zero, List.set_cons_succ, List.getElem_toArray, List.getElem_cons_zero, List.getElem_cons_succ]
  refine wpAnyH_take (i := 23) (v := ?v24) rfl (by kernel_rfl) (by kernel_rfl) (by kernel_rfl) (fun _ _ _ h => h) (Or.inl ⟨by rfl, ?hy24⟩) hHeld ?rest24
  case hy24 => (intro w' hSw; (try dsimp only at hSw); go_simp; (try with_reducible rfl))
  try simp only [Act.put, List.setIfInBounds_toArray, List.set_cons_zero, List.set_cons_succ, List.getElem_toArray, List.getElem_cons_zero, List.getElem_cons_succ]
  refine wpAnyH_take (i := 24) (v := ?v25) rfl (by kernel_rfl) (by kernel_rfl) (by kernel_rfl) (fun _ _ _ h => h) (Or.inl ⟨by rfl, ?hy25⟩) hHeld ?rest25
  case hy25 => (intro w' hSw; (try dsimp only at hSw); go_simp; (try with_reducible rfl))
  try simp only [Act.put, List.setIfInBounds_toArray, List.set_cons_zero, List.set_cons_succ, List.getElem_toArray, List.getElem_cons_zero, List.getElem_cons_succ]
  refine wpAnyH_take (i := 25) (v := ?v26) rfl (by kernel_rfl) (by kernel_rfl) (by kernel_rfl) (fun _ _ _ h => h) (Or.inl ⟨by rfl, ?hy26⟩) hHeld ?rest26
  case hy26 => (intro w' hSw; (try dsimp only at hSw); go_simp; (try with_reducible rfl))
  try simp only [Act.put, List.setIfInBounds_toArray, List.set_cons_zero, List.set_cons_succ, List.getElem_toArray, List.getElem_cons_zero, List.getElem_cons_succ]
  refine wpAnyH_take (i := 26) (v := ?v27) rfl (by kernel_rfl) (by kernel_rfl) (by kernel_rfl) (fun _ _ _ h => h) (Or.inl ⟨by rfl, ?hy27⟩) hHeld ?rest27
  case hy27 => (intro w' hSw; (try dsimp only at hSw); go_simp; (try with_reducible rfl))
  try simp only [Act.put, List.setIfInBounds_toArray, List.set_cons_zero, List.set_cons_succ, List.getElem_toArray, List.getElem_cons_zero, List.getElem_cons_succ]
  refine wpAnyH_take (i := 27) (v := ?v28) rfl (by kernel_rfl) (by kernel_rfl) (by kernel_rfl) (fun _ _ _ h => h) (Or.inl ⟨by rfl, ?hy28⟩) hHeld ?rest28
  case hy28 => (intro w' hSw; (try dsimp only at hSw); go_simp; (try with_reducible rfl))
  try simp only [Act.put, List.setIfInBounds_toArray, List.set_cons_zero, List.set_cons_succ, List.getElem_toArray, List.getElem_cons_zero, List.getElem_cons_succ]
  refine wpAnyH_take (i := 28) (v := ?v29) rfl (by kernel_rfl) (by kernel_rfl) (by kernel_rfl) (fun _ _ _ h => h) (Or.inl ⟨by rfl, ?hy29⟩) hHeld ?rest29
  case hy29 => (intro w' hSw; (try dsimp only at hSw); go_simp; (try with_reducible rfl))
  try simp only [Act.put, List.setIfInBounds_toArray, List.set_cons_zero, List.set_cons_succ, List.getElem_toArray, List.getElem_cons_zero, List.getElem_cons_succ]
  refine wpAnyH_take (i := 29) (v := ?v30) rfl (by kernel_rfl) (by kernel_rfl) (by kernel_rfl) (fun _ _ _ h => h) (Or.inl ⟨by rfl, ?hy30⟩) hHeld ?rest30
  case hy30 => (intro w' hSw; (try dsimp only at hSw); go_simp; (try with_reducible rfl))
  try simp only [Act.put, List.setIfInBounds_toArray, List.set_cons_zero, List.set_cons_succ, List.getElem_toArray, List.getElem_cons_zero, List.getElem_cons_succ]
  refine wpAnyH_take (i := 30) (v := ?v31) rfl (by kernel_rfl) (by kernel_rfl) (by kernel_rfl) (fun _ _ _ h => h) (Or.inl ⟨by rfl, ?hy31⟩) hHeld ?rest31
  case hy31 => (intro w' hSw; (try dsimp only at hSw); go_simp; (try with_reducible rfl))
  try simp only [Act.put, List.setIfInBounds_toArray, List.set_cons_zero, List.set_cons_succ, List.getElem_toArray, List.getElem_cons_zero, List.getElem_cons_succ]
  refine wpAnyH_take (i := 31) (v := ?v32) rfl (by kernel_rfl) (by kernel_rfl) (by kernel_rfl) (fun _ _ _ h => h) (Or.inl ⟨by rfl, ?hy32⟩) hHeld ?rest32
  case hy32 => (intro w' hSw; (try dsimp only at hSw); go_simp; (try with_reducible rfl))
  try simp only [Act.put, List.setIfInBounds_toArray, List.set_cons_zero, List.set_cons_succ, List.getElem_toArray, List.getElem_cons_zero, List.getElem_cons_succ]
  refine wpAnyH_take (i := 32) (v := ?v33) rfl (by kernel_rfl) (by kernel_rfl) (by kernel_rfl) (fun _ _ _ h => h) (Or.inl ⟨by rfl, ?hy33⟩) hHeld ?rest33
  case hy33 => (intro w' hSw; (try dsimp only at hSw); go_simp; (try with_reducible rfl))
  try simp only [Act.put, List.setIfInBounds_toArray, List.set_cons_zero, List.set_cons_succ, List.getElem_toArray, List.getElem_cons_zero, List.getElem_cons_succ]
  refine wpAnyH_take (i := 33) (v := ?v34) rfl (by kernel_rfl) (by kernel_rfl) (by kernel_rfl) (fun _ _ _ h => h) (Or.inl ⟨by rfl, ?hy34⟩) hHeld ?rest34
  case hy34 => (intro w' hSw; (try dsimp only at hSw); go_simp; (try with_reducible rfl))
  try simp only [Act.put, List.setIfInBounds_toArray, List.set_cons_zero, List.set_cons_succ, List.getElem_toArray, List.getElem_cons_zero, List.getElem_cons_succ]
  refine wpAnyH_take (i := 34) (v := ?v35) rfl (by kernel_rfl) (by kernel_rfl) (by kernel_rfl) (fun _ _ _ h => h) (Or.inl ⟨by rfl, ?hy35⟩) hHeld ?rest35
  case hy35 => (intro w' hSw; (try dsimp only at hSw); go_simp; (try with_reducible rfl))
  try simp only [Act.put, List.setIfInBounds_toArray, List.set_cons_zero, List.set_cons_succ, List.getElem_toArray, List.getElem_cons_zero, List.getElem_cons_succ]
  refine wpAnyH_take (i := 36) (v := ?v36) rfl (by kernel_rfl) (by kernel_rfl) (by kernel_rfl) (fun _ _ _ h => h) (Or.inl ⟨by rfl, ?hy36⟩) hHeld ?rest36
  case hy36 => (intro w' hSw; (try dsimp only at hSw); go_simp; (try with_reducible rfl))
  try simp only [Act.put, List.setIfInBounds_toArray, List.set_cons_zero, List.set_cons_succ, List.getElem_toArray, List.getElem_cons_zero, List.getElem_cons_succ]
  refine wpAnyH_take (i := 37) (v := ?v37) rfl (by kernel_rfl) (by kernel_rfl) (by kernel_rfl) (fun _ _ _ h => h) (Or.inl ⟨by rfl, ?hy37⟩) hHeld ?rest37
  case hy37 => (intro w' hSw; (try dsimp only at hSw); go_simp; (try with_reducible rfl))
  try simp only [Act.put, List.setIfInBounds_toArray, List.set_cons_zero, List.set_cons_succ, List.getElem_toArray, List.getElem_cons_zero, List.getElem_cons_succ]
  refine wpAnyH_ready (rs := [35]) (by kernel_rfl) (by simp) ?_
  refine AllReadyH.cons rfl (fun K hK => ?_) AllReadyH.nil
  go_simp
  refine (T1.out _ _ _ (R2.out.below (Below.refl _ _).drew)).mono ?_
  rintro e wx ⟨rfl, rfl⟩
  try go_wp2_with fail
  refine hK.out _ _ (⟨f_gG_2, f_gG_3, f_gG_4, f_gG_5, f_gB9_2, f_gB9_3, f_gB9_4, f_gB9_5, f_gA_5⟩) (fun hHeld => ?_)
  clear hK K
  try simp only [Act.put, List.setIfInBounds_toArray, List.set_cons_zero, List.set_cons_succ, List.getElem_toArray, List.getElem_cons_zero, List.getElem_cons_succ]
  refine wpAnyH_ready (rs := [38]) (by kernel_rfl) (by simp) ?_
  refine AllReadyH.cons rfl (fun K hK => ?_) AllReadyH.nil
  go_simp
  refine (T2.out _ _ _ (R3.out.below (Below.refl _ _).drew)).mono ?_
  rintro e wx ⟨rfl, rfl⟩
  try go_wp2_with fail
  refine hK.out _ _ (⟨f_gG_2, f_gG_3, f_gG_4, f_gG_5, f_gB9_2, f_gB9_3, f_gB9_4, f_gB9_5, f_gA_5⟩) (fun hHeld => ?_)
  clear hK K
  try simp only [Act.put, List.setIfInBounds_toArray, List.set_cons_zero, List.set_cons_succ, List.getElem_toArray, List.getElem_cons_zero, List.getElem_cons_succ]
  refine wpAnyH_take (i := 39) (v := ?v40) rfl (by kernel_rfl) (by kernel_rfl) (by kernel_rfl) (fun _ _ _ h => h) (Or.inl ⟨by rfl, ?hy40⟩) hHeld ?rest40
  case hy40 => (intro w' hSw; (try dsimp only at hSw); go_simp; (try with_reducible rfl))
  try simp only [Act.put, List.setIfInBounds_toArray, List.set_cons_zero, List.set_cons_succ, List.getElem_toArray, List.getElem_cons_zero, List.getElem_cons_succ]
  refine wpAnyH_take (i := 40) (v := ?v41) rfl (by kernel_rfl) (by kernel_rfl) (by kernel_rfl) (fun _ _ _ h => h) (Or.inl ⟨by rfl, ?hy41⟩) hHeld ?rest41
  case hy41 => (intro w' hSw; (try dsimp only at hSw); go_simp; (try with_reducible rfl))
  try simp only [Act.put, List.setIfInBounds_toArray, List.set_cons_zero, List.set_cons_succ, List.getElem_toArray, List.getElem_cons_zero, List.getElem_cons_succ]
  refine wpAnyH_done (by kernel_rfl) ?_ _
  have Md := M6.drew
  replace R1 := Lib.hid (R1.out.below ((Below.refl _ _).drew : Below w6.heap.size w6 w6.drew))
  replace R3 := Lib.hid (R3.out.below ((Below.refl _ _).drew : Below w6.heap.size w6 w6.drew))
  obtain ⟨wl, hwl⟩ : ∃ wl, wl = w6.drew := ⟨_, rfl⟩
  rw [← hwl] at Md R1 R3 ⊢
  clear hwl M6 f_gG_2 f_gG_3 f_gG_4 f_gG_5 f_gB9_2 f_gB9_3 f_gB9_4 f_gB9_5 f_gA_5
  go_wp2_with fail
  go_loopw [14] (fun c9 wx => ∃ i : Nat, i ≤ n ∧ c9 = .int .i64 i ∧ Mem w wx [(gB9, 24, [.int .i64 x, .int .i64 y, .int .i64 1000, .int .i64 (-1000), .int .i64 S, .slice a3 n cap3]), (gA, 24, [.int .i64 W2, .int .i64 H2, .int .i64 NX, .int .i64 NY, .int .i64 D2, .slice a2 m cap2]), (gG, 24, [.int .i64 x, .int .i64 y, .int .i64 1000, .int .i64 (-1000), .int .i64 S, .slice a1 n cap1])] ∧ Hid (Sl wx 1 (.slice a1 n cap1) n (i64s G)) ∧ Hid (Sl wx 1 (.slice a3 n cap3) n (i64s B))) (fun c9 _ => n - (intOf c9).toNat)
  case atStart => exact ⟨0, Nat.zero_le _, rfl, Md, R1, R3⟩
  case round =>
    clear Md R1 R3
    obtain ⟨i, hi, rfl, Md, R1, R3⟩ := hrel
    have d1 := Md.cell (.tail _ _ _ _ _ (.tail _ _ _ _ _ (Has.head _ _ _ _))) (i := 5) rfl
    have d2 := Md.cell (Has.head _ _ _ _) (i := 5) rfl
    by_cases hlt : i < n
    · obtain ⟨u, v9, d, hu, hv, hdd, hd0, hd1⟩ := hd.out i hlt
      obtain ⟨b, o, rfl, _, cu⟩ := cell64 R1.out i (by rw [hGl.out]; exact hlt)
      obtain ⟨bb, oo, rfl, _, cv⟩ := cell64 R3.out i (by rw [hBl.out]; exact hlt)
      rw [hu] at cu
      rw [hv] at cv
      have wd : IntKind.i64.wrap d = d := IntWalk.i64_in _ (by omega)
      clear hu hv
      go_wp2_with fail
      go_quiet (fail)
      go_wp2_with fail
      go_roundw
      case rel => exact ⟨i + 1, by omega, by go_num, Md.drewN _, Lib.hid (R1.out.below (below_dN (Below.refl _ _) _)), Lib.hid (R3.out.below (below_dN (Below.refl _ _) _))⟩
      case measure => simp [intOf]; omega
    · obtain rfl : n = i := by omega
      go_wp2_with fail
      refine (C0.out _).mono ?_
      rintro e w9 ⟨rfl, hA9⟩
      go_wp2_with fail
      go_ret
      exact ⟨rfl, (Md.call hA9).below⟩
end Go.Proofs.Ytnfgogfbpggnfaa
