/-
  GridChecks: the walk.
-/
import Derived.Test.YtnfgogfbpggnfaaGridD
import Derived.Test.YtnfgogfbpggnfaaGridJ
import Derived.Test.YtnfgogfbpggnfaaGridRA
import Derived.Test.YtnfgogfbpggnfaaGridRB
set_option linter.unusedVariables false
set_option linter.unusedSimpArgs false
namespace Go.Proofs.Ytnfgogfbpggnfaa
open Go Go.RowKit Go.Th Go.Th.Grid Go.Th.Wide

set_option maxRecDepth 100000 in
set_option maxHeartbeats 6400000 in
theorem checks_go (x y X Y s W H X2 Y2 S2 ew eh eX eY eS c1 ce cn : Int) (n m cap : Nat) (a : Option Addr) (p E N : List Int) (hn : ¬ ((5000 : Int) < (n : Int))) (hm : m ≤ 5000)
    (K1 : ∀ w, Sl w 1 (.slice a n cap) n (i64s p) → Calls Try.prog 9 #[gv x y X Y s (.slice a n cap)] w fun e w' => e = .returned (.int .i64 c1) ∧ Below w.heap.size w w')
    (K2 : ∀ w, Sl w 1 (.slice a n cap) n (i64s p) → Calls Try.prog 10 #[gv x y X Y s (.slice a n cap)] w fun e w' => e = .returned (.int .i64 c1) ∧ Below w.heap.size w w')
    (E1 : ∀ w, Calls Try.prog 11 #[.int .i64 W, .int .i64 H, .int .i64 X2, .int .i64 Y2, .int .i64 S2] w (GSaid ew eh eX eY eS m E ce w))
    (E2 : ∀ w, Calls Try.prog 12 #[.int .i64 W, .int .i64 H, .int .i64 X2, .int .i64 Y2, .int .i64 S2] w (GSaid ew eh eX eY eS m E ce w))
    (S1 : ∀ a ca b cb w, Sl w 1 (.slice a m ca) m (i64s E) → Sl w 1 (.slice b m cb) m (i64s E) → Calls Try.prog 13 #[gv ew eh eX eY eS (.slice a m ca), gv ew eh eX eY eS (.slice b m cb)] w fun e w' => e = .returned (.bool true) ∧ Below w.heap.size w w')
    (K3 : ce = 0 → ∀ a cap w, Sl w 1 (.slice a m cap) m (i64s E) → Calls Try.prog 9 #[gv ew eh eX eY eS (.slice a m cap)] w fun e w' => e = .returned (.int .i64 0) ∧ Below w.heap.size w w')
    (N1 : c1 = 0 → ∀ w, Sl w 1 (.slice a n cap) n (i64s p) → Calls Try.prog 14 #[gv x y X Y s (.slice a n cap)] w (GSaid x y X Y s n N cn w))
    (N2 : c1 = 0 → ∀ w, Sl w 1 (.slice a n cap) n (i64s p) → Calls Try.prog 15 #[gv x y X Y s (.slice a n cap)] w (GSaid x y X Y s n N cn w))
    (S2c : ∀ a ca b cb w, Sl w 1 (.slice a n ca) n (i64s N) → Sl w 1 (.slice b n cb) n (i64s N) → Calls Try.prog 13 #[gv x y X Y s (.slice a n ca), gv x y X Y s (.slice b n cb)] w fun e w' => e = .returned (.bool true) ∧ Below w.heap.size w w')
    (K4 : c1 = 0 → ∀ a cap w, Sl w 1 (.slice a n cap) n (i64s N) → Calls Try.prog 9 #[gv x y X Y s (.slice a n cap)] w fun e w' => e = .returned (.int .i64 0) ∧ Below w.heap.size w w')
    (C0 : Ans 8 #[] (.bool true)) (w : World) (hS : Sl w 1 (.slice a n cap) n (i64s p)) :
    Calls Try.prog 3 #[gv x y X Y s (.slice a n cap), .int .i64 W, .int .i64 H, .int .i64 X2, .int .i64 Y2, .int .i64 S2] w fun e w' => e = .returned (.bool true) ∧ Below w.heap.size w w' := by
  have hmx := hS.max
  have b1 : (c1 != c1) = false := by simp
  have b2 : (ce != ce) = false := by simp
  have b3 : (cn == cn) = true := by simp
  have K1 := Lib.hid K1
  have K2 := Lib.hid K2
  have E1 := Lib.hid E1
  have E2 := Lib.hid E2
  have S1 := Lib.hid S1
  have K3 := Lib.hid K3
  have N1 := Lib.hid N1
  have N2 := Lib.hid N2
  have S2c := Lib.hid S2c
  have K4 := Lib.hid K4
  have C0 := Lib.hid C0
  have hS := Lib.hid hS
  (obtain ⟨w1, hw1⟩ : ∃ w1, w.alloc (.cells #[.int .i64 x, .int .i64 y, .int .i64 X, .int .i64 Y, .int .i64 s, .slice a n cap] 24) = w1 := ⟨_, rfl⟩; have M1 := (Mem.start w).alloc 24 (gc x y X Y s (.slice a n cap)); rw [show w.alloc (.cells (gc x y X Y s (.slice a n cap)).toArray 24) = w1 from hw1] at M1; have HW1 := Lib.hid hw1; clear hw1)
  go_enter Try.func3, Try.ntmps3
  ((go_upto_region 1 with fail); rw [HW1.out]; clear HW1; obtain ⟨gA, hgA⟩ : ∃ gA, gA = w.heap.size := ⟨_, rfl⟩; rw [← hgA] at M1 ⊢; clear hgA)
  replace hS := Lib.hid (hS.out.below M1.below)
  have c_gA_0 := M1.cell (Has.head _ _ _ _) (i := 0) rfl
  have c_gA_1 := M1.cell (Has.head _ _ _ _) (i := 1) rfl
  have c_gA_2 := M1.cell (Has.head _ _ _ _) (i := 2) rfl
  have c_gA_3 := M1.cell (Has.head _ _ _ _) (i := 3) rfl
  have c_gA_4 := M1.cell (Has.head _ _ _ _) (i := 4) rfl
  have c_gA_5 := M1.cell (Has.head _ _ _ _) (i := 5) rfl
  go_wp2_with fail
  refine wp_region_held_drew (S := (fun w' : World => w'.cell? ⟨gA, 0, none⟩ = some (.int .i64 x) ∧ w'.cell? ⟨gA, 1, none⟩ = some (.int .i64 y) ∧ w'.cell? ⟨gA, 2, none⟩ = some (.int .i64 X) ∧ w'.cell? ⟨gA, 3, none⟩ = some (.int .i64 Y) ∧ w'.cell? ⟨gA, 4, none⟩ = some (.int .i64 s) ∧ w'.cell? ⟨gA, 5, none⟩ = some (.slice a n cap))) (by kernel_rfl) (⟨c_gA_0, c_gA_1, c_gA_2, c_gA_3, c_gA_4, c_gA_5⟩) (fun hHeld => ?_)
  refine wpAnyH_take (i := 0) (v := ?v1) rfl (by kernel_rfl) (by kernel_rfl) (by kernel_rfl) (fun _ _ _ h => h) (Or.inl ⟨by rfl, ?hy1⟩) hHeld ?rest1
  case hy1 => (intro w' hSw; (try dsimp only at hSw); go_simp; (try with_reducible rfl))
  try simp only [Act.put, List.setIfInBounds_toArray, List.set_cons_zero, List.set_cons_succ, List.getElem_toArray, List.getElem_cons_zero, List.getElem_cons_succ]
  refine wpAnyH_take (i := 2) (v := ?v2) rfl (by kernel_rfl) (by kernel_rfl) (by kernel_rfl) (fun _ _ _ h => h) (Or.inl ⟨by rfl, ?hy2⟩) hHeld ?rest2
  case hy2 => (intro w' hSw; (try dsimp only at hSw); go_simp; (try with_reducible rfl))
  try simp only [Act.put, List.setIfInBounds_toArray, List.set_cons_zero, List.set_cons_succ, List.getElem_toArray, List.getElem_cons_zero, List.getElem_cons_succ]
  refine wpAnyH_ready (rs := [1]) (by kernel_rfl) (by simp) ?_
  refine AllReadyH.cons rfl (fun K hK => ?_) AllReadyH.nil
  go_simp
  refine (K1.out _ (hS.out.below (Below.refl _ _).drew)).mono ?_
  rintro e w2 ⟨rfl, hA⟩
  have M2 := M1.drew.call hA
  have hA2 : Below w1.heap.size w1 w2 := (Below.refl w1.heap.size w1).drew.trans hA
  have hS := Lib.hid (hS.out.below hA2)
  clear hA hA2
  try go_wp2_with fail
  refine hK.out _ _ (gcells (M2.has (Has.head _ _ _ _))) (fun hHeld => ?_)
  clear hK K
  try simp only [Act.put, List.setIfInBounds_toArray, List.set_cons_zero, List.set_cons_succ, List.getElem_toArray, List.getElem_cons_zero, List.getElem_cons_succ]
  refine wpAnyH_ready (rs := [3]) (by kernel_rfl) (by simp) ?_
  refine AllReadyH.cons rfl (fun K hK => ?_) AllReadyH.nil
  go_simp
  refine (K2.out _ hS.out).mono ?_
  rintro e w3 ⟨rfl, hA⟩
  have M3 := M2.call hA
  have hA2 : Below w2.heap.size w2 w3 := (Below.refl w2.heap.size w2).trans hA
  have hS := Lib.hid (hS.out.below hA2)
  clear hA hA2
  try go_wp2_with fail
  refine hK.out _ _ (gcells (M3.has (Has.head _ _ _ _))) (fun hHeld => ?_)
  clear hK K
  try simp only [Act.put, List.setIfInBounds_toArray, List.set_cons_zero, List.set_cons_succ, List.getElem_toArray, List.getElem_cons_zero, List.getElem_cons_succ]
  refine wpAnyH_take (i := 4) (v := ?v5) rfl (by kernel_rfl) (by kernel_rfl) (by kernel_rfl) (fun _ _ _ h => h) (Or.inl ⟨by rfl, ?hy5⟩) hHeld ?rest5
  case hy5 => (intro w' hSw; (try dsimp only at hSw); go_simp; (try with_reducible rfl))
  try simp only [Act.put, List.setIfInBounds_toArray, List.set_cons_zero, List.set_cons_succ, List.getElem_toArray, List.getElem_cons_zero, List.getElem_cons_succ]
  refine wpAnyH_done (by kernel_rfl) ?_ _
  clear c_gA_0 c_gA_1 c_gA_2 c_gA_3 c_gA_4 c_gA_5
  go_wp2_with fail
  refine (E1.out _).mono ?_
  rintro e w4 ⟨a1, cap1, rfl, s1, hA⟩
  have M4 := M3.call hA
  clear M3
  replace hS := Lib.hid (hS.out.below hA)
  have R1 := Lib.hid s1
  clear s1
  clear hA
  obtain ⟨w5, hw5⟩ : ∃ wq, w4.alloc (.cells #[.int .i64 ew, .int .i64 eh, .int .i64 eX, .int .i64 eY, .int .i64 eS, .slice a1 m cap1] 24) = wq := ⟨_, rfl⟩
  have M5 := M4.alloc 24 [.int .i64 ew, .int .i64 eh, .int .i64 eX, .int .i64 eY, .int .i64 eS, .slice a1 m cap1]
  rw [show w4.alloc (.cells [Value.int .i64 ew, .int .i64 eh, .int .i64 eX, .int .i64 eY, .int .i64 eS, .slice a1 m cap1].toArray 24) = w5 from hw5] at M5
  have hA : Below w4.heap.size w4 w5 := by rw [← hw5]; exact (Below.refl _ _).alloc (Nat.le_refl _) _
  replace hS := Lib.hid (hS.out.below hA)
  replace R1 := Lib.hid (R1.out.below hA)
  have HW5 := Lib.hid hw5
  clear hw5 hA M4
  go_upto_region 6 with fail
  rw [HW5.out]
  clear HW5
  obtain ⟨gE, hgE⟩ : ∃ g9, g9 = w4.heap.size := ⟨_, rfl⟩
  rw [← hgE] at M5 ⊢
  clear hgE
  go_wp2_with fail
  refine (E2.out _).mono ?_
  rintro e w6 ⟨a2, cap2, rfl, s2, hA⟩
  have M6 := M5.call hA
  clear M5
  replace hS := Lib.hid (hS.out.below hA)
  replace R1 := Lib.hid (R1.out.below hA)
  have R2 := Lib.hid s2
  clear s2
  clear hA
  obtain ⟨w7, hw7⟩ : ∃ wq, w6.alloc (.cells #[.int .i64 ew, .int .i64 eh, .int .i64 eX, .int .i64 eY, .int .i64 eS, .slice a2 m cap2] 24) = wq := ⟨_, rfl⟩
  have M7 := M6.alloc 24 [.int .i64 ew, .int .i64 eh, .int .i64 eX, .int .i64 eY, .int .i64 eS, .slice a2 m cap2]
  rw [show w6.alloc (.cells [Value.int .i64 ew, .int .i64 eh, .int .i64 eX, .int .i64 eY, .int .i64 eS, .slice a2 m cap2].toArray 24) = w7 from hw7] at M7
  have hA : Below w6.heap.size w6 w7 := by rw [← hw7]; exact (Below.refl _ _).alloc (Nat.le_refl _) _
  replace hS := Lib.hid (hS.out.below hA)
  replace R1 := Lib.hid (R1.out.below hA)
  replace R2 := Lib.hid (R2.out.below hA)
  have HW7 := Lib.hid hw7
  clear hw7 hA M6
  go_upto_region 7 with fail
  rw [HW7.out]
  clear HW7
  obtain ⟨gF, hgF⟩ : ∃ g9, g9 = w6.heap.size := ⟨_, rfl⟩
  rw [← hgF] at M7 ⊢
  clear hgF
  have c_gE_0 := M7.cell (.tail _ _ _ _ _ (Has.head _ _ _ _)) (i := 0) rfl
  have c_gE_1 := M7.cell (.tail _ _ _ _ _ (Has.head _ _ _ _)) (i := 1) rfl
  have c_gE_2 := M7.cell (.tail _ _ _ _ _ (Has.head _ _ _ _)) (i := 2) rfl
  have c_gE_3 := M7.cell (.tail _ _ _ _ _ (Has.head _ _ _ _)) (i := 3) rfl
  have c_gE_4 := M7.cell (.tail _ _ _ _ _ (Has.head _ _ _ _)) (i := 4) rfl
  have c_gE_5 := M7.cell (.tail _ _ _ _ _ (Has.head _ _ _ _)) (i := 5) rfl
  have c_gF_0 := M7.cell (Has.head _ _ _ _) (i := 0) rfl
  have c_gF_1 := M7.cell (Has.head _ _ _ _) (i := 1) rfl
  have c_gF_2 := M7.cell (Has.head _ _ _ _) (i := 2) rfl
  have c_gF_3 := M7.cell (Has.head _ _ _ _) (i := 3) rfl
  have c_gF_4 := M7.cell (Has.head _ _ _ _) (i := 4) rfl
  have c_gF_5 := M7.cell (Has.head _ _ _ _) (i := 5) rfl
  go_wp2_with fail
  refine (S1.out _ _ _ _ _ R1.out R2.out).mono ?_
  rintro e w8 ⟨rfl, hA⟩
  have M8 := M7.call hA
  clear c_gE_0 c_gE_1 c_gE_2 c_gE_3 c_gE_4 c_gE_5 c_gF_0 c_gF_1 c_gF_2 c_gF_3 c_gF_4 c_gF_5
  clear M7
  replace hS := Lib.hid (hS.out.below hA)
  replace R1 := Lib.hid (R1.out.below hA)
  replace R2 := Lib.hid (R2.out.below hA)
  clear hA
  by_cases h0 : ce = 0
  · subst h0
    have c_gE_0 := M8.cell (.tail _ _ _ _ _ (Has.head _ _ _ _)) (i := 0) rfl
    have c_gE_1 := M8.cell (.tail _ _ _ _ _ (Has.head _ _ _ _)) (i := 1) rfl
    have c_gE_2 := M8.cell (.tail _ _ _ _ _ (Has.head _ _ _ _)) (i := 2) rfl
    have c_gE_3 := M8.cell (.tail _ _ _ _ _ (Has.head _ _ _ _)) (i := 3) rfl
    have c_gE_4 := M8.cell (.tail _ _ _ _ _ (Has.head _ _ _ _)) (i := 4) rfl
    have c_gE_5 := M8.cell (.tail _ _ _ _ _ (Has.head _ _ _ _)) (i := 5) rfl
    go_wp2_with fail
    refine (K3.out (by first | rfl | trivial) _ _ _ R1.out).mono ?_
    rintro e w9 ⟨rfl, hA⟩
    have M9 := M8.call hA
    clear c_gE_0 c_gE_1 c_gE_2 c_gE_3 c_gE_4 c_gE_5
    clear M8
    replace hS := Lib.hid (hS.out.below hA)
    replace R1 := Lib.hid (R1.out.below hA)
    replace R2 := Lib.hid (R2.out.below hA)
    clear hA
    have c_gA_0 := M9.cell (.tail _ _ _ _ _ (.tail _ _ _ _ _ (Has.head _ _ _ _))) (i := 0) rfl
    have c_gA_1 := M9.cell (.tail _ _ _ _ _ (.tail _ _ _ _ _ (Has.head _ _ _ _))) (i := 1) rfl
    have c_gA_2 := M9.cell (.tail _ _ _ _ _ (.tail _ _ _ _ _ (Has.head _ _ _ _))) (i := 2) rfl
    have c_gA_3 := M9.cell (.tail _ _ _ _ _ (.tail _ _ _ _ _ (Has.head _ _ _ _))) (i := 3) rfl
    have c_gA_4 := M9.cell (.tail _ _ _ _ _ (.tail _ _ _ _ _ (Has.head _ _ _ _))) (i := 4) rfl
    have c_gA_5 := M9.cell (.tail _ _ _ _ _ (.tail _ _ _ _ _ (Has.head _ _ _ _))) (i := 5) rfl
    go_wp2_with fail
    refine (K1.out _ hS.out).mono ?_
    rintro e w10 ⟨rfl, hA⟩
    have M10 := M9.call hA
    clear c_gA_0 c_gA_1 c_gA_2 c_gA_3 c_gA_4 c_gA_5
    clear M9
    replace hS := Lib.hid (hS.out.below hA)
    replace R1 := Lib.hid (R1.out.below hA)
    replace R2 := Lib.hid (R2.out.below hA)
    clear hA
    by_cases h1 : c1 = 0
    · subst h1
      have c_gA_0 := M10.cell (.tail _ _ _ _ _ (.tail _ _ _ _ _ (Has.head _ _ _ _))) (i := 0) rfl
      have c_gA_1 := M10.cell (.tail _ _ _ _ _ (.tail _ _ _ _ _ (Has.head _ _ _ _))) (i := 1) rfl
      have c_gA_2 := M10.cell (.tail _ _ _ _ _ (.tail _ _ _ _ _ (Has.head _ _ _ _))) (i := 2) rfl
      have c_gA_3 := M10.cell (.tail _ _ _ _ _ (.tail _ _ _ _ _ (Has.head _ _ _ _))) (i := 3) rfl
      have c_gA_4 := M10.cell (.tail _ _ _ _ _ (.tail _ _ _ _ _ (Has.head _ _ _ _))) (i := 4) rfl
      have c_gA_5 := M10.cell (.tail _ _ _ _ _ (.tail _ _ _ _ _ (Has.head _ _ _ _))) (i := 5) rfl
      go_wp2_with fail
      refine (N1.out (by first | rfl | trivial) _ hS.out).mono ?_
      rintro e w11 ⟨a3, cap3, rfl, s3, hA⟩
      have M11 := M10.call hA
      clear c_gA_0 c_gA_1 c_gA_2 c_gA_3 c_gA_4 c_gA_5
      clear M10
      replace hS := Lib.hid (hS.out.below hA)
      replace R1 := Lib.hid (R1.out.below hA)
      replace R2 := Lib.hid (R2.out.below hA)
      have R3 := Lib.hid s3
      clear s3
      clear hA
      obtain ⟨w12, hw12⟩ : ∃ wq, w11.alloc (.cells #[.int .i64 x, .int .i64 y, .int .i64 X, .int .i64 Y, .int .i64 s, .slice a3 n cap3] 24) = wq := ⟨_, rfl⟩
      have M12 := M11.alloc 24 [.int .i64 x, .int .i64 y, .int .i64 X, .int .i64 Y, .int .i64 s, .slice a3 n cap3]
      rw [show w11.alloc (.cells [Value.int .i64 x, .int .i64 y, .int .i64 X, .int .i64 Y, .int .i64 s, .slice a3 n cap3].toArray 24) = w12 from hw12] at M12
      have hA : Below w11.heap.size w11 w12 := by rw [← hw12]; exact (Below.refl _ _).alloc (Nat.le_refl _) _
      replace hS := Lib.hid (hS.out.below hA)
      replace R1 := Lib.hid (R1.out.below hA)
      replace R2 := Lib.hid (R2.out.below hA)
      replace R3 := Lib.hid (R3.out.below hA)
      have HW12 := Lib.hid hw12
      clear hw12 hA M11
      go_upto_region 12 with fail
      rw [HW12.out]
      clear HW12
      obtain ⟨gN, hgN⟩ : ∃ g9, g9 = w11.heap.size := ⟨_, rfl⟩
      rw [← hgN] at M12 ⊢
      clear hgN
      have c_gA_0 := M12.cell (.tail _ _ _ _ _ (.tail _ _ _ _ _ (.tail _ _ _ _ _ (Has.head _ _ _ _)))) (i := 0) rfl
      have c_gA_1 := M12.cell (.tail _ _ _ _ _ (.tail _ _ _ _ _ (.tail _ _ _ _ _ (Has.head _ _ _ _)))) (i := 1) rfl
      have c_gA_2 := M12.cell (.tail _ _ _ _ _ (.tail _ _ _ _ _ (.tail _ _ _ _ _ (Has.head _ _ _ _)))) (i := 2) rfl
      have c_gA_3 := M12.cell (.tail _ _ _ _ _ (.tail _ _ _ _ _ (.tail _ _ _ _ _ (Has.head _ _ _ _)))) (i := 3) rfl
      have c_gA_4 := M12.cell (.tail _ _ _ _ _ (.tail _ _ _ _ _ (.tail _ _ _ _ _ (Has.head _ _ _ _)))) (i := 4) rfl
      have c_gA_5 := M12.cell (.tail _ _ _ _ _ (.tail _ _ _ _ _ (.tail _ _ _ _ _ (Has.head _ _ _ _)))) (i := 5) rfl
      go_wp2_with fail
      refine (N2.out (by first | rfl | trivial) _ hS.out).mono ?_
      rintro e w13 ⟨a4, cap4, rfl, s4, hA⟩
      have M13 := M12.call hA
      clear c_gA_0 c_gA_1 c_gA_2 c_gA_3 c_gA_4 c_gA_5
      clear M12
      replace hS := Lib.hid (hS.out.below hA)
      replace R1 := Lib.hid (R1.out.below hA)
      replace R2 := Lib.hid (R2.out.below hA)
      replace R3 := Lib.hid (R3.out.below hA)
      have R4 := Lib.hid s4
      clear s4
      clear hA
      obtain ⟨w14, hw14⟩ : ∃ wq, w13.alloc (.cells #[.int .i64 x, .int .i64 y, .int .i64 X, .int .i64 Y, .int .i64 s, .slice a4 n cap4] 24) = wq := ⟨_, rfl⟩
      have M14 := M13.alloc 24 [.int .i64 x, .int .i64 y, .int .i64 X, .int .i64 Y, .int .i64 s, .slice a4 n cap4]
      rw [show w13.alloc (.cells [Value.int .i64 x, .int .i64 y, .int .i64 X, .int .i64 Y, .int .i64 s, .slice a4 n cap4].toArray 24) = w14 from hw14] at M14
      have hA : Below w13.heap.size w13 w14 := by rw [← hw14]; exact (Below.refl _ _).alloc (Nat.le_refl _) _
      replace hS := Lib.hid (hS.out.below hA)
      replace R1 := Lib.hid (R1.out.below hA)
      replace R2 := Lib.hid (R2.out.below hA)
      replace R3 := Lib.hid (R3.out.below hA)
      replace R4 := Lib.hid (R4.out.below hA)
      have HW14 := Lib.hid hw14
      clear hw14 hA M13
      go_upto_region 13 with fail
      rw [HW14.out]
      clear HW14
      obtain ⟨gO, hgO⟩ : ∃ g9, g9 = w13.heap.size := ⟨_, rfl⟩
      rw [← hgO] at M14 ⊢
      clear hgO
      have c_gN_0 := M14.cell (.tail _ _ _ _ _ (Has.head _ _ _ _)) (i := 0) rfl
      have c_gN_1 := M14.cell (.tail _ _ _ _ _ (Has.head _ _ _ _)) (i := 1) rfl
      have c_gN_2 := M14.cell (.tail _ _ _ _ _ (Has.head _ _ _ _)) (i := 2) rfl
      have c_gN_3 := M14.cell (.tail _ _ _ _ _ (Has.head _ _ _ _)) (i := 3) rfl
      have c_gN_4 := M14.cell (.tail _ _ _ _ _ (Has.head _ _ _ _)) (i := 4) rfl
      have c_gN_5 := M14.cell (.tail _ _ _ _ _ (Has.head _ _ _ _)) (i := 5) rfl
      have c_gO_0 := M14.cell (Has.head _ _ _ _) (i := 0) rfl
      have c_gO_1 := M14.cell (Has.head _ _ _ _) (i := 1) rfl
      have c_gO_2 := M14.cell (Has.head _ _ _ _) (i := 2) rfl
      have c_gO_3 := M14.cell (Has.head _ _ _ _) (i := 3) rfl
      have c_gO_4 := M14.cell (Has.head _ _ _ _) (i := 4) rfl
      have c_gO_5 := M14.cell (Has.head _ _ _ _) (i := 5) rfl
      go_wp2_with fail
      refine (S2c.out _ _ _ _ _ R3.out R4.out).mono ?_
      rintro e w15 ⟨rfl, hA⟩
      have M15 := M14.call hA
      clear c_gN_0 c_gN_1 c_gN_2 c_gN_3 c_gN_4 c_gN_5 c_gO_0 c_gO_1 c_gO_2 c_gO_3 c_gO_4 c_gO_5
      clear M14
      replace hS := Lib.hid (hS.out.below hA)
      replace R1 := Lib.hid (R1.out.below hA)
      replace R2 := Lib.hid (R2.out.below hA)
      replace R3 := Lib.hid (R3.out.below hA)
      replace R4 := Lib.hid (R4.out.below hA)
      clear hA
      have c_gN_0 := M15.cell (.tail _ _ _ _ _ (Has.head _ _ _ _)) (i := 0) rfl
      have c_gN_1 := M15.cell (.tail _ _ _ _ _ (Has.head _ _ _ _)) (i := 1) rfl
      have c_gN_2 := M15.cell (.tail _ _ _ _ _ (Has.head _ _ _ _)) (i := 2) rfl
      have c_gN_3 := M15.cell (.tail _ _ _ _ _ (Has.head _ _ _ _)) (i := 3) rfl
      have c_gN_4 := M15.cell (.tail _ _ _ _ _ (Has.head _ _ _ _)) (i := 4) rfl
      have c_gN_5 := M15.cell (.tail _ _ _ _ _ (Has.head _ _ _ _)) (i := 5) rfl
      go_wp2_with fail
      refine (K4.out (by first | rfl | trivial) _ _ _ R3.out).mono ?_
      rintro e w16 ⟨rfl, hA⟩
      have M16 := M15.call hA
      clear c_gN_0 c_gN_1 c_gN_2 c_gN_3 c_gN_4 c_gN_5
      clear M15
      replace hS := Lib.hid (hS.out.below hA)
      replace R1 := Lib.hid (R1.out.below hA)
      replace R2 := Lib.hid (R2.out.below hA)
      replace R3 := Lib.hid (R3.out.below hA)
      replace R4 := Lib.hid (R4.out.below hA)
      clear hA
      go_wp2_with fail
      refine (C0.out _).mono ?_
      rintro e w17 ⟨rfl, hA⟩
      have M17 := M16.call hA
      clear M16
      replace hS := Lib.hid (hS.out.below hA)
      replace R1 := Lib.hid (R1.out.below hA)
      replace R2 := Lib.hid (R2.out.below hA)
      replace R3 := Lib.hid (R3.out.below hA)
      replace R4 := Lib.hid (R4.out.below hA)
      clear hA
      go_wp2_with fail
      go_ret
      exact ⟨rfl, M17.below⟩
    · have b4 : (c1 != 0) = true := by simpa using h1
      go_wp2_with fail
      refine (C0.out _).mono ?_
      rintro e w11 ⟨rfl, hA⟩
      have M11 := M10.call hA
      clear M10
      replace hS := Lib.hid (hS.out.below hA)
      replace R1 := Lib.hid (R1.out.below hA)
      replace R2 := Lib.hid (R2.out.below hA)
      clear hA
      go_wp2_with fail
      go_ret
      exact ⟨rfl, M11.below⟩
  · have b5 : (ce == 0) = false := by simpa using h0
    have c_gA_0 := M8.cell (.tail _ _ _ _ _ (.tail _ _ _ _ _ (Has.head _ _ _ _))) (i := 0) rfl
    have c_gA_1 := M8.cell (.tail _ _ _ _ _ (.tail _ _ _ _ _ (Has.head _ _ _ _))) (i := 1) rfl
    have c_gA_2 := M8.cell (.tail _ _ _ _ _ (.tail _ _ _ _ _ (Has.head _ _ _ _))) (i := 2) rfl
    have c_gA_3 := M8.cell (.tail _ _ _ _ _ (.tail _ _ _ _ _ (Has.head _ _ _ _))) (i := 3) rfl
    have c_gA_4 := M8.cell (.tail _ _ _ _ _ (.tail _ _ _ _ _ (Has.head _ _ _ _))) (i := 4) rfl
    have c_gA_5 := M8.cell (.tail _ _ _ _ _ (.tail _ _ _ _ _ (Has.head _ _ _ _))) (i := 5) rfl
    go_wp2_with fail
    refine (K1.out _ hS.out).mono ?_
    rintro e w9 ⟨rfl, hA⟩
    have M9 := M8.call hA
    clear c_gA_0 c_gA_1 c_gA_2 c_gA_3 c_gA_4 c_gA_5
    clear M8
    replace hS := Lib.hid (hS.out.below hA)
    replace R1 := Lib.hid (R1.out.below hA)
    replace R2 := Lib.hid (R2.out.below hA)
    clear hA
    by_cases h1 : c1 = 0
    · subst h1
      have c_gA_0 := M9.cell (.tail _ _ _ _ _ (.tail _ _ _ _ _ (Has.head _ _ _ _))) (i := 0) rfl
      have c_gA_1 := M9.cell (.tail _ _ _ _ _ (.tail _ _ _ _ _ (Has.head _ _ _ _))) (i := 1) rfl
      have c_gA_2 := M9.cell (.tail _ _ _ _ _ (.tail _ _ _ _ _ (Has.head _ _ _ _))) (i := 2) rfl
      have c_gA_3 := M9.cell (.tail _ _ _ _ _ (.tail _ _ _ _ _ (Has.head _ _ _ _))) (i := 3) rfl
      have c_gA_4 := M9.cell (.tail _ _ _ _ _ (.tail _ _ _ _ _ (Has.head _ _ _ _))) (i := 4) rfl
      have c_gA_5 := M9.cell (.tail _ _ _ _ _ (.tail _ _ _ _ _ (Has.head _ _ _ _))) (i := 5) rfl
      go_wp2_with fail
      refine (N1.out (by first | rfl | trivial) _ hS.out).mono ?_
      rintro e w10 ⟨a3, cap3, rfl, s3, hA⟩
      have M10 := M9.call hA
      clear c_gA_0 c_gA_1 c_gA_2 c_gA_3 c_gA_4 c_gA_5
      clear M9
      replace hS := Lib.hid (hS.out.below hA)
      replace R1 := Lib.hid (R1.out.below hA)
      replace R2 := Lib.hid (R2.out.below hA)
      have R3 := Lib.hid s3
      clear s3
      clear hA
      obtain ⟨w11, hw11⟩ : ∃ wq, w10.alloc (.cells #[.int .i64 x, .int .i64 y, .int .i64 X, .int .i64 Y, .int .i64 s, .slice a3 n cap3] 24) = wq := ⟨_, rfl⟩
      have M11 := M10.alloc 24 [.int .i64 x, .int .i64 y, .int .i64 X, .int .i64 Y, .int .i64 s, .slice a3 n cap3]
      rw [show w10.alloc (.cells [Value.int .i64 x, .int .i64 y, .int .i64 X, .int .i64 Y, .int .i64 s, .slice a3 n cap3].toArray 24) = w11 from hw11] at M11
      have hA : Below w10.heap.size w10 w11 := by rw [← hw11]; exact (Below.refl _ _).alloc (Nat.le_refl _) _
      replace hS := Lib.hid (hS.out.below hA)
      replace R1 := Lib.hid (R1.out.below hA)
      replace R2 := Lib.hid (R2.out.below hA)
      replace R3 := Lib.hid (R3.out.below hA)
      have HW11 := Lib.hid hw11
      clear hw11 hA M10
      go_upto_region 12 with fail
      rw [HW11.out]
      clear HW11
      obtain ⟨gN, hgN⟩ : ∃ g9, g9 = w10.heap.size := ⟨_, rfl⟩
      rw [← hgN] at M11 ⊢
      clear hgN
      have c_gA_0 := M11.cell (.tail _ _ _ _ _ (.tail _ _ _ _ _ (.tail _ _ _ _ _ (Has.head _ _ _ _)))) (i := 0) rfl
      have c_gA_1 := M11.cell (.tail _ _ _ _ _ (.tail _ _ _ _ _ (.tail _ _ _ _ _ (Has.head _ _ _ _)))) (i := 1) rfl
      have c_gA_2 := M11.cell (.tail _ _ _ _ _ (.tail _ _ _ _ _ (.tail _ _ _ _ _ (Has.head _ _ _ _)))) (i := 2) rfl
      have c_gA_3 := M11.cell (.tail _ _ _ _ _ (.tail _ _ _ _ _ (.tail _ _ _ _ _ (Has.head _ _ _ _)))) (i := 3) rfl
      have c_gA_4 := M11.cell (.tail _ _ _ _ _ (.tail _ _ _ _ _ (.tail _ _ _ _ _ (Has.head _ _ _ _)))) (i := 4) rfl
      have c_gA_5 := M11.cell (.tail _ _ _ _ _ (.tail _ _ _ _ _ (.tail _ _ _ _ _ (Has.head _ _ _ _)))) (i := 5) rfl
      go_wp2_with fail
      refine (N2.out (by first | rfl | trivial) _ hS.out).mono ?_
      rintro e w12 ⟨a4, cap4, rfl, s4, hA⟩
      have M12 := M11.call hA
      clear c_gA_0 c_gA_1 c_gA_2 c_gA_3 c_gA_4 c_gA_5
      clear M11
      replace hS := Lib.hid (hS.out.below hA)
      replace R1 := Lib.hid (R1.out.below hA)
      replace R2 := Lib.hid (R2.out.below hA)
      replace R3 := Lib.hid (R3.out.below hA)
      have R4 := Lib.hid s4
      clear s4
      clear hA
      obtain ⟨w13, hw13⟩ : ∃ wq, w12.alloc (.cells #[.int .i64 x, .int .i64 y, .int .i64 X, .int .i64 Y, .int .i64 s, .slice a4 n cap4] 24) = wq := ⟨_, rfl⟩
      have M13 := M12.alloc 24 [.int .i64 x, .int .i64 y, .int .i64 X, .int .i64 Y, .int .i64 s, .slice a4 n cap4]
      rw [show w12.alloc (.cells [Value.int .i64 x, .int .i64 y, .int .i64 X, .int .i64 Y, .int .i64 s, .slice a4 n cap4].toArray 24) = w13 from hw13] at M13
      have hA : Below w12.heap.size w12 w13 := by rw [← hw13]; exact (Below.refl _ _).alloc (Nat.le_refl _) _
      replace hS := Lib.hid (hS.out.below hA)
      replace R1 := Lib.hid (R1.out.below hA)
      replace R2 := Lib.hid (R2.out.below hA)
      replace R3 := Lib.hid (R3.out.below hA)
      replace R4 := Lib.hid (R4.out.below hA)
      have HW13 := Lib.hid hw13
      clear hw13 hA M12
      go_upto_region 13 with fail
      rw [HW13.out]
      clear HW13
      obtain ⟨gO, hgO⟩ : ∃ g9, g9 = w12.heap.size := ⟨_, rfl⟩
      rw [← hgO] at M13 ⊢
      clear hgO
      have c_gN_0 := M13.cell (.tail _ _ _ _ _ (Has.head _ _ _ _)) (i := 0) rfl
      have c_gN_1 := M13.cell (.tail _ _ _ _ _ (Has.head _ _ _ _)) (i := 1) rfl
      have c_gN_2 := M13.cell (.tail _ _ _ _ _ (Has.head _ _ _ _)) (i := 2) rfl
      have c_gN_3 := M13.cell (.tail _ _ _ _ _ (Has.head _ _ _ _)) (i := 3) rfl
      have c_gN_4 := M13.cell (.tail _ _ _ _ _ (Has.head _ _ _ _)) (i := 4) rfl
      have c_gN_5 := M13.cell (.tail _ _ _ _ _ (Has.head _ _ _ _)) (i := 5) rfl
      have c_gO_0 := M13.cell (Has.head _ _ _ _) (i := 0) rfl
      have c_gO_1 := M13.cell (Has.head _ _ _ _) (i := 1) rfl
      have c_gO_2 := M13.cell (Has.head _ _ _ _) (i := 2) rfl
      have c_gO_3 := M13.cell (Has.head _ _ _ _) (i := 3) rfl
      have c_gO_4 := M13.cell (Has.head _ _ _ _) (i := 4) rfl
      have c_gO_5 := M13.cell (Has.head _ _ _ _) (i := 5) rfl
      go_wp2_with fail
      refine (S2c.out _ _ _ _ _ R3.out R4.out).mono ?_
      rintro e w14 ⟨rfl, hA⟩
      have M14 := M13.call hA
      clear c_gN_0 c_gN_1 c_gN_2 c_gN_3 c_gN_4 c_gN_5 c_gO_0 c_gO_1 c_gO_2 c_gO_3 c_gO_4 c_gO_5
      clear M13
      replace hS := Lib.hid (hS.out.below hA)
      replace R1 := Lib.hid (R1.out.below hA)
      replace R2 := Lib.hid (R2.out.below hA)
      replace R3 := Lib.hid (R3.out.below hA)
      replace R4 := Lib.hid (R4.out.below hA)
      clear hA
      have c_gN_0 := M14.cell (.tail _ _ _ _ _ (Has.head _ _ _ _)) (i := 0) rfl
      have c_gN_1 := M14.cell (.tail _ _ _ _ _ (Has.head _ _ _ _)) (i := 1) rfl
      have c_gN_2 := M14.cell (.tail _ _ _ _ _ (Has.head _ _ _ _)) (i := 2) rfl
      have c_gN_3 := M14.cell (.tail _ _ _ _ _ (Has.head _ _ _ _)) (i := 3) rfl
      have c_gN_4 := M14.cell (.tail _ _ _ _ _ (Has.head _ _ _ _)) (i := 4) rfl
      have c_gN_5 := M14.cell (.tail _ _ _ _ _ (Has.head _ _ _ _)) (i := 5) rfl
      go_wp2_with fail
      refine (K4.out (by first | rfl | trivial) _ _ _ R3.out).mono ?_
      rintro e w15 ⟨rfl, hA⟩
      have M15 := M14.call hA
      clear c_gN_0 c_gN_1 c_gN_2 c_gN_3 c_gN_4 c_gN_5
      clear M14
      replace hS := Lib.hid (hS.out.below hA)
      replace R1 := Lib.hid (R1.out.below hA)
      replace R2 := Lib.hid (R2.out.below hA)
      replace R3 := Lib.hid (R3.out.below hA)
      replace R4 := Lib.hid (R4.out.below hA)
      clear hA
      go_wp2_with fail
      refine (C0.out _).mono ?_
      rintro e w16 ⟨rfl, hA⟩
      have M16 := M15.call hA
      clear M15
      replace hS := Lib.hid (hS.out.below hA)
      replace R1 := Lib.hid (R1.out.below hA)
      replace R2 := Lib.hid (R2.out.below hA)
      replace R3 := Lib.hid (R3.out.below hA)
      replace R4 := Lib.hid (R4.out.below hA)
      clear hA
      go_wp2_with fail
      go_ret
      exact ⟨rfl, M16.below⟩
    · have b4 : (c1 != 0) = true := by simpa using h1
      go_wp2_with fail
      refine (C0.out _).mono ?_
      rintro e w10 ⟨rfl, hA⟩
      have M10 := M9.call hA
      clear M9
      replace hS := Lib.hid (hS.out.below hA)
      replace R1 := Lib.hid (R1.out.below hA)
      replace R2 := Lib.hid (R2.out.below hA)
      clear hA
      go_wp2_with fail
      go_ret
      exact ⟨rfl, M10.below⟩
end Go.Proofs.Ytnfgogfbpggnfaa
