/-
  The law's example.
-/
import Derived.Test.YtnfgogfbpggnfaaGridD
import Derived.Test.YtnfgogfbpggnfaaGridF
import Derived.Test.YtnfgogfbpggnfaaGridH
import Derived.Test.YtnfgogfbpggnfaaGridI
import Derived.Test.YtnfgogfbpggnfaaGridJ
import Derived.Test.YtnfgogfbpggnfaaGridK
import Derived.Test.YtnfgogfbpggnfaaGridM
import Derived.Test.YtnfgogfbpggnfaaGridRA
set_option linter.unusedVariables false
set_option linter.unusedSimpArgs false
namespace Go.Proofs.Ytnfgogfbpggnfaa
open Go Go.RowKit Go.Th Go.Th.Grid Go.Th.Wide

/-- A grid is answered, a sum, a weight, and a code, wherever its places lie. -/
def WSaid (x y X Y s : Int) (n : Nat) (l : List Int) (hi lo most c : Int) (w : World) (e : Ending) (w' : World) : Prop :=
  ∃ a cap, e = .returned (.tuple #[gv x y X Y s (.slice a n cap), wv hi lo, .int .i64 most, .int .i64 c]) ∧ Sl w' 1 (.slice a n cap) n (i64s l) ∧ Below w.heap.size w w'
theorem WRes.said {x y X Y s : Int} {n : Nat} {l : List Int} {T most c : Int} {w w' : World} {e : Ending} (h : WRes x y X Y s n l T most c w e w') : WSaid x y X Y s n l (hiZ T) (loZ T) most c w e w' := by
  obtain ⟨a, cap, h1, h2, h3⟩ := h
  exact ⟨a, cap, h1, Sl.of_own h2, h3⟩

set_option maxRecDepth 100000 in
set_option maxHeartbeats 64000000 in
theorem works14_go
    (C1 : ∀ w, Calls Try.prog 11 #[.int .i64 2, .int .i64 2, .int .i64 100, .int .i64 200, .int .i64 64] w (GSaid 2 2 100 200 64 4 [268435456, 268435456, 268435456, 268435456] 0 w))
    (C2 : ∀ a cap al capl w, Sl w 1 (.slice a 4 cap) 4 (i64s [268435456, 268435456, 268435456, 268435456]) → Sl w 1 (.slice al 4 capl) 4 (i64s [0, 0, 0, 7]) → Calls Try.prog 21 #[gv 2 2 100 200 64 (.slice a 4 cap), .slice al 4 capl] w (WSaid 2 2 100 200 64 4 [0, 0, 0, 1073741824] 0 1879048192 7 0 w))
    (C3 : ∀ a cap w, Sl w 1 (.slice a 4 cap) 4 (i64s [0, 0, 0, 1073741824]) → Calls Try.prog 17 #[gv 2 2 100 200 64 (.slice a 4 cap), .int .i64 64] w (GSaid 2 2 100 200 64 4 [67108864, 201326592, 201326592, 603979776] 0 w))
    (C4 : ∀ a cap w, Sl w 1 (.slice a 4 cap) 4 (i64s [268435456, 268435456, 268435456, 268435456]) → Calls Try.prog 27 #[gv 2 2 100 200 64 (.slice a 4 cap)] w (GSaid 4 4 84 184 32 16 (List.replicate 16 67108864) 0 w))
    (C5 : ∀ a cap w, Sl w 1 (.slice a 16 cap) 16 (i64s (List.replicate 16 67108864)) → Calls Try.prog 29 #[gv 4 4 84 184 32 (.slice a 16 cap)] w (GSaid 2 2 100 200 64 4 [268435456, 268435456, 268435456, 268435456] 0 w))
    (C6 : ∀ a cap w, Sl w 1 (.slice a 4 cap) 4 (i64s [268435456, 268435456, 268435456, 268435456]) → Calls Try.prog 25 #[gv 2 2 100 200 64 (.slice a 4 cap), .int .i64 1, .int .i64 1, .int .i64 2, .int .i64 1] w (GSaid 2 1 164 264 64 2 [268435456, 0] 0 w))
    (C7 : ∀ w, Calls Try.prog 11 #[.int .i64 65, .int .i64 1, .int .i64 0, .int .i64 0, .int .i64 64] w (GSaid 0 0 0 0 0 0 [] 2 w))
    (C8 : ∀ a cap al capl w, Sl w 1 (.slice a 4 cap) 4 (i64s [268435456, 268435456, 268435456, 268435456]) → Sl w 1 (.slice al 4 capl) 4 (i64s [0, 0, 0, 0]) → Calls Try.prog 21 #[gv 2 2 100 200 64 (.slice a 4 cap), .slice al 4 capl] w (WSaid 2 2 100 200 64 4 [268435456, 268435456, 268435456, 268435456] 0 0 0 7 w))
    (C9 : ∀ a cap, Ans 31 #[gv 2 2 100 200 64 (.slice a 4 cap), .int .i64 3] (.tuple #[.agg #[.int .i64 164, .int .i64 264], .bool true]))
    (C10 : ∀ a cap w, Sl w 1 (.slice a 2 cap) 2 (i64s [268435456, 0]) → Calls Try.prog 14 #[gv 2 1 164 264 64 (.slice a 2 cap)] w (GSaid 2 1 164 264 64 2 [1073741824, 0] 0 w))
    (C11 : Ans 24 #[.int .i64 1879048192] (wv 0 1879048192))
    (C12 : ∀ a ca b cb w, Sl w 1 (.slice a 4 ca) 4 (i64s [268435456, 268435456, 268435456, 268435456]) → Sl w 1 (.slice b 4 cb) 4 (i64s [268435456, 268435456, 268435456, 268435456]) → Calls Try.prog 13 #[gv 2 2 100 200 64 (.slice a 4 ca), gv 2 2 100 200 64 (.slice b 4 cb)] w fun e w' => e = .returned (.bool true) ∧ Below w.heap.size w w')
    (C13 : ∀ a cap w, Sl w 1 (.slice a 4 cap) 4 (i64s [268435456, 268435456, 268435456, 268435456]) → Calls Try.prog 9 #[gv 2 2 100 200 64 (.slice a 4 cap)] w fun e w' => e = .returned (.int .i64 0) ∧ Below w.heap.size w w')
    (C14 : ∀ a cap w, Sl w 1 (.slice a 4 cap) 4 (i64s [268435456, 268435456, 268435456, 268435456]) → Calls Try.prog 32 #[gv 2 2 100 200 64 (.slice a 4 cap)] w fun e w' => e = .returned (.int .i64 1073741824) ∧ Below w.heap.size w w')
    (C15 : ∀ a cap w, Sl w 1 (.slice a 4 cap) 4 (i64s [268435456, 268435456, 268435456, 268435456]) → Calls Try.prog 33 #[gv 2 2 100 200 64 (.slice a 4 cap), .int .i64 1, .int .i64 2] w fun e w' => ∃ a' cap', e = .returned (gv 2 2 101 202 64 (.slice a' 4 cap')) ∧ Below w.heap.size w w')
    (C16 : ∀ a cap, Ans 34 #[gv 2 2 100 200 64 (.slice a 4 cap)] (.int .i64 4)) :
    Ans 8 #[] (.bool true) := by
  intro w
  have M0 := Mem.start w
  have C1 := Lib.hid C1
  have C2 := Lib.hid C2
  have C3 := Lib.hid C3
  have C4 := Lib.hid C4
  have C5 := Lib.hid C5
  have C6 := Lib.hid C6
  have C7 := Lib.hid C7
  have C8 := Lib.hid C8
  have C9 := Lib.hid C9
  have C10 := Lib.hid C10
  have C11 := Lib.hid C11
  have C12 := Lib.hid C12
  have C13 := Lib.hid C13
  have C14 := Lib.hid C14
  have C15 := Lib.hid C15
  have C16 := Lib.hid C16
  go_enter Try.func8, Try.ntmps8
  go_wp2_with fail
  refine (C1.out _).mono ?_
  rintro e w1 ⟨a1, cap1, rfl, s1, hA⟩
  have M1 := M0.call hA
  clear M0
  have R1 := Lib.hid s1
  clear s1
  clear hA
  obtain ⟨w2, hw2⟩ : ∃ wq, w1.alloc (.cells #[.int .i64 2, .int .i64 2, .int .i64 100, .int .i64 200, .int .i64 64, .slice a1 4 cap1] 24) = wq := ⟨_, rfl⟩
  have M2 := M1.alloc 24 [.int .i64 2, .int .i64 2, .int .i64 100, .int .i64 200, .int .i64 64, .slice a1 4 cap1]
  rw [show w1.alloc (.cells [Value.int .i64 2, .int .i64 2, .int .i64 100, .int .i64 200, .int .i64 64, .slice a1 4 cap1].toArray 24) = w2 from hw2] at M2
  have hA : Below w1.heap.size w1 w2 := by rw [← hw2]; exact (Below.refl _ _).alloc (Nat.le_refl _) _
  replace R1 := Lib.hid (R1.out.below hA)
  have HW2 := Lib.hid hw2
  clear hw2 hA M1
  go_upto_region 2 with fail
  rw [HW2.out]
  clear HW2
  obtain ⟨gG, hgG⟩ : ∃ g9, g9 = w1.heap.size := ⟨_, rfl⟩
  rw [← hgG] at M2 ⊢
  clear hgG
  have c_gG_0 := M2.cell (Has.head _ _ _ _) (i := 0) rfl
  have c_gG_1 := M2.cell (Has.head _ _ _ _) (i := 1) rfl
  have c_gG_2 := M2.cell (Has.head _ _ _ _) (i := 2) rfl
  have c_gG_3 := M2.cell (Has.head _ _ _ _) (i := 3) rfl
  have c_gG_4 := M2.cell (Has.head _ _ _ _) (i := 4) rfl
  have c_gG_5 := M2.cell (Has.head _ _ _ _) (i := 5) rfl
  obtain ⟨w3, hw3⟩ : ∃ wq, w2.alloc (.cells #[.int .i64 0, .int .i64 0, .int .i64 0, .int .i64 7] 2) = wq := ⟨_, rfl⟩
  have M3 := M2.alloc 2 [.int .i64 0, .int .i64 0, .int .i64 0, .int .i64 7]
  rw [show w2.alloc (.cells [Value.int .i64 0, .int .i64 0, .int .i64 0, .int .i64 7].toArray 2) = w3 from hw3] at M3
  have hA : Below w2.heap.size w2 w3 := by rw [← hw3]; exact (Below.refl _ _).alloc (Nat.le_refl _) _
  replace R1 := Lib.hid (R1.out.below hA)
  have HW3 := Lib.hid hw3
  clear hw3 hA M2
  go_wp2_with fail
  rw [HW3.out]
  clear HW3
  obtain ⟨gL, hgL⟩ : ∃ g9, g9 = w2.heap.size := ⟨_, rfl⟩
  rw [← hgL] at M3 ⊢
  clear hgL
  refine (C2.out a1 cap1 _ 4 _ R1.out ((M3.has (Has.head _ _ _ _)).sl 4 rfl (by unfold maxLen; omega))).mono ?_
  rintro e w4 ⟨a2, cap2, rfl, s2, hA⟩
  have M4 := M3.call hA
  clear c_gG_0 c_gG_1 c_gG_2 c_gG_3 c_gG_4 c_gG_5
  clear M3
  replace R1 := Lib.hid (R1.out.below hA)
  have R2 := Lib.hid s2
  clear s2
  clear hA
  obtain ⟨w5, hw5⟩ : ∃ wq, w4.alloc (.cells #[.int .i64 2, .int .i64 2, .int .i64 100, .int .i64 200, .int .i64 64, .slice a2 4 cap2] 24) = wq := ⟨_, rfl⟩
  have M5 := M4.alloc 24 [.int .i64 2, .int .i64 2, .int .i64 100, .int .i64 200, .int .i64 64, .slice a2 4 cap2]
  rw [show w4.alloc (.cells [Value.int .i64 2, .int .i64 2, .int .i64 100, .int .i64 200, .int .i64 64, .slice a2 4 cap2].toArray 24) = w5 from hw5] at M5
  have hA : Below w4.heap.size w4 w5 := by rw [← hw5]; exact (Below.refl _ _).alloc (Nat.le_refl _) _
  replace R1 := Lib.hid (R1.out.below hA)
  replace R2 := Lib.hid (R2.out.below hA)
  have HW5 := Lib.hid hw5
  clear hw5 hA M4
  obtain ⟨w6, hw6⟩ : ∃ wq, w5.alloc (.cells #[.int .i64 0, .int .u64 1879048192] 41) = wq := ⟨_, rfl⟩
  have M6 := M5.alloc 41 [.int .i64 0, .int .u64 1879048192]
  rw [show w5.alloc (.cells [Value.int .i64 0, .int .u64 1879048192].toArray 41) = w6 from hw6] at M6
  have hA : Below w5.heap.size w5 w6 := by rw [← hw6]; exact (Below.refl _ _).alloc (Nat.le_refl _) _
  replace R1 := Lib.hid (R1.out.below hA)
  replace R2 := Lib.hid (R2.out.below hA)
  have HW6 := Lib.hid hw6
  clear hw6 hA M5
  go_upto_region 5 with fail
  rw [HW5.out, HW6.out, show w4.heap.size + 1 = w5.heap.size by rw [← HW5.out]; simp]
  clear HW5 HW6
  obtain ⟨gZ5, hgZ5⟩ : ∃ g9, g9 = w5.heap.size := ⟨_, rfl⟩
  rw [← hgZ5] at M6 ⊢
  clear hgZ5
  obtain ⟨gH5, hgH5⟩ : ∃ g9, g9 = w4.heap.size := ⟨_, rfl⟩
  rw [← hgH5] at M6 ⊢
  clear hgH5
  have c_gH5_0 := M6.cell (.tail _ _ _ _ _ (Has.head _ _ _ _)) (i := 0) rfl
  have c_gH5_1 := M6.cell (.tail _ _ _ _ _ (Has.head _ _ _ _)) (i := 1) rfl
  have c_gH5_2 := M6.cell (.tail _ _ _ _ _ (Has.head _ _ _ _)) (i := 2) rfl
  have c_gH5_3 := M6.cell (.tail _ _ _ _ _ (Has.head _ _ _ _)) (i := 3) rfl
  have c_gH5_4 := M6.cell (.tail _ _ _ _ _ (Has.head _ _ _ _)) (i := 4) rfl
  have c_gH5_5 := M6.cell (.tail _ _ _ _ _ (Has.head _ _ _ _)) (i := 5) rfl
  go_wp2_with fail
  refine (C3.out _ _ _ R2.out).mono ?_
  rintro e w7 ⟨a3, cap3, rfl, s3, hA⟩
  have M7 := M6.call hA
  clear c_gH5_0 c_gH5_1 c_gH5_2 c_gH5_3 c_gH5_4 c_gH5_5
  clear M6
  replace R1 := Lib.hid (R1.out.below hA)
  replace R2 := Lib.hid (R2.out.below hA)
  have R3 := Lib.hid s3
  clear s3
  clear hA
  obtain ⟨w8, hw8⟩ : ∃ wq, w7.alloc (.cells #[.int .i64 2, .int .i64 2, .int .i64 100, .int .i64 200, .int .i64 64, .slice a3 4 cap3] 24) = wq := ⟨_, rfl⟩
  have M8 := M7.alloc 24 [.int .i64 2, .int .i64 2, .int .i64 100, .int .i64 200, .int .i64 64, .slice a3 4 cap3]
  rw [show w7.alloc (.cells [Value.int .i64 2, .int .i64 2, .int .i64 100, .int .i64 200, .int .i64 64, .slice a3 4 cap3].toArray 24) = w8 from hw8] at M8
  have hA : Below w7.heap.size w7 w8 := by rw [← hw8]; exact (Below.refl _ _).alloc (Nat.le_refl _) _
  replace R1 := Lib.hid (R1.out.below hA)
  replace R2 := Lib.hid (R2.out.below hA)
  replace R3 := Lib.hid (R3.out.below hA)
  have HW8 := Lib.hid hw8
  clear hw8 hA M7
  go_upto_region 8 with fail
  rw [HW8.out]
  clear HW8
  obtain ⟨gS, hgS⟩ : ∃ g9, g9 = w7.heap.size := ⟨_, rfl⟩
  rw [← hgS] at M8 ⊢
  clear hgS
  have c_gG_0 := M8.cell (.tail _ _ _ _ _ (.tail _ _ _ _ _ (.tail _ _ _ _ _ (.tail _ _ _ _ _ (Has.head _ _ _ _))))) (i := 0) rfl
  have c_gG_1 := M8.cell (.tail _ _ _ _ _ (.tail _ _ _ _ _ (.tail _ _ _ _ _ (.tail _ _ _ _ _ (Has.head _ _ _ _))))) (i := 1) rfl
  have c_gG_2 := M8.cell (.tail _ _ _ _ _ (.tail _ _ _ _ _ (.tail _ _ _ _ _ (.tail _ _ _ _ _ (Has.head _ _ _ _))))) (i := 2) rfl
  have c_gG_3 := M8.cell (.tail _ _ _ _ _ (.tail _ _ _ _ _ (.tail _ _ _ _ _ (.tail _ _ _ _ _ (Has.head _ _ _ _))))) (i := 3) rfl
  have c_gG_4 := M8.cell (.tail _ _ _ _ _ (.tail _ _ _ _ _ (.tail _ _ _ _ _ (.tail _ _ _ _ _ (Has.head _ _ _ _))))) (i := 4) rfl
  have c_gG_5 := M8.cell (.tail _ _ _ _ _ (.tail _ _ _ _ _ (.tail _ _ _ _ _ (.tail _ _ _ _ _ (Has.head _ _ _ _))))) (i := 5) rfl
  go_wp2_with fail
  refine (C4.out _ _ _ R1.out).mono ?_
  rintro e w9 ⟨a4, cap4, rfl, s4, hA⟩
  have M9 := M8.call hA
  clear c_gG_0 c_gG_1 c_gG_2 c_gG_3 c_gG_4 c_gG_5
  clear M8
  replace R1 := Lib.hid (R1.out.below hA)
  replace R2 := Lib.hid (R2.out.below hA)
  replace R3 := Lib.hid (R3.out.below hA)
  have R4 := Lib.hid s4
  clear s4
  clear hA
  obtain ⟨w10, hw10⟩ : ∃ wq, w9.alloc (.cells #[.int .i64 4, .int .i64 4, .int .i64 84, .int .i64 184, .int .i64 32, .slice a4 16 cap4] 24) = wq := ⟨_, rfl⟩
  have M10 := M9.alloc 24 [.int .i64 4, .int .i64 4, .int .i64 84, .int .i64 184, .int .i64 32, .slice a4 16 cap4]
  rw [show w9.alloc (.cells [Value.int .i64 4, .int .i64 4, .int .i64 84, .int .i64 184, .int .i64 32, .slice a4 16 cap4].toArray 24) = w10 from hw10] at M10
  have hA : Below w9.heap.size w9 w10 := by rw [← hw10]; exact (Below.refl _ _).alloc (Nat.le_refl _) _
  replace R1 := Lib.hid (R1.out.below hA)
  replace R2 := Lib.hid (R2.out.below hA)
  replace R3 := Lib.hid (R3.out.below hA)
  replace R4 := Lib.hid (R4.out.below hA)
  have HW10 := Lib.hid hw10
  clear hw10 hA M9
  go_upto_region 9 with fail
  rw [HW10.out]
  clear HW10
  obtain ⟨gT, hgT⟩ : ∃ g9, g9 = w9.heap.size := ⟨_, rfl⟩
  rw [← hgT] at M10 ⊢
  clear hgT
  have c_gT_0 := M10.cell (Has.head _ _ _ _) (i := 0) rfl
  have c_gT_1 := M10.cell (Has.head _ _ _ _) (i := 1) rfl
  have c_gT_2 := M10.cell (Has.head _ _ _ _) (i := 2) rfl
  have c_gT_3 := M10.cell (Has.head _ _ _ _) (i := 3) rfl
  have c_gT_4 := M10.cell (Has.head _ _ _ _) (i := 4) rfl
  have c_gT_5 := M10.cell (Has.head _ _ _ _) (i := 5) rfl
  go_wp2_with fail
  refine (C5.out _ _ _ R4.out).mono ?_
  rintro e w11 ⟨a5, cap5, rfl, s5, hA⟩
  have M11 := M10.call hA
  clear c_gT_0 c_gT_1 c_gT_2 c_gT_3 c_gT_4 c_gT_5
  clear M10
  replace R1 := Lib.hid (R1.out.below hA)
  replace R2 := Lib.hid (R2.out.below hA)
  replace R3 := Lib.hid (R3.out.below hA)
  replace R4 := Lib.hid (R4.out.below hA)
  have R5 := Lib.hid s5
  clear s5
  clear hA
  obtain ⟨w12, hw12⟩ : ∃ wq, w11.alloc (.cells #[.int .i64 2, .int .i64 2, .int .i64 100, .int .i64 200, .int .i64 64, .slice a5 4 cap5] 24) = wq := ⟨_, rfl⟩
  have M12 := M11.alloc 24 [.int .i64 2, .int .i64 2, .int .i64 100, .int .i64 200, .int .i64 64, .slice a5 4 cap5]
  rw [show w11.alloc (.cells [Value.int .i64 2, .int .i64 2, .int .i64 100, .int .i64 200, .int .i64 64, .slice a5 4 cap5].toArray 24) = w12 from hw12] at M12
  have hA : Below w11.heap.size w11 w12 := by rw [← hw12]; exact (Below.refl _ _).alloc (Nat.le_refl _) _
  replace R1 := Lib.hid (R1.out.below hA)
  replace R2 := Lib.hid (R2.out.below hA)
  replace R3 := Lib.hid (R3.out.below hA)
  replace R4 := Lib.hid (R4.out.below hA)
  replace R5 := Lib.hid (R5.out.below hA)
  have HW12 := Lib.hid hw12
  clear hw12 hA M11
  go_upto_region 10 with fail
  rw [HW12.out]
  clear HW12
  obtain ⟨gU, hgU⟩ : ∃ g9, g9 = w11.heap.size := ⟨_, rfl⟩
  rw [← hgU] at M12 ⊢
  clear hgU
  have c_gG_0 := M12.cell (.tail _ _ _ _ _ (.tail _ _ _ _ _ (.tail _ _ _ _ _ (.tail _ _ _ _ _ (.tail _ _ _ _ _ (.tail _ _ _ _ _ (Has.head _ _ _ _))))))) (i := 0) rfl
  have c_gG_1 := M12.cell (.tail _ _ _ _ _ (.tail _ _ _ _ _ (.tail _ _ _ _ _ (.tail _ _ _ _ _ (.tail _ _ _ _ _ (.tail _ _ _ _ _ (Has.head _ _ _ _))))))) (i := 1) rfl
  have c_gG_2 := M12.cell (.tail _ _ _ _ _ (.tail _ _ _ _ _ (.tail _ _ _ _ _ (.tail _ _ _ _ _ (.tail _ _ _ _ _ (.tail _ _ _ _ _ (Has.head _ _ _ _))))))) (i := 2) rfl
  have c_gG_3 := M12.cell (.tail _ _ _ _ _ (.tail _ _ _ _ _ (.tail _ _ _ _ _ (.tail _ _ _ _ _ (.tail _ _ _ _ _ (.tail _ _ _ _ _ (Has.head _ _ _ _))))))) (i := 3) rfl
  have c_gG_4 := M12.cell (.tail _ _ _ _ _ (.tail _ _ _ _ _ (.tail _ _ _ _ _ (.tail _ _ _ _ _ (.tail _ _ _ _ _ (.tail _ _ _ _ _ (Has.head _ _ _ _))))))) (i := 4) rfl
  have c_gG_5 := M12.cell (.tail _ _ _ _ _ (.tail _ _ _ _ _ (.tail _ _ _ _ _ (.tail _ _ _ _ _ (.tail _ _ _ _ _ (.tail _ _ _ _ _ (Has.head _ _ _ _))))))) (i := 5) rfl
  go_wp2_with fail
  refine (C6.out _ _ _ R1.out).mono ?_
  rintro e w13 ⟨a6, cap6, rfl, s6, hA⟩
  have M13 := M12.call hA
  clear c_gG_0 c_gG_1 c_gG_2 c_gG_3 c_gG_4 c_gG_5
  clear M12
  replace R1 := Lib.hid (R1.out.below hA)
  replace R2 := Lib.hid (R2.out.below hA)
  replace R3 := Lib.hid (R3.out.below hA)
  replace R4 := Lib.hid (R4.out.below hA)
  replace R5 := Lib.hid (R5.out.below hA)
  have R6 := Lib.hid s6
  clear s6
  clear hA
  obtain ⟨w14, hw14⟩ : ∃ wq, w13.alloc (.cells #[.int .i64 2, .int .i64 1, .int .i64 164, .int .i64 264, .int .i64 64, .slice a6 2 cap6] 24) = wq := ⟨_, rfl⟩
  have M14 := M13.alloc 24 [.int .i64 2, .int .i64 1, .int .i64 164, .int .i64 264, .int .i64 64, .slice a6 2 cap6]
  rw [show w13.alloc (.cells [Value.int .i64 2, .int .i64 1, .int .i64 164, .int .i64 264, .int .i64 64, .slice a6 2 cap6].toArray 24) = w14 from hw14] at M14
  have hA : Below w13.heap.size w13 w14 := by rw [← hw14]; exact (Below.refl _ _).alloc (Nat.le_refl _) _
  replace R1 := Lib.hid (R1.out.below hA)
  replace R2 := Lib.hid (R2.out.below hA)
  replace R3 := Lib.hid (R3.out.below hA)
  replace R4 := Lib.hid (R4.out.below hA)
  replace R5 := Lib.hid (R5.out.below hA)
  replace R6 := Lib.hid (R6.out.below hA)
  have HW14 := Lib.hid hw14
  clear hw14 hA M13
  go_upto_region 11 with fail
  rw [HW14.out]
  clear HW14
  obtain ⟨gCc, hgCc⟩ : ∃ g9, g9 = w13.heap.size := ⟨_, rfl⟩
  rw [← hgCc] at M14 ⊢
  clear hgCc
  go_wp2_with fail
  refine (C7.out _).mono ?_
  rintro e w15 ⟨a7, cap7, rfl, s7, hA⟩
  have M15 := M14.call hA
  clear M14
  replace R1 := Lib.hid (R1.out.below hA)
  replace R2 := Lib.hid (R2.out.below hA)
  replace R3 := Lib.hid (R3.out.below hA)
  replace R4 := Lib.hid (R4.out.below hA)
  replace R5 := Lib.hid (R5.out.below hA)
  replace R6 := Lib.hid (R6.out.below hA)
  have R7 := Lib.hid s7
  clear s7
  clear hA
  obtain ⟨w16, hw16⟩ : ∃ wq, w15.alloc (.cells #[.int .i64 0, .int .i64 0, .int .i64 0, .int .i64 0, .int .i64 0, .slice a7 0 cap7] 24) = wq := ⟨_, rfl⟩
  have M16 := M15.alloc 24 [.int .i64 0, .int .i64 0, .int .i64 0, .int .i64 0, .int .i64 0, .slice a7 0 cap7]
  rw [show w15.alloc (.cells [Value.int .i64 0, .int .i64 0, .int .i64 0, .int .i64 0, .int .i64 0, .slice a7 0 cap7].toArray 24) = w16 from hw16] at M16
  have hA : Below w15.heap.size w15 w16 := by rw [← hw16]; exact (Below.refl _ _).alloc (Nat.le_refl _) _
  replace R1 := Lib.hid (R1.out.below hA)
  replace R2 := Lib.hid (R2.out.below hA)
  replace R3 := Lib.hid (R3.out.below hA)
  replace R4 := Lib.hid (R4.out.below hA)
  replace R5 := Lib.hid (R5.out.below hA)
  replace R6 := Lib.hid (R6.out.below hA)
  replace R7 := Lib.hid (R7.out.below hA)
  have HW16 := Lib.hid hw16
  clear hw16 hA M15
  go_upto_region 12 with fail
  rw [HW16.out]
  clear HW16
  obtain ⟨gE, hgE⟩ : ∃ g9, g9 = w15.heap.size := ⟨_, rfl⟩
  rw [← hgE] at M16 ⊢
  clear hgE
  have c_gG_0 := M16.cell (.tail _ _ _ _ _ (.tail _ _ _ _ _ (.tail _ _ _ _ _ (.tail _ _ _ _ _ (.tail _ _ _ _ _ (.tail _ _ _ _ _ (.tail _ _ _ _ _ (.tail _ _ _ _ _ (Has.head _ _ _ _))))))))) (i := 0) rfl
  have c_gG_1 := M16.cell (.tail _ _ _ _ _ (.tail _ _ _ _ _ (.tail _ _ _ _ _ (.tail _ _ _ _ _ (.tail _ _ _ _ _ (.tail _ _ _ _ _ (.tail _ _ _ _ _ (.tail _ _ _ _ _ (Has.head _ _ _ _))))))))) (i := 1) rfl
  have c_gG_2 := M16.cell (.tail _ _ _ _ _ (.tail _ _ _ _ _ (.tail _ _ _ _ _ (.tail _ _ _ _ _ (.tail _ _ _ _ _ (.tail _ _ _ _ _ (.tail _ _ _ _ _ (.tail _ _ _ _ _ (Has.head _ _ _ _))))))))) (i := 2) rfl
  have c_gG_3 := M16.cell (.tail _ _ _ _ _ (.tail _ _ _ _ _ (.tail _ _ _ _ _ (.tail _ _ _ _ _ (.tail _ _ _ _ _ (.tail _ _ _ _ _ (.tail _ _ _ _ _ (.tail _ _ _ _ _ (Has.head _ _ _ _))))))))) (i := 3) rfl
  have c_gG_4 := M16.cell (.tail _ _ _ _ _ (.tail _ _ _ _ _ (.tail _ _ _ _ _ (.tail _ _ _ _ _ (.tail _ _ _ _ _ (.tail _ _ _ _ _ (.tail _ _ _ _ _ (.tail _ _ _ _ _ (Has.head _ _ _ _))))))))) (i := 4) rfl
  have c_gG_5 := M16.cell (.tail _ _ _ _ _ (.tail _ _ _ _ _ (.tail _ _ _ _ _ (.tail _ _ _ _ _ (.tail _ _ _ _ _ (.tail _ _ _ _ _ (.tail _ _ _ _ _ (.tail _ _ _ _ _ (Has.head _ _ _ _))))))))) (i := 5) rfl
  obtain ⟨w17, hw17⟩ : ∃ wq, w16.alloc (.cells #[.int .i64 0, .int .i64 0, .int .i64 0, .int .i64 0] 2) = wq := ⟨_, rfl⟩
  have M17 := M16.alloc 2 [.int .i64 0, .int .i64 0, .int .i64 0, .int .i64 0]
  rw [show w16.alloc (.cells [Value.int .i64 0, .int .i64 0, .int .i64 0, .int .i64 0].toArray 2) = w17 from hw17] at M17
  have hA : Below w16.heap.size w16 w17 := by rw [← hw17]; exact (Below.refl _ _).alloc (Nat.le_refl _) _
  replace R1 := Lib.hid (R1.out.below hA)
  replace R2 := Lib.hid (R2.out.below hA)
  replace R3 := Lib.hid (R3.out.below hA)
  replace R4 := Lib.hid (R4.out.below hA)
  replace R5 := Lib.hid (R5.out.below hA)
  replace R6 := Lib.hid (R6.out.below hA)
  replace R7 := Lib.hid (R7.out.below hA)
  have HW17 := Lib.hid hw17
  clear hw17 hA M16
  go_wp2_with fail
  rw [HW17.out]
  clear HW17
  obtain ⟨gL2, hgL2⟩ : ∃ g9, g9 = w16.heap.size := ⟨_, rfl⟩
  rw [← hgL2] at M17 ⊢
  clear hgL2
  refine (C8.out a1 cap1 _ 4 _ R1.out ((M17.has (Has.head _ _ _ _)).sl 4 rfl (by unfold maxLen; omega))).mono ?_
  rintro e w18 ⟨a8, cap8, rfl, s8, hA⟩
  have M18 := M17.call hA
  clear c_gG_0 c_gG_1 c_gG_2 c_gG_3 c_gG_4 c_gG_5
  clear M17
  replace R1 := Lib.hid (R1.out.below hA)
  replace R2 := Lib.hid (R2.out.below hA)
  replace R3 := Lib.hid (R3.out.below hA)
  replace R4 := Lib.hid (R4.out.below hA)
  replace R5 := Lib.hid (R5.out.below hA)
  replace R6 := Lib.hid (R6.out.below hA)
  replace R7 := Lib.hid (R7.out.below hA)
  have R8 := Lib.hid s8
  clear s8
  clear hA
  obtain ⟨w19, hw19⟩ : ∃ wq, w18.alloc (.cells #[.int .i64 2, .int .i64 2, .int .i64 100, .int .i64 200, .int .i64 64, .slice a8 4 cap8] 24) = wq := ⟨_, rfl⟩
  have M19 := M18.alloc 24 [.int .i64 2, .int .i64 2, .int .i64 100, .int .i64 200, .int .i64 64, .slice a8 4 cap8]
  rw [show w18.alloc (.cells [Value.int .i64 2, .int .i64 2, .int .i64 100, .int .i64 200, .int .i64 64, .slice a8 4 cap8].toArray 24) = w19 from hw19] at M19
  have hA : Below w18.heap.size w18 w19 := by rw [← hw19]; exact (Below.refl _ _).alloc (Nat.le_refl _) _
  replace R1 := Lib.hid (R1.out.below hA)
  replace R2 := Lib.hid (R2.out.below hA)
  replace R3 := Lib.hid (R3.out.below hA)
  replace R4 := Lib.hid (R4.out.below hA)
  replace R5 := Lib.hid (R5.out.below hA)
  replace R6 := Lib.hid (R6.out.below hA)
  replace R7 := Lib.hid (R7.out.below hA)
  replace R8 := Lib.hid (R8.out.below hA)
  have HW19 := Lib.hid hw19
  clear hw19 hA M18
  obtain ⟨w20, hw20⟩ : ∃ wq, w19.alloc (.cells #[.int .i64 0, .int .u64 0] 41) = wq := ⟨_, rfl⟩
  have M20 := M19.alloc 41 [.int .i64 0, .int .u64 0]
  rw [show w19.alloc (.cells [Value.int .i64 0, .int .u64 0].toArray 41) = w20 from hw20] at M20
  have hA : Below w19.heap.size w19 w20 := by rw [← hw20]; exact (Below.refl _ _).alloc (Nat.le_refl _) _
  replace R1 := Lib.hid (R1.out.below hA)
  replace R2 := Lib.hid (R2.out.below hA)
  replace R3 := Lib.hid (R3.out.below hA)
  replace R4 := Lib.hid (R4.out.below hA)
  replace R5 := Lib.hid (R5.out.below hA)
  replace R6 := Lib.hid (R6.out.below hA)
  replace R7 := Lib.hid (R7.out.below hA)
  replace R8 := Lib.hid (R8.out.below hA)
  have HW20 := Lib.hid hw20
  clear hw20 hA M19
  go_upto_region 13 with fail
  rw [HW19.out, HW20.out, show w18.heap.size + 1 = w19.heap.size by rw [← HW19.out]; simp]
  clear HW19 HW20
  obtain ⟨gZ13, hgZ13⟩ : ∃ g9, g9 = w19.heap.size := ⟨_, rfl⟩
  rw [← hgZ13] at M20 ⊢
  clear hgZ13
  obtain ⟨gH13, hgH13⟩ : ∃ g9, g9 = w18.heap.size := ⟨_, rfl⟩
  rw [← hgH13] at M20 ⊢
  clear hgH13
  have c_gG_0 := M20.cell (.tail _ _ _ _ _ (.tail _ _ _ _ _ (.tail _ _ _ _ _ (.tail _ _ _ _ _ (.tail _ _ _ _ _ (.tail _ _ _ _ _ (.tail _ _ _ _ _ (.tail _ _ _ _ _ (.tail _ _ _ _ _ (.tail _ _ _ _ _ (.tail _ _ _ _ _ (Has.head _ _ _ _)))))))))))) (i := 0) rfl
  have c_gG_1 := M20.cell (.tail _ _ _ _ _ (.tail _ _ _ _ _ (.tail _ _ _ _ _ (.tail _ _ _ _ _ (.tail _ _ _ _ _ (.tail _ _ _ _ _ (.tail _ _ _ _ _ (.tail _ _ _ _ _ (.tail _ _ _ _ _ (.tail _ _ _ _ _ (.tail _ _ _ _ _ (Has.head _ _ _ _)))))))))))) (i := 1) rfl
  have c_gG_2 := M20.cell (.tail _ _ _ _ _ (.tail _ _ _ _ _ (.tail _ _ _ _ _ (.tail _ _ _ _ _ (.tail _ _ _ _ _ (.tail _ _ _ _ _ (.tail _ _ _ _ _ (.tail _ _ _ _ _ (.tail _ _ _ _ _ (.tail _ _ _ _ _ (.tail _ _ _ _ _ (Has.head _ _ _ _)))))))))))) (i := 2) rfl
  have c_gG_3 := M20.cell (.tail _ _ _ _ _ (.tail _ _ _ _ _ (.tail _ _ _ _ _ (.tail _ _ _ _ _ (.tail _ _ _ _ _ (.tail _ _ _ _ _ (.tail _ _ _ _ _ (.tail _ _ _ _ _ (.tail _ _ _ _ _ (.tail _ _ _ _ _ (.tail _ _ _ _ _ (Has.head _ _ _ _)))))))))))) (i := 3) rfl
  have c_gG_4 := M20.cell (.tail _ _ _ _ _ (.tail _ _ _ _ _ (.tail _ _ _ _ _ (.tail _ _ _ _ _ (.tail _ _ _ _ _ (.tail _ _ _ _ _ (.tail _ _ _ _ _ (.tail _ _ _ _ _ (.tail _ _ _ _ _ (.tail _ _ _ _ _ (.tail _ _ _ _ _ (Has.head _ _ _ _)))))))))))) (i := 4) rfl
  have c_gG_5 := M20.cell (.tail _ _ _ _ _ (.tail _ _ _ _ _ (.tail _ _ _ _ _ (.tail _ _ _ _ _ (.tail _ _ _ _ _ (.tail _ _ _ _ _ (.tail _ _ _ _ _ (.tail _ _ _ _ _ (.tail _ _ _ _ _ (.tail _ _ _ _ _ (.tail _ _ _ _ _ (Has.head _ _ _ _)))))))))))) (i := 5) rfl
  go_wp2_with fail
  refine (C9.out _ _ _).mono ?_
  rintro e w21 ⟨rfl, hA⟩
  have M21 := M20.call hA
  clear c_gG_0 c_gG_1 c_gG_2 c_gG_3 c_gG_4 c_gG_5
  clear M20
  replace R1 := Lib.hid (R1.out.below hA)
  replace R2 := Lib.hid (R2.out.below hA)
  replace R3 := Lib.hid (R3.out.below hA)
  replace R4 := Lib.hid (R4.out.below hA)
  replace R5 := Lib.hid (R5.out.below hA)
  replace R6 := Lib.hid (R6.out.below hA)
  replace R7 := Lib.hid (R7.out.below hA)
  replace R8 := Lib.hid (R8.out.below hA)
  clear hA
  obtain ⟨w22, hw22⟩ : ∃ wq, w21.alloc (.cells #[.int .i64 164, .int .i64 264] 51) = wq := ⟨_, rfl⟩
  have M22 := M21.alloc 51 [.int .i64 164, .int .i64 264]
  rw [show w21.alloc (.cells [Value.int .i64 164, .int .i64 264].toArray 51) = w22 from hw22] at M22
  have hA : Below w21.heap.size w21 w22 := by rw [← hw22]; exact (Below.refl _ _).alloc (Nat.le_refl _) _
  replace R1 := Lib.hid (R1.out.below hA)
  replace R2 := Lib.hid (R2.out.below hA)
  replace R3 := Lib.hid (R3.out.below hA)
  replace R4 := Lib.hid (R4.out.below hA)
  replace R5 := Lib.hid (R5.out.below hA)
  replace R6 := Lib.hid (R6.out.below hA)
  replace R7 := Lib.hid (R7.out.below hA)
  replace R8 := Lib.hid (R8.out.below hA)
  have HW22 := Lib.hid hw22
  clear hw22 hA M21
  go_upto_region 14 with fail
  rw [HW22.out]
  clear HW22
  obtain ⟨gP, hgP⟩ : ∃ g9, g9 = w21.heap.size := ⟨_, rfl⟩
  rw [← hgP] at M22 ⊢
  clear hgP
  have d1 := M22.cell (.tail _ _ _ _ _ (.tail _ _ _ _ _ (.tail _ _ _ _ _ (.tail _ _ _ _ _ (.tail _ _ _ _ _ (.tail _ _ _ _ _ (.tail _ _ _ _ _ (.tail _ _ _ _ _ (Has.head _ _ _ _))))))))) (i := 5) rfl
  have d2 := M22.cell (.tail _ _ _ _ _ (.tail _ _ _ _ _ (.tail _ _ _ _ _ (.tail _ _ _ _ _ (.tail _ _ _ _ _ (Has.head _ _ _ _)))))) (i := 5) rfl
  have d3 := M22.cell (.tail _ _ _ _ _ (.tail _ _ _ _ _ (.tail _ _ _ _ _ (.tail _ _ _ _ _ (.tail _ _ _ _ _ (.tail _ _ _ _ _ (.tail _ _ _ _ _ (Has.head _ _ _ _)))))))) (i := 5) rfl
  go_upto_region 16 with fail
  clear d1 d2 d3
  have c_gCc_0 := M22.cell (.tail _ _ _ _ _ (.tail _ _ _ _ _ (.tail _ _ _ _ _ (.tail _ _ _ _ _ (.tail _ _ _ _ _ (Has.head _ _ _ _)))))) (i := 0) rfl
  have c_gCc_1 := M22.cell (.tail _ _ _ _ _ (.tail _ _ _ _ _ (.tail _ _ _ _ _ (.tail _ _ _ _ _ (.tail _ _ _ _ _ (Has.head _ _ _ _)))))) (i := 1) rfl
  have c_gCc_2 := M22.cell (.tail _ _ _ _ _ (.tail _ _ _ _ _ (.tail _ _ _ _ _ (.tail _ _ _ _ _ (.tail _ _ _ _ _ (Has.head _ _ _ _)))))) (i := 2) rfl
  have c_gCc_3 := M22.cell (.tail _ _ _ _ _ (.tail _ _ _ _ _ (.tail _ _ _ _ _ (.tail _ _ _ _ _ (.tail _ _ _ _ _ (Has.head _ _ _ _)))))) (i := 3) rfl
  have c_gCc_4 := M22.cell (.tail _ _ _ _ _ (.tail _ _ _ _ _ (.tail _ _ _ _ _ (.tail _ _ _ _ _ (.tail _ _ _ _ _ (Has.head _ _ _ _)))))) (i := 4) rfl
  have c_gCc_5 := M22.cell (.tail _ _ _ _ _ (.tail _ _ _ _ _ (.tail _ _ _ _ _ (.tail _ _ _ _ _ (.tail _ _ _ _ _ (Has.head _ _ _ _)))))) (i := 5) rfl
  go_wp2_with fail
  refine (C10.out _ _ _ R6.out).mono ?_
  rintro e w23 ⟨a10, cap10, rfl, s10, hA⟩
  have M23 := M22.call hA
  clear c_gCc_0 c_gCc_1 c_gCc_2 c_gCc_3 c_gCc_4 c_gCc_5
  clear M22
  replace R1 := Lib.hid (R1.out.below hA)
  replace R2 := Lib.hid (R2.out.below hA)
  replace R3 := Lib.hid (R3.out.below hA)
  replace R4 := Lib.hid (R4.out.below hA)
  replace R5 := Lib.hid (R5.out.below hA)
  replace R6 := Lib.hid (R6.out.below hA)
  replace R7 := Lib.hid (R7.out.below hA)
  replace R8 := Lib.hid (R8.out.below hA)
  have R10 := Lib.hid s10
  clear s10
  clear hA
  obtain ⟨w24, hw24⟩ : ∃ wq, w23.alloc (.cells #[.int .i64 2, .int .i64 1, .int .i64 164, .int .i64 264, .int .i64 64, .slice a10 2 cap10] 24) = wq := ⟨_, rfl⟩
  have M24 := M23.alloc 24 [.int .i64 2, .int .i64 1, .int .i64 164, .int .i64 264, .int .i64 64, .slice a10 2 cap10]
  rw [show w23.alloc (.cells [Value.int .i64 2, .int .i64 1, .int .i64 164, .int .i64 264, .int .i64 64, .slice a10 2 cap10].toArray 24) = w24 from hw24] at M24
  have hA : Below w23.heap.size w23 w24 := by rw [← hw24]; exact (Below.refl _ _).alloc (Nat.le_refl _) _
  replace R1 := Lib.hid (R1.out.below hA)
  replace R2 := Lib.hid (R2.out.below hA)
  replace R3 := Lib.hid (R3.out.below hA)
  replace R4 := Lib.hid (R4.out.below hA)
  replace R5 := Lib.hid (R5.out.below hA)
  replace R6 := Lib.hid (R6.out.below hA)
  replace R7 := Lib.hid (R7.out.below hA)
  replace R8 := Lib.hid (R8.out.below hA)
  replace R10 := Lib.hid (R10.out.below hA)
  have HW24 := Lib.hid hw24
  clear hw24 hA M23
  go_upto_region 17 with fail
  rw [HW24.out]
  clear HW24
  obtain ⟨gV, hgV⟩ : ∃ g9, g9 = w23.heap.size := ⟨_, rfl⟩
  rw [← hgV] at M24 ⊢
  clear hgV
  have d4 := M24.cell (Has.head _ _ _ _) (i := 5) rfl
  go_upto_region 18 with fail
  clear d4
  obtain ⟨b1, o1, rfl, _, _⟩ := cell64 R1.out 0 (by decide)
  obtain ⟨b2, o2, rfl, _, _⟩ := cell64 R2.out 3 (by decide)
  obtain ⟨b3, o3, rfl, _, _⟩ := cell64 R3.out 0 (by decide)
  obtain ⟨b4, o4, rfl, _, _⟩ := cell64 R4.out 0 (by decide)
  obtain ⟨b6, o6, rfl, _, _⟩ := cell64 R6.out 0 (by decide)
  obtain ⟨b10, o10, rfl, _, _⟩ := cell64 R10.out 0 (by decide)
  obtain ⟨WS, hWS⟩ : ∃ WS : World → Prop, WS = (fun w' : World => w'.cell? ⟨gG, 0, none⟩ = some (.int .i64 2) ∧ w'.cell? ⟨gG, 1, none⟩ = some (.int .i64 2) ∧ w'.cell? ⟨gG, 2, none⟩ = some (.int .i64 100) ∧ w'.cell? ⟨gG, 3, none⟩ = some (.int .i64 200) ∧ w'.cell? ⟨gG, 4, none⟩ = some (.int .i64 64) ∧ w'.cell? ⟨gG, 5, none⟩ = some (.slice (some ⟨b1, o1, none⟩) 4 cap1) ∧ w'.cell? ⟨gH5, 5, none⟩ = some (.slice (some ⟨b2, o2, none⟩) 4 cap2) ∧ w'.cell? ⟨gZ5, 0, none⟩ = some (.int .i64 0) ∧ w'.cell? ⟨gZ5, 1, none⟩ = some (.int .u64 1879048192) ∧ w'.cell? ⟨gS, 5, none⟩ = some (.slice (some ⟨b3, o3, none⟩) 4 cap3) ∧ w'.cell? ⟨gT, 4, none⟩ = some (.int .i64 32) ∧ w'.cell? ⟨gT, 2, none⟩ = some (.int .i64 84) ∧ w'.cell? ⟨gT, 5, none⟩ = some (.slice (some ⟨b4, o4, none⟩) 16 cap4) ∧ w'.cell? ⟨gU, 0, none⟩ = some (.int .i64 2) ∧ w'.cell? ⟨gU, 1, none⟩ = some (.int .i64 2) ∧ w'.cell? ⟨gU, 2, none⟩ = some (.int .i64 100) ∧ w'.cell? ⟨gU, 3, none⟩ = some (.int .i64 200) ∧ w'.cell? ⟨gU, 4, none⟩ = some (.int .i64 64) ∧ w'.cell? ⟨gU, 5, none⟩ = some (.slice a5 4 cap5) ∧ w'.cell? ⟨gCc, 5, none⟩ = some (.slice (some ⟨b6, o6, none⟩) 2 cap6) ∧ w'.cell? ⟨gCc, 2, none⟩ = some (.int .i64 164) ∧ w'.cell? ⟨gP, 0, none⟩ = some (.int .i64 164) ∧ w'.cell? ⟨gP, 1, none⟩ = some (.int .i64 264) ∧ w'.cell? ⟨gV, 5, none⟩ = some (.slice (some ⟨b10, o10, none⟩) 2 cap10) ∧ w'.cell? ⟨b1, o1, none⟩ = some (.int .i64 268435456) ∧ w'.cell? ⟨b2, o2 + 3, none⟩ = some (.int .i64 1073741824) ∧ w'.cell? ⟨b3, o3, none⟩ = some (.int .i64 67108864) ∧ w'.cell? ⟨b3, o3 + 3, none⟩ = some (.int .i64 603979776) ∧ w'.cell? ⟨b4, o4, none⟩ = some (.int .i64 67108864) ∧ w'.cell? ⟨b6, o6, none⟩ = some (.int .i64 268435456) ∧ w'.cell? ⟨b6, o6 + 1, none⟩ = some (.int .i64 0) ∧ w'.cell? ⟨b10, o10, none⟩ = some (.int .i64 1073741824)) := ⟨_, rfl⟩
  have HMK := Lib.hid (show ∀ w' : World, (w'.cell? ⟨gG, 0, none⟩ = some (.int .i64 2) ∧ w'.cell? ⟨gG, 1, none⟩ = some (.int .i64 2) ∧ w'.cell? ⟨gG, 2, none⟩ = some (.int .i64 100) ∧ w'.cell? ⟨gG, 3, none⟩ = some (.int .i64 200) ∧ w'.cell? ⟨gG, 4, none⟩ = some (.int .i64 64) ∧ w'.cell? ⟨gG, 5, none⟩ = some (.slice (some ⟨b1, o1, none⟩) 4 cap1) ∧ w'.cell? ⟨gH5, 5, none⟩ = some (.slice (some ⟨b2, o2, none⟩) 4 cap2) ∧ w'.cell? ⟨gZ5, 0, none⟩ = some (.int .i64 0) ∧ w'.cell? ⟨gZ5, 1, none⟩ = some (.int .u64 1879048192) ∧ w'.cell? ⟨gS, 5, none⟩ = some (.slice (some ⟨b3, o3, none⟩) 4 cap3) ∧ w'.cell? ⟨gT, 4, none⟩ = some (.int .i64 32) ∧ w'.cell? ⟨gT, 2, none⟩ = some (.int .i64 84) ∧ w'.cell? ⟨gT, 5, none⟩ = some (.slice (some ⟨b4, o4, none⟩) 16 cap4) ∧ w'.cell? ⟨gU, 0, none⟩ = some (.int .i64 2) ∧ w'.cell? ⟨gU, 1, none⟩ = some (.int .i64 2) ∧ w'.cell? ⟨gU, 2, none⟩ = some (.int .i64 100) ∧ w'.cell? ⟨gU, 3, none⟩ = some (.int .i64 200) ∧ w'.cell? ⟨gU, 4, none⟩ = some (.int .i64 64) ∧ w'.cell? ⟨gU, 5, none⟩ = some (.slice a5 4 cap5) ∧ w'.cell? ⟨gCc, 5, none⟩ = some (.slice (some ⟨b6, o6, none⟩) 2 cap6) ∧ w'.cell? ⟨gCc, 2, none⟩ = some (.int .i64 164) ∧ w'.cell? ⟨gP, 0, none⟩ = some (.int .i64 164) ∧ w'.cell? ⟨gP, 1, none⟩ = some (.int .i64 264) ∧ w'.cell? ⟨gV, 5, none⟩ = some (.slice (some ⟨b10, o10, none⟩) 2 cap10) ∧ w'.cell? ⟨b1, o1, none⟩ = some (.int .i64 268435456) ∧ w'.cell? ⟨b2, o2 + 3, none⟩ = some (.int .i64 1073741824) ∧ w'.cell? ⟨b3, o3, none⟩ = some (.int .i64 67108864) ∧ w'.cell? ⟨b3, o3 + 3, none⟩ = some (.int .i64 603979776) ∧ w'.cell? ⟨b4, o4, none⟩ = some (.int .i64 67108864) ∧ w'.cell? ⟨b6, o6, none⟩ = some (.int .i64 268435456) ∧ w'.cell? ⟨b6, o6 + 1, none⟩ = some (.int .i64 0) ∧ w'.cell? ⟨b10, o10, none⟩ = some (.int .i64 1073741824)) → WS w' by rw [hWS]; exact fun _ h => h)
  have HQ0 := Lib.hid (show ∀ w' : World, WS w' → w'.cell? ⟨gG, 0, none⟩ = some (.int .i64 2) by rw [hWS]; exact fun _ h => h.1)
  have HQ1 := Lib.hid (show ∀ w' : World, WS w' → w'.cell? ⟨gG, 1, none⟩ = some (.int .i64 2) by rw [hWS]; exact fun _ h => h.2.1)
  have HQ2 := Lib.hid (show ∀ w' : World, WS w' → w'.cell? ⟨gG, 2, none⟩ = some (.int .i64 100) by rw [hWS]; exact fun _ h => h.2.2.1)
  have HQ3 := Lib.hid (show ∀ w' : World, WS w' → w'.cell? ⟨gG, 3, none⟩ = some (.int .i64 200) by rw [hWS]; exact fun _ h => h.2.2.2.1)
  have HQ4 := Lib.hid (show ∀ w' : World, WS w' → w'.cell? ⟨gG, 4, none⟩ = some (.int .i64 64) by rw [hWS]; exact fun _ h => h.2.2.2.2.1)
  have HQ5 := Lib.hid (show ∀ w' : World, WS w' → w'.cell? ⟨gG, 5, none⟩ = some (.slice (some ⟨b1, o1, none⟩) 4 cap1) by rw [hWS]; exact fun _ h => h.2.2.2.2.2.1)
  have HQ6 := Lib.hid (show ∀ w' : World, WS w' → w'.cell? ⟨gH5, 5, none⟩ = some (.slice (some ⟨b2, o2, none⟩) 4 cap2) by rw [hWS]; exact fun _ h => h.2.2.2.2.2.2.1)
  have HQ7 := Lib.hid (show ∀ w' : World, WS w' → w'.cell? ⟨gZ5, 0, none⟩ = some (.int .i64 0) by rw [hWS]; exact fun _ h => h.2.2.2.2.2.2.2.1)
  have HQ8 := Lib.hid (show ∀ w' : World, WS w' → w'.cell? ⟨gZ5, 1, none⟩ = some (.int .u64 1879048192) by rw [hWS]; exact fun _ h => h.2.2.2.2.2.2.2.2.1)
  have HQ9 := Lib.hid (show ∀ w' : World, WS w' → w'.cell? ⟨gS, 5, none⟩ = some (.slice (some ⟨b3, o3, none⟩) 4 cap3) by rw [hWS]; exact fun _ h => h.2.2.2.2.2.2.2.2.2.1)
  have HQ10 := Lib.hid (show ∀ w' : World, WS w' → w'.cell? ⟨gT, 4, none⟩ = some (.int .i64 32) by rw [hWS]; exact fun _ h => h.2.2.2.2.2.2.2.2.2.2.1)
  have HQ11 := Lib.hid (show ∀ w' : World, WS w' → w'.cell? ⟨gT, 2, none⟩ = some (.int .i64 84) by rw [hWS]; exact fun _ h => h.2.2.2.2.2.2.2.2.2.2.2.1)
  have HQ12 := Lib.hid (show ∀ w' : World, WS w' → w'.cell? ⟨gT, 5, none⟩ = some (.slice (some ⟨b4, o4, none⟩) 16 cap4) by rw [hWS]; exact fun _ h => h.2.2.2.2.2.2.2.2.2.2.2.2.1)
  have HQ13 := Lib.hid (show ∀ w' : World, WS w' → w'.cell? ⟨gU, 0, none⟩ = some (.int .i64 2) by rw [hWS]; exact fun _ h => h.2.2.2.2.2.2.2.2.2.2.2.2.2.1)
  have HQ14 := Lib.hid (show ∀ w' : World, WS w' → w'.cell? ⟨gU, 1, none⟩ = some (.int .i64 2) by rw [hWS]; exact fun _ h => h.2.2.2.2.2.2.2.2.2.2.2.2.2.2.1)
  have HQ15 := Lib.hid (show ∀ w' : World, WS w' → w'.cell? ⟨gU, 2, none⟩ = some (.int .i64 100) by rw [hWS]; exact fun _ h => h.2.2.2.2.2.2.2.2.2.2.2.2.2.2.2.1)
  have HQ16 := Lib.hid (show ∀ w' : World, WS w' → w'.cell? ⟨gU, 3, none⟩ = some (.int .i64 200) by rw [hWS]; exact fun _ h => h.2.2.2.2.2.2.2.2.2.2.2.2.2.2.2.2.1)
  have HQ17 := Lib.hid (show ∀ w' : World, WS w' → w'.cell? ⟨gU, 4, none⟩ = some (.int .i64 64) by rw [hWS]; exact fun _ h => h.2.2.2.2.2.2.2.2.2.2.2.2.2.2.2.2.2.1)
  have HQ18 := Lib.hid (show ∀ w' : World, WS w' → w'.cell? ⟨gU, 5, none⟩ = some (.slice a5 4 cap5) by rw [hWS]; exact fun _ h => h.2.2.2.2.2.2.2.2.2.2.2.2.2.2.2.2.2.2.1)
  have HQ19 := Lib.hid (show ∀ w' : World, WS w' → w'.cell? ⟨gCc, 5, none⟩ = some (.slice (some ⟨b6, o6, none⟩) 2 cap6) by rw [hWS]; exact fun _ h => h.2.2.2.2.2.2.2.2.2.2.2.2.2.2.2.2.2.2.2.1)
  have HQ20 := Lib.hid (show ∀ w' : World, WS w' → w'.cell? ⟨gCc, 2, none⟩ = some (.int .i64 164) by rw [hWS]; exact fun _ h => h.2.2.2.2.2.2.2.2.2.2.2.2.2.2.2.2.2.2.2.2.1)
  have HQ21 := Lib.hid (show ∀ w' : World, WS w' → w'.cell? ⟨gP, 0, none⟩ = some (.int .i64 164) by rw [hWS]; exact fun _ h => h.2.2.2.2.2.2.2.2.2.2.2.2.2.2.2.2.2.2.2.2.2.1)
  have HQ22 := Lib.hid (show ∀ w' : World, WS w' → w'.cell? ⟨gP, 1, none⟩ = some (.int .i64 264) by rw [hWS]; exact fun _ h => h.2.2.2.2.2.2.2.2.2.2.2.2.2.2.2.2.2.2.2.2.2.2.1)
  have HQ23 := Lib.hid (show ∀ w' : World, WS w' → w'.cell? ⟨gV, 5, none⟩ = some (.slice (some ⟨b10, o10, none⟩) 2 cap10) by rw [hWS]; exact fun _ h => h.2.2.2.2.2.2.2.2.2.2.2.2.2.2.2.2.2.2.2.2.2.2.2.1)
  have HQ24 := Lib.hid (show ∀ w' : World, WS w' → w'.cell? ⟨b1, o1, none⟩ = some (.int .i64 268435456) by rw [hWS]; exact fun _ h => h.2.2.2.2.2.2.2.2.2.2.2.2.2.2.2.2.2.2.2.2.2.2.2.2.1)
  have HQ25 := Lib.hid (show ∀ w' : World, WS w' → w'.cell? ⟨b2, o2 + 3, none⟩ = some (.int .i64 1073741824) by rw [hWS]; exact fun _ h => h.2.2.2.2.2.2.2.2.2.2.2.2.2.2.2.2.2.2.2.2.2.2.2.2.2.1)
  have HQ26 := Lib.hid (show ∀ w' : World, WS w' → w'.cell? ⟨b3, o3, none⟩ = some (.int .i64 67108864) by rw [hWS]; exact fun _ h => h.2.2.2.2.2.2.2.2.2.2.2.2.2.2.2.2.2.2.2.2.2.2.2.2.2.2.1)
  have HQ27 := Lib.hid (show ∀ w' : World, WS w' → w'.cell? ⟨b3, o3 + 3, none⟩ = some (.int .i64 603979776) by rw [hWS]; exact fun _ h => h.2.2.2.2.2.2.2.2.2.2.2.2.2.2.2.2.2.2.2.2.2.2.2.2.2.2.2.1)
  have HQ28 := Lib.hid (show ∀ w' : World, WS w' → w'.cell? ⟨b4, o4, none⟩ = some (.int .i64 67108864) by rw [hWS]; exact fun _ h => h.2.2.2.2.2.2.2.2.2.2.2.2.2.2.2.2.2.2.2.2.2.2.2.2.2.2.2.2.1)
  have HQ29 := Lib.hid (show ∀ w' : World, WS w' → w'.cell? ⟨b6, o6, none⟩ = some (.int .i64 268435456) by rw [hWS]; exact fun _ h => h.2.2.2.2.2.2.2.2.2.2.2.2.2.2.2.2.2.2.2.2.2.2.2.2.2.2.2.2.2.1)
  have HQ30 := Lib.hid (show ∀ w' : World, WS w' → w'.cell? ⟨b6, o6 + 1, none⟩ = some (.int .i64 0) by rw [hWS]; exact fun _ h => h.2.2.2.2.2.2.2.2.2.2.2.2.2.2.2.2.2.2.2.2.2.2.2.2.2.2.2.2.2.2.1)
  have HQ31 := Lib.hid (show ∀ w' : World, WS w' → w'.cell? ⟨b10, o10, none⟩ = some (.int .i64 1073741824) by rw [hWS]; exact fun _ h => h.2.2.2.2.2.2.2.2.2.2.2.2.2.2.2.2.2.2.2.2.2.2.2.2.2.2.2.2.2.2.2)
  clear hWS
  obtain ⟨_, _, ee, _, e1_0⟩ := cell64 R1.out 0 (by decide)
  cases ee
  rw [show List.getD _ 0 0 = (268435456 : Int) from rfl, Nat.add_zero] at e1_0
  obtain ⟨_, _, ee, _, e2_3⟩ := cell64 R2.out 3 (by decide)
  cases ee
  rw [show List.getD _ 3 0 = (1073741824 : Int) from rfl] at e2_3
  obtain ⟨_, _, ee, _, e3_0⟩ := cell64 R3.out 0 (by decide)
  cases ee
  rw [show List.getD _ 0 0 = (67108864 : Int) from rfl, Nat.add_zero] at e3_0
  obtain ⟨_, _, ee, _, e3_3⟩ := cell64 R3.out 3 (by decide)
  cases ee
  rw [show List.getD _ 3 0 = (603979776 : Int) from rfl] at e3_3
  obtain ⟨_, _, ee, _, e4_0⟩ := cell64 R4.out 0 (by decide)
  cases ee
  rw [show List.getD _ 0 0 = (67108864 : Int) from rfl, Nat.add_zero] at e4_0
  obtain ⟨_, _, ee, _, e6_0⟩ := cell64 R6.out 0 (by decide)
  cases ee
  rw [show List.getD _ 0 0 = (268435456 : Int) from rfl, Nat.add_zero] at e6_0
  obtain ⟨_, _, ee, _, e6_1⟩ := cell64 R6.out 1 (by decide)
  cases ee
  rw [show List.getD _ 1 0 = (0 : Int) from rfl] at e6_1
  obtain ⟨_, _, ee, _, e10_0⟩ := cell64 R10.out 0 (by decide)
  cases ee
  rw [show List.getD _ 0 0 = (1073741824 : Int) from rfl, Nat.add_zero] at e10_0
  go_wp2_with fail
  refine wp_region_held_drew (S := WS) (by kernel_rfl) (HMK.out _ ⟨M24.cell (.tail _ _ _ _ _ (.tail _ _ _ _ _ (.tail _ _ _ _ _ (.tail _ _ _ _ _ (.tail _ _ _ _ _ (.tail _ _ _ _ _ (.tail _ _ _ _ _ (.tail _ _ _ _ _ (.tail _ _ _ _ _ (.tail _ _ _ _ _ (.tail _ _ _ _ _ (.tail _ _ _ _ _ (.tail _ _ _ _ _ (Has.head _ _ _ _)))))))))))))) (i := 0) rfl, M24.cell (.tail _ _ _ _ _ (.tail _ _ _ _ _ (.tail _ _ _ _ _ (.tail _ _ _ _ _ (.tail _ _ _ _ _ (.tail _ _ _ _ _ (.tail _ _ _ _ _ (.tail _ _ _ _ _ (.tail _ _ _ _ _ (.tail _ _ _ _ _ (.tail _ _ _ _ _ (.tail _ _ _ _ _ (.tail _ _ _ _ _ (Has.head _ _ _ _)))))))))))))) (i := 1) rfl, M24.cell (.tail _ _ _ _ _ (.tail _ _ _ _ _ (.tail _ _ _ _ _ (.tail _ _ _ _ _ (.tail _ _ _ _ _ (.tail _ _ _ _ _ (.tail _ _ _ _ _ (.tail _ _ _ _ _ (.tail _ _ _ _ _ (.tail _ _ _ _ _ (.tail _ _ _ _ _ (.tail _ _ _ _ _ (.tail _ _ _ _ _ (Has.head _ _ _ _)))))))))))))) (i := 2) rfl, M24.cell (.tail _ _ _ _ _ (.tail _ _ _ _ _ (.tail _ _ _ _ _ (.tail _ _ _ _ _ (.tail _ _ _ _ _ (.tail _ _ _ _ _ (.tail _ _ _ _ _ (.tail _ _ _ _ _ (.tail _ _ _ _ _ (.tail _ _ _ _ _ (.tail _ _ _ _ _ (.tail _ _ _ _ _ (.tail _ _ _ _ _ (Has.head _ _ _ _)))))))))))))) (i := 3) rfl, M24.cell (.tail _ _ _ _ _ (.tail _ _ _ _ _ (.tail _ _ _ _ _ (.tail _ _ _ _ _ (.tail _ _ _ _ _ (.tail _ _ _ _ _ (.tail _ _ _ _ _ (.tail _ _ _ _ _ (.tail _ _ _ _ _ (.tail _ _ _ _ _ (.tail _ _ _ _ _ (.tail _ _ _ _ _ (.tail _ _ _ _ _ (Has.head _ _ _ _)))))))))))))) (i := 4) rfl, M24.cell (.tail _ _ _ _ _ (.tail _ _ _ _ _ (.tail _ _ _ _ _ (.tail _ _ _ _ _ (.tail _ _ _ _ _ (.tail _ _ _ _ _ (.tail _ _ _ _ _ (.tail _ _ _ _ _ (.tail _ _ _ _ _ (.tail _ _ _ _ _ (.tail _ _ _ _ _ (.tail _ _ _ _ _ (.tail _ _ _ _ _ (Has.head _ _ _ _)))))))))))))) (i := 5) rfl, M24.cell (.tail _ _ _ _ _ (.tail _ _ _ _ _ (.tail _ _ _ _ _ (.tail _ _ _ _ _ (.tail _ _ _ _ _ (.tail _ _ _ _ _ (.tail _ _ _ _ _ (.tail _ _ _ _ _ (.tail _ _ _ _ _ (.tail _ _ _ _ _ (.tail _ _ _ _ _ (Has.head _ _ _ _)))))))))))) (i := 5) rfl, M24.cell (.tail _ _ _ _ _ (.tail _ _ _ _ _ (.tail _ _ _ _ _ (.tail _ _ _ _ _ (.tail _ _ _ _ _ (.tail _ _ _ _ _ (.tail _ _ _ _ _ (.tail _ _ _ _ _ (.tail _ _ _ _ _ (.tail _ _ _ _ _ (Has.head _ _ _ _))))))))))) (i := 0) rfl, M24.cell (.tail _ _ _ _ _ (.tail _ _ _ _ _ (.tail _ _ _ _ _ (.tail _ _ _ _ _ (.tail _ _ _ _ _ (.tail _ _ _ _ _ (.tail _ _ _ _ _ (.tail _ _ _ _ _ (.tail _ _ _ _ _ (.tail _ _ _ _ _ (Has.head _ _ _ _))))))))))) (i := 1) rfl, M24.cell (.tail _ _ _ _ _ (.tail _ _ _ _ _ (.tail _ _ _ _ _ (.tail _ _ _ _ _ (.tail _ _ _ _ _ (.tail _ _ _ _ _ (.tail _ _ _ _ _ (.tail _ _ _ _ _ (.tail _ _ _ _ _ (Has.head _ _ _ _)))))))))) (i := 5) rfl, M24.cell (.tail _ _ _ _ _ (.tail _ _ _ _ _ (.tail _ _ _ _ _ (.tail _ _ _ _ _ (.tail _ _ _ _ _ (.tail _ _ _ _ _ (.tail _ _ _ _ _ (.tail _ _ _ _ _ (Has.head _ _ _ _))))))))) (i := 4) rfl, M24.cell (.tail _ _ _ _ _ (.tail _ _ _ _ _ (.tail _ _ _ _ _ (.tail _ _ _ _ _ (.tail _ _ _ _ _ (.tail _ _ _ _ _ (.tail _ _ _ _ _ (.tail _ _ _ _ _ (Has.head _ _ _ _))))))))) (i := 2) rfl, M24.cell (.tail _ _ _ _ _ (.tail _ _ _ _ _ (.tail _ _ _ _ _ (.tail _ _ _ _ _ (.tail _ _ _ _ _ (.tail _ _ _ _ _ (.tail _ _ _ _ _ (.tail _ _ _ _ _ (Has.head _ _ _ _))))))))) (i := 5) rfl, M24.cell (.tail _ _ _ _ _ (.tail _ _ _ _ _ (.tail _ _ _ _ _ (.tail _ _ _ _ _ (.tail _ _ _ _ _ (.tail _ _ _ _ _ (.tail _ _ _ _ _ (Has.head _ _ _ _)))))))) (i := 0) rfl, M24.cell (.tail _ _ _ _ _ (.tail _ _ _ _ _ (.tail _ _ _ _ _ (.tail _ _ _ _ _ (.tail _ _ _ _ _ (.tail _ _ _ _ _ (.tail _ _ _ _ _ (Has.head _ _ _ _)))))))) (i := 1) rfl, M24.cell (.tail _ _ _ _ _ (.tail _ _ _ _ _ (.tail _ _ _ _ _ (.tail _ _ _ _ _ (.tail _ _ _ _ _ (.tail _ _ _ _ _ (.tail _ _ _ _ _ (Has.head _ _ _ _)))))))) (i := 2) rfl, M24.cell (.tail _ _ _ _ _ (.tail _ _ _ _ _ (.tail _ _ _ _ _ (.tail _ _ _ _ _ (.tail _ _ _ _ _ (.tail _ _ _ _ _ (.tail _ _ _ _ _ (Has.head _ _ _ _)))))))) (i := 3) rfl, M24.cell (.tail _ _ _ _ _ (.tail _ _ _ _ _ (.tail _ _ _ _ _ (.tail _ _ _ _ _ (.tail _ _ _ _ _ (.tail _ _ _ _ _ (.tail _ _ _ _ _ (Has.head _ _ _ _)))))))) (i := 4) rfl, M24.cell (.tail _ _ _ _ _ (.tail _ _ _ _ _ (.tail _ _ _ _ _ (.tail _ _ _ _ _ (.tail _ _ _ _ _ (.tail _ _ _ _ _ (.tail _ _ _ _ _ (Has.head _ _ _ _)))))))) (i := 5) rfl, M24.cell (.tail _ _ _ _ _ (.tail _ _ _ _ _ (.tail _ _ _ _ _ (.tail _ _ _ _ _ (.tail _ _ _ _ _ (.tail _ _ _ _ _ (Has.head _ _ _ _))))))) (i := 5) rfl, M24.cell (.tail _ _ _ _ _ (.tail _ _ _ _ _ (.tail _ _ _ _ _ (.tail _ _ _ _ _ (.tail _ _ _ _ _ (.tail _ _ _ _ _ (Has.head _ _ _ _))))))) (i := 2) rfl, M24.cell (.tail _ _ _ _ _ (Has.head _ _ _ _)) (i := 0) rfl, M24.cell (.tail _ _ _ _ _ (Has.head _ _ _ _)) (i := 1) rfl, M24.cell (Has.head _ _ _ _) (i := 5) rfl, e1_0, e2_3, e3_0, e3_3, e4_0, e6_0, e6_1, e10_0⟩) (fun hHeld => ?_)
  refine wpAnyH_take (i := 0) (v := ?v9001) rfl (by as_aux_lemma => kernel_rfl) (by as_aux_lemma => kernel_rfl) (by as_aux_lemma => kernel_rfl) (fun _ _ _ h => h) (Or.inl ⟨by kernel_rfl, ?hy9001⟩) hHeld ?rest9001
  case hy9001 => (intro w' hSw; go_simp; (try with_reducible rfl))
  try simp only [Act.put, List.setIfInBounds_toArray, List.set_cons_zero, List.set_cons_succ, List.getElem_toArray, List.getElem_cons_zero, List.getElem_cons_succ]
  refine wpAnyH_take (i := 1) (v := ?v9002) rfl (by as_aux_lemma => kernel_rfl) (by as_aux_lemma => kernel_rfl) (by as_aux_lemma => kernel_rfl) (fun _ _ _ h => h) (Or.inl ⟨by kernel_rfl, ?hy9002⟩) hHeld ?rest9002
  case hy9002 => (intro w' hSw; have q0 := HQ5.out w' hSw; go_simp; (try with_reducible rfl))
  try simp only [Act.put, List.setIfInBounds_toArray, List.set_cons_zero, List.set_cons_succ, List.getElem_toArray, List.getElem_cons_zero, List.getElem_cons_succ]
  refine wpAnyH_take (i := 2) (v := ?v9003) rfl (by as_aux_lemma => kernel_rfl) (by as_aux_lemma => kernel_rfl) (by as_aux_lemma => kernel_rfl) (fun _ _ _ h => h) (Or.inl ⟨by kernel_rfl, ?hy9003⟩) hHeld ?rest9003
  case hy9003 => (intro w' hSw; go_simp; (try with_reducible rfl))
  try simp only [Act.put, List.setIfInBounds_toArray, List.set_cons_zero, List.set_cons_succ, List.getElem_toArray, List.getElem_cons_zero, List.getElem_cons_succ]
  refine wpAnyH_take (i := 3) (v := ?v9004) rfl (by as_aux_lemma => kernel_rfl) (by as_aux_lemma => kernel_rfl) (by as_aux_lemma => kernel_rfl) (fun _ _ _ h => h) (Or.inl ⟨by kernel_rfl, ?hy9004⟩) hHeld ?rest9004
  case hy9004 => (intro w' hSw; have q0 := HQ24.out w' hSw; go_simp; (try with_reducible rfl))
  try simp only [Act.put, List.setIfInBounds_toArray, List.set_cons_zero, List.set_cons_succ, List.getElem_toArray, List.getElem_cons_zero, List.getElem_cons_succ]
  refine wpAnyH_take (i := 4) (v := ?v9005) rfl (by as_aux_lemma => kernel_rfl) (by as_aux_lemma => kernel_rfl) (by as_aux_lemma => kernel_rfl) (fun _ _ _ h => h) (Or.inl ⟨by kernel_rfl, ?hy9005⟩) hHeld ?rest9005
  case hy9005 => (intro w' hSw; go_simp; (try with_reducible rfl))
  try simp only [Act.put, List.setIfInBounds_toArray, List.set_cons_zero, List.set_cons_succ, List.getElem_toArray, List.getElem_cons_zero, List.getElem_cons_succ]
  refine wpAnyH_take (i := 5) (v := ?v9006) rfl (by as_aux_lemma => kernel_rfl) (by as_aux_lemma => kernel_rfl) (by as_aux_lemma => kernel_rfl) (fun _ _ _ h => h) (Or.inl ⟨by kernel_rfl, ?hy9006⟩) hHeld ?rest9006
  case hy9006 => (intro w' hSw; go_simp; (try with_reducible rfl))
  try simp only [Act.put, List.setIfInBounds_toArray, List.set_cons_zero, List.set_cons_succ, List.getElem_toArray, List.getElem_cons_zero, List.getElem_cons_succ]
  refine wpAnyH_take (i := 6) (v := ?v9007) rfl (by as_aux_lemma => kernel_rfl) (by as_aux_lemma => kernel_rfl) (by as_aux_lemma => kernel_rfl) (fun _ _ _ h => h) (Or.inl ⟨by kernel_rfl, ?hy9007⟩) hHeld ?rest9007
  case hy9007 => (intro w' hSw; go_simp; (try with_reducible rfl))
  try simp only [Act.put, List.setIfInBounds_toArray, List.set_cons_zero, List.set_cons_succ, List.getElem_toArray, List.getElem_cons_zero, List.getElem_cons_succ]
  refine wpAnyH_take (i := 7) (v := ?v9008) rfl (by as_aux_lemma => kernel_rfl) (by as_aux_lemma => kernel_rfl) (by as_aux_lemma => kernel_rfl) (fun _ _ _ h => h) (Or.inl ⟨by kernel_rfl, ?hy9008⟩) hHeld ?rest9008
  case hy9008 => (intro w' hSw; go_simp; (try with_reducible rfl))
  try simp only [Act.put, List.setIfInBounds_toArray, List.set_cons_zero, List.set_cons_succ, List.getElem_toArray, List.getElem_cons_zero, List.getElem_cons_succ]
  refine wpAnyH_take (i := 8) (v := ?v9009) rfl (by as_aux_lemma => kernel_rfl) (by as_aux_lemma => kernel_rfl) (by as_aux_lemma => kernel_rfl) (fun _ _ _ h => h) (Or.inl ⟨by kernel_rfl, ?hy9009⟩) hHeld ?rest9009
  case hy9009 => (intro w' hSw; go_simp; (try with_reducible rfl))
  try simp only [Act.put, List.setIfInBounds_toArray, List.set_cons_zero, List.set_cons_succ, List.getElem_toArray, List.getElem_cons_zero, List.getElem_cons_succ]
  refine wpAnyH_take (i := 9) (v := ?v9010) rfl (by as_aux_lemma => kernel_rfl) (by as_aux_lemma => kernel_rfl) (by as_aux_lemma => kernel_rfl) (fun _ _ _ h => h) (Or.inl ⟨by kernel_rfl, ?hy9010⟩) hHeld ?rest9010
  case hy9010 => (intro w' hSw; go_simp; (try with_reducible rfl))
  try simp only [Act.put, List.setIfInBounds_toArray, List.set_cons_zero, List.set_cons_succ, List.getElem_toArray, List.getElem_cons_zero, List.getElem_cons_succ]
  refine wpAnyH_take (i := 10) (v := ?v9011) rfl (by as_aux_lemma => kernel_rfl) (by as_aux_lemma => kernel_rfl) (by as_aux_lemma => kernel_rfl) (fun _ _ _ h => h) (Or.inl ⟨by kernel_rfl, ?hy9011⟩) hHeld ?rest9011
  case hy9011 => (intro w' hSw; go_simp; (try with_reducible rfl))
  try simp only [Act.put, List.setIfInBounds_toArray, List.set_cons_zero, List.set_cons_succ, List.getElem_toArray, List.getElem_cons_zero, List.getElem_cons_succ]
  refine wpAnyH_take (i := 11) (v := ?v9012) rfl (by as_aux_lemma => kernel_rfl) (by as_aux_lemma => kernel_rfl) (by as_aux_lemma => kernel_rfl) (fun _ _ _ h => h) (Or.inl ⟨by kernel_rfl, ?hy9012⟩) hHeld ?rest9012
  case hy9012 => (intro w' hSw; have q0 := HQ6.out w' hSw; go_simp; (try with_reducible rfl))
  try simp only [Act.put, List.setIfInBounds_toArray, List.set_cons_zero, List.set_cons_succ, List.getElem_toArray, List.getElem_cons_zero, List.getElem_cons_succ]
  refine wpAnyH_take (i := 12) (v := ?v9013) rfl (by as_aux_lemma => kernel_rfl) (by as_aux_lemma => kernel_rfl) (by as_aux_lemma => kernel_rfl) (fun _ _ _ h => h) (Or.inl ⟨by kernel_rfl, ?hy9013⟩) hHeld ?rest9013
  case hy9013 => (intro w' hSw; go_simp; (try with_reducible rfl))
  try simp only [Act.put, List.setIfInBounds_toArray, List.set_cons_zero, List.set_cons_succ, List.getElem_toArray, List.getElem_cons_zero, List.getElem_cons_succ]
  refine wpAnyH_take (i := 13) (v := ?v9014) rfl (by as_aux_lemma => kernel_rfl) (by as_aux_lemma => kernel_rfl) (by as_aux_lemma => kernel_rfl) (fun _ _ _ h => h) (Or.inl ⟨by kernel_rfl, ?hy9014⟩) hHeld ?rest9014
  case hy9014 => (intro w' hSw; have q0 := HQ25.out w' hSw; go_simp; (try with_reducible rfl))
  try simp only [Act.put, List.setIfInBounds_toArray, List.set_cons_zero, List.set_cons_succ, List.getElem_toArray, List.getElem_cons_zero, List.getElem_cons_succ]
  refine wpAnyH_take (i := 14) (v := ?v9015) rfl (by as_aux_lemma => kernel_rfl) (by as_aux_lemma => kernel_rfl) (by as_aux_lemma => kernel_rfl) (fun _ _ _ h => h) (Or.inl ⟨by kernel_rfl, ?hy9015⟩) hHeld ?rest9015
  case hy9015 => (intro w' hSw; go_simp; (try with_reducible rfl))
  try simp only [Act.put, List.setIfInBounds_toArray, List.set_cons_zero, List.set_cons_succ, List.getElem_toArray, List.getElem_cons_zero, List.getElem_cons_succ]
  refine wpAnyH_take (i := 15) (v := ?v9016) rfl (by as_aux_lemma => kernel_rfl) (by as_aux_lemma => kernel_rfl) (by as_aux_lemma => kernel_rfl) (fun _ _ _ h => h) (Or.inl ⟨by kernel_rfl, ?hy9016⟩) hHeld ?rest9016
  case hy9016 => (intro w' hSw; go_simp; (try with_reducible rfl))
  try simp only [Act.put, List.setIfInBounds_toArray, List.set_cons_zero, List.set_cons_succ, List.getElem_toArray, List.getElem_cons_zero, List.getElem_cons_succ]
  refine wpAnyH_take (i := 16) (v := ?v9017) rfl (by as_aux_lemma => kernel_rfl) (by as_aux_lemma => kernel_rfl) (by as_aux_lemma => kernel_rfl) (fun _ _ _ h => h) (Or.inl ⟨by kernel_rfl, ?hy9017⟩) hHeld ?rest9017
  case hy9017 => (intro w' hSw; go_simp; (try with_reducible rfl))
  try simp only [Act.put, List.setIfInBounds_toArray, List.set_cons_zero, List.set_cons_succ, List.getElem_toArray, List.getElem_cons_zero, List.getElem_cons_succ]
  refine wpAnyH_take (i := 17) (v := ?v9018) rfl (by as_aux_lemma => kernel_rfl) (by as_aux_lemma => kernel_rfl) (by as_aux_lemma => kernel_rfl) (fun _ _ _ h => h) (Or.inl ⟨by kernel_rfl, ?hy9018⟩) hHeld ?rest9018
  case hy9018 => (intro w' hSw; go_simp; (try with_reducible rfl))
  try simp only [Act.put, List.setIfInBounds_toArray, List.set_cons_zero, List.set_cons_succ, List.getElem_toArray, List.getElem_cons_zero, List.getElem_cons_succ]
  refine wpAnyH_take (i := 18) (v := ?v9019) rfl (by as_aux_lemma => kernel_rfl) (by as_aux_lemma => kernel_rfl) (by as_aux_lemma => kernel_rfl) (fun _ _ _ h => h) (Or.inl ⟨by kernel_rfl, ?hy9019⟩) hHeld ?rest9019
  case hy9019 => (intro w' hSw; go_simp; (try with_reducible rfl))
  try simp only [Act.put, List.setIfInBounds_toArray, List.set_cons_zero, List.set_cons_succ, List.getElem_toArray, List.getElem_cons_zero, List.getElem_cons_succ]
  refine wpAnyH_take (i := 19) (v := ?v9020) rfl (by as_aux_lemma => kernel_rfl) (by as_aux_lemma => kernel_rfl) (by as_aux_lemma => kernel_rfl) (fun _ _ _ h => h) (Or.inl ⟨by kernel_rfl, ?hy9020⟩) hHeld ?rest9020
  case hy9020 => (intro w' hSw; go_simp; (try with_reducible rfl))
  try simp only [Act.put, List.setIfInBounds_toArray, List.set_cons_zero, List.set_cons_succ, List.getElem_toArray, List.getElem_cons_zero, List.getElem_cons_succ]
  refine wpAnyH_take (i := 20) (v := ?v9021) rfl (by as_aux_lemma => kernel_rfl) (by as_aux_lemma => kernel_rfl) (by as_aux_lemma => kernel_rfl) (fun _ _ _ h => h) (Or.inl ⟨by kernel_rfl, ?hy9021⟩) hHeld ?rest9021
  case hy9021 => (intro w' hSw; go_simp; (try with_reducible rfl))
  try simp only [Act.put, List.setIfInBounds_toArray, List.set_cons_zero, List.set_cons_succ, List.getElem_toArray, List.getElem_cons_zero, List.getElem_cons_succ]
  refine wpAnyH_take (i := 21) (v := ?v9022) rfl (by as_aux_lemma => kernel_rfl) (by as_aux_lemma => kernel_rfl) (by as_aux_lemma => kernel_rfl) (fun _ _ _ h => h) (Or.inl ⟨by kernel_rfl, ?hy9022⟩) hHeld ?rest9022
  case hy9022 => (intro w' hSw; have q0 := HQ7.out w' hSw; have q1 := HQ8.out w' hSw; go_simp; (try with_reducible rfl))
  try simp only [Act.put, List.setIfInBounds_toArray, List.set_cons_zero, List.set_cons_succ, List.getElem_toArray, List.getElem_cons_zero, List.getElem_cons_succ]
  refine wpAnyH_ready (rs := [22]) (by as_aux_lemma => kernel_rfl) (by simp) ?_
  refine AllReadyH.cons rfl (fun K hK => ?_) AllReadyH.nil
  go_simp
  refine (C11.out _).mono ?_
  rintro e w25 ⟨rfl, hA⟩
  have M25 := M24.drew.call hA
  clear e1_0 e2_3 e3_0 e3_3 e4_0 e6_0 e6_1 e10_0
  have hA2 : Below w24.heap.size w24 w25 := (Below.refl w24.heap.size w24).drew.trans hA
  replace R1 := Lib.hid (R1.out.below hA2)
  replace R2 := Lib.hid (R2.out.below hA2)
  replace R3 := Lib.hid (R3.out.below hA2)
  replace R4 := Lib.hid (R4.out.below hA2)
  replace R5 := Lib.hid (R5.out.below hA2)
  replace R6 := Lib.hid (R6.out.below hA2)
  replace R7 := Lib.hid (R7.out.below hA2)
  replace R8 := Lib.hid (R8.out.below hA2)
  replace R10 := Lib.hid (R10.out.below hA2)
  clear hA hA2 M24
  obtain ⟨_, _, ee, _, e1_0⟩ := cell64 R1.out 0 (by decide)
  cases ee
  rw [show List.getD _ 0 0 = (268435456 : Int) from rfl, Nat.add_zero] at e1_0
  obtain ⟨_, _, ee, _, e2_3⟩ := cell64 R2.out 3 (by decide)
  cases ee
  rw [show List.getD _ 3 0 = (1073741824 : Int) from rfl] at e2_3
  obtain ⟨_, _, ee, _, e3_0⟩ := cell64 R3.out 0 (by decide)
  cases ee
  rw [show List.getD _ 0 0 = (67108864 : Int) from rfl, Nat.add_zero] at e3_0
  obtain ⟨_, _, ee, _, e3_3⟩ := cell64 R3.out 3 (by decide)
  cases ee
  rw [show List.getD _ 3 0 = (603979776 : Int) from rfl] at e3_3
  obtain ⟨_, _, ee, _, e4_0⟩ := cell64 R4.out 0 (by decide)
  cases ee
  rw [show List.getD _ 0 0 = (67108864 : Int) from rfl, Nat.add_zero] at e4_0
  obtain ⟨_, _, ee, _, e6_0⟩ := cell64 R6.out 0 (by decide)
  cases ee
  rw [show List.getD _ 0 0 = (268435456 : Int) from rfl, Nat.add_zero] at e6_0
  obtain ⟨_, _, ee, _, e6_1⟩ := cell64 R6.out 1 (by decide)
  cases ee
  rw [show List.getD _ 1 0 = (0 : Int) from rfl] at e6_1
  obtain ⟨_, _, ee, _, e10_0⟩ := cell64 R10.out 0 (by decide)
  cases ee
  rw [show List.getD _ 0 0 = (1073741824 : Int) from rfl, Nat.add_zero] at e10_0
  try go_wp2_with fail
  refine hK.out _ _ (HMK.out _ ⟨M25.cell (.tail _ _ _ _ _ (.tail _ _ _ _ _ (.tail _ _ _ _ _ (.tail _ _ _ _ _ (.tail _ _ _ _ _ (.tail _ _ _ _ _ (.tail _ _ _ _ _ (.tail _ _ _ _ _ (.tail _ _ _ _ _ (.tail _ _ _ _ _ (.tail _ _ _ _ _ (.tail _ _ _ _ _ (.tail _ _ _ _ _ (Has.head _ _ _ _)))))))))))))) (i := 0) rfl, M25.cell (.tail _ _ _ _ _ (.tail _ _ _ _ _ (.tail _ _ _ _ _ (.tail _ _ _ _ _ (.tail _ _ _ _ _ (.tail _ _ _ _ _ (.tail _ _ _ _ _ (.tail _ _ _ _ _ (.tail _ _ _ _ _ (.tail _ _ _ _ _ (.tail _ _ _ _ _ (.tail _ _ _ _ _ (.tail _ _ _ _ _ (Has.head _ _ _ _)))))))))))))) (i := 1) rfl, M25.cell (.tail _ _ _ _ _ (.tail _ _ _ _ _ (.tail _ _ _ _ _ (.tail _ _ _ _ _ (.tail _ _ _ _ _ (.tail _ _ _ _ _ (.tail _ _ _ _ _ (.tail _ _ _ _ _ (.tail _ _ _ _ _ (.tail _ _ _ _ _ (.tail _ _ _ _ _ (.tail _ _ _ _ _ (.tail _ _ _ _ _ (Has.head _ _ _ _)))))))))))))) (i := 2) rfl, M25.cell (.tail _ _ _ _ _ (.tail _ _ _ _ _ (.tail _ _ _ _ _ (.tail _ _ _ _ _ (.tail _ _ _ _ _ (.tail _ _ _ _ _ (.tail _ _ _ _ _ (.tail _ _ _ _ _ (.tail _ _ _ _ _ (.tail _ _ _ _ _ (.tail _ _ _ _ _ (.tail _ _ _ _ _ (.tail _ _ _ _ _ (Has.head _ _ _ _)))))))))))))) (i := 3) rfl, M25.cell (.tail _ _ _ _ _ (.tail _ _ _ _ _ (.tail _ _ _ _ _ (.tail _ _ _ _ _ (.tail _ _ _ _ _ (.tail _ _ _ _ _ (.tail _ _ _ _ _ (.tail _ _ _ _ _ (.tail _ _ _ _ _ (.tail _ _ _ _ _ (.tail _ _ _ _ _ (.tail _ _ _ _ _ (.tail _ _ _ _ _ (Has.head _ _ _ _)))))))))))))) (i := 4) rfl, M25.cell (.tail _ _ _ _ _ (.tail _ _ _ _ _ (.tail _ _ _ _ _ (.tail _ _ _ _ _ (.tail _ _ _ _ _ (.tail _ _ _ _ _ (.tail _ _ _ _ _ (.tail _ _ _ _ _ (.tail _ _ _ _ _ (.tail _ _ _ _ _ (.tail _ _ _ _ _ (.tail _ _ _ _ _ (.tail _ _ _ _ _ (Has.head _ _ _ _)))))))))))))) (i := 5) rfl, M25.cell (.tail _ _ _ _ _ (.tail _ _ _ _ _ (.tail _ _ _ _ _ (.tail _ _ _ _ _ (.tail _ _ _ _ _ (.tail _ _ _ _ _ (.tail _ _ _ _ _ (.tail _ _ _ _ _ (.tail _ _ _ _ _ (.tail _ _ _ _ _ (.tail _ _ _ _ _ (Has.head _ _ _ _)))))))))))) (i := 5) rfl, M25.cell (.tail _ _ _ _ _ (.tail _ _ _ _ _ (.tail _ _ _ _ _ (.tail _ _ _ _ _ (.tail _ _ _ _ _ (.tail _ _ _ _ _ (.tail _ _ _ _ _ (.tail _ _ _ _ _ (.tail _ _ _ _ _ (.tail _ _ _ _ _ (Has.head _ _ _ _))))))))))) (i := 0) rfl, M25.cell (.tail _ _ _ _ _ (.tail _ _ _ _ _ (.tail _ _ _ _ _ (.tail _ _ _ _ _ (.tail _ _ _ _ _ (.tail _ _ _ _ _ (.tail _ _ _ _ _ (.tail _ _ _ _ _ (.tail _ _ _ _ _ (.tail _ _ _ _ _ (Has.head _ _ _ _))))))))))) (i := 1) rfl, M25.cell (.tail _ _ _ _ _ (.tail _ _ _ _ _ (.tail _ _ _ _ _ (.tail _ _ _ _ _ (.tail _ _ _ _ _ (.tail _ _ _ _ _ (.tail _ _ _ _ _ (.tail _ _ _ _ _ (.tail _ _ _ _ _ (Has.head _ _ _ _)))))))))) (i := 5) rfl, M25.cell (.tail _ _ _ _ _ (.tail _ _ _ _ _ (.tail _ _ _ _ _ (.tail _ _ _ _ _ (.tail _ _ _ _ _ (.tail _ _ _ _ _ (.tail _ _ _ _ _ (.tail _ _ _ _ _ (Has.head _ _ _ _))))))))) (i := 4) rfl, M25.cell (.tail _ _ _ _ _ (.tail _ _ _ _ _ (.tail _ _ _ _ _ (.tail _ _ _ _ _ (.tail _ _ _ _ _ (.tail _ _ _ _ _ (.tail _ _ _ _ _ (.tail _ _ _ _ _ (Has.head _ _ _ _))))))))) (i := 2) rfl, M25.cell (.tail _ _ _ _ _ (.tail _ _ _ _ _ (.tail _ _ _ _ _ (.tail _ _ _ _ _ (.tail _ _ _ _ _ (.tail _ _ _ _ _ (.tail _ _ _ _ _ (.tail _ _ _ _ _ (Has.head _ _ _ _))))))))) (i := 5) rfl, M25.cell (.tail _ _ _ _ _ (.tail _ _ _ _ _ (.tail _ _ _ _ _ (.tail _ _ _ _ _ (.tail _ _ _ _ _ (.tail _ _ _ _ _ (.tail _ _ _ _ _ (Has.head _ _ _ _)))))))) (i := 0) rfl, M25.cell (.tail _ _ _ _ _ (.tail _ _ _ _ _ (.tail _ _ _ _ _ (.tail _ _ _ _ _ (.tail _ _ _ _ _ (.tail _ _ _ _ _ (.tail _ _ _ _ _ (Has.head _ _ _ _)))))))) (i := 1) rfl, M25.cell (.tail _ _ _ _ _ (.tail _ _ _ _ _ (.tail _ _ _ _ _ (.tail _ _ _ _ _ (.tail _ _ _ _ _ (.tail _ _ _ _ _ (.tail _ _ _ _ _ (Has.head _ _ _ _)))))))) (i := 2) rfl, M25.cell (.tail _ _ _ _ _ (.tail _ _ _ _ _ (.tail _ _ _ _ _ (.tail _ _ _ _ _ (.tail _ _ _ _ _ (.tail _ _ _ _ _ (.tail _ _ _ _ _ (Has.head _ _ _ _)))))))) (i := 3) rfl, M25.cell (.tail _ _ _ _ _ (.tail _ _ _ _ _ (.tail _ _ _ _ _ (.tail _ _ _ _ _ (.tail _ _ _ _ _ (.tail _ _ _ _ _ (.tail _ _ _ _ _ (Has.head _ _ _ _)))))))) (i := 4) rfl, M25.cell (.tail _ _ _ _ _ (.tail _ _ _ _ _ (.tail _ _ _ _ _ (.tail _ _ _ _ _ (.tail _ _ _ _ _ (.tail _ _ _ _ _ (.tail _ _ _ _ _ (Has.head _ _ _ _)))))))) (i := 5) rfl, M25.cell (.tail _ _ _ _ _ (.tail _ _ _ _ _ (.tail _ _ _ _ _ (.tail _ _ _ _ _ (.tail _ _ _ _ _ (.tail _ _ _ _ _ (Has.head _ _ _ _))))))) (i := 5) rfl, M25.cell (.tail _ _ _ _ _ (.tail _ _ _ _ _ (.tail _ _ _ _ _ (.tail _ _ _ _ _ (.tail _ _ _ _ _ (.tail _ _ _ _ _ (Has.head _ _ _ _))))))) (i := 2) rfl, M25.cell (.tail _ _ _ _ _ (Has.head _ _ _ _)) (i := 0) rfl, M25.cell (.tail _ _ _ _ _ (Has.head _ _ _ _)) (i := 1) rfl, M25.cell (Has.head _ _ _ _) (i := 5) rfl, e1_0, e2_3, e3_0, e3_3, e4_0, e6_0, e6_1, e10_0⟩) (fun hHeld => ?_)
  clear hK K
  try simp only [Act.put, List.setIfInBounds_toArray, List.set_cons_zero, List.set_cons_succ, List.getElem_toArray, List.getElem_cons_zero, List.getElem_cons_succ]
  refine wpAnyH_take (i := 23) (v := ?v9023) rfl (by as_aux_lemma => kernel_rfl) (by as_aux_lemma => kernel_rfl) (by as_aux_lemma => kernel_rfl) (fun _ _ _ h => h) (Or.inl ⟨by kernel_rfl, ?hy9023⟩) hHeld ?rest9023
  case hy9023 => (intro w' hSw; go_simp; (try with_reducible rfl))
  try simp only [Act.put, List.setIfInBounds_toArray, List.set_cons_zero, List.set_cons_succ, List.getElem_toArray, List.getElem_cons_zero, List.getElem_cons_succ]
  refine wpAnyH_take (i := 24) (v := ?v9024) rfl (by as_aux_lemma => kernel_rfl) (by as_aux_lemma => kernel_rfl) (by as_aux_lemma => kernel_rfl) (fun _ _ _ h => h) (Or.inl ⟨by kernel_rfl, ?hy9024⟩) hHeld ?rest9024
  case hy9024 => (intro w' hSw; go_simp; (try with_reducible rfl))
  try simp only [Act.put, List.setIfInBounds_toArray, List.set_cons_zero, List.set_cons_succ, List.getElem_toArray, List.getElem_cons_zero, List.getElem_cons_succ]
  refine wpAnyH_take (i := 25) (v := ?v9025) rfl (by as_aux_lemma => kernel_rfl) (by as_aux_lemma => kernel_rfl) (by as_aux_lemma => kernel_rfl) (fun _ _ _ h => h) (Or.inl ⟨by kernel_rfl, ?hy9025⟩) hHeld ?rest9025
  case hy9025 => (intro w' hSw; go_simp; (try with_reducible rfl))
  try simp only [Act.put, List.setIfInBounds_toArray, List.set_cons_zero, List.set_cons_succ, List.getElem_toArray, List.getElem_cons_zero, List.getElem_cons_succ]
  refine wpAnyH_take (i := 26) (v := ?v9026) rfl (by as_aux_lemma => kernel_rfl) (by as_aux_lemma => kernel_rfl) (by as_aux_lemma => kernel_rfl) (fun _ _ _ h => h) (Or.inl ⟨by kernel_rfl, ?hy9026⟩) hHeld ?rest9026
  case hy9026 => (intro w' hSw; go_simp; (try with_reducible rfl))
  try simp only [Act.put, List.setIfInBounds_toArray, List.set_cons_zero, List.set_cons_succ, List.getElem_toArray, List.getElem_cons_zero, List.getElem_cons_succ]
  refine wpAnyH_take (i := 27) (v := ?v9027) rfl (by as_aux_lemma => kernel_rfl) (by as_aux_lemma => kernel_rfl) (by as_aux_lemma => kernel_rfl) (fun _ _ _ h => h) (Or.inl ⟨by kernel_rfl, ?hy9027⟩) hHeld ?rest9027
  case hy9027 => (intro w' hSw; go_simp; (try with_reducible rfl))
  try simp only [Act.put, List.setIfInBounds_toArray, List.set_cons_zero, List.set_cons_succ, List.getElem_toArray, List.getElem_cons_zero, List.getElem_cons_succ]
  refine wpAnyH_take (i := 28) (v := ?v9028) rfl (by as_aux_lemma => kernel_rfl) (by as_aux_lemma => kernel_rfl) (by as_aux_lemma => kernel_rfl) (fun _ _ _ h => h) (Or.inl ⟨by kernel_rfl, ?hy9028⟩) hHeld ?rest9028
  case hy9028 => (intro w' hSw; go_simp; (try with_reducible rfl))
  try simp only [Act.put, List.setIfInBounds_toArray, List.set_cons_zero, List.set_cons_succ, List.getElem_toArray, List.getElem_cons_zero, List.getElem_cons_succ]
  refine wpAnyH_take (i := 29) (v := ?v9029) rfl (by as_aux_lemma => kernel_rfl) (by as_aux_lemma => kernel_rfl) (by as_aux_lemma => kernel_rfl) (fun _ _ _ h => h) (Or.inl ⟨by kernel_rfl, ?hy9029⟩) hHeld ?rest9029
  case hy9029 => (intro w' hSw; go_simp; (try with_reducible rfl))
  try simp only [Act.put, List.setIfInBounds_toArray, List.set_cons_zero, List.set_cons_succ, List.getElem_toArray, List.getElem_cons_zero, List.getElem_cons_succ]
  refine wpAnyH_take (i := 30) (v := ?v9030) rfl (by as_aux_lemma => kernel_rfl) (by as_aux_lemma => kernel_rfl) (by as_aux_lemma => kernel_rfl) (fun _ _ _ h => h) (Or.inl ⟨by kernel_rfl, ?hy9030⟩) hHeld ?rest9030
  case hy9030 => (intro w' hSw; go_simp; (try with_reducible rfl))
  try simp only [Act.put, List.setIfInBounds_toArray, List.set_cons_zero, List.set_cons_succ, List.getElem_toArray, List.getElem_cons_zero, List.getElem_cons_succ]
  refine wpAnyH_take (i := 31) (v := ?v9031) rfl (by as_aux_lemma => kernel_rfl) (by as_aux_lemma => kernel_rfl) (by as_aux_lemma => kernel_rfl) (fun _ _ _ h => h) (Or.inl ⟨by kernel_rfl, ?hy9031⟩) hHeld ?rest9031
  case hy9031 => (intro w' hSw; have q0 := HQ9.out w' hSw; go_simp; (try with_reducible rfl))
  try simp only [Act.put, List.setIfInBounds_toArray, List.set_cons_zero, List.set_cons_succ, List.getElem_toArray, List.getElem_cons_zero, List.getElem_cons_succ]
  refine wpAnyH_take (i := 32) (v := ?v9032) rfl (by as_aux_lemma => kernel_rfl) (by as_aux_lemma => kernel_rfl) (by as_aux_lemma => kernel_rfl) (fun _ _ _ h => h) (Or.inl ⟨by kernel_rfl, ?hy9032⟩) hHeld ?rest9032
  case hy9032 => (intro w' hSw; go_simp; (try with_reducible rfl))
  try simp only [Act.put, List.setIfInBounds_toArray, List.set_cons_zero, List.set_cons_succ, List.getElem_toArray, List.getElem_cons_zero, List.getElem_cons_succ]
  refine wpAnyH_take (i := 33) (v := ?v9033) rfl (by as_aux_lemma => kernel_rfl) (by as_aux_lemma => kernel_rfl) (by as_aux_lemma => kernel_rfl) (fun _ _ _ h => h) (Or.inl ⟨by kernel_rfl, ?hy9033⟩) hHeld ?rest9033
  case hy9033 => (intro w' hSw; have q0 := HQ26.out w' hSw; go_simp; (try with_reducible rfl))
  try simp only [Act.put, List.setIfInBounds_toArray, List.set_cons_zero, List.set_cons_succ, List.getElem_toArray, List.getElem_cons_zero, List.getElem_cons_succ]
  refine wpAnyH_take (i := 34) (v := ?v9034) rfl (by as_aux_lemma => kernel_rfl) (by as_aux_lemma => kernel_rfl) (by as_aux_lemma => kernel_rfl) (fun _ _ _ h => h) (Or.inl ⟨by kernel_rfl, ?hy9034⟩) hHeld ?rest9034
  case hy9034 => (intro w' hSw; go_simp; (try with_reducible rfl))
  try simp only [Act.put, List.setIfInBounds_toArray, List.set_cons_zero, List.set_cons_succ, List.getElem_toArray, List.getElem_cons_zero, List.getElem_cons_succ]
  refine wpAnyH_take (i := 35) (v := ?v9035) rfl (by as_aux_lemma => kernel_rfl) (by as_aux_lemma => kernel_rfl) (by as_aux_lemma => kernel_rfl) (fun _ _ _ h => h) (Or.inl ⟨by kernel_rfl, ?hy9035⟩) hHeld ?rest9035
  case hy9035 => (intro w' hSw; go_simp; (try with_reducible rfl))
  try simp only [Act.put, List.setIfInBounds_toArray, List.set_cons_zero, List.set_cons_succ, List.getElem_toArray, List.getElem_cons_zero, List.getElem_cons_succ]
  refine wpAnyH_take (i := 36) (v := ?v9036) rfl (by as_aux_lemma => kernel_rfl) (by as_aux_lemma => kernel_rfl) (by as_aux_lemma => kernel_rfl) (fun _ _ _ h => h) (Or.inl ⟨by kernel_rfl, ?hy9036⟩) hHeld ?rest9036
  case hy9036 => (intro w' hSw; go_simp; (try with_reducible rfl))
  try simp only [Act.put, List.setIfInBounds_toArray, List.set_cons_zero, List.set_cons_succ, List.getElem_toArray, List.getElem_cons_zero, List.getElem_cons_succ]
  refine wpAnyH_take (i := 37) (v := ?v9037) rfl (by as_aux_lemma => kernel_rfl) (by as_aux_lemma => kernel_rfl) (by as_aux_lemma => kernel_rfl) (fun _ _ _ h => h) (Or.inl ⟨by kernel_rfl, ?hy9037⟩) hHeld ?rest9037
  case hy9037 => (intro w' hSw; go_simp; (try with_reducible rfl))
  try simp only [Act.put, List.setIfInBounds_toArray, List.set_cons_zero, List.set_cons_succ, List.getElem_toArray, List.getElem_cons_zero, List.getElem_cons_succ]
  refine wpAnyH_take (i := 38) (v := ?v9038) rfl (by as_aux_lemma => kernel_rfl) (by as_aux_lemma => kernel_rfl) (by as_aux_lemma => kernel_rfl) (fun _ _ _ h => h) (Or.inl ⟨by kernel_rfl, ?hy9038⟩) hHeld ?rest9038
  case hy9038 => (intro w' hSw; have q0 := HQ9.out w' hSw; go_simp; (try with_reducible rfl))
  try simp only [Act.put, List.setIfInBounds_toArray, List.set_cons_zero, List.set_cons_succ, List.getElem_toArray, List.getElem_cons_zero, List.getElem_cons_succ]
  refine wpAnyH_take (i := 39) (v := ?v9039) rfl (by as_aux_lemma => kernel_rfl) (by as_aux_lemma => kernel_rfl) (by as_aux_lemma => kernel_rfl) (fun _ _ _ h => h) (Or.inl ⟨by kernel_rfl, ?hy9039⟩) hHeld ?rest9039
  case hy9039 => (intro w' hSw; go_simp; (try with_reducible rfl))
  try simp only [Act.put, List.setIfInBounds_toArray, List.set_cons_zero, List.set_cons_succ, List.getElem_toArray, List.getElem_cons_zero, List.getElem_cons_succ]
  refine wpAnyH_take (i := 40) (v := ?v9040) rfl (by as_aux_lemma => kernel_rfl) (by as_aux_lemma => kernel_rfl) (by as_aux_lemma => kernel_rfl) (fun _ _ _ h => h) (Or.inl ⟨by kernel_rfl, ?hy9040⟩) hHeld ?rest9040
  case hy9040 => (intro w' hSw; have q0 := HQ27.out w' hSw; go_simp; (try with_reducible rfl))
  try simp only [Act.put, List.setIfInBounds_toArray, List.set_cons_zero, List.set_cons_succ, List.getElem_toArray, List.getElem_cons_zero, List.getElem_cons_succ]
  refine wpAnyH_take (i := 41) (v := ?v9041) rfl (by as_aux_lemma => kernel_rfl) (by as_aux_lemma => kernel_rfl) (by as_aux_lemma => kernel_rfl) (fun _ _ _ h => h) (Or.inl ⟨by kernel_rfl, ?hy9041⟩) hHeld ?rest9041
  case hy9041 => (intro w' hSw; go_simp; (try with_reducible rfl))
  try simp only [Act.put, List.setIfInBounds_toArray, List.set_cons_zero, List.set_cons_succ, List.getElem_toArray, List.getElem_cons_zero, List.getElem_cons_succ]
  refine wpAnyH_take (i := 42) (v := ?v9042) rfl (by as_aux_lemma => kernel_rfl) (by as_aux_lemma => kernel_rfl) (by as_aux_lemma => kernel_rfl) (fun _ _ _ h => h) (Or.inl ⟨by kernel_rfl, ?hy9042⟩) hHeld ?rest9042
  case hy9042 => (intro w' hSw; go_simp; (try with_reducible rfl))
  try simp only [Act.put, List.setIfInBounds_toArray, List.set_cons_zero, List.set_cons_succ, List.getElem_toArray, List.getElem_cons_zero, List.getElem_cons_succ]
  refine wpAnyH_take (i := 43) (v := ?v9043) rfl (by as_aux_lemma => kernel_rfl) (by as_aux_lemma => kernel_rfl) (by as_aux_lemma => kernel_rfl) (fun _ _ _ h => h) (Or.inl ⟨by kernel_rfl, ?hy9043⟩) hHeld ?rest9043
  case hy9043 => (intro w' hSw; go_simp; (try with_reducible rfl))
  try simp only [Act.put, List.setIfInBounds_toArray, List.set_cons_zero, List.set_cons_succ, List.getElem_toArray, List.getElem_cons_zero, List.getElem_cons_succ]
  refine wpAnyH_take (i := 44) (v := ?v9044) rfl (by as_aux_lemma => kernel_rfl) (by as_aux_lemma => kernel_rfl) (by as_aux_lemma => kernel_rfl) (fun _ _ _ h => h) (Or.inl ⟨by kernel_rfl, ?hy9044⟩) hHeld ?rest9044
  case hy9044 => (intro w' hSw; go_simp; (try with_reducible rfl))
  try simp only [Act.put, List.setIfInBounds_toArray, List.set_cons_zero, List.set_cons_succ, List.getElem_toArray, List.getElem_cons_zero, List.getElem_cons_succ]
  refine wpAnyH_take (i := 45) (v := ?v9045) rfl (by as_aux_lemma => kernel_rfl) (by as_aux_lemma => kernel_rfl) (by as_aux_lemma => kernel_rfl) (fun _ _ _ h => h) (Or.inl ⟨by kernel_rfl, ?hy9045⟩) hHeld ?rest9045
  case hy9045 => (intro w' hSw; go_simp; (try with_reducible rfl))
  try simp only [Act.put, List.setIfInBounds_toArray, List.set_cons_zero, List.set_cons_succ, List.getElem_toArray, List.getElem_cons_zero, List.getElem_cons_succ]
  refine wpAnyH_take (i := 46) (v := ?v9046) rfl (by as_aux_lemma => kernel_rfl) (by as_aux_lemma => kernel_rfl) (by as_aux_lemma => kernel_rfl) (fun _ _ _ h => h) (Or.inl ⟨by kernel_rfl, ?hy9046⟩) hHeld ?rest9046
  case hy9046 => (intro w' hSw; go_simp; (try with_reducible rfl))
  try simp only [Act.put, List.setIfInBounds_toArray, List.set_cons_zero, List.set_cons_succ, List.getElem_toArray, List.getElem_cons_zero, List.getElem_cons_succ]
  refine wpAnyH_take (i := 47) (v := ?v9047) rfl (by as_aux_lemma => kernel_rfl) (by as_aux_lemma => kernel_rfl) (by as_aux_lemma => kernel_rfl) (fun _ _ _ h => h) (Or.inl ⟨by kernel_rfl, ?hy9047⟩) hHeld ?rest9047
  case hy9047 => (intro w' hSw; go_simp; (try with_reducible rfl))
  try simp only [Act.put, List.setIfInBounds_toArray, List.set_cons_zero, List.set_cons_succ, List.getElem_toArray, List.getElem_cons_zero, List.getElem_cons_succ]
  refine wpAnyH_take (i := 48) (v := ?v9048) rfl (by as_aux_lemma => kernel_rfl) (by as_aux_lemma => kernel_rfl) (by as_aux_lemma => kernel_rfl) (fun _ _ _ h => h) (Or.inl ⟨by kernel_rfl, ?hy9048⟩) hHeld ?rest9048
  case hy9048 => (intro w' hSw; go_simp; (try with_reducible rfl))
  try simp only [Act.put, List.setIfInBounds_toArray, List.set_cons_zero, List.set_cons_succ, List.getElem_toArray, List.getElem_cons_zero, List.getElem_cons_succ]
  refine wpAnyH_take (i := 49) (v := ?v9049) rfl (by as_aux_lemma => kernel_rfl) (by as_aux_lemma => kernel_rfl) (by as_aux_lemma => kernel_rfl) (fun _ _ _ h => h) (Or.inl ⟨by kernel_rfl, ?hy9049⟩) hHeld ?rest9049
  case hy9049 => (intro w' hSw; have q0 := HQ10.out w' hSw; go_simp; (try with_reducible rfl))
  try simp only [Act.put, List.setIfInBounds_toArray, List.set_cons_zero, List.set_cons_succ, List.getElem_toArray, List.getElem_cons_zero, List.getElem_cons_succ]
  refine wpAnyH_take (i := 50) (v := ?v9050) rfl (by as_aux_lemma => kernel_rfl) (by as_aux_lemma => kernel_rfl) (by as_aux_lemma => kernel_rfl) (fun _ _ _ h => h) (Or.inl ⟨by kernel_rfl, ?hy9050⟩) hHeld ?rest9050
  case hy9050 => (intro w' hSw; go_simp; (try with_reducible rfl))
  try simp only [Act.put, List.setIfInBounds_toArray, List.set_cons_zero, List.set_cons_succ, List.getElem_toArray, List.getElem_cons_zero, List.getElem_cons_succ]
  refine wpAnyH_take (i := 51) (v := ?v9051) rfl (by as_aux_lemma => kernel_rfl) (by as_aux_lemma => kernel_rfl) (by as_aux_lemma => kernel_rfl) (fun _ _ _ h => h) (Or.inl ⟨by kernel_rfl, ?hy9051⟩) hHeld ?rest9051
  case hy9051 => (intro w' hSw; go_simp; (try with_reducible rfl))
  try simp only [Act.put, List.setIfInBounds_toArray, List.set_cons_zero, List.set_cons_succ, List.getElem_toArray, List.getElem_cons_zero, List.getElem_cons_succ]
  refine wpAnyH_take (i := 52) (v := ?v9052) rfl (by as_aux_lemma => kernel_rfl) (by as_aux_lemma => kernel_rfl) (by as_aux_lemma => kernel_rfl) (fun _ _ _ h => h) (Or.inl ⟨by kernel_rfl, ?hy9052⟩) hHeld ?rest9052
  case hy9052 => (intro w' hSw; go_simp; (try with_reducible rfl))
  try simp only [Act.put, List.setIfInBounds_toArray, List.set_cons_zero, List.set_cons_succ, List.getElem_toArray, List.getElem_cons_zero, List.getElem_cons_succ]
  refine wpAnyH_take (i := 53) (v := ?v9053) rfl (by as_aux_lemma => kernel_rfl) (by as_aux_lemma => kernel_rfl) (by as_aux_lemma => kernel_rfl) (fun _ _ _ h => h) (Or.inl ⟨by kernel_rfl, ?hy9053⟩) hHeld ?rest9053
  case hy9053 => (intro w' hSw; go_simp; (try with_reducible rfl))
  try simp only [Act.put, List.setIfInBounds_toArray, List.set_cons_zero, List.set_cons_succ, List.getElem_toArray, List.getElem_cons_zero, List.getElem_cons_succ]
  refine wpAnyH_take (i := 54) (v := ?v9054) rfl (by as_aux_lemma => kernel_rfl) (by as_aux_lemma => kernel_rfl) (by as_aux_lemma => kernel_rfl) (fun _ _ _ h => h) (Or.inl ⟨by kernel_rfl, ?hy9054⟩) hHeld ?rest9054
  case hy9054 => (intro w' hSw; have q0 := HQ11.out w' hSw; go_simp; (try with_reducible rfl))
  try simp only [Act.put, List.setIfInBounds_toArray, List.set_cons_zero, List.set_cons_succ, List.getElem_toArray, List.getElem_cons_zero, List.getElem_cons_succ]
  refine wpAnyH_take (i := 55) (v := ?v9055) rfl (by as_aux_lemma => kernel_rfl) (by as_aux_lemma => kernel_rfl) (by as_aux_lemma => kernel_rfl) (fun _ _ _ h => h) (Or.inl ⟨by kernel_rfl, ?hy9055⟩) hHeld ?rest9055
  case hy9055 => (intro w' hSw; go_simp; (try with_reducible rfl))
  try simp only [Act.put, List.setIfInBounds_toArray, List.set_cons_zero, List.set_cons_succ, List.getElem_toArray, List.getElem_cons_zero, List.getElem_cons_succ]
  refine wpAnyH_take (i := 56) (v := ?v9056) rfl (by as_aux_lemma => kernel_rfl) (by as_aux_lemma => kernel_rfl) (by as_aux_lemma => kernel_rfl) (fun _ _ _ h => h) (Or.inl ⟨by kernel_rfl, ?hy9056⟩) hHeld ?rest9056
  case hy9056 => (intro w' hSw; go_simp; (try with_reducible rfl))
  try simp only [Act.put, List.setIfInBounds_toArray, List.set_cons_zero, List.set_cons_succ, List.getElem_toArray, List.getElem_cons_zero, List.getElem_cons_succ]
  refine wpAnyH_take (i := 57) (v := ?v9057) rfl (by as_aux_lemma => kernel_rfl) (by as_aux_lemma => kernel_rfl) (by as_aux_lemma => kernel_rfl) (fun _ _ _ h => h) (Or.inl ⟨by kernel_rfl, ?hy9057⟩) hHeld ?rest9057
  case hy9057 => (intro w' hSw; go_simp; (try with_reducible rfl))
  try simp only [Act.put, List.setIfInBounds_toArray, List.set_cons_zero, List.set_cons_succ, List.getElem_toArray, List.getElem_cons_zero, List.getElem_cons_succ]
  refine wpAnyH_take (i := 58) (v := ?v9058) rfl (by as_aux_lemma => kernel_rfl) (by as_aux_lemma => kernel_rfl) (by as_aux_lemma => kernel_rfl) (fun _ _ _ h => h) (Or.inl ⟨by kernel_rfl, ?hy9058⟩) hHeld ?rest9058
  case hy9058 => (intro w' hSw; go_simp; (try with_reducible rfl))
  try simp only [Act.put, List.setIfInBounds_toArray, List.set_cons_zero, List.set_cons_succ, List.getElem_toArray, List.getElem_cons_zero, List.getElem_cons_succ]
  refine wpAnyH_take (i := 59) (v := ?v9059) rfl (by as_aux_lemma => kernel_rfl) (by as_aux_lemma => kernel_rfl) (by as_aux_lemma => kernel_rfl) (fun _ _ _ h => h) (Or.inl ⟨by kernel_rfl, ?hy9059⟩) hHeld ?rest9059
  case hy9059 => (intro w' hSw; have q0 := HQ12.out w' hSw; go_simp; (try with_reducible rfl))
  try simp only [Act.put, List.setIfInBounds_toArray, List.set_cons_zero, List.set_cons_succ, List.getElem_toArray, List.getElem_cons_zero, List.getElem_cons_succ]
  refine wpAnyH_take (i := 60) (v := ?v9060) rfl (by as_aux_lemma => kernel_rfl) (by as_aux_lemma => kernel_rfl) (by as_aux_lemma => kernel_rfl) (fun _ _ _ h => h) (Or.inl ⟨by kernel_rfl, ?hy9060⟩) hHeld ?rest9060
  case hy9060 => (intro w' hSw; go_simp; (try with_reducible rfl))
  try simp only [Act.put, List.setIfInBounds_toArray, List.set_cons_zero, List.set_cons_succ, List.getElem_toArray, List.getElem_cons_zero, List.getElem_cons_succ]
  refine wpAnyH_take (i := 61) (v := ?v9061) rfl (by as_aux_lemma => kernel_rfl) (by as_aux_lemma => kernel_rfl) (by as_aux_lemma => kernel_rfl) (fun _ _ _ h => h) (Or.inl ⟨by kernel_rfl, ?hy9061⟩) hHeld ?rest9061
  case hy9061 => (intro w' hSw; have q0 := HQ28.out w' hSw; go_simp; (try with_reducible rfl))
  try simp only [Act.put, List.setIfInBounds_toArray, List.set_cons_zero, List.set_cons_succ, List.getElem_toArray, List.getElem_cons_zero, List.getElem_cons_succ]
  refine wpAnyH_take (i := 62) (v := ?v9062) rfl (by as_aux_lemma => kernel_rfl) (by as_aux_lemma => kernel_rfl) (by as_aux_lemma => kernel_rfl) (fun _ _ _ h => h) (Or.inl ⟨by kernel_rfl, ?hy9062⟩) hHeld ?rest9062
  case hy9062 => (intro w' hSw; go_simp; (try with_reducible rfl))
  try simp only [Act.put, List.setIfInBounds_toArray, List.set_cons_zero, List.set_cons_succ, List.getElem_toArray, List.getElem_cons_zero, List.getElem_cons_succ]
  refine wpAnyH_take (i := 63) (v := ?v9063) rfl (by as_aux_lemma => kernel_rfl) (by as_aux_lemma => kernel_rfl) (by as_aux_lemma => kernel_rfl) (fun _ _ _ h => h) (Or.inl ⟨by kernel_rfl, ?hy9063⟩) hHeld ?rest9063
  case hy9063 => (intro w' hSw; go_simp; (try with_reducible rfl))
  try simp only [Act.put, List.setIfInBounds_toArray, List.set_cons_zero, List.set_cons_succ, List.getElem_toArray, List.getElem_cons_zero, List.getElem_cons_succ]
  refine wpAnyH_take (i := 64) (v := ?v9064) rfl (by as_aux_lemma => kernel_rfl) (by as_aux_lemma => kernel_rfl) (by as_aux_lemma => kernel_rfl) (fun _ _ _ h => h) (Or.inl ⟨by kernel_rfl, ?hy9064⟩) hHeld ?rest9064
  case hy9064 => (intro w' hSw; go_simp; (try with_reducible rfl))
  try simp only [Act.put, List.setIfInBounds_toArray, List.set_cons_zero, List.set_cons_succ, List.getElem_toArray, List.getElem_cons_zero, List.getElem_cons_succ]
  refine wpAnyH_take (i := 65) (v := ?v9065) rfl (by as_aux_lemma => kernel_rfl) (by as_aux_lemma => kernel_rfl) (by as_aux_lemma => kernel_rfl) (fun _ _ _ h => h) (Or.inl ⟨by kernel_rfl, ?hy9065⟩) hHeld ?rest9065
  case hy9065 => (intro w' hSw; go_simp; (try with_reducible rfl))
  try simp only [Act.put, List.setIfInBounds_toArray, List.set_cons_zero, List.set_cons_succ, List.getElem_toArray, List.getElem_cons_zero, List.getElem_cons_succ]
  refine wpAnyH_take (i := 66) (v := ?v9066) rfl (by as_aux_lemma => kernel_rfl) (by as_aux_lemma => kernel_rfl) (by as_aux_lemma => kernel_rfl) (fun _ _ _ h => h) (Or.inl ⟨by kernel_rfl, ?hy9066⟩) hHeld ?rest9066
  case hy9066 => (intro w' hSw; go_simp; (try with_reducible rfl))
  try simp only [Act.put, List.setIfInBounds_toArray, List.set_cons_zero, List.set_cons_succ, List.getElem_toArray, List.getElem_cons_zero, List.getElem_cons_succ]
  refine wpAnyH_take (i := 67) (v := ?v9067) rfl (by as_aux_lemma => kernel_rfl) (by as_aux_lemma => kernel_rfl) (by as_aux_lemma => kernel_rfl) (fun _ _ _ h => h) (Or.inl ⟨by kernel_rfl, ?hy9067⟩) hHeld ?rest9067
  case hy9067 => (intro w' hSw; go_simp; (try with_reducible rfl))
  try simp only [Act.put, List.setIfInBounds_toArray, List.set_cons_zero, List.set_cons_succ, List.getElem_toArray, List.getElem_cons_zero, List.getElem_cons_succ]
  refine wpAnyH_take (i := 68) (v := ?v9068) rfl (by as_aux_lemma => kernel_rfl) (by as_aux_lemma => kernel_rfl) (by as_aux_lemma => kernel_rfl) (fun _ _ _ h => h) (Or.inl ⟨by kernel_rfl, ?hy9068⟩) hHeld ?rest9068
  case hy9068 => (intro w' hSw; go_simp; (try with_reducible rfl))
  try simp only [Act.put, List.setIfInBounds_toArray, List.set_cons_zero, List.set_cons_succ, List.getElem_toArray, List.getElem_cons_zero, List.getElem_cons_succ]
  refine wpAnyH_take (i := 69) (v := ?v9069) rfl (by as_aux_lemma => kernel_rfl) (by as_aux_lemma => kernel_rfl) (by as_aux_lemma => kernel_rfl) (fun _ _ _ h => h) (Or.inl ⟨by kernel_rfl, ?hy9069⟩) hHeld ?rest9069
  case hy9069 => (intro w' hSw; have q0 := HQ13.out w' hSw; have q1 := HQ14.out w' hSw; have q2 := HQ15.out w' hSw; have q3 := HQ16.out w' hSw; have q4 := HQ17.out w' hSw; have q5 := HQ18.out w' hSw; go_simp; (try with_reducible rfl))
  try simp only [Act.put, List.setIfInBounds_toArray, List.set_cons_zero, List.set_cons_succ, List.getElem_toArray, List.getElem_cons_zero, List.getElem_cons_succ]
  refine wpAnyH_take (i := 70) (v := ?v9070) rfl (by as_aux_lemma => kernel_rfl) (by as_aux_lemma => kernel_rfl) (by as_aux_lemma => kernel_rfl) (fun _ _ _ h => h) (Or.inl ⟨by kernel_rfl, ?hy9070⟩) hHeld ?rest9070
  case hy9070 => (intro w' hSw; have q0 := HQ0.out w' hSw; have q1 := HQ1.out w' hSw; have q2 := HQ2.out w' hSw; have q3 := HQ3.out w' hSw; have q4 := HQ4.out w' hSw; have q5 := HQ5.out w' hSw; go_simp; (try with_reducible rfl))
  try simp only [Act.put, List.setIfInBounds_toArray, List.set_cons_zero, List.set_cons_succ, List.getElem_toArray, List.getElem_cons_zero, List.getElem_cons_succ]
  refine wpAnyH_ready (rs := [71]) (by as_aux_lemma => kernel_rfl) (by simp) ?_
  refine AllReadyH.cons rfl (fun K hK => ?_) AllReadyH.nil
  go_simp
  refine (C12.out _ _ _ _ _ R5.out R1.out).mono ?_
  rintro e w26 ⟨rfl, hA⟩
  have M26 := M25.call hA
  clear e1_0 e2_3 e3_0 e3_3 e4_0 e6_0 e6_1 e10_0
  have hA2 : Below w25.heap.size w25 w26 := (Below.refl w25.heap.size w25).trans hA
  replace R1 := Lib.hid (R1.out.below hA2)
  replace R2 := Lib.hid (R2.out.below hA2)
  replace R3 := Lib.hid (R3.out.below hA2)
  replace R4 := Lib.hid (R4.out.below hA2)
  replace R5 := Lib.hid (R5.out.below hA2)
  replace R6 := Lib.hid (R6.out.below hA2)
  replace R7 := Lib.hid (R7.out.below hA2)
  replace R8 := Lib.hid (R8.out.below hA2)
  replace R10 := Lib.hid (R10.out.below hA2)
  clear hA hA2 M25
  obtain ⟨_, _, ee, _, e1_0⟩ := cell64 R1.out 0 (by decide)
  cases ee
  rw [show List.getD _ 0 0 = (268435456 : Int) from rfl, Nat.add_zero] at e1_0
  obtain ⟨_, _, ee, _, e2_3⟩ := cell64 R2.out 3 (by decide)
  cases ee
  rw [show List.getD _ 3 0 = (1073741824 : Int) from rfl] at e2_3
  obtain ⟨_, _, ee, _, e3_0⟩ := cell64 R3.out 0 (by decide)
  cases ee
  rw [show List.getD _ 0 0 = (67108864 : Int) from rfl, Nat.add_zero] at e3_0
  obtain ⟨_, _, ee, _, e3_3⟩ := cell64 R3.out 3 (by decide)
  cases ee
  rw [show List.getD _ 3 0 = (603979776 : Int) from rfl] at e3_3
  obtain ⟨_, _, ee, _, e4_0⟩ := cell64 R4.out 0 (by decide)
  cases ee
  rw [show List.getD _ 0 0 = (67108864 : Int) from rfl, Nat.add_zero] at e4_0
  obtain ⟨_, _, ee, _, e6_0⟩ := cell64 R6.out 0 (by decide)
  cases ee
  rw [show List.getD _ 0 0 = (268435456 : Int) from rfl, Nat.add_zero] at e6_0
  obtain ⟨_, _, ee, _, e6_1⟩ := cell64 R6.out 1 (by decide)
  cases ee
  rw [show List.getD _ 1 0 = (0 : Int) from rfl] at e6_1
  obtain ⟨_, _, ee, _, e10_0⟩ := cell64 R10.out 0 (by decide)
  cases ee
  rw [show List.getD _ 0 0 = (1073741824 : Int) from rfl, Nat.add_zero] at e10_0
  try go_wp2_with fail
  refine hK.out _ _ (HMK.out _ ⟨M26.cell (.tail _ _ _ _ _ (.tail _ _ _ _ _ (.tail _ _ _ _ _ (.tail _ _ _ _ _ (.tail _ _ _ _ _ (.tail _ _ _ _ _ (.tail _ _ _ _ _ (.tail _ _ _ _ _ (.tail _ _ _ _ _ (.tail _ _ _ _ _ (.tail _ _ _ _ _ (.tail _ _ _ _ _ (.tail _ _ _ _ _ (Has.head _ _ _ _)))))))))))))) (i := 0) rfl, M26.cell (.tail _ _ _ _ _ (.tail _ _ _ _ _ (.tail _ _ _ _ _ (.tail _ _ _ _ _ (.tail _ _ _ _ _ (.tail _ _ _ _ _ (.tail _ _ _ _ _ (.tail _ _ _ _ _ (.tail _ _ _ _ _ (.tail _ _ _ _ _ (.tail _ _ _ _ _ (.tail _ _ _ _ _ (.tail _ _ _ _ _ (Has.head _ _ _ _)))))))))))))) (i := 1) rfl, M26.cell (.tail _ _ _ _ _ (.tail _ _ _ _ _ (.tail _ _ _ _ _ (.tail _ _ _ _ _ (.tail _ _ _ _ _ (.tail _ _ _ _ _ (.tail _ _ _ _ _ (.tail _ _ _ _ _ (.tail _ _ _ _ _ (.tail _ _ _ _ _ (.tail _ _ _ _ _ (.tail _ _ _ _ _ (.tail _ _ _ _ _ (Has.head _ _ _ _)))))))))))))) (i := 2) rfl, M26.cell (.tail _ _ _ _ _ (.tail _ _ _ _ _ (.tail _ _ _ _ _ (.tail _ _ _ _ _ (.tail _ _ _ _ _ (.tail _ _ _ _ _ (.tail _ _ _ _ _ (.tail _ _ _ _ _ (.tail _ _ _ _ _ (.tail _ _ _ _ _ (.tail _ _ _ _ _ (.tail _ _ _ _ _ (.tail _ _ _ _ _ (Has.head _ _ _ _)))))))))))))) (i := 3) rfl, M26.cell (.tail _ _ _ _ _ (.tail _ _ _ _ _ (.tail _ _ _ _ _ (.tail _ _ _ _ _ (.tail _ _ _ _ _ (.tail _ _ _ _ _ (.tail _ _ _ _ _ (.tail _ _ _ _ _ (.tail _ _ _ _ _ (.tail _ _ _ _ _ (.tail _ _ _ _ _ (.tail _ _ _ _ _ (.tail _ _ _ _ _ (Has.head _ _ _ _)))))))))))))) (i := 4) rfl, M26.cell (.tail _ _ _ _ _ (.tail _ _ _ _ _ (.tail _ _ _ _ _ (.tail _ _ _ _ _ (.tail _ _ _ _ _ (.tail _ _ _ _ _ (.tail _ _ _ _ _ (.tail _ _ _ _ _ (.tail _ _ _ _ _ (.tail _ _ _ _ _ (.tail _ _ _ _ _ (.tail _ _ _ _ _ (.tail _ _ _ _ _ (Has.head _ _ _ _)))))))))))))) (i := 5) rfl, M26.cell (.tail _ _ _ _ _ (.tail _ _ _ _ _ (.tail _ _ _ _ _ (.tail _ _ _ _ _ (.tail _ _ _ _ _ (.tail _ _ _ _ _ (.tail _ _ _ _ _ (.tail _ _ _ _ _ (.tail _ _ _ _ _ (.tail _ _ _ _ _ (.tail _ _ _ _ _ (Has.head _ _ _ _)))))))))))) (i := 5) rfl, M26.cell (.tail _ _ _ _ _ (.tail _ _ _ _ _ (.tail _ _ _ _ _ (.tail _ _ _ _ _ (.tail _ _ _ _ _ (.tail _ _ _ _ _ (.tail _ _ _ _ _ (.tail _ _ _ _ _ (.tail _ _ _ _ _ (.tail _ _ _ _ _ (Has.head _ _ _ _))))))))))) (i := 0) rfl, M26.cell (.tail _ _ _ _ _ (.tail _ _ _ _ _ (.tail _ _ _ _ _ (.tail _ _ _ _ _ (.tail _ _ _ _ _ (.tail _ _ _ _ _ (.tail _ _ _ _ _ (.tail _ _ _ _ _ (.tail _ _ _ _ _ (.tail _ _ _ _ _ (Has.head _ _ _ _))))))))))) (i := 1) rfl, M26.cell (.tail _ _ _ _ _ (.tail _ _ _ _ _ (.tail _ _ _ _ _ (.tail _ _ _ _ _ (.tail _ _ _ _ _ (.tail _ _ _ _ _ (.tail _ _ _ _ _ (.tail _ _ _ _ _ (.tail _ _ _ _ _ (Has.head _ _ _ _)))))))))) (i := 5) rfl, M26.cell (.tail _ _ _ _ _ (.tail _ _ _ _ _ (.tail _ _ _ _ _ (.tail _ _ _ _ _ (.tail _ _ _ _ _ (.tail _ _ _ _ _ (.tail _ _ _ _ _ (.tail _ _ _ _ _ (Has.head _ _ _ _))))))))) (i := 4) rfl, M26.cell (.tail _ _ _ _ _ (.tail _ _ _ _ _ (.tail _ _ _ _ _ (.tail _ _ _ _ _ (.tail _ _ _ _ _ (.tail _ _ _ _ _ (.tail _ _ _ _ _ (.tail _ _ _ _ _ (Has.head _ _ _ _))))))))) (i := 2) rfl, M26.cell (.tail _ _ _ _ _ (.tail _ _ _ _ _ (.tail _ _ _ _ _ (.tail _ _ _ _ _ (.tail _ _ _ _ _ (.tail _ _ _ _ _ (.tail _ _ _ _ _ (.tail _ _ _ _ _ (Has.head _ _ _ _))))))))) (i := 5) rfl, M26.cell (.tail _ _ _ _ _ (.tail _ _ _ _ _ (.tail _ _ _ _ _ (.tail _ _ _ _ _ (.tail _ _ _ _ _ (.tail _ _ _ _ _ (.tail _ _ _ _ _ (Has.head _ _ _ _)))))))) (i := 0) rfl, M26.cell (.tail _ _ _ _ _ (.tail _ _ _ _ _ (.tail _ _ _ _ _ (.tail _ _ _ _ _ (.tail _ _ _ _ _ (.tail _ _ _ _ _ (.tail _ _ _ _ _ (Has.head _ _ _ _)))))))) (i := 1) rfl, M26.cell (.tail _ _ _ _ _ (.tail _ _ _ _ _ (.tail _ _ _ _ _ (.tail _ _ _ _ _ (.tail _ _ _ _ _ (.tail _ _ _ _ _ (.tail _ _ _ _ _ (Has.head _ _ _ _)))))))) (i := 2) rfl, M26.cell (.tail _ _ _ _ _ (.tail _ _ _ _ _ (.tail _ _ _ _ _ (.tail _ _ _ _ _ (.tail _ _ _ _ _ (.tail _ _ _ _ _ (.tail _ _ _ _ _ (Has.head _ _ _ _)))))))) (i := 3) rfl, M26.cell (.tail _ _ _ _ _ (.tail _ _ _ _ _ (.tail _ _ _ _ _ (.tail _ _ _ _ _ (.tail _ _ _ _ _ (.tail _ _ _ _ _ (.tail _ _ _ _ _ (Has.head _ _ _ _)))))))) (i := 4) rfl, M26.cell (.tail _ _ _ _ _ (.tail _ _ _ _ _ (.tail _ _ _ _ _ (.tail _ _ _ _ _ (.tail _ _ _ _ _ (.tail _ _ _ _ _ (.tail _ _ _ _ _ (Has.head _ _ _ _)))))))) (i := 5) rfl, M26.cell (.tail _ _ _ _ _ (.tail _ _ _ _ _ (.tail _ _ _ _ _ (.tail _ _ _ _ _ (.tail _ _ _ _ _ (.tail _ _ _ _ _ (Has.head _ _ _ _))))))) (i := 5) rfl, M26.cell (.tail _ _ _ _ _ (.tail _ _ _ _ _ (.tail _ _ _ _ _ (.tail _ _ _ _ _ (.tail _ _ _ _ _ (.tail _ _ _ _ _ (Has.head _ _ _ _))))))) (i := 2) rfl, M26.cell (.tail _ _ _ _ _ (Has.head _ _ _ _)) (i := 0) rfl, M26.cell (.tail _ _ _ _ _ (Has.head _ _ _ _)) (i := 1) rfl, M26.cell (Has.head _ _ _ _) (i := 5) rfl, e1_0, e2_3, e3_0, e3_3, e4_0, e6_0, e6_1, e10_0⟩) (fun hHeld => ?_)
  clear hK K
  try simp only [Act.put, List.setIfInBounds_toArray, List.set_cons_zero, List.set_cons_succ, List.getElem_toArray, List.getElem_cons_zero, List.getElem_cons_succ]
  refine wpAnyH_take (i := 72) (v := ?v9071) rfl (by as_aux_lemma => kernel_rfl) (by as_aux_lemma => kernel_rfl) (by as_aux_lemma => kernel_rfl) (fun _ _ _ h => h) (Or.inl ⟨by kernel_rfl, ?hy9071⟩) hHeld ?rest9071
  case hy9071 => (intro w' hSw; go_simp; (try with_reducible rfl))
  try simp only [Act.put, List.setIfInBounds_toArray, List.set_cons_zero, List.set_cons_succ, List.getElem_toArray, List.getElem_cons_zero, List.getElem_cons_succ]
  refine wpAnyH_take (i := 73) (v := ?v9072) rfl (by as_aux_lemma => kernel_rfl) (by as_aux_lemma => kernel_rfl) (by as_aux_lemma => kernel_rfl) (fun _ _ _ h => h) (Or.inl ⟨by kernel_rfl, ?hy9072⟩) hHeld ?rest9072
  case hy9072 => (intro w' hSw; go_simp; (try with_reducible rfl))
  try simp only [Act.put, List.setIfInBounds_toArray, List.set_cons_zero, List.set_cons_succ, List.getElem_toArray, List.getElem_cons_zero, List.getElem_cons_succ]
  refine wpAnyH_take (i := 74) (v := ?v9073) rfl (by as_aux_lemma => kernel_rfl) (by as_aux_lemma => kernel_rfl) (by as_aux_lemma => kernel_rfl) (fun _ _ _ h => h) (Or.inl ⟨by kernel_rfl, ?hy9073⟩) hHeld ?rest9073
  case hy9073 => (intro w' hSw; go_simp; (try with_reducible rfl))
  try simp only [Act.put, List.setIfInBounds_toArray, List.set_cons_zero, List.set_cons_succ, List.getElem_toArray, List.getElem_cons_zero, List.getElem_cons_succ]
  refine wpAnyH_take (i := 75) (v := ?v9074) rfl (by as_aux_lemma => kernel_rfl) (by as_aux_lemma => kernel_rfl) (by as_aux_lemma => kernel_rfl) (fun _ _ _ h => h) (Or.inl ⟨by kernel_rfl, ?hy9074⟩) hHeld ?rest9074
  case hy9074 => (intro w' hSw; go_simp; (try with_reducible rfl))
  try simp only [Act.put, List.setIfInBounds_toArray, List.set_cons_zero, List.set_cons_succ, List.getElem_toArray, List.getElem_cons_zero, List.getElem_cons_succ]
  refine wpAnyH_take (i := 76) (v := ?v9075) rfl (by as_aux_lemma => kernel_rfl) (by as_aux_lemma => kernel_rfl) (by as_aux_lemma => kernel_rfl) (fun _ _ _ h => h) (Or.inl ⟨by kernel_rfl, ?hy9075⟩) hHeld ?rest9075
  case hy9075 => (intro w' hSw; go_simp; (try with_reducible rfl))
  try simp only [Act.put, List.setIfInBounds_toArray, List.set_cons_zero, List.set_cons_succ, List.getElem_toArray, List.getElem_cons_zero, List.getElem_cons_succ]
  refine wpAnyH_take (i := 77) (v := ?v9076) rfl (by as_aux_lemma => kernel_rfl) (by as_aux_lemma => kernel_rfl) (by as_aux_lemma => kernel_rfl) (fun _ _ _ h => h) (Or.inl ⟨by kernel_rfl, ?hy9076⟩) hHeld ?rest9076
  case hy9076 => (intro w' hSw; go_simp; (try with_reducible rfl))
  try simp only [Act.put, List.setIfInBounds_toArray, List.set_cons_zero, List.set_cons_succ, List.getElem_toArray, List.getElem_cons_zero, List.getElem_cons_succ]
  refine wpAnyH_take (i := 78) (v := ?v9077) rfl (by as_aux_lemma => kernel_rfl) (by as_aux_lemma => kernel_rfl) (by as_aux_lemma => kernel_rfl) (fun _ _ _ h => h) (Or.inl ⟨by kernel_rfl, ?hy9077⟩) hHeld ?rest9077
  case hy9077 => (intro w' hSw; go_simp; (try with_reducible rfl))
  try simp only [Act.put, List.setIfInBounds_toArray, List.set_cons_zero, List.set_cons_succ, List.getElem_toArray, List.getElem_cons_zero, List.getElem_cons_succ]
  refine wpAnyH_take (i := 79) (v := ?v9078) rfl (by as_aux_lemma => kernel_rfl) (by as_aux_lemma => kernel_rfl) (by as_aux_lemma => kernel_rfl) (fun _ _ _ h => h) (Or.inl ⟨by kernel_rfl, ?hy9078⟩) hHeld ?rest9078
  case hy9078 => (intro w' hSw; have q0 := HQ19.out w' hSw; go_simp; (try with_reducible rfl))
  try simp only [Act.put, List.setIfInBounds_toArray, List.set_cons_zero, List.set_cons_succ, List.getElem_toArray, List.getElem_cons_zero, List.getElem_cons_succ]
  refine wpAnyH_take (i := 80) (v := ?v9079) rfl (by as_aux_lemma => kernel_rfl) (by as_aux_lemma => kernel_rfl) (by as_aux_lemma => kernel_rfl) (fun _ _ _ h => h) (Or.inl ⟨by kernel_rfl, ?hy9079⟩) hHeld ?rest9079
  case hy9079 => (intro w' hSw; go_simp; (try with_reducible rfl))
  try simp only [Act.put, List.setIfInBounds_toArray, List.set_cons_zero, List.set_cons_succ, List.getElem_toArray, List.getElem_cons_zero, List.getElem_cons_succ]
  refine wpAnyH_take (i := 81) (v := ?v9080) rfl (by as_aux_lemma => kernel_rfl) (by as_aux_lemma => kernel_rfl) (by as_aux_lemma => kernel_rfl) (fun _ _ _ h => h) (Or.inl ⟨by kernel_rfl, ?hy9080⟩) hHeld ?rest9080
  case hy9080 => (intro w' hSw; have q0 := HQ29.out w' hSw; go_simp; (try with_reducible rfl))
  try simp only [Act.put, List.setIfInBounds_toArray, List.set_cons_zero, List.set_cons_succ, List.getElem_toArray, List.getElem_cons_zero, List.getElem_cons_succ]
  refine wpAnyH_take (i := 82) (v := ?v9081) rfl (by as_aux_lemma => kernel_rfl) (by as_aux_lemma => kernel_rfl) (by as_aux_lemma => kernel_rfl) (fun _ _ _ h => h) (Or.inl ⟨by kernel_rfl, ?hy9081⟩) hHeld ?rest9081
  case hy9081 => (intro w' hSw; go_simp; (try with_reducible rfl))
  try simp only [Act.put, List.setIfInBounds_toArray, List.set_cons_zero, List.set_cons_succ, List.getElem_toArray, List.getElem_cons_zero, List.getElem_cons_succ]
  refine wpAnyH_take (i := 83) (v := ?v9082) rfl (by as_aux_lemma => kernel_rfl) (by as_aux_lemma => kernel_rfl) (by as_aux_lemma => kernel_rfl) (fun _ _ _ h => h) (Or.inl ⟨by kernel_rfl, ?hy9082⟩) hHeld ?rest9082
  case hy9082 => (intro w' hSw; go_simp; (try with_reducible rfl))
  try simp only [Act.put, List.setIfInBounds_toArray, List.set_cons_zero, List.set_cons_succ, List.getElem_toArray, List.getElem_cons_zero, List.getElem_cons_succ]
  refine wpAnyH_take (i := 84) (v := ?v9083) rfl (by as_aux_lemma => kernel_rfl) (by as_aux_lemma => kernel_rfl) (by as_aux_lemma => kernel_rfl) (fun _ _ _ h => h) (Or.inl ⟨by kernel_rfl, ?hy9083⟩) hHeld ?rest9083
  case hy9083 => (intro w' hSw; go_simp; (try with_reducible rfl))
  try simp only [Act.put, List.setIfInBounds_toArray, List.set_cons_zero, List.set_cons_succ, List.getElem_toArray, List.getElem_cons_zero, List.getElem_cons_succ]
  refine wpAnyH_take (i := 85) (v := ?v9084) rfl (by as_aux_lemma => kernel_rfl) (by as_aux_lemma => kernel_rfl) (by as_aux_lemma => kernel_rfl) (fun _ _ _ h => h) (Or.inl ⟨by kernel_rfl, ?hy9084⟩) hHeld ?rest9084
  case hy9084 => (intro w' hSw; go_simp; (try with_reducible rfl))
  try simp only [Act.put, List.setIfInBounds_toArray, List.set_cons_zero, List.set_cons_succ, List.getElem_toArray, List.getElem_cons_zero, List.getElem_cons_succ]
  refine wpAnyH_take (i := 86) (v := ?v9085) rfl (by as_aux_lemma => kernel_rfl) (by as_aux_lemma => kernel_rfl) (by as_aux_lemma => kernel_rfl) (fun _ _ _ h => h) (Or.inl ⟨by kernel_rfl, ?hy9085⟩) hHeld ?rest9085
  case hy9085 => (intro w' hSw; have q0 := HQ19.out w' hSw; go_simp; (try with_reducible rfl))
  try simp only [Act.put, List.setIfInBounds_toArray, List.set_cons_zero, List.set_cons_succ, List.getElem_toArray, List.getElem_cons_zero, List.getElem_cons_succ]
  refine wpAnyH_take (i := 87) (v := ?v9086) rfl (by as_aux_lemma => kernel_rfl) (by as_aux_lemma => kernel_rfl) (by as_aux_lemma => kernel_rfl) (fun _ _ _ h => h) (Or.inl ⟨by kernel_rfl, ?hy9086⟩) hHeld ?rest9086
  case hy9086 => (intro w' hSw; go_simp; (try with_reducible rfl))
  try simp only [Act.put, List.setIfInBounds_toArray, List.set_cons_zero, List.set_cons_succ, List.getElem_toArray, List.getElem_cons_zero, List.getElem_cons_succ]
  refine wpAnyH_take (i := 88) (v := ?v9087) rfl (by as_aux_lemma => kernel_rfl) (by as_aux_lemma => kernel_rfl) (by as_aux_lemma => kernel_rfl) (fun _ _ _ h => h) (Or.inl ⟨by kernel_rfl, ?hy9087⟩) hHeld ?rest9087
  case hy9087 => (intro w' hSw; have q0 := HQ30.out w' hSw; go_simp; (try with_reducible rfl))
  try simp only [Act.put, List.setIfInBounds_toArray, List.set_cons_zero, List.set_cons_succ, List.getElem_toArray, List.getElem_cons_zero, List.getElem_cons_succ]
  refine wpAnyH_take (i := 89) (v := ?v9088) rfl (by as_aux_lemma => kernel_rfl) (by as_aux_lemma => kernel_rfl) (by as_aux_lemma => kernel_rfl) (fun _ _ _ h => h) (Or.inl ⟨by kernel_rfl, ?hy9088⟩) hHeld ?rest9088
  case hy9088 => (intro w' hSw; go_simp; (try with_reducible rfl))
  try simp only [Act.put, List.setIfInBounds_toArray, List.set_cons_zero, List.set_cons_succ, List.getElem_toArray, List.getElem_cons_zero, List.getElem_cons_succ]
  refine wpAnyH_take (i := 90) (v := ?v9089) rfl (by as_aux_lemma => kernel_rfl) (by as_aux_lemma => kernel_rfl) (by as_aux_lemma => kernel_rfl) (fun _ _ _ h => h) (Or.inl ⟨by kernel_rfl, ?hy9089⟩) hHeld ?rest9089
  case hy9089 => (intro w' hSw; go_simp; (try with_reducible rfl))
  try simp only [Act.put, List.setIfInBounds_toArray, List.set_cons_zero, List.set_cons_succ, List.getElem_toArray, List.getElem_cons_zero, List.getElem_cons_succ]
  refine wpAnyH_take (i := 91) (v := ?v9090) rfl (by as_aux_lemma => kernel_rfl) (by as_aux_lemma => kernel_rfl) (by as_aux_lemma => kernel_rfl) (fun _ _ _ h => h) (Or.inl ⟨by kernel_rfl, ?hy9090⟩) hHeld ?rest9090
  case hy9090 => (intro w' hSw; go_simp; (try with_reducible rfl))
  try simp only [Act.put, List.setIfInBounds_toArray, List.set_cons_zero, List.set_cons_succ, List.getElem_toArray, List.getElem_cons_zero, List.getElem_cons_succ]
  refine wpAnyH_take (i := 92) (v := ?v9091) rfl (by as_aux_lemma => kernel_rfl) (by as_aux_lemma => kernel_rfl) (by as_aux_lemma => kernel_rfl) (fun _ _ _ h => h) (Or.inl ⟨by kernel_rfl, ?hy9091⟩) hHeld ?rest9091
  case hy9091 => (intro w' hSw; go_simp; (try with_reducible rfl))
  try simp only [Act.put, List.setIfInBounds_toArray, List.set_cons_zero, List.set_cons_succ, List.getElem_toArray, List.getElem_cons_zero, List.getElem_cons_succ]
  refine wpAnyH_take (i := 93) (v := ?v9092) rfl (by as_aux_lemma => kernel_rfl) (by as_aux_lemma => kernel_rfl) (by as_aux_lemma => kernel_rfl) (fun _ _ _ h => h) (Or.inl ⟨by kernel_rfl, ?hy9092⟩) hHeld ?rest9092
  case hy9092 => (intro w' hSw; have q0 := HQ20.out w' hSw; go_simp; (try with_reducible rfl))
  try simp only [Act.put, List.setIfInBounds_toArray, List.set_cons_zero, List.set_cons_succ, List.getElem_toArray, List.getElem_cons_zero, List.getElem_cons_succ]
  refine wpAnyH_take (i := 94) (v := ?v9093) rfl (by as_aux_lemma => kernel_rfl) (by as_aux_lemma => kernel_rfl) (by as_aux_lemma => kernel_rfl) (fun _ _ _ h => h) (Or.inl ⟨by kernel_rfl, ?hy9093⟩) hHeld ?rest9093
  case hy9093 => (intro w' hSw; go_simp; (try with_reducible rfl))
  try simp only [Act.put, List.setIfInBounds_toArray, List.set_cons_zero, List.set_cons_succ, List.getElem_toArray, List.getElem_cons_zero, List.getElem_cons_succ]
  refine wpAnyH_take (i := 95) (v := ?v9094) rfl (by as_aux_lemma => kernel_rfl) (by as_aux_lemma => kernel_rfl) (by as_aux_lemma => kernel_rfl) (fun _ _ _ h => h) (Or.inl ⟨by kernel_rfl, ?hy9094⟩) hHeld ?rest9094
  case hy9094 => (intro w' hSw; go_simp; (try with_reducible rfl))
  try simp only [Act.put, List.setIfInBounds_toArray, List.set_cons_zero, List.set_cons_succ, List.getElem_toArray, List.getElem_cons_zero, List.getElem_cons_succ]
  refine wpAnyH_take (i := 96) (v := ?v9095) rfl (by as_aux_lemma => kernel_rfl) (by as_aux_lemma => kernel_rfl) (by as_aux_lemma => kernel_rfl) (fun _ _ _ h => h) (Or.inl ⟨by kernel_rfl, ?hy9095⟩) hHeld ?rest9095
  case hy9095 => (intro w' hSw; go_simp; (try with_reducible rfl))
  try simp only [Act.put, List.setIfInBounds_toArray, List.set_cons_zero, List.set_cons_succ, List.getElem_toArray, List.getElem_cons_zero, List.getElem_cons_succ]
  refine wpAnyH_take (i := 97) (v := ?v9096) rfl (by as_aux_lemma => kernel_rfl) (by as_aux_lemma => kernel_rfl) (by as_aux_lemma => kernel_rfl) (fun _ _ _ h => h) (Or.inl ⟨by kernel_rfl, ?hy9096⟩) hHeld ?rest9096
  case hy9096 => (intro w' hSw; go_simp; (try with_reducible rfl))
  try simp only [Act.put, List.setIfInBounds_toArray, List.set_cons_zero, List.set_cons_succ, List.getElem_toArray, List.getElem_cons_zero, List.getElem_cons_succ]
  refine wpAnyH_take (i := 98) (v := ?v9097) rfl (by as_aux_lemma => kernel_rfl) (by as_aux_lemma => kernel_rfl) (by as_aux_lemma => kernel_rfl) (fun _ _ _ h => h) (Or.inl ⟨by kernel_rfl, ?hy9097⟩) hHeld ?rest9097
  case hy9097 => (intro w' hSw; go_simp; (try with_reducible rfl))
  try simp only [Act.put, List.setIfInBounds_toArray, List.set_cons_zero, List.set_cons_succ, List.getElem_toArray, List.getElem_cons_zero, List.getElem_cons_succ]
  refine wpAnyH_take (i := 99) (v := ?v9098) rfl (by as_aux_lemma => kernel_rfl) (by as_aux_lemma => kernel_rfl) (by as_aux_lemma => kernel_rfl) (fun _ _ _ h => h) (Or.inl ⟨by kernel_rfl, ?hy9098⟩) hHeld ?rest9098
  case hy9098 => (intro w' hSw; go_simp; (try with_reducible rfl))
  try simp only [Act.put, List.setIfInBounds_toArray, List.set_cons_zero, List.set_cons_succ, List.getElem_toArray, List.getElem_cons_zero, List.getElem_cons_succ]
  refine wpAnyH_take (i := 100) (v := ?v9099) rfl (by as_aux_lemma => kernel_rfl) (by as_aux_lemma => kernel_rfl) (by as_aux_lemma => kernel_rfl) (fun _ _ _ h => h) (Or.inl ⟨by kernel_rfl, ?hy9099⟩) hHeld ?rest9099
  case hy9099 => (intro w' hSw; go_simp; (try with_reducible rfl))
  try simp only [Act.put, List.setIfInBounds_toArray, List.set_cons_zero, List.set_cons_succ, List.getElem_toArray, List.getElem_cons_zero, List.getElem_cons_succ]
  refine wpAnyH_take (i := 101) (v := ?v9100) rfl (by as_aux_lemma => kernel_rfl) (by as_aux_lemma => kernel_rfl) (by as_aux_lemma => kernel_rfl) (fun _ _ _ h => h) (Or.inl ⟨by kernel_rfl, ?hy9100⟩) hHeld ?rest9100
  case hy9100 => (intro w' hSw; go_simp; (try with_reducible rfl))
  try simp only [Act.put, List.setIfInBounds_toArray, List.set_cons_zero, List.set_cons_succ, List.getElem_toArray, List.getElem_cons_zero, List.getElem_cons_succ]
  refine wpAnyH_take (i := 102) (v := ?v9101) rfl (by as_aux_lemma => kernel_rfl) (by as_aux_lemma => kernel_rfl) (by as_aux_lemma => kernel_rfl) (fun _ _ _ h => h) (Or.inl ⟨by kernel_rfl, ?hy9101⟩) hHeld ?rest9101
  case hy9101 => (intro w' hSw; go_simp; (try with_reducible rfl))
  try simp only [Act.put, List.setIfInBounds_toArray, List.set_cons_zero, List.set_cons_succ, List.getElem_toArray, List.getElem_cons_zero, List.getElem_cons_succ]
  refine wpAnyH_take (i := 103) (v := ?v9102) rfl (by as_aux_lemma => kernel_rfl) (by as_aux_lemma => kernel_rfl) (by as_aux_lemma => kernel_rfl) (fun _ _ _ h => h) (Or.inl ⟨by kernel_rfl, ?hy9102⟩) hHeld ?rest9102
  case hy9102 => (intro w' hSw; go_simp; (try with_reducible rfl))
  try simp only [Act.put, List.setIfInBounds_toArray, List.set_cons_zero, List.set_cons_succ, List.getElem_toArray, List.getElem_cons_zero, List.getElem_cons_succ]
  refine wpAnyH_take (i := 104) (v := ?v9103) rfl (by as_aux_lemma => kernel_rfl) (by as_aux_lemma => kernel_rfl) (by as_aux_lemma => kernel_rfl) (fun _ _ _ h => h) (Or.inl ⟨by kernel_rfl, ?hy9103⟩) hHeld ?rest9103
  case hy9103 => (intro w' hSw; go_simp; (try with_reducible rfl))
  try simp only [Act.put, List.setIfInBounds_toArray, List.set_cons_zero, List.set_cons_succ, List.getElem_toArray, List.getElem_cons_zero, List.getElem_cons_succ]
  refine wpAnyH_take (i := 105) (v := ?v9104) rfl (by as_aux_lemma => kernel_rfl) (by as_aux_lemma => kernel_rfl) (by as_aux_lemma => kernel_rfl) (fun _ _ _ h => h) (Or.inl ⟨by kernel_rfl, ?hy9104⟩) hHeld ?rest9104
  case hy9104 => (intro w' hSw; have q0 := HQ21.out w' hSw; have q1 := HQ22.out w' hSw; go_simp; (try with_reducible rfl))
  try simp only [Act.put, List.setIfInBounds_toArray, List.set_cons_zero, List.set_cons_succ, List.getElem_toArray, List.getElem_cons_zero, List.getElem_cons_succ]
  refine wpAnyH_take (i := 106) (v := ?v9105) rfl (by as_aux_lemma => kernel_rfl) (by as_aux_lemma => kernel_rfl) (by as_aux_lemma => kernel_rfl) (fun _ _ _ h => h) (Or.inl ⟨by kernel_rfl, ?hy9105⟩) hHeld ?rest9105
  case hy9105 => (intro w' hSw; go_simp; (try with_reducible rfl))
  try simp only [Act.put, List.setIfInBounds_toArray, List.set_cons_zero, List.set_cons_succ, List.getElem_toArray, List.getElem_cons_zero, List.getElem_cons_succ]
  refine wpAnyH_take (i := 107) (v := ?v9106) rfl (by as_aux_lemma => kernel_rfl) (by as_aux_lemma => kernel_rfl) (by as_aux_lemma => kernel_rfl) (fun _ _ _ h => h) (Or.inl ⟨by kernel_rfl, ?hy9106⟩) hHeld ?rest9106
  case hy9106 => (intro w' hSw; go_simp; (try with_reducible rfl))
  try simp only [Act.put, List.setIfInBounds_toArray, List.set_cons_zero, List.set_cons_succ, List.getElem_toArray, List.getElem_cons_zero, List.getElem_cons_succ]
  refine wpAnyH_take (i := 108) (v := ?v9107) rfl (by as_aux_lemma => kernel_rfl) (by as_aux_lemma => kernel_rfl) (by as_aux_lemma => kernel_rfl) (fun _ _ _ h => h) (Or.inl ⟨by kernel_rfl, ?hy9107⟩) hHeld ?rest9107
  case hy9107 => (intro w' hSw; go_simp; (try with_reducible rfl))
  try simp only [Act.put, List.setIfInBounds_toArray, List.set_cons_zero, List.set_cons_succ, List.getElem_toArray, List.getElem_cons_zero, List.getElem_cons_succ]
  refine wpAnyH_take (i := 109) (v := ?v9108) rfl (by as_aux_lemma => kernel_rfl) (by as_aux_lemma => kernel_rfl) (by as_aux_lemma => kernel_rfl) (fun _ _ _ h => h) (Or.inl ⟨by kernel_rfl, ?hy9108⟩) hHeld ?rest9108
  case hy9108 => (intro w' hSw; go_simp; (try with_reducible rfl))
  try simp only [Act.put, List.setIfInBounds_toArray, List.set_cons_zero, List.set_cons_succ, List.getElem_toArray, List.getElem_cons_zero, List.getElem_cons_succ]
  refine wpAnyH_take (i := 110) (v := ?v9109) rfl (by as_aux_lemma => kernel_rfl) (by as_aux_lemma => kernel_rfl) (by as_aux_lemma => kernel_rfl) (fun _ _ _ h => h) (Or.inl ⟨by kernel_rfl, ?hy9109⟩) hHeld ?rest9109
  case hy9109 => (intro w' hSw; go_simp; (try with_reducible rfl))
  try simp only [Act.put, List.setIfInBounds_toArray, List.set_cons_zero, List.set_cons_succ, List.getElem_toArray, List.getElem_cons_zero, List.getElem_cons_succ]
  refine wpAnyH_take (i := 111) (v := ?v9110) rfl (by as_aux_lemma => kernel_rfl) (by as_aux_lemma => kernel_rfl) (by as_aux_lemma => kernel_rfl) (fun _ _ _ h => h) (Or.inl ⟨by kernel_rfl, ?hy9110⟩) hHeld ?rest9110
  case hy9110 => (intro w' hSw; go_simp; (try with_reducible rfl))
  try simp only [Act.put, List.setIfInBounds_toArray, List.set_cons_zero, List.set_cons_succ, List.getElem_toArray, List.getElem_cons_zero, List.getElem_cons_succ]
  refine wpAnyH_take (i := 112) (v := ?v9111) rfl (by as_aux_lemma => kernel_rfl) (by as_aux_lemma => kernel_rfl) (by as_aux_lemma => kernel_rfl) (fun _ _ _ h => h) (Or.inl ⟨by kernel_rfl, ?hy9111⟩) hHeld ?rest9111
  case hy9111 => (intro w' hSw; go_simp; (try with_reducible rfl))
  try simp only [Act.put, List.setIfInBounds_toArray, List.set_cons_zero, List.set_cons_succ, List.getElem_toArray, List.getElem_cons_zero, List.getElem_cons_succ]
  refine wpAnyH_take (i := 113) (v := ?v9112) rfl (by as_aux_lemma => kernel_rfl) (by as_aux_lemma => kernel_rfl) (by as_aux_lemma => kernel_rfl) (fun _ _ _ h => h) (Or.inl ⟨by kernel_rfl, ?hy9112⟩) hHeld ?rest9112
  case hy9112 => (intro w' hSw; go_simp; (try with_reducible rfl))
  try simp only [Act.put, List.setIfInBounds_toArray, List.set_cons_zero, List.set_cons_succ, List.getElem_toArray, List.getElem_cons_zero, List.getElem_cons_succ]
  refine wpAnyH_take (i := 114) (v := ?v9113) rfl (by as_aux_lemma => kernel_rfl) (by as_aux_lemma => kernel_rfl) (by as_aux_lemma => kernel_rfl) (fun _ _ _ h => h) (Or.inl ⟨by kernel_rfl, ?hy9113⟩) hHeld ?rest9113
  case hy9113 => (intro w' hSw; go_simp; (try with_reducible rfl))
  try simp only [Act.put, List.setIfInBounds_toArray, List.set_cons_zero, List.set_cons_succ, List.getElem_toArray, List.getElem_cons_zero, List.getElem_cons_succ]
  refine wpAnyH_take (i := 115) (v := ?v9114) rfl (by as_aux_lemma => kernel_rfl) (by as_aux_lemma => kernel_rfl) (by as_aux_lemma => kernel_rfl) (fun _ _ _ h => h) (Or.inl ⟨by kernel_rfl, ?hy9114⟩) hHeld ?rest9114
  case hy9114 => (intro w' hSw; go_simp; (try with_reducible rfl))
  try simp only [Act.put, List.setIfInBounds_toArray, List.set_cons_zero, List.set_cons_succ, List.getElem_toArray, List.getElem_cons_zero, List.getElem_cons_succ]
  refine wpAnyH_take (i := 116) (v := ?v9115) rfl (by as_aux_lemma => kernel_rfl) (by as_aux_lemma => kernel_rfl) (by as_aux_lemma => kernel_rfl) (fun _ _ _ h => h) (Or.inl ⟨by kernel_rfl, ?hy9115⟩) hHeld ?rest9115
  case hy9115 => (intro w' hSw; go_simp; (try with_reducible rfl))
  try simp only [Act.put, List.setIfInBounds_toArray, List.set_cons_zero, List.set_cons_succ, List.getElem_toArray, List.getElem_cons_zero, List.getElem_cons_succ]
  refine wpAnyH_take (i := 117) (v := ?v9116) rfl (by as_aux_lemma => kernel_rfl) (by as_aux_lemma => kernel_rfl) (by as_aux_lemma => kernel_rfl) (fun _ _ _ h => h) (Or.inl ⟨by kernel_rfl, ?hy9116⟩) hHeld ?rest9116
  case hy9116 => (intro w' hSw; go_simp; (try with_reducible rfl))
  try simp only [Act.put, List.setIfInBounds_toArray, List.set_cons_zero, List.set_cons_succ, List.getElem_toArray, List.getElem_cons_zero, List.getElem_cons_succ]
  refine wpAnyH_take (i := 118) (v := ?v9117) rfl (by as_aux_lemma => kernel_rfl) (by as_aux_lemma => kernel_rfl) (by as_aux_lemma => kernel_rfl) (fun _ _ _ h => h) (Or.inl ⟨by kernel_rfl, ?hy9117⟩) hHeld ?rest9117
  case hy9117 => (intro w' hSw; have q0 := HQ23.out w' hSw; go_simp; (try with_reducible rfl))
  try simp only [Act.put, List.setIfInBounds_toArray, List.set_cons_zero, List.set_cons_succ, List.getElem_toArray, List.getElem_cons_zero, List.getElem_cons_succ]
  refine wpAnyH_take (i := 119) (v := ?v9118) rfl (by as_aux_lemma => kernel_rfl) (by as_aux_lemma => kernel_rfl) (by as_aux_lemma => kernel_rfl) (fun _ _ _ h => h) (Or.inl ⟨by kernel_rfl, ?hy9118⟩) hHeld ?rest9118
  case hy9118 => (intro w' hSw; go_simp; (try with_reducible rfl))
  try simp only [Act.put, List.setIfInBounds_toArray, List.set_cons_zero, List.set_cons_succ, List.getElem_toArray, List.getElem_cons_zero, List.getElem_cons_succ]
  refine wpAnyH_take (i := 120) (v := ?v9119) rfl (by as_aux_lemma => kernel_rfl) (by as_aux_lemma => kernel_rfl) (by as_aux_lemma => kernel_rfl) (fun _ _ _ h => h) (Or.inl ⟨by kernel_rfl, ?hy9119⟩) hHeld ?rest9119
  case hy9119 => (intro w' hSw; have q0 := HQ31.out w' hSw; go_simp; (try with_reducible rfl))
  try simp only [Act.put, List.setIfInBounds_toArray, List.set_cons_zero, List.set_cons_succ, List.getElem_toArray, List.getElem_cons_zero, List.getElem_cons_succ]
  refine wpAnyH_take (i := 121) (v := ?v9120) rfl (by as_aux_lemma => kernel_rfl) (by as_aux_lemma => kernel_rfl) (by as_aux_lemma => kernel_rfl) (fun _ _ _ h => h) (Or.inl ⟨by kernel_rfl, ?hy9120⟩) hHeld ?rest9120
  case hy9120 => (intro w' hSw; go_simp; (try with_reducible rfl))
  try simp only [Act.put, List.setIfInBounds_toArray, List.set_cons_zero, List.set_cons_succ, List.getElem_toArray, List.getElem_cons_zero, List.getElem_cons_succ]
  refine wpAnyH_take (i := 122) (v := ?v9121) rfl (by as_aux_lemma => kernel_rfl) (by as_aux_lemma => kernel_rfl) (by as_aux_lemma => kernel_rfl) (fun _ _ _ h => h) (Or.inl ⟨by kernel_rfl, ?hy9121⟩) hHeld ?rest9121
  case hy9121 => (intro w' hSw; go_simp; (try with_reducible rfl))
  try simp only [Act.put, List.setIfInBounds_toArray, List.set_cons_zero, List.set_cons_succ, List.getElem_toArray, List.getElem_cons_zero, List.getElem_cons_succ]
  refine wpAnyH_take (i := 123) (v := ?v9122) rfl (by as_aux_lemma => kernel_rfl) (by as_aux_lemma => kernel_rfl) (by as_aux_lemma => kernel_rfl) (fun _ _ _ h => h) (Or.inl ⟨by kernel_rfl, ?hy9122⟩) hHeld ?rest9122
  case hy9122 => (intro w' hSw; go_simp; (try with_reducible rfl))
  try simp only [Act.put, List.setIfInBounds_toArray, List.set_cons_zero, List.set_cons_succ, List.getElem_toArray, List.getElem_cons_zero, List.getElem_cons_succ]
  refine wpAnyH_take (i := 124) (v := ?v9123) rfl (by as_aux_lemma => kernel_rfl) (by as_aux_lemma => kernel_rfl) (by as_aux_lemma => kernel_rfl) (fun _ _ _ h => h) (Or.inl ⟨by kernel_rfl, ?hy9123⟩) hHeld ?rest9123
  case hy9123 => (intro w' hSw; have q0 := HQ0.out w' hSw; have q1 := HQ1.out w' hSw; have q2 := HQ2.out w' hSw; have q3 := HQ3.out w' hSw; have q4 := HQ4.out w' hSw; have q5 := HQ5.out w' hSw; go_simp; (try with_reducible rfl))
  try simp only [Act.put, List.setIfInBounds_toArray, List.set_cons_zero, List.set_cons_succ, List.getElem_toArray, List.getElem_cons_zero, List.getElem_cons_succ]
  refine wpAnyH_ready (rs := [125]) (by kernel_rfl) (by simp) ?_
  refine AllReadyH.cons rfl (fun K hK => ?_) AllReadyH.nil
  go_simp
  refine (C13.out _ _ _ R1.out).mono ?_
  rintro e w27 ⟨rfl, hA⟩
  have M27 := M26.call hA
  clear e1_0 e2_3 e3_0 e3_3 e4_0 e6_0 e6_1 e10_0
  have hA2 : Below w26.heap.size w26 w27 := (Below.refl w26.heap.size w26).trans hA
  replace R1 := Lib.hid (R1.out.below hA2)
  replace R2 := Lib.hid (R2.out.below hA2)
  replace R3 := Lib.hid (R3.out.below hA2)
  replace R4 := Lib.hid (R4.out.below hA2)
  replace R5 := Lib.hid (R5.out.below hA2)
  replace R6 := Lib.hid (R6.out.below hA2)
  replace R7 := Lib.hid (R7.out.below hA2)
  replace R8 := Lib.hid (R8.out.below hA2)
  replace R10 := Lib.hid (R10.out.below hA2)
  clear hA hA2 M26
  obtain ⟨_, _, ee, _, e1_0⟩ := cell64 R1.out 0 (by decide)
  cases ee
  rw [show List.getD _ 0 0 = (268435456 : Int) from rfl, Nat.add_zero] at e1_0
  obtain ⟨_, _, ee, _, e2_3⟩ := cell64 R2.out 3 (by decide)
  cases ee
  rw [show List.getD _ 3 0 = (1073741824 : Int) from rfl] at e2_3
  obtain ⟨_, _, ee, _, e3_0⟩ := cell64 R3.out 0 (by decide)
  cases ee
  rw [show List.getD _ 0 0 = (67108864 : Int) from rfl, Nat.add_zero] at e3_0
  obtain ⟨_, _, ee, _, e3_3⟩ := cell64 R3.out 3 (by decide)
  cases ee
  rw [show List.getD _ 3 0 = (603979776 : Int) from rfl] at e3_3
  obtain ⟨_, _, ee, _, e4_0⟩ := cell64 R4.out 0 (by decide)
  cases ee
  rw [show List.getD _ 0 0 = (67108864 : Int) from rfl, Nat.add_zero] at e4_0
  obtain ⟨_, _, ee, _, e6_0⟩ := cell64 R6.out 0 (by decide)
  cases ee
  rw [show List.getD _ 0 0 = (268435456 : Int) from rfl, Nat.add_zero] at e6_0
  obtain ⟨_, _, ee, _, e6_1⟩ := cell64 R6.out 1 (by decide)
  cases ee
  rw [show List.getD _ 1 0 = (0 : Int) from rfl] at e6_1
  obtain ⟨_, _, ee, _, e10_0⟩ := cell64 R10.out 0 (by decide)
  cases ee
  rw [show List.getD _ 0 0 = (1073741824 : Int) from rfl, Nat.add_zero] at e10_0
  try go_wp2_with fail
  refine hK.out _ _ (HMK.out _ ⟨M27.cell (.tail _ _ _ _ _ (.tail _ _ _ _ _ (.tail _ _ _ _ _ (.tail _ _ _ _ _ (.tail _ _ _ _ _ (.tail _ _ _ _ _ (.tail _ _ _ _ _ (.tail _ _ _ _ _ (.tail _ _ _ _ _ (.tail _ _ _ _ _ (.tail _ _ _ _ _ (.tail _ _ _ _ _ (.tail _ _ _ _ _ (Has.head _ _ _ _)))))))))))))) (i := 0) rfl, M27.cell (.tail _ _ _ _ _ (.tail _ _ _ _ _ (.tail _ _ _ _ _ (.tail _ _ _ _ _ (.tail _ _ _ _ _ (.tail _ _ _ _ _ (.tail _ _ _ _ _ (.tail _ _ _ _ _ (.tail _ _ _ _ _ (.tail _ _ _ _ _ (.tail _ _ _ _ _ (.tail _ _ _ _ _ (.tail _ _ _ _ _ (Has.head _ _ _ _)))))))))))))) (i := 1) rfl, M27.cell (.tail _ _ _ _ _ (.tail _ _ _ _ _ (.tail _ _ _ _ _ (.tail _ _ _ _ _ (.tail _ _ _ _ _ (.tail _ _ _ _ _ (.tail _ _ _ _ _ (.tail _ _ _ _ _ (.tail _ _ _ _ _ (.tail _ _ _ _ _ (.tail _ _ _ _ _ (.tail _ _ _ _ _ (.tail _ _ _ _ _ (Has.head _ _ _ _)))))))))))))) (i := 2) rfl, M27.cell (.tail _ _ _ _ _ (.tail _ _ _ _ _ (.tail _ _ _ _ _ (.tail _ _ _ _ _ (.tail _ _ _ _ _ (.tail _ _ _ _ _ (.tail _ _ _ _ _ (.tail _ _ _ _ _ (.tail _ _ _ _ _ (.tail _ _ _ _ _ (.tail _ _ _ _ _ (.tail _ _ _ _ _ (.tail _ _ _ _ _ (Has.head _ _ _ _)))))))))))))) (i := 3) rfl, M27.cell (.tail _ _ _ _ _ (.tail _ _ _ _ _ (.tail _ _ _ _ _ (.tail _ _ _ _ _ (.tail _ _ _ _ _ (.tail _ _ _ _ _ (.tail _ _ _ _ _ (.tail _ _ _ _ _ (.tail _ _ _ _ _ (.tail _ _ _ _ _ (.tail _ _ _ _ _ (.tail _ _ _ _ _ (.tail _ _ _ _ _ (Has.head _ _ _ _)))))))))))))) (i := 4) rfl, M27.cell (.tail _ _ _ _ _ (.tail _ _ _ _ _ (.tail _ _ _ _ _ (.tail _ _ _ _ _ (.tail _ _ _ _ _ (.tail _ _ _ _ _ (.tail _ _ _ _ _ (.tail _ _ _ _ _ (.tail _ _ _ _ _ (.tail _ _ _ _ _ (.tail _ _ _ _ _ (.tail _ _ _ _ _ (.tail _ _ _ _ _ (Has.head _ _ _ _)))))))))))))) (i := 5) rfl, M27.cell (.tail _ _ _ _ _ (.tail _ _ _ _ _ (.tail _ _ _ _ _ (.tail _ _ _ _ _ (.tail _ _ _ _ _ (.tail _ _ _ _ _ (.tail _ _ _ _ _ (.tail _ _ _ _ _ (.tail _ _ _ _ _ (.tail _ _ _ _ _ (.tail _ _ _ _ _ (Has.head _ _ _ _)))))))))))) (i := 5) rfl, M27.cell (.tail _ _ _ _ _ (.tail _ _ _ _ _ (.tail _ _ _ _ _ (.tail _ _ _ _ _ (.tail _ _ _ _ _ (.tail _ _ _ _ _ (.tail _ _ _ _ _ (.tail _ _ _ _ _ (.tail _ _ _ _ _ (.tail _ _ _ _ _ (Has.head _ _ _ _))))))))))) (i := 0) rfl, M27.cell (.tail _ _ _ _ _ (.tail _ _ _ _ _ (.tail _ _ _ _ _ (.tail _ _ _ _ _ (.tail _ _ _ _ _ (.tail _ _ _ _ _ (.tail _ _ _ _ _ (.tail _ _ _ _ _ (.tail _ _ _ _ _ (.tail _ _ _ _ _ (Has.head _ _ _ _))))))))))) (i := 1) rfl, M27.cell (.tail _ _ _ _ _ (.tail _ _ _ _ _ (.tail _ _ _ _ _ (.tail _ _ _ _ _ (.tail _ _ _ _ _ (.tail _ _ _ _ _ (.tail _ _ _ _ _ (.tail _ _ _ _ _ (.tail _ _ _ _ _ (Has.head _ _ _ _)))))))))) (i := 5) rfl, M27.cell (.tail _ _ _ _ _ (.tail _ _ _ _ _ (.tail _ _ _ _ _ (.tail _ _ _ _ _ (.tail _ _ _ _ _ (.tail _ _ _ _ _ (.tail _ _ _ _ _ (.tail _ _ _ _ _ (Has.head _ _ _ _))))))))) (i := 4) rfl, M27.cell (.tail _ _ _ _ _ (.tail _ _ _ _ _ (.tail _ _ _ _ _ (.tail _ _ _ _ _ (.tail _ _ _ _ _ (.tail _ _ _ _ _ (.tail _ _ _ _ _ (.tail _ _ _ _ _ (Has.head _ _ _ _))))))))) (i := 2) rfl, M27.cell (.tail _ _ _ _ _ (.tail _ _ _ _ _ (.tail _ _ _ _ _ (.tail _ _ _ _ _ (.tail _ _ _ _ _ (.tail _ _ _ _ _ (.tail _ _ _ _ _ (.tail _ _ _ _ _ (Has.head _ _ _ _))))))))) (i := 5) rfl, M27.cell (.tail _ _ _ _ _ (.tail _ _ _ _ _ (.tail _ _ _ _ _ (.tail _ _ _ _ _ (.tail _ _ _ _ _ (.tail _ _ _ _ _ (.tail _ _ _ _ _ (Has.head _ _ _ _)))))))) (i := 0) rfl, M27.cell (.tail _ _ _ _ _ (.tail _ _ _ _ _ (.tail _ _ _ _ _ (.tail _ _ _ _ _ (.tail _ _ _ _ _ (.tail _ _ _ _ _ (.tail _ _ _ _ _ (Has.head _ _ _ _)))))))) (i := 1) rfl, M27.cell (.tail _ _ _ _ _ (.tail _ _ _ _ _ (.tail _ _ _ _ _ (.tail _ _ _ _ _ (.tail _ _ _ _ _ (.tail _ _ _ _ _ (.tail _ _ _ _ _ (Has.head _ _ _ _)))))))) (i := 2) rfl, M27.cell (.tail _ _ _ _ _ (.tail _ _ _ _ _ (.tail _ _ _ _ _ (.tail _ _ _ _ _ (.tail _ _ _ _ _ (.tail _ _ _ _ _ (.tail _ _ _ _ _ (Has.head _ _ _ _)))))))) (i := 3) rfl, M27.cell (.tail _ _ _ _ _ (.tail _ _ _ _ _ (.tail _ _ _ _ _ (.tail _ _ _ _ _ (.tail _ _ _ _ _ (.tail _ _ _ _ _ (.tail _ _ _ _ _ (Has.head _ _ _ _)))))))) (i := 4) rfl, M27.cell (.tail _ _ _ _ _ (.tail _ _ _ _ _ (.tail _ _ _ _ _ (.tail _ _ _ _ _ (.tail _ _ _ _ _ (.tail _ _ _ _ _ (.tail _ _ _ _ _ (Has.head _ _ _ _)))))))) (i := 5) rfl, M27.cell (.tail _ _ _ _ _ (.tail _ _ _ _ _ (.tail _ _ _ _ _ (.tail _ _ _ _ _ (.tail _ _ _ _ _ (.tail _ _ _ _ _ (Has.head _ _ _ _))))))) (i := 5) rfl, M27.cell (.tail _ _ _ _ _ (.tail _ _ _ _ _ (.tail _ _ _ _ _ (.tail _ _ _ _ _ (.tail _ _ _ _ _ (.tail _ _ _ _ _ (Has.head _ _ _ _))))))) (i := 2) rfl, M27.cell (.tail _ _ _ _ _ (Has.head _ _ _ _)) (i := 0) rfl, M27.cell (.tail _ _ _ _ _ (Has.head _ _ _ _)) (i := 1) rfl, M27.cell (Has.head _ _ _ _) (i := 5) rfl, e1_0, e2_3, e3_0, e3_3, e4_0, e6_0, e6_1, e10_0⟩) (fun hHeld => ?_)
  clear hK K
  try simp only [Act.put, List.setIfInBounds_toArray, List.set_cons_zero, List.set_cons_succ, List.getElem_toArray, List.getElem_cons_zero, List.getElem_cons_succ]
  refine wpAnyH_take (i := 126) (v := ?v9124) rfl (by as_aux_lemma => kernel_rfl) (by as_aux_lemma => kernel_rfl) (by as_aux_lemma => kernel_rfl) (fun _ _ _ h => h) (Or.inl ⟨by kernel_rfl, ?hy9124⟩) hHeld ?rest9124
  case hy9124 => (intro w' hSw; go_simp; (try with_reducible rfl))
  try simp only [Act.put, List.setIfInBounds_toArray, List.set_cons_zero, List.set_cons_succ, List.getElem_toArray, List.getElem_cons_zero, List.getElem_cons_succ]
  refine wpAnyH_take (i := 127) (v := ?v9125) rfl (by as_aux_lemma => kernel_rfl) (by as_aux_lemma => kernel_rfl) (by as_aux_lemma => kernel_rfl) (fun _ _ _ h => h) (Or.inl ⟨by kernel_rfl, ?hy9125⟩) hHeld ?rest9125
  case hy9125 => (intro w' hSw; go_simp; (try with_reducible rfl))
  try simp only [Act.put, List.setIfInBounds_toArray, List.set_cons_zero, List.set_cons_succ, List.getElem_toArray, List.getElem_cons_zero, List.getElem_cons_succ]
  refine wpAnyH_take (i := 128) (v := ?v9126) rfl (by as_aux_lemma => kernel_rfl) (by as_aux_lemma => kernel_rfl) (by as_aux_lemma => kernel_rfl) (fun _ _ _ h => h) (Or.inl ⟨by kernel_rfl, ?hy9126⟩) hHeld ?rest9126
  case hy9126 => (intro w' hSw; go_simp; (try with_reducible rfl))
  try simp only [Act.put, List.setIfInBounds_toArray, List.set_cons_zero, List.set_cons_succ, List.getElem_toArray, List.getElem_cons_zero, List.getElem_cons_succ]
  refine wpAnyH_take (i := 129) (v := ?v9127) rfl (by as_aux_lemma => kernel_rfl) (by as_aux_lemma => kernel_rfl) (by as_aux_lemma => kernel_rfl) (fun _ _ _ h => h) (Or.inl ⟨by kernel_rfl, ?hy9127⟩) hHeld ?rest9127
  case hy9127 => (intro w' hSw; have q0 := HQ0.out w' hSw; have q1 := HQ1.out w' hSw; have q2 := HQ2.out w' hSw; have q3 := HQ3.out w' hSw; have q4 := HQ4.out w' hSw; have q5 := HQ5.out w' hSw; go_simp; (try with_reducible rfl))
  try simp only [Act.put, List.setIfInBounds_toArray, List.set_cons_zero, List.set_cons_succ, List.getElem_toArray, List.getElem_cons_zero, List.getElem_cons_succ]
  refine wpAnyH_ready (rs := [130]) (by kernel_rfl) (by simp) ?_
  refine AllReadyH.cons rfl (fun K hK => ?_) AllReadyH.nil
  go_simp
  refine (C14.out _ _ _ R1.out).mono ?_
  rintro e w28 ⟨rfl, hA⟩
  have M28 := M27.call hA
  clear e1_0 e2_3 e3_0 e3_3 e4_0 e6_0 e6_1 e10_0
  have hA2 : Below w27.heap.size w27 w28 := (Below.refl w27.heap.size w27).trans hA
  replace R1 := Lib.hid (R1.out.below hA2)
  replace R2 := Lib.hid (R2.out.below hA2)
  replace R3 := Lib.hid (R3.out.below hA2)
  replace R4 := Lib.hid (R4.out.below hA2)
  replace R5 := Lib.hid (R5.out.below hA2)
  replace R6 := Lib.hid (R6.out.below hA2)
  replace R7 := Lib.hid (R7.out.below hA2)
  replace R8 := Lib.hid (R8.out.below hA2)
  replace R10 := Lib.hid (R10.out.below hA2)
  clear hA hA2 M27
  obtain ⟨_, _, ee, _, e1_0⟩ := cell64 R1.out 0 (by decide)
  cases ee
  rw [show List.getD _ 0 0 = (268435456 : Int) from rfl, Nat.add_zero] at e1_0
  obtain ⟨_, _, ee, _, e2_3⟩ := cell64 R2.out 3 (by decide)
  cases ee
  rw [show List.getD _ 3 0 = (1073741824 : Int) from rfl] at e2_3
  obtain ⟨_, _, ee, _, e3_0⟩ := cell64 R3.out 0 (by decide)
  cases ee
  rw [show List.getD _ 0 0 = (67108864 : Int) from rfl, Nat.add_zero] at e3_0
  obtain ⟨_, _, ee, _, e3_3⟩ := cell64 R3.out 3 (by decide)
  cases ee
  rw [show List.getD _ 3 0 = (603979776 : Int) from rfl] at e3_3
  obtain ⟨_, _, ee, _, e4_0⟩ := cell64 R4.out 0 (by decide)
  cases ee
  rw [show List.getD _ 0 0 = (67108864 : Int) from rfl, Nat.add_zero] at e4_0
  obtain ⟨_, _, ee, _, e6_0⟩ := cell64 R6.out 0 (by decide)
  cases ee
  rw [show List.getD _ 0 0 = (268435456 : Int) from rfl, Nat.add_zero] at e6_0
  obtain ⟨_, _, ee, _, e6_1⟩ := cell64 R6.out 1 (by decide)
  cases ee
  rw [show List.getD _ 1 0 = (0 : Int) from rfl] at e6_1
  obtain ⟨_, _, ee, _, e10_0⟩ := cell64 R10.out 0 (by decide)
  cases ee
  rw [show List.getD _ 0 0 = (1073741824 : Int) from rfl, Nat.add_zero] at e10_0
  try go_wp2_with fail
  refine hK.out _ _ (HMK.out _ ⟨M28.cell (.tail _ _ _ _ _ (.tail _ _ _ _ _ (.tail _ _ _ _ _ (.tail _ _ _ _ _ (.tail _ _ _ _ _ (.tail _ _ _ _ _ (.tail _ _ _ _ _ (.tail _ _ _ _ _ (.tail _ _ _ _ _ (.tail _ _ _ _ _ (.tail _ _ _ _ _ (.tail _ _ _ _ _ (.tail _ _ _ _ _ (Has.head _ _ _ _)))))))))))))) (i := 0) rfl, M28.cell (.tail _ _ _ _ _ (.tail _ _ _ _ _ (.tail _ _ _ _ _ (.tail _ _ _ _ _ (.tail _ _ _ _ _ (.tail _ _ _ _ _ (.tail _ _ _ _ _ (.tail _ _ _ _ _ (.tail _ _ _ _ _ (.tail _ _ _ _ _ (.tail _ _ _ _ _ (.tail _ _ _ _ _ (.tail _ _ _ _ _ (Has.head _ _ _ _)))))))))))))) (i := 1) rfl, M28.cell (.tail _ _ _ _ _ (.tail _ _ _ _ _ (.tail _ _ _ _ _ (.tail _ _ _ _ _ (.tail _ _ _ _ _ (.tail _ _ _ _ _ (.tail _ _ _ _ _ (.tail _ _ _ _ _ (.tail _ _ _ _ _ (.tail _ _ _ _ _ (.tail _ _ _ _ _ (.tail _ _ _ _ _ (.tail _ _ _ _ _ (Has.head _ _ _ _)))))))))))))) (i := 2) rfl, M28.cell (.tail _ _ _ _ _ (.tail _ _ _ _ _ (.tail _ _ _ _ _ (.tail _ _ _ _ _ (.tail _ _ _ _ _ (.tail _ _ _ _ _ (.tail _ _ _ _ _ (.tail _ _ _ _ _ (.tail _ _ _ _ _ (.tail _ _ _ _ _ (.tail _ _ _ _ _ (.tail _ _ _ _ _ (.tail _ _ _ _ _ (Has.head _ _ _ _)))))))))))))) (i := 3) rfl, M28.cell (.tail _ _ _ _ _ (.tail _ _ _ _ _ (.tail _ _ _ _ _ (.tail _ _ _ _ _ (.tail _ _ _ _ _ (.tail _ _ _ _ _ (.tail _ _ _ _ _ (.tail _ _ _ _ _ (.tail _ _ _ _ _ (.tail _ _ _ _ _ (.tail _ _ _ _ _ (.tail _ _ _ _ _ (.tail _ _ _ _ _ (Has.head _ _ _ _)))))))))))))) (i := 4) rfl, M28.cell (.tail _ _ _ _ _ (.tail _ _ _ _ _ (.tail _ _ _ _ _ (.tail _ _ _ _ _ (.tail _ _ _ _ _ (.tail _ _ _ _ _ (.tail _ _ _ _ _ (.tail _ _ _ _ _ (.tail _ _ _ _ _ (.tail _ _ _ _ _ (.tail _ _ _ _ _ (.tail _ _ _ _ _ (.tail _ _ _ _ _ (Has.head _ _ _ _)))))))))))))) (i := 5) rfl, M28.cell (.tail _ _ _ _ _ (.tail _ _ _ _ _ (.tail _ _ _ _ _ (.tail _ _ _ _ _ (.tail _ _ _ _ _ (.tail _ _ _ _ _ (.tail _ _ _ _ _ (.tail _ _ _ _ _ (.tail _ _ _ _ _ (.tail _ _ _ _ _ (.tail _ _ _ _ _ (Has.head _ _ _ _)))))))))))) (i := 5) rfl, M28.cell (.tail _ _ _ _ _ (.tail _ _ _ _ _ (.tail _ _ _ _ _ (.tail _ _ _ _ _ (.tail _ _ _ _ _ (.tail _ _ _ _ _ (.tail _ _ _ _ _ (.tail _ _ _ _ _ (.tail _ _ _ _ _ (.tail _ _ _ _ _ (Has.head _ _ _ _))))))))))) (i := 0) rfl, M28.cell (.tail _ _ _ _ _ (.tail _ _ _ _ _ (.tail _ _ _ _ _ (.tail _ _ _ _ _ (.tail _ _ _ _ _ (.tail _ _ _ _ _ (.tail _ _ _ _ _ (.tail _ _ _ _ _ (.tail _ _ _ _ _ (.tail _ _ _ _ _ (Has.head _ _ _ _))))))))))) (i := 1) rfl, M28.cell (.tail _ _ _ _ _ (.tail _ _ _ _ _ (.tail _ _ _ _ _ (.tail _ _ _ _ _ (.tail _ _ _ _ _ (.tail _ _ _ _ _ (.tail _ _ _ _ _ (.tail _ _ _ _ _ (.tail _ _ _ _ _ (Has.head _ _ _ _)))))))))) (i := 5) rfl, M28.cell (.tail _ _ _ _ _ (.tail _ _ _ _ _ (.tail _ _ _ _ _ (.tail _ _ _ _ _ (.tail _ _ _ _ _ (.tail _ _ _ _ _ (.tail _ _ _ _ _ (.tail _ _ _ _ _ (Has.head _ _ _ _))))))))) (i := 4) rfl, M28.cell (.tail _ _ _ _ _ (.tail _ _ _ _ _ (.tail _ _ _ _ _ (.tail _ _ _ _ _ (.tail _ _ _ _ _ (.tail _ _ _ _ _ (.tail _ _ _ _ _ (.tail _ _ _ _ _ (Has.head _ _ _ _))))))))) (i := 2) rfl, M28.cell (.tail _ _ _ _ _ (.tail _ _ _ _ _ (.tail _ _ _ _ _ (.tail _ _ _ _ _ (.tail _ _ _ _ _ (.tail _ _ _ _ _ (.tail _ _ _ _ _ (.tail _ _ _ _ _ (Has.head _ _ _ _))))))))) (i := 5) rfl, M28.cell (.tail _ _ _ _ _ (.tail _ _ _ _ _ (.tail _ _ _ _ _ (.tail _ _ _ _ _ (.tail _ _ _ _ _ (.tail _ _ _ _ _ (.tail _ _ _ _ _ (Has.head _ _ _ _)))))))) (i := 0) rfl, M28.cell (.tail _ _ _ _ _ (.tail _ _ _ _ _ (.tail _ _ _ _ _ (.tail _ _ _ _ _ (.tail _ _ _ _ _ (.tail _ _ _ _ _ (.tail _ _ _ _ _ (Has.head _ _ _ _)))))))) (i := 1) rfl, M28.cell (.tail _ _ _ _ _ (.tail _ _ _ _ _ (.tail _ _ _ _ _ (.tail _ _ _ _ _ (.tail _ _ _ _ _ (.tail _ _ _ _ _ (.tail _ _ _ _ _ (Has.head _ _ _ _)))))))) (i := 2) rfl, M28.cell (.tail _ _ _ _ _ (.tail _ _ _ _ _ (.tail _ _ _ _ _ (.tail _ _ _ _ _ (.tail _ _ _ _ _ (.tail _ _ _ _ _ (.tail _ _ _ _ _ (Has.head _ _ _ _)))))))) (i := 3) rfl, M28.cell (.tail _ _ _ _ _ (.tail _ _ _ _ _ (.tail _ _ _ _ _ (.tail _ _ _ _ _ (.tail _ _ _ _ _ (.tail _ _ _ _ _ (.tail _ _ _ _ _ (Has.head _ _ _ _)))))))) (i := 4) rfl, M28.cell (.tail _ _ _ _ _ (.tail _ _ _ _ _ (.tail _ _ _ _ _ (.tail _ _ _ _ _ (.tail _ _ _ _ _ (.tail _ _ _ _ _ (.tail _ _ _ _ _ (Has.head _ _ _ _)))))))) (i := 5) rfl, M28.cell (.tail _ _ _ _ _ (.tail _ _ _ _ _ (.tail _ _ _ _ _ (.tail _ _ _ _ _ (.tail _ _ _ _ _ (.tail _ _ _ _ _ (Has.head _ _ _ _))))))) (i := 5) rfl, M28.cell (.tail _ _ _ _ _ (.tail _ _ _ _ _ (.tail _ _ _ _ _ (.tail _ _ _ _ _ (.tail _ _ _ _ _ (.tail _ _ _ _ _ (Has.head _ _ _ _))))))) (i := 2) rfl, M28.cell (.tail _ _ _ _ _ (Has.head _ _ _ _)) (i := 0) rfl, M28.cell (.tail _ _ _ _ _ (Has.head _ _ _ _)) (i := 1) rfl, M28.cell (Has.head _ _ _ _) (i := 5) rfl, e1_0, e2_3, e3_0, e3_3, e4_0, e6_0, e6_1, e10_0⟩) (fun hHeld => ?_)
  clear hK K
  try simp only [Act.put, List.setIfInBounds_toArray, List.set_cons_zero, List.set_cons_succ, List.getElem_toArray, List.getElem_cons_zero, List.getElem_cons_succ]
  refine wpAnyH_take (i := 131) (v := ?v9128) rfl (by as_aux_lemma => kernel_rfl) (by as_aux_lemma => kernel_rfl) (by as_aux_lemma => kernel_rfl) (fun _ _ _ h => h) (Or.inl ⟨by kernel_rfl, ?hy9128⟩) hHeld ?rest9128
  case hy9128 => (intro w' hSw; go_simp; (try with_reducible rfl))
  try simp only [Act.put, List.setIfInBounds_toArray, List.set_cons_zero, List.set_cons_succ, List.getElem_toArray, List.getElem_cons_zero, List.getElem_cons_succ]
  refine wpAnyH_take (i := 132) (v := ?v9129) rfl (by as_aux_lemma => kernel_rfl) (by as_aux_lemma => kernel_rfl) (by as_aux_lemma => kernel_rfl) (fun _ _ _ h => h) (Or.inl ⟨by kernel_rfl, ?hy9129⟩) hHeld ?rest9129
  case hy9129 => (intro w' hSw; go_simp; (try with_reducible rfl))
  try simp only [Act.put, List.setIfInBounds_toArray, List.set_cons_zero, List.set_cons_succ, List.getElem_toArray, List.getElem_cons_zero, List.getElem_cons_succ]
  refine wpAnyH_take (i := 133) (v := ?v9130) rfl (by as_aux_lemma => kernel_rfl) (by as_aux_lemma => kernel_rfl) (by as_aux_lemma => kernel_rfl) (fun _ _ _ h => h) (Or.inl ⟨by kernel_rfl, ?hy9130⟩) hHeld ?rest9130
  case hy9130 => (intro w' hSw; go_simp; (try with_reducible rfl))
  try simp only [Act.put, List.setIfInBounds_toArray, List.set_cons_zero, List.set_cons_succ, List.getElem_toArray, List.getElem_cons_zero, List.getElem_cons_succ]
  refine wpAnyH_take (i := 134) (v := ?v9131) rfl (by as_aux_lemma => kernel_rfl) (by as_aux_lemma => kernel_rfl) (by as_aux_lemma => kernel_rfl) (fun _ _ _ h => h) (Or.inl ⟨by kernel_rfl, ?hy9131⟩) hHeld ?rest9131
  case hy9131 => (intro w' hSw; have q0 := HQ0.out w' hSw; have q1 := HQ1.out w' hSw; have q2 := HQ2.out w' hSw; have q3 := HQ3.out w' hSw; have q4 := HQ4.out w' hSw; have q5 := HQ5.out w' hSw; go_simp; (try with_reducible rfl))
  try simp only [Act.put, List.setIfInBounds_toArray, List.set_cons_zero, List.set_cons_succ, List.getElem_toArray, List.getElem_cons_zero, List.getElem_cons_succ]
  refine wpAnyH_ready (rs := [135]) (by kernel_rfl) (by simp) ?_
  refine AllReadyH.cons rfl (fun K hK => ?_) AllReadyH.nil
  go_simp
  refine (C15.out _ _ _ R1.out).mono ?_
  rintro e w29 ⟨a15, cap15, rfl, hA⟩
  have fd9 : ∀ wx : World, (Instr.field 24 (gv 2 2 101 202 64 (.slice a15 4 cap15)) 2).run Try.prog wx = .ok (.int .i64 101) wx := fun wx => by kernel_rfl
  have M29 := M28.call hA
  clear e1_0 e2_3 e3_0 e3_3 e4_0 e6_0 e6_1 e10_0
  have hA2 : Below w28.heap.size w28 w29 := (Below.refl w28.heap.size w28).trans hA
  replace R1 := Lib.hid (R1.out.below hA2)
  replace R2 := Lib.hid (R2.out.below hA2)
  replace R3 := Lib.hid (R3.out.below hA2)
  replace R4 := Lib.hid (R4.out.below hA2)
  replace R5 := Lib.hid (R5.out.below hA2)
  replace R6 := Lib.hid (R6.out.below hA2)
  replace R7 := Lib.hid (R7.out.below hA2)
  replace R8 := Lib.hid (R8.out.below hA2)
  replace R10 := Lib.hid (R10.out.below hA2)
  clear hA hA2 M28
  obtain ⟨_, _, ee, _, e1_0⟩ := cell64 R1.out 0 (by decide)
  cases ee
  rw [show List.getD _ 0 0 = (268435456 : Int) from rfl, Nat.add_zero] at e1_0
  obtain ⟨_, _, ee, _, e2_3⟩ := cell64 R2.out 3 (by decide)
  cases ee
  rw [show List.getD _ 3 0 = (1073741824 : Int) from rfl] at e2_3
  obtain ⟨_, _, ee, _, e3_0⟩ := cell64 R3.out 0 (by decide)
  cases ee
  rw [show List.getD _ 0 0 = (67108864 : Int) from rfl, Nat.add_zero] at e3_0
  obtain ⟨_, _, ee, _, e3_3⟩ := cell64 R3.out 3 (by decide)
  cases ee
  rw [show List.getD _ 3 0 = (603979776 : Int) from rfl] at e3_3
  obtain ⟨_, _, ee, _, e4_0⟩ := cell64 R4.out 0 (by decide)
  cases ee
  rw [show List.getD _ 0 0 = (67108864 : Int) from rfl, Nat.add_zero] at e4_0
  obtain ⟨_, _, ee, _, e6_0⟩ := cell64 R6.out 0 (by decide)
  cases ee
  rw [show List.getD _ 0 0 = (268435456 : Int) from rfl, Nat.add_zero] at e6_0
  obtain ⟨_, _, ee, _, e6_1⟩ := cell64 R6.out 1 (by decide)
  cases ee
  rw [show List.getD _ 1 0 = (0 : Int) from rfl] at e6_1
  obtain ⟨_, _, ee, _, e10_0⟩ := cell64 R10.out 0 (by decide)
  cases ee
  rw [show List.getD _ 0 0 = (1073741824 : Int) from rfl, Nat.add_zero] at e10_0
  try go_wp2_with fail
  refine hK.out _ _ (HMK.out _ ⟨M29.cell (.tail _ _ _ _ _ (.tail _ _ _ _ _ (.tail _ _ _ _ _ (.tail _ _ _ _ _ (.tail _ _ _ _ _ (.tail _ _ _ _ _ (.tail _ _ _ _ _ (.tail _ _ _ _ _ (.tail _ _ _ _ _ (.tail _ _ _ _ _ (.tail _ _ _ _ _ (.tail _ _ _ _ _ (.tail _ _ _ _ _ (Has.head _ _ _ _)))))))))))))) (i := 0) rfl, M29.cell (.tail _ _ _ _ _ (.tail _ _ _ _ _ (.tail _ _ _ _ _ (.tail _ _ _ _ _ (.tail _ _ _ _ _ (.tail _ _ _ _ _ (.tail _ _ _ _ _ (.tail _ _ _ _ _ (.tail _ _ _ _ _ (.tail _ _ _ _ _ (.tail _ _ _ _ _ (.tail _ _ _ _ _ (.tail _ _ _ _ _ (Has.head _ _ _ _)))))))))))))) (i := 1) rfl, M29.cell (.tail _ _ _ _ _ (.tail _ _ _ _ _ (.tail _ _ _ _ _ (.tail _ _ _ _ _ (.tail _ _ _ _ _ (.tail _ _ _ _ _ (.tail _ _ _ _ _ (.tail _ _ _ _ _ (.tail _ _ _ _ _ (.tail _ _ _ _ _ (.tail _ _ _ _ _ (.tail _ _ _ _ _ (.tail _ _ _ _ _ (Has.head _ _ _ _)))))))))))))) (i := 2) rfl, M29.cell (.tail _ _ _ _ _ (.tail _ _ _ _ _ (.tail _ _ _ _ _ (.tail _ _ _ _ _ (.tail _ _ _ _ _ (.tail _ _ _ _ _ (.tail _ _ _ _ _ (.tail _ _ _ _ _ (.tail _ _ _ _ _ (.tail _ _ _ _ _ (.tail _ _ _ _ _ (.tail _ _ _ _ _ (.tail _ _ _ _ _ (Has.head _ _ _ _)))))))))))))) (i := 3) rfl, M29.cell (.tail _ _ _ _ _ (.tail _ _ _ _ _ (.tail _ _ _ _ _ (.tail _ _ _ _ _ (.tail _ _ _ _ _ (.tail _ _ _ _ _ (.tail _ _ _ _ _ (.tail _ _ _ _ _ (.tail _ _ _ _ _ (.tail _ _ _ _ _ (.tail _ _ _ _ _ (.tail _ _ _ _ _ (.tail _ _ _ _ _ (Has.head _ _ _ _)))))))))))))) (i := 4) rfl, M29.cell (.tail _ _ _ _ _ (.tail _ _ _ _ _ (.tail _ _ _ _ _ (.tail _ _ _ _ _ (.tail _ _ _ _ _ (.tail _ _ _ _ _ (.tail _ _ _ _ _ (.tail _ _ _ _ _ (.tail _ _ _ _ _ (.tail _ _ _ _ _ (.tail _ _ _ _ _ (.tail _ _ _ _ _ (.tail _ _ _ _ _ (Has.head _ _ _ _)))))))))))))) (i := 5) rfl, M29.cell (.tail _ _ _ _ _ (.tail _ _ _ _ _ (.tail _ _ _ _ _ (.tail _ _ _ _ _ (.tail _ _ _ _ _ (.tail _ _ _ _ _ (.tail _ _ _ _ _ (.tail _ _ _ _ _ (.tail _ _ _ _ _ (.tail _ _ _ _ _ (.tail _ _ _ _ _ (Has.head _ _ _ _)))))))))))) (i := 5) rfl, M29.cell (.tail _ _ _ _ _ (.tail _ _ _ _ _ (.tail _ _ _ _ _ (.tail _ _ _ _ _ (.tail _ _ _ _ _ (.tail _ _ _ _ _ (.tail _ _ _ _ _ (.tail _ _ _ _ _ (.tail _ _ _ _ _ (.tail _ _ _ _ _ (Has.head _ _ _ _))))))))))) (i := 0) rfl, M29.cell (.tail _ _ _ _ _ (.tail _ _ _ _ _ (.tail _ _ _ _ _ (.tail _ _ _ _ _ (.tail _ _ _ _ _ (.tail _ _ _ _ _ (.tail _ _ _ _ _ (.tail _ _ _ _ _ (.tail _ _ _ _ _ (.tail _ _ _ _ _ (Has.head _ _ _ _))))))))))) (i := 1) rfl, M29.cell (.tail _ _ _ _ _ (.tail _ _ _ _ _ (.tail _ _ _ _ _ (.tail _ _ _ _ _ (.tail _ _ _ _ _ (.tail _ _ _ _ _ (.tail _ _ _ _ _ (.tail _ _ _ _ _ (.tail _ _ _ _ _ (Has.head _ _ _ _)))))))))) (i := 5) rfl, M29.cell (.tail _ _ _ _ _ (.tail _ _ _ _ _ (.tail _ _ _ _ _ (.tail _ _ _ _ _ (.tail _ _ _ _ _ (.tail _ _ _ _ _ (.tail _ _ _ _ _ (.tail _ _ _ _ _ (Has.head _ _ _ _))))))))) (i := 4) rfl, M29.cell (.tail _ _ _ _ _ (.tail _ _ _ _ _ (.tail _ _ _ _ _ (.tail _ _ _ _ _ (.tail _ _ _ _ _ (.tail _ _ _ _ _ (.tail _ _ _ _ _ (.tail _ _ _ _ _ (Has.head _ _ _ _))))))))) (i := 2) rfl, M29.cell (.tail _ _ _ _ _ (.tail _ _ _ _ _ (.tail _ _ _ _ _ (.tail _ _ _ _ _ (.tail _ _ _ _ _ (.tail _ _ _ _ _ (.tail _ _ _ _ _ (.tail _ _ _ _ _ (Has.head _ _ _ _))))))))) (i := 5) rfl, M29.cell (.tail _ _ _ _ _ (.tail _ _ _ _ _ (.tail _ _ _ _ _ (.tail _ _ _ _ _ (.tail _ _ _ _ _ (.tail _ _ _ _ _ (.tail _ _ _ _ _ (Has.head _ _ _ _)))))))) (i := 0) rfl, M29.cell (.tail _ _ _ _ _ (.tail _ _ _ _ _ (.tail _ _ _ _ _ (.tail _ _ _ _ _ (.tail _ _ _ _ _ (.tail _ _ _ _ _ (.tail _ _ _ _ _ (Has.head _ _ _ _)))))))) (i := 1) rfl, M29.cell (.tail _ _ _ _ _ (.tail _ _ _ _ _ (.tail _ _ _ _ _ (.tail _ _ _ _ _ (.tail _ _ _ _ _ (.tail _ _ _ _ _ (.tail _ _ _ _ _ (Has.head _ _ _ _)))))))) (i := 2) rfl, M29.cell (.tail _ _ _ _ _ (.tail _ _ _ _ _ (.tail _ _ _ _ _ (.tail _ _ _ _ _ (.tail _ _ _ _ _ (.tail _ _ _ _ _ (.tail _ _ _ _ _ (Has.head _ _ _ _)))))))) (i := 3) rfl, M29.cell (.tail _ _ _ _ _ (.tail _ _ _ _ _ (.tail _ _ _ _ _ (.tail _ _ _ _ _ (.tail _ _ _ _ _ (.tail _ _ _ _ _ (.tail _ _ _ _ _ (Has.head _ _ _ _)))))))) (i := 4) rfl, M29.cell (.tail _ _ _ _ _ (.tail _ _ _ _ _ (.tail _ _ _ _ _ (.tail _ _ _ _ _ (.tail _ _ _ _ _ (.tail _ _ _ _ _ (.tail _ _ _ _ _ (Has.head _ _ _ _)))))))) (i := 5) rfl, M29.cell (.tail _ _ _ _ _ (.tail _ _ _ _ _ (.tail _ _ _ _ _ (.tail _ _ _ _ _ (.tail _ _ _ _ _ (.tail _ _ _ _ _ (Has.head _ _ _ _))))))) (i := 5) rfl, M29.cell (.tail _ _ _ _ _ (.tail _ _ _ _ _ (.tail _ _ _ _ _ (.tail _ _ _ _ _ (.tail _ _ _ _ _ (.tail _ _ _ _ _ (Has.head _ _ _ _))))))) (i := 2) rfl, M29.cell (.tail _ _ _ _ _ (Has.head _ _ _ _)) (i := 0) rfl, M29.cell (.tail _ _ _ _ _ (Has.head _ _ _ _)) (i := 1) rfl, M29.cell (Has.head _ _ _ _) (i := 5) rfl, e1_0, e2_3, e3_0, e3_3, e4_0, e6_0, e6_1, e10_0⟩) (fun hHeld => ?_)
  clear hK K
  try simp only [Act.put, List.setIfInBounds_toArray, List.set_cons_zero, List.set_cons_succ, List.getElem_toArray, List.getElem_cons_zero, List.getElem_cons_succ]
  refine wpAnyH_take (i := 136) (v := ?v9132) rfl (by as_aux_lemma => kernel_rfl) (by as_aux_lemma => kernel_rfl) (by as_aux_lemma => kernel_rfl) (fun _ _ _ h => h) (Or.inl ⟨by kernel_rfl, ?hy9132⟩) hHeld ?rest9132
  case hy9132 => (intro w' hSw; go_simp; (try with_reducible rfl))
  try simp only [Act.put, List.setIfInBounds_toArray, List.set_cons_zero, List.set_cons_succ, List.getElem_toArray, List.getElem_cons_zero, List.getElem_cons_succ]
  refine wpAnyH_take (i := 137) (v := ?v9133) rfl (by as_aux_lemma => kernel_rfl) (by as_aux_lemma => kernel_rfl) (by as_aux_lemma => kernel_rfl) (fun _ _ _ h => h) (Or.inl ⟨by kernel_rfl, ?hy9133⟩) hHeld ?rest9133
  case hy9133 => (intro w' hSw; go_simp; (try with_reducible rfl))
  try simp only [Act.put, List.setIfInBounds_toArray, List.set_cons_zero, List.set_cons_succ, List.getElem_toArray, List.getElem_cons_zero, List.getElem_cons_succ]
  refine wpAnyH_take (i := 138) (v := ?v9134) rfl (by as_aux_lemma => kernel_rfl) (by as_aux_lemma => kernel_rfl) (by as_aux_lemma => kernel_rfl) (fun _ _ _ h => h) (Or.inl ⟨by kernel_rfl, ?hy9134⟩) hHeld ?rest9134
  case hy9134 => (intro w' hSw; go_simp; (try with_reducible rfl))
  try simp only [Act.put, List.setIfInBounds_toArray, List.set_cons_zero, List.set_cons_succ, List.getElem_toArray, List.getElem_cons_zero, List.getElem_cons_succ]
  refine wpAnyH_take (i := 139) (v := ?v9135) rfl (by as_aux_lemma => kernel_rfl) (by as_aux_lemma => kernel_rfl) (by as_aux_lemma => kernel_rfl) (fun _ _ _ h => h) (Or.inl ⟨by kernel_rfl, ?hy9135⟩) hHeld ?rest9135
  case hy9135 => (intro w' hSw; go_simp; (try with_reducible rfl))
  try simp only [Act.put, List.setIfInBounds_toArray, List.set_cons_zero, List.set_cons_succ, List.getElem_toArray, List.getElem_cons_zero, List.getElem_cons_succ]
  refine wpAnyH_take (i := 140) (v := ?v9136) rfl (by as_aux_lemma => kernel_rfl) (by as_aux_lemma => kernel_rfl) (by as_aux_lemma => kernel_rfl) (fun _ _ _ h => h) (Or.inl ⟨by kernel_rfl, ?hy9136⟩) hHeld ?rest9136
  case hy9136 => (intro w' hSw; have q0 := HQ0.out w' hSw; have q1 := HQ1.out w' hSw; have q2 := HQ2.out w' hSw; have q3 := HQ3.out w' hSw; have q4 := HQ4.out w' hSw; have q5 := HQ5.out w' hSw; go_simp; (try with_reducible rfl))
  try simp only [Act.put, List.setIfInBounds_toArray, List.set_cons_zero, List.set_cons_succ, List.getElem_toArray, List.getElem_cons_zero, List.getElem_cons_succ]
  refine wpAnyH_ready (rs := [141]) (by kernel_rfl) (by simp) ?_
  refine AllReadyH.cons rfl (fun K hK => ?_) AllReadyH.nil
  go_simp
  refine (C16.out _ _ _).mono ?_
  rintro e w30 ⟨rfl, hA⟩
  have M30 := M29.call hA
  clear e1_0 e2_3 e3_0 e3_3 e4_0 e6_0 e6_1 e10_0
  have hA2 : Below w29.heap.size w29 w30 := (Below.refl w29.heap.size w29).trans hA
  replace R1 := Lib.hid (R1.out.below hA2)
  replace R2 := Lib.hid (R2.out.below hA2)
  replace R3 := Lib.hid (R3.out.below hA2)
  replace R4 := Lib.hid (R4.out.below hA2)
  replace R5 := Lib.hid (R5.out.below hA2)
  replace R6 := Lib.hid (R6.out.below hA2)
  replace R7 := Lib.hid (R7.out.below hA2)
  replace R8 := Lib.hid (R8.out.below hA2)
  replace R10 := Lib.hid (R10.out.below hA2)
  clear hA hA2 M29
  obtain ⟨_, _, ee, _, e1_0⟩ := cell64 R1.out 0 (by decide)
  cases ee
  rw [show List.getD _ 0 0 = (268435456 : Int) from rfl, Nat.add_zero] at e1_0
  obtain ⟨_, _, ee, _, e2_3⟩ := cell64 R2.out 3 (by decide)
  cases ee
  rw [show List.getD _ 3 0 = (1073741824 : Int) from rfl] at e2_3
  obtain ⟨_, _, ee, _, e3_0⟩ := cell64 R3.out 0 (by decide)
  cases ee
  rw [show List.getD _ 0 0 = (67108864 : Int) from rfl, Nat.add_zero] at e3_0
  obtain ⟨_, _, ee, _, e3_3⟩ := cell64 R3.out 3 (by decide)
  cases ee
  rw [show List.getD _ 3 0 = (603979776 : Int) from rfl] at e3_3
  obtain ⟨_, _, ee, _, e4_0⟩ := cell64 R4.out 0 (by decide)
  cases ee
  rw [show List.getD _ 0 0 = (67108864 : Int) from rfl, Nat.add_zero] at e4_0
  obtain ⟨_, _, ee, _, e6_0⟩ := cell64 R6.out 0 (by decide)
  cases ee
  rw [show List.getD _ 0 0 = (268435456 : Int) from rfl, Nat.add_zero] at e6_0
  obtain ⟨_, _, ee, _, e6_1⟩ := cell64 R6.out 1 (by decide)
  cases ee
  rw [show List.getD _ 1 0 = (0 : Int) from rfl] at e6_1
  obtain ⟨_, _, ee, _, e10_0⟩ := cell64 R10.out 0 (by decide)
  cases ee
  rw [show List.getD _ 0 0 = (1073741824 : Int) from rfl, Nat.add_zero] at e10_0
  try go_wp2_with fail
  refine hK.out _ _ (HMK.out _ ⟨M30.cell (.tail _ _ _ _ _ (.tail _ _ _ _ _ (.tail _ _ _ _ _ (.tail _ _ _ _ _ (.tail _ _ _ _ _ (.tail _ _ _ _ _ (.tail _ _ _ _ _ (.tail _ _ _ _ _ (.tail _ _ _ _ _ (.tail _ _ _ _ _ (.tail _ _ _ _ _ (.tail _ _ _ _ _ (.tail _ _ _ _ _ (Has.head _ _ _ _)))))))))))))) (i := 0) rfl, M30.cell (.tail _ _ _ _ _ (.tail _ _ _ _ _ (.tail _ _ _ _ _ (.tail _ _ _ _ _ (.tail _ _ _ _ _ (.tail _ _ _ _ _ (.tail _ _ _ _ _ (.tail _ _ _ _ _ (.tail _ _ _ _ _ (.tail _ _ _ _ _ (.tail _ _ _ _ _ (.tail _ _ _ _ _ (.tail _ _ _ _ _ (Has.head _ _ _ _)))))))))))))) (i := 1) rfl, M30.cell (.tail _ _ _ _ _ (.tail _ _ _ _ _ (.tail _ _ _ _ _ (.tail _ _ _ _ _ (.tail _ _ _ _ _ (.tail _ _ _ _ _ (.tail _ _ _ _ _ (.tail _ _ _ _ _ (.tail _ _ _ _ _ (.tail _ _ _ _ _ (.tail _ _ _ _ _ (.tail _ _ _ _ _ (.tail _ _ _ _ _ (Has.head _ _ _ _)))))))))))))) (i := 2) rfl, M30.cell (.tail _ _ _ _ _ (.tail _ _ _ _ _ (.tail _ _ _ _ _ (.tail _ _ _ _ _ (.tail _ _ _ _ _ (.tail _ _ _ _ _ (.tail _ _ _ _ _ (.tail _ _ _ _ _ (.tail _ _ _ _ _ (.tail _ _ _ _ _ (.tail _ _ _ _ _ (.tail _ _ _ _ _ (.tail _ _ _ _ _ (Has.head _ _ _ _)))))))))))))) (i := 3) rfl, M30.cell (.tail _ _ _ _ _ (.tail _ _ _ _ _ (.tail _ _ _ _ _ (.tail _ _ _ _ _ (.tail _ _ _ _ _ (.tail _ _ _ _ _ (.tail _ _ _ _ _ (.tail _ _ _ _ _ (.tail _ _ _ _ _ (.tail _ _ _ _ _ (.tail _ _ _ _ _ (.tail _ _ _ _ _ (.tail _ _ _ _ _ (Has.head _ _ _ _)))))))))))))) (i := 4) rfl, M30.cell (.tail _ _ _ _ _ (.tail _ _ _ _ _ (.tail _ _ _ _ _ (.tail _ _ _ _ _ (.tail _ _ _ _ _ (.tail _ _ _ _ _ (.tail _ _ _ _ _ (.tail _ _ _ _ _ (.tail _ _ _ _ _ (.tail _ _ _ _ _ (.tail _ _ _ _ _ (.tail _ _ _ _ _ (.tail _ _ _ _ _ (Has.head _ _ _ _)))))))))))))) (i := 5) rfl, M30.cell (.tail _ _ _ _ _ (.tail _ _ _ _ _ (.tail _ _ _ _ _ (.tail _ _ _ _ _ (.tail _ _ _ _ _ (.tail _ _ _ _ _ (.tail _ _ _ _ _ (.tail _ _ _ _ _ (.tail _ _ _ _ _ (.tail _ _ _ _ _ (.tail _ _ _ _ _ (Has.head _ _ _ _)))))))))))) (i := 5) rfl, M30.cell (.tail _ _ _ _ _ (.tail _ _ _ _ _ (.tail _ _ _ _ _ (.tail _ _ _ _ _ (.tail _ _ _ _ _ (.tail _ _ _ _ _ (.tail _ _ _ _ _ (.tail _ _ _ _ _ (.tail _ _ _ _ _ (.tail _ _ _ _ _ (Has.head _ _ _ _))))))))))) (i := 0) rfl, M30.cell (.tail _ _ _ _ _ (.tail _ _ _ _ _ (.tail _ _ _ _ _ (.tail _ _ _ _ _ (.tail _ _ _ _ _ (.tail _ _ _ _ _ (.tail _ _ _ _ _ (.tail _ _ _ _ _ (.tail _ _ _ _ _ (.tail _ _ _ _ _ (Has.head _ _ _ _))))))))))) (i := 1) rfl, M30.cell (.tail _ _ _ _ _ (.tail _ _ _ _ _ (.tail _ _ _ _ _ (.tail _ _ _ _ _ (.tail _ _ _ _ _ (.tail _ _ _ _ _ (.tail _ _ _ _ _ (.tail _ _ _ _ _ (.tail _ _ _ _ _ (Has.head _ _ _ _)))))))))) (i := 5) rfl, M30.cell (.tail _ _ _ _ _ (.tail _ _ _ _ _ (.tail _ _ _ _ _ (.tail _ _ _ _ _ (.tail _ _ _ _ _ (.tail _ _ _ _ _ (.tail _ _ _ _ _ (.tail _ _ _ _ _ (Has.head _ _ _ _))))))))) (i := 4) rfl, M30.cell (.tail _ _ _ _ _ (.tail _ _ _ _ _ (.tail _ _ _ _ _ (.tail _ _ _ _ _ (.tail _ _ _ _ _ (.tail _ _ _ _ _ (.tail _ _ _ _ _ (.tail _ _ _ _ _ (Has.head _ _ _ _))))))))) (i := 2) rfl, M30.cell (.tail _ _ _ _ _ (.tail _ _ _ _ _ (.tail _ _ _ _ _ (.tail _ _ _ _ _ (.tail _ _ _ _ _ (.tail _ _ _ _ _ (.tail _ _ _ _ _ (.tail _ _ _ _ _ (Has.head _ _ _ _))))))))) (i := 5) rfl, M30.cell (.tail _ _ _ _ _ (.tail _ _ _ _ _ (.tail _ _ _ _ _ (.tail _ _ _ _ _ (.tail _ _ _ _ _ (.tail _ _ _ _ _ (.tail _ _ _ _ _ (Has.head _ _ _ _)))))))) (i := 0) rfl, M30.cell (.tail _ _ _ _ _ (.tail _ _ _ _ _ (.tail _ _ _ _ _ (.tail _ _ _ _ _ (.tail _ _ _ _ _ (.tail _ _ _ _ _ (.tail _ _ _ _ _ (Has.head _ _ _ _)))))))) (i := 1) rfl, M30.cell (.tail _ _ _ _ _ (.tail _ _ _ _ _ (.tail _ _ _ _ _ (.tail _ _ _ _ _ (.tail _ _ _ _ _ (.tail _ _ _ _ _ (.tail _ _ _ _ _ (Has.head _ _ _ _)))))))) (i := 2) rfl, M30.cell (.tail _ _ _ _ _ (.tail _ _ _ _ _ (.tail _ _ _ _ _ (.tail _ _ _ _ _ (.tail _ _ _ _ _ (.tail _ _ _ _ _ (.tail _ _ _ _ _ (Has.head _ _ _ _)))))))) (i := 3) rfl, M30.cell (.tail _ _ _ _ _ (.tail _ _ _ _ _ (.tail _ _ _ _ _ (.tail _ _ _ _ _ (.tail _ _ _ _ _ (.tail _ _ _ _ _ (.tail _ _ _ _ _ (Has.head _ _ _ _)))))))) (i := 4) rfl, M30.cell (.tail _ _ _ _ _ (.tail _ _ _ _ _ (.tail _ _ _ _ _ (.tail _ _ _ _ _ (.tail _ _ _ _ _ (.tail _ _ _ _ _ (.tail _ _ _ _ _ (Has.head _ _ _ _)))))))) (i := 5) rfl, M30.cell (.tail _ _ _ _ _ (.tail _ _ _ _ _ (.tail _ _ _ _ _ (.tail _ _ _ _ _ (.tail _ _ _ _ _ (.tail _ _ _ _ _ (Has.head _ _ _ _))))))) (i := 5) rfl, M30.cell (.tail _ _ _ _ _ (.tail _ _ _ _ _ (.tail _ _ _ _ _ (.tail _ _ _ _ _ (.tail _ _ _ _ _ (.tail _ _ _ _ _ (Has.head _ _ _ _))))))) (i := 2) rfl, M30.cell (.tail _ _ _ _ _ (Has.head _ _ _ _)) (i := 0) rfl, M30.cell (.tail _ _ _ _ _ (Has.head _ _ _ _)) (i := 1) rfl, M30.cell (Has.head _ _ _ _) (i := 5) rfl, e1_0, e2_3, e3_0, e3_3, e4_0, e6_0, e6_1, e10_0⟩) (fun hHeld => ?_)
  clear hK K
  try simp only [Act.put, List.setIfInBounds_toArray, List.set_cons_zero, List.set_cons_succ, List.getElem_toArray, List.getElem_cons_zero, List.getElem_cons_succ]
  refine wpAnyH_take (i := 142) (v := ?v9137) rfl (by as_aux_lemma => kernel_rfl) (by as_aux_lemma => kernel_rfl) (by as_aux_lemma => kernel_rfl) (fun _ _ _ h => h) (Or.inl ⟨by kernel_rfl, ?hy9137⟩) hHeld ?rest9137
  case hy9137 => (intro w' hSw; go_simp; (try with_reducible rfl))
  try simp only [Act.put, List.setIfInBounds_toArray, List.set_cons_zero, List.set_cons_succ, List.getElem_toArray, List.getElem_cons_zero, List.getElem_cons_succ]
  refine wpAnyH_take (i := 143) (v := ?v9138) rfl (by as_aux_lemma => kernel_rfl) (by as_aux_lemma => kernel_rfl) (by as_aux_lemma => kernel_rfl) (fun _ _ _ h => h) (Or.inl ⟨by kernel_rfl, ?hy9138⟩) hHeld ?rest9138
  case hy9138 => (intro w' hSw; go_simp; (try with_reducible rfl))
  try simp only [Act.put, List.setIfInBounds_toArray, List.set_cons_zero, List.set_cons_succ, List.getElem_toArray, List.getElem_cons_zero, List.getElem_cons_succ]
  refine wpAnyH_take (i := 144) (v := ?v9139) rfl (by as_aux_lemma => kernel_rfl) (by as_aux_lemma => kernel_rfl) (by as_aux_lemma => kernel_rfl) (fun _ _ _ h => h) (Or.inl ⟨by kernel_rfl, ?hy9139⟩) hHeld ?rest9139
  case hy9139 => (intro w' hSw; go_simp; (try with_reducible rfl))
  try simp only [Act.put, List.setIfInBounds_toArray, List.set_cons_zero, List.set_cons_succ, List.getElem_toArray, List.getElem_cons_zero, List.getElem_cons_succ]
  refine wpAnyH_done (by kernel_rfl) ?_ _
  go_wp2_with fail
  go_ret
  refine ⟨?_, M30.below⟩
  first
    | rfl
    | (simp_all; done)
    | (subst_eqs; rfl)
    | (injections; subst_vars; rfl)
    | (trace_state; exact rfl)
end Go.Proofs.Ytnfgogfbpggnfaa
