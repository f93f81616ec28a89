/-
  GridCuts: the walk.
-/
import Derived.Test.YtnfgogfbpggnfaaLaw14m
import Derived.Test.YtnfgogfbpggnfaaGridG
import Derived.Test.YtnfgogfbpggnfaaGridH
import Derived.Test.YtnfgogfbpggnfaaGridI
import Derived.Test.YtnfgogfbpggnfaaGridM
import Derived.Test.YtnfgogfbpggnfaaGridRA
import Derived.Test.YtnfgogfbpggnfaaGridRE
import Derived.Test.YtnfgogfbpggnfaaGridRF
import Derived.Test.YtnfgogfbpggnfaaGridRG
import Derived.Test.YtnfgogfbpggnfaaGridK
set_option linter.unusedVariables false
set_option linter.unusedSimpArgs false
namespace Go.Proofs.Ytnfgogfbpggnfaa
open Go Go.RowKit Go.Th Go.Th.Grid Go.Th.Wide

set_option maxRecDepth 100000 in
set_option maxHeartbeats 6400000 in
theorem cuts_out (p q st x y S n m1 m2 m3 k capl : Nat) (al : Option Addr) (z G L1 L2 L3 : List Int) (cx cy cw ch i d1 d2 d3 d4 d5 e1 e2 e3 e4 e5 f1 f2 f3 f4 f5 c1 c2 c3 u v : Int) (hk : ¬ ((100 : Int) < (k : Int))) (hn : n ≤ 64) (hx1 : 1 ≤ x) (hx : x ≤ 8) (hSb : S ≤ 4096) (CM : ∀ w, Sl w 1 (.slice al k capl) k (u16s z) → Calls Try.prog 16 #[.int .u8 p, .int .u8 q, .slice al k capl, .int .u8 st] w fun e w' => ∃ a cap, e = .returned (gv x y 1000 (-1000) S (.slice a n cap)) ∧ Sl w' 1 (.slice a n cap) n (i64s G) ∧ Below w.heap.size w w')
    (K1 : ∀ a cap w, Sl w 1 (.slice a n cap) n (i64s G) → Calls Try.prog 25 #[gv x y 1000 (-1000) S (.slice a n cap), .int .i64 cx, .int .i64 cy, .int .i64 cw, .int .i64 ch] w (GSaid d1 d2 d3 d4 d5 m1 L1 c1 w))
    (K2 : ∀ a cap w, Sl w 1 (.slice a n cap) n (i64s G) → Calls Try.prog 26 #[gv x y 1000 (-1000) S (.slice a n cap), .int .i64 cx, .int .i64 cy, .int .i64 cw, .int .i64 ch] w (GSaid d1 d2 d3 d4 d5 m1 L1 c1 w))
    (K3 : ∀ a cap w, Sl w 1 (.slice a n cap) n (i64s G) → Calls Try.prog 27 #[gv x y 1000 (-1000) S (.slice a n cap)] w (GSaid e1 e2 e3 e4 e5 m2 L2 c2 w))
    (K4 : ∀ a cap w, Sl w 1 (.slice a n cap) n (i64s G) → Calls Try.prog 28 #[gv x y 1000 (-1000) S (.slice a n cap)] w (GSaid e1 e2 e3 e4 e5 m2 L2 c2 w))
    (K5 : ∀ a cap w, Sl w 1 (.slice a n cap) n (i64s G) → Calls Try.prog 29 #[gv x y 1000 (-1000) S (.slice a n cap)] w (GSaid f1 f2 f3 f4 f5 m3 L3 c3 w))
    (K6 : ∀ a cap w, Sl w 1 (.slice a n cap) n (i64s G) → Calls Try.prog 30 #[gv x y 1000 (-1000) S (.slice a n cap)] w (GSaid f1 f2 f3 f4 f5 m3 L3 c3 w))
    (S1 : ∀ a ca b cb w, Sl w 1 (.slice a m1 ca) m1 (i64s L1) → Sl w 1 (.slice b m1 cb) m1 (i64s L1) → Calls Try.prog 13 #[gv d1 d2 d3 d4 d5 (.slice a m1 ca), gv d1 d2 d3 d4 d5 (.slice b m1 cb)] w fun e w' => e = .returned (.bool true) ∧ Below w.heap.size w w') (S2 : ∀ a ca b cb w, Sl w 1 (.slice a m2 ca) m2 (i64s L2) → Sl w 1 (.slice b m2 cb) m2 (i64s L2) → Calls Try.prog 13 #[gv e1 e2 e3 e4 e5 (.slice a m2 ca), gv e1 e2 e3 e4 e5 (.slice b m2 cb)] w fun e w' => e = .returned (.bool true) ∧ Below w.heap.size w w') (S3 : ∀ a ca b cb w, Sl w 1 (.slice a m3 ca) m3 (i64s L3) → Sl w 1 (.slice b m3 cb) m3 (i64s L3) → Calls Try.prog 13 #[gv f1 f2 f3 f4 f5 (.slice a m3 ca), gv f1 f2 f3 f4 f5 (.slice b m3 cb)] w fun e w' => e = .returned (.bool true) ∧ Below w.heap.size w w')
    (KA : ∀ a cap, Ans 31 #[gv x y 1000 (-1000) S (.slice a n cap), .int .i64 i] (.tuple #[.agg #[.int .i64 u, .int .i64 v], .bool false]))
    (hi : ¬ (0 ≤ i ∧ i < (n : Int)))
    (C0 : Ans 8 #[] (.bool true)) (w : World) (hT : Sl w 1 (.slice al k capl) k (u16s z)) :
    Calls Try.prog 6 #[.int .u8 p, .int .u8 q, .slice al k capl, .int .u8 st, .int .i64 cx, .int .i64 cy, .int .i64 cw, .int .i64 ch, .int .i64 i] w fun e w' => e = .returned (.bool true) ∧ Below w.heap.size w w' := by
  have M0 := Mem.start w
  have hmy := hT.max
  have CM := Lib.hid CM
  have K1 := Lib.hid K1
  have K2 := Lib.hid K2
  have K3 := Lib.hid K3
  have K4 := Lib.hid K4
  have K5 := Lib.hid K5
  have K6 := Lib.hid K6
  have S1 := Lib.hid S1
  have S2 := Lib.hid S2
  have S3 := Lib.hid S3
  have KA := Lib.hid KA
  have C0 := Lib.hid C0
  have hT := Lib.hid hT
  have b1 : (c1 == c1) = true := by simp
  have b2 : (c2 == c2) = true := by simp
  have b3 : (c3 == c3) = true := by simp
  go_enter Try.func6, Try.ntmps6
  go_wp2_with fail
  refine (CM.out _ hT.out).mono ?_
  rintro e w1 ⟨a1, cap1, rfl, s1, hA⟩
  have M1 := M0.call hA
  clear M0
  have R1 := Lib.hid s1
  clear s1
  clear hA
  obtain ⟨w2, hw2⟩ : ∃ wq, w1.alloc (.cells #[.int .i64 x, .int .i64 y, .int .i64 1000, .int .i64 (-1000), .int .i64 S, .slice a1 n cap1] 24) = wq := ⟨_, rfl⟩
  have M2 := M1.alloc 24 [.int .i64 x, .int .i64 y, .int .i64 1000, .int .i64 (-1000), .int .i64 S, .slice a1 n cap1]
  rw [show w1.alloc (.cells [Value.int .i64 x, .int .i64 y, .int .i64 1000, .int .i64 (-1000), .int .i64 S, .slice a1 n cap1].toArray 24) = w2 from hw2] at M2
  have hA : Below w1.heap.size w1 w2 := by rw [← hw2]; exact (Below.refl _ _).alloc (Nat.le_refl _) _
  replace R1 := Lib.hid (R1.out.below hA)
  have HW2 := Lib.hid hw2
  clear hw2 hA M1
  go_upto_region 4 with fail
  rw [HW2.out]
  clear HW2
  obtain ⟨gG, hgG⟩ : ∃ g9, g9 = w1.heap.size := ⟨_, rfl⟩
  rw [← hgG] at M2 ⊢
  clear hgG
  have c_gG_0 := M2.cell (Has.head _ _ _ _) (i := 0) rfl
  have c_gG_1 := M2.cell (Has.head _ _ _ _) (i := 1) rfl
  have c_gG_2 := M2.cell (Has.head _ _ _ _) (i := 2) rfl
  have c_gG_3 := M2.cell (Has.head _ _ _ _) (i := 3) rfl
  have c_gG_4 := M2.cell (Has.head _ _ _ _) (i := 4) rfl
  have c_gG_5 := M2.cell (Has.head _ _ _ _) (i := 5) rfl
  go_wp2_with fail
  refine (K1.out _ _ _ R1.out).mono ?_
  rintro e w3 ⟨a2, cap2, rfl, s2, hA⟩
  have M3 := M2.call hA
  clear c_gG_0 c_gG_1 c_gG_2 c_gG_3 c_gG_4 c_gG_5
  clear M2
  replace R1 := Lib.hid (R1.out.below hA)
  have R2 := Lib.hid s2
  clear s2
  clear hA
  obtain ⟨w4, hw4⟩ : ∃ wq, w3.alloc (.cells #[.int .i64 d1, .int .i64 d2, .int .i64 d3, .int .i64 d4, .int .i64 d5, .slice a2 m1 cap2] 24) = wq := ⟨_, rfl⟩
  have M4 := M3.alloc 24 [.int .i64 d1, .int .i64 d2, .int .i64 d3, .int .i64 d4, .int .i64 d5, .slice a2 m1 cap2]
  rw [show w3.alloc (.cells [Value.int .i64 d1, .int .i64 d2, .int .i64 d3, .int .i64 d4, .int .i64 d5, .slice a2 m1 cap2].toArray 24) = w4 from hw4] at M4
  have hA : Below w3.heap.size w3 w4 := by rw [← hw4]; exact (Below.refl _ _).alloc (Nat.le_refl _) _
  replace R1 := Lib.hid (R1.out.below hA)
  replace R2 := Lib.hid (R2.out.below hA)
  have HW4 := Lib.hid hw4
  clear hw4 hA M3
  go_upto_region 5 with fail
  rw [HW4.out]
  clear HW4
  obtain ⟨g1, hg1⟩ : ∃ g9, g9 = w3.heap.size := ⟨_, rfl⟩
  rw [← hg1] at M4 ⊢
  clear hg1
  have c_gG_0 := M4.cell (.tail _ _ _ _ _ (Has.head _ _ _ _)) (i := 0) rfl
  have c_gG_1 := M4.cell (.tail _ _ _ _ _ (Has.head _ _ _ _)) (i := 1) rfl
  have c_gG_2 := M4.cell (.tail _ _ _ _ _ (Has.head _ _ _ _)) (i := 2) rfl
  have c_gG_3 := M4.cell (.tail _ _ _ _ _ (Has.head _ _ _ _)) (i := 3) rfl
  have c_gG_4 := M4.cell (.tail _ _ _ _ _ (Has.head _ _ _ _)) (i := 4) rfl
  have c_gG_5 := M4.cell (.tail _ _ _ _ _ (Has.head _ _ _ _)) (i := 5) rfl
  go_wp2_with fail
  refine (K2.out _ _ _ R1.out).mono ?_
  rintro e w5 ⟨a3, cap3, rfl, s3, hA⟩
  have M5 := M4.call hA
  clear c_gG_0 c_gG_1 c_gG_2 c_gG_3 c_gG_4 c_gG_5
  clear M4
  replace R1 := Lib.hid (R1.out.below hA)
  replace R2 := Lib.hid (R2.out.below hA)
  have R3 := Lib.hid s3
  clear s3
  clear hA
  obtain ⟨w6, hw6⟩ : ∃ wq, w5.alloc (.cells #[.int .i64 d1, .int .i64 d2, .int .i64 d3, .int .i64 d4, .int .i64 d5, .slice a3 m1 cap3] 24) = wq := ⟨_, rfl⟩
  have M6 := M5.alloc 24 [.int .i64 d1, .int .i64 d2, .int .i64 d3, .int .i64 d4, .int .i64 d5, .slice a3 m1 cap3]
  rw [show w5.alloc (.cells [Value.int .i64 d1, .int .i64 d2, .int .i64 d3, .int .i64 d4, .int .i64 d5, .slice a3 m1 cap3].toArray 24) = w6 from hw6] at M6
  have hA : Below w5.heap.size w5 w6 := by rw [← hw6]; exact (Below.refl _ _).alloc (Nat.le_refl _) _
  replace R1 := Lib.hid (R1.out.below hA)
  replace R2 := Lib.hid (R2.out.below hA)
  replace R3 := Lib.hid (R3.out.below hA)
  have HW6 := Lib.hid hw6
  clear hw6 hA M5
  go_upto_region 6 with fail
  rw [HW6.out]
  clear HW6
  obtain ⟨g2, hg2⟩ : ∃ g9, g9 = w5.heap.size := ⟨_, rfl⟩
  rw [← hg2] at M6 ⊢
  clear hg2
  have c_gG_0 := M6.cell (.tail _ _ _ _ _ (.tail _ _ _ _ _ (Has.head _ _ _ _))) (i := 0) rfl
  have c_gG_1 := M6.cell (.tail _ _ _ _ _ (.tail _ _ _ _ _ (Has.head _ _ _ _))) (i := 1) rfl
  have c_gG_2 := M6.cell (.tail _ _ _ _ _ (.tail _ _ _ _ _ (Has.head _ _ _ _))) (i := 2) rfl
  have c_gG_3 := M6.cell (.tail _ _ _ _ _ (.tail _ _ _ _ _ (Has.head _ _ _ _))) (i := 3) rfl
  have c_gG_4 := M6.cell (.tail _ _ _ _ _ (.tail _ _ _ _ _ (Has.head _ _ _ _))) (i := 4) rfl
  have c_gG_5 := M6.cell (.tail _ _ _ _ _ (.tail _ _ _ _ _ (Has.head _ _ _ _))) (i := 5) rfl
  go_wp2_with fail
  refine (K3.out _ _ _ R1.out).mono ?_
  rintro e w7 ⟨a4, cap4, rfl, s4, hA⟩
  have M7 := M6.call hA
  clear c_gG_0 c_gG_1 c_gG_2 c_gG_3 c_gG_4 c_gG_5
  clear M6
  replace R1 := Lib.hid (R1.out.below hA)
  replace R2 := Lib.hid (R2.out.below hA)
  replace R3 := Lib.hid (R3.out.below hA)
  have R4 := Lib.hid s4
  clear s4
  clear hA
  obtain ⟨w8, hw8⟩ : ∃ wq, w7.alloc (.cells #[.int .i64 e1, .int .i64 e2, .int .i64 e3, .int .i64 e4, .int .i64 e5, .slice a4 m2 cap4] 24) = wq := ⟨_, rfl⟩
  have M8 := M7.alloc 24 [.int .i64 e1, .int .i64 e2, .int .i64 e3, .int .i64 e4, .int .i64 e5, .slice a4 m2 cap4]
  rw [show w7.alloc (.cells [Value.int .i64 e1, .int .i64 e2, .int .i64 e3, .int .i64 e4, .int .i64 e5, .slice a4 m2 cap4].toArray 24) = w8 from hw8] at M8
  have hA : Below w7.heap.size w7 w8 := by rw [← hw8]; exact (Below.refl _ _).alloc (Nat.le_refl _) _
  replace R1 := Lib.hid (R1.out.below hA)
  replace R2 := Lib.hid (R2.out.below hA)
  replace R3 := Lib.hid (R3.out.below hA)
  replace R4 := Lib.hid (R4.out.below hA)
  have HW8 := Lib.hid hw8
  clear hw8 hA M7
  go_upto_region 7 with fail
  rw [HW8.out]
  clear HW8
  obtain ⟨g3, hg3⟩ : ∃ g9, g9 = w7.heap.size := ⟨_, rfl⟩
  rw [← hg3] at M8 ⊢
  clear hg3
  have c_gG_0 := M8.cell (.tail _ _ _ _ _ (.tail _ _ _ _ _ (.tail _ _ _ _ _ (Has.head _ _ _ _)))) (i := 0) rfl
  have c_gG_1 := M8.cell (.tail _ _ _ _ _ (.tail _ _ _ _ _ (.tail _ _ _ _ _ (Has.head _ _ _ _)))) (i := 1) rfl
  have c_gG_2 := M8.cell (.tail _ _ _ _ _ (.tail _ _ _ _ _ (.tail _ _ _ _ _ (Has.head _ _ _ _)))) (i := 2) rfl
  have c_gG_3 := M8.cell (.tail _ _ _ _ _ (.tail _ _ _ _ _ (.tail _ _ _ _ _ (Has.head _ _ _ _)))) (i := 3) rfl
  have c_gG_4 := M8.cell (.tail _ _ _ _ _ (.tail _ _ _ _ _ (.tail _ _ _ _ _ (Has.head _ _ _ _)))) (i := 4) rfl
  have c_gG_5 := M8.cell (.tail _ _ _ _ _ (.tail _ _ _ _ _ (.tail _ _ _ _ _ (Has.head _ _ _ _)))) (i := 5) rfl
  go_wp2_with fail
  refine (K4.out _ _ _ R1.out).mono ?_
  rintro e w9 ⟨a5, cap5, rfl, s5, hA⟩
  have M9 := M8.call hA
  clear c_gG_0 c_gG_1 c_gG_2 c_gG_3 c_gG_4 c_gG_5
  clear M8
  replace R1 := Lib.hid (R1.out.below hA)
  replace R2 := Lib.hid (R2.out.below hA)
  replace R3 := Lib.hid (R3.out.below hA)
  replace R4 := Lib.hid (R4.out.below hA)
  have R5 := Lib.hid s5
  clear s5
  clear hA
  obtain ⟨w10, hw10⟩ : ∃ wq, w9.alloc (.cells #[.int .i64 e1, .int .i64 e2, .int .i64 e3, .int .i64 e4, .int .i64 e5, .slice a5 m2 cap5] 24) = wq := ⟨_, rfl⟩
  have M10 := M9.alloc 24 [.int .i64 e1, .int .i64 e2, .int .i64 e3, .int .i64 e4, .int .i64 e5, .slice a5 m2 cap5]
  rw [show w9.alloc (.cells [Value.int .i64 e1, .int .i64 e2, .int .i64 e3, .int .i64 e4, .int .i64 e5, .slice a5 m2 cap5].toArray 24) = w10 from hw10] at M10
  have hA : Below w9.heap.size w9 w10 := by rw [← hw10]; exact (Below.refl _ _).alloc (Nat.le_refl _) _
  replace R1 := Lib.hid (R1.out.below hA)
  replace R2 := Lib.hid (R2.out.below hA)
  replace R3 := Lib.hid (R3.out.below hA)
  replace R4 := Lib.hid (R4.out.below hA)
  replace R5 := Lib.hid (R5.out.below hA)
  have HW10 := Lib.hid hw10
  clear hw10 hA M9
  go_upto_region 8 with fail
  rw [HW10.out]
  clear HW10
  obtain ⟨g4, hg4⟩ : ∃ g9, g9 = w9.heap.size := ⟨_, rfl⟩
  rw [← hg4] at M10 ⊢
  clear hg4
  have c_gG_0 := M10.cell (.tail _ _ _ _ _ (.tail _ _ _ _ _ (.tail _ _ _ _ _ (.tail _ _ _ _ _ (Has.head _ _ _ _))))) (i := 0) rfl
  have c_gG_1 := M10.cell (.tail _ _ _ _ _ (.tail _ _ _ _ _ (.tail _ _ _ _ _ (.tail _ _ _ _ _ (Has.head _ _ _ _))))) (i := 1) rfl
  have c_gG_2 := M10.cell (.tail _ _ _ _ _ (.tail _ _ _ _ _ (.tail _ _ _ _ _ (.tail _ _ _ _ _ (Has.head _ _ _ _))))) (i := 2) rfl
  have c_gG_3 := M10.cell (.tail _ _ _ _ _ (.tail _ _ _ _ _ (.tail _ _ _ _ _ (.tail _ _ _ _ _ (Has.head _ _ _ _))))) (i := 3) rfl
  have c_gG_4 := M10.cell (.tail _ _ _ _ _ (.tail _ _ _ _ _ (.tail _ _ _ _ _ (.tail _ _ _ _ _ (Has.head _ _ _ _))))) (i := 4) rfl
  have c_gG_5 := M10.cell (.tail _ _ _ _ _ (.tail _ _ _ _ _ (.tail _ _ _ _ _ (.tail _ _ _ _ _ (Has.head _ _ _ _))))) (i := 5) rfl
  go_wp2_with fail
  refine (K5.out _ _ _ R1.out).mono ?_
  rintro e w11 ⟨a6, cap6, rfl, s6, hA⟩
  have M11 := M10.call hA
  clear c_gG_0 c_gG_1 c_gG_2 c_gG_3 c_gG_4 c_gG_5
  clear M10
  replace R1 := Lib.hid (R1.out.below hA)
  replace R2 := Lib.hid (R2.out.below hA)
  replace R3 := Lib.hid (R3.out.below hA)
  replace R4 := Lib.hid (R4.out.below hA)
  replace R5 := Lib.hid (R5.out.below hA)
  have R6 := Lib.hid s6
  clear s6
  clear hA
  obtain ⟨w12, hw12⟩ : ∃ wq, w11.alloc (.cells #[.int .i64 f1, .int .i64 f2, .int .i64 f3, .int .i64 f4, .int .i64 f5, .slice a6 m3 cap6] 24) = wq := ⟨_, rfl⟩
  have M12 := M11.alloc 24 [.int .i64 f1, .int .i64 f2, .int .i64 f3, .int .i64 f4, .int .i64 f5, .slice a6 m3 cap6]
  rw [show w11.alloc (.cells [Value.int .i64 f1, .int .i64 f2, .int .i64 f3, .int .i64 f4, .int .i64 f5, .slice a6 m3 cap6].toArray 24) = w12 from hw12] at M12
  have hA : Below w11.heap.size w11 w12 := by rw [← hw12]; exact (Below.refl _ _).alloc (Nat.le_refl _) _
  replace R1 := Lib.hid (R1.out.below hA)
  replace R2 := Lib.hid (R2.out.below hA)
  replace R3 := Lib.hid (R3.out.below hA)
  replace R4 := Lib.hid (R4.out.below hA)
  replace R5 := Lib.hid (R5.out.below hA)
  replace R6 := Lib.hid (R6.out.below hA)
  have HW12 := Lib.hid hw12
  clear hw12 hA M11
  go_upto_region 9 with fail
  rw [HW12.out]
  clear HW12
  obtain ⟨g5, hg5⟩ : ∃ g9, g9 = w11.heap.size := ⟨_, rfl⟩
  rw [← hg5] at M12 ⊢
  clear hg5
  have c_gG_0 := M12.cell (.tail _ _ _ _ _ (.tail _ _ _ _ _ (.tail _ _ _ _ _ (.tail _ _ _ _ _ (.tail _ _ _ _ _ (Has.head _ _ _ _)))))) (i := 0) rfl
  have c_gG_1 := M12.cell (.tail _ _ _ _ _ (.tail _ _ _ _ _ (.tail _ _ _ _ _ (.tail _ _ _ _ _ (.tail _ _ _ _ _ (Has.head _ _ _ _)))))) (i := 1) rfl
  have c_gG_2 := M12.cell (.tail _ _ _ _ _ (.tail _ _ _ _ _ (.tail _ _ _ _ _ (.tail _ _ _ _ _ (.tail _ _ _ _ _ (Has.head _ _ _ _)))))) (i := 2) rfl
  have c_gG_3 := M12.cell (.tail _ _ _ _ _ (.tail _ _ _ _ _ (.tail _ _ _ _ _ (.tail _ _ _ _ _ (.tail _ _ _ _ _ (Has.head _ _ _ _)))))) (i := 3) rfl
  have c_gG_4 := M12.cell (.tail _ _ _ _ _ (.tail _ _ _ _ _ (.tail _ _ _ _ _ (.tail _ _ _ _ _ (.tail _ _ _ _ _ (Has.head _ _ _ _)))))) (i := 4) rfl
  have c_gG_5 := M12.cell (.tail _ _ _ _ _ (.tail _ _ _ _ _ (.tail _ _ _ _ _ (.tail _ _ _ _ _ (.tail _ _ _ _ _ (Has.head _ _ _ _)))))) (i := 5) rfl
  go_wp2_with fail
  refine (K6.out _ _ _ R1.out).mono ?_
  rintro e w13 ⟨a7, cap7, rfl, s7, hA⟩
  have M13 := M12.call hA
  clear c_gG_0 c_gG_1 c_gG_2 c_gG_3 c_gG_4 c_gG_5
  clear M12
  replace R1 := Lib.hid (R1.out.below hA)
  replace R2 := Lib.hid (R2.out.below hA)
  replace R3 := Lib.hid (R3.out.below hA)
  replace R4 := Lib.hid (R4.out.below hA)
  replace R5 := Lib.hid (R5.out.below hA)
  replace R6 := Lib.hid (R6.out.below hA)
  have R7 := Lib.hid s7
  clear s7
  clear hA
  obtain ⟨w14, hw14⟩ : ∃ wq, w13.alloc (.cells #[.int .i64 f1, .int .i64 f2, .int .i64 f3, .int .i64 f4, .int .i64 f5, .slice a7 m3 cap7] 24) = wq := ⟨_, rfl⟩
  have M14 := M13.alloc 24 [.int .i64 f1, .int .i64 f2, .int .i64 f3, .int .i64 f4, .int .i64 f5, .slice a7 m3 cap7]
  rw [show w13.alloc (.cells [Value.int .i64 f1, .int .i64 f2, .int .i64 f3, .int .i64 f4, .int .i64 f5, .slice a7 m3 cap7].toArray 24) = w14 from hw14] at M14
  have hA : Below w13.heap.size w13 w14 := by rw [← hw14]; exact (Below.refl _ _).alloc (Nat.le_refl _) _
  replace R1 := Lib.hid (R1.out.below hA)
  replace R2 := Lib.hid (R2.out.below hA)
  replace R3 := Lib.hid (R3.out.below hA)
  replace R4 := Lib.hid (R4.out.below hA)
  replace R5 := Lib.hid (R5.out.below hA)
  replace R6 := Lib.hid (R6.out.below hA)
  replace R7 := Lib.hid (R7.out.below hA)
  have HW14 := Lib.hid hw14
  clear hw14 hA M13
  go_upto_region 10 with fail
  rw [HW14.out]
  clear HW14
  obtain ⟨g6, hg6⟩ : ∃ g9, g9 = w13.heap.size := ⟨_, rfl⟩
  rw [← hg6] at M14 ⊢
  clear hg6
  have c_gG_0 := M14.cell (.tail _ _ _ _ _ (.tail _ _ _ _ _ (.tail _ _ _ _ _ (.tail _ _ _ _ _ (.tail _ _ _ _ _ (.tail _ _ _ _ _ (Has.head _ _ _ _))))))) (i := 0) rfl
  have c_gG_1 := M14.cell (.tail _ _ _ _ _ (.tail _ _ _ _ _ (.tail _ _ _ _ _ (.tail _ _ _ _ _ (.tail _ _ _ _ _ (.tail _ _ _ _ _ (Has.head _ _ _ _))))))) (i := 1) rfl
  have c_gG_2 := M14.cell (.tail _ _ _ _ _ (.tail _ _ _ _ _ (.tail _ _ _ _ _ (.tail _ _ _ _ _ (.tail _ _ _ _ _ (.tail _ _ _ _ _ (Has.head _ _ _ _))))))) (i := 2) rfl
  have c_gG_3 := M14.cell (.tail _ _ _ _ _ (.tail _ _ _ _ _ (.tail _ _ _ _ _ (.tail _ _ _ _ _ (.tail _ _ _ _ _ (.tail _ _ _ _ _ (Has.head _ _ _ _))))))) (i := 3) rfl
  have c_gG_4 := M14.cell (.tail _ _ _ _ _ (.tail _ _ _ _ _ (.tail _ _ _ _ _ (.tail _ _ _ _ _ (.tail _ _ _ _ _ (.tail _ _ _ _ _ (Has.head _ _ _ _))))))) (i := 4) rfl
  have c_gG_5 := M14.cell (.tail _ _ _ _ _ (.tail _ _ _ _ _ (.tail _ _ _ _ _ (.tail _ _ _ _ _ (.tail _ _ _ _ _ (.tail _ _ _ _ _ (Has.head _ _ _ _))))))) (i := 5) rfl
  go_wp2_with fail
  refine (KA.out _ _ _).mono ?_
  rintro e w15 ⟨rfl, hA⟩
  have M15 := M14.call hA
  clear c_gG_0 c_gG_1 c_gG_2 c_gG_3 c_gG_4 c_gG_5
  clear M14
  replace R1 := Lib.hid (R1.out.below hA)
  replace R2 := Lib.hid (R2.out.below hA)
  replace R3 := Lib.hid (R3.out.below hA)
  replace R4 := Lib.hid (R4.out.below hA)
  replace R5 := Lib.hid (R5.out.below hA)
  replace R6 := Lib.hid (R6.out.below hA)
  replace R7 := Lib.hid (R7.out.below hA)
  clear hA
  obtain ⟨w16, hw16⟩ : ∃ wq, w15.alloc (.cells #[.int .i64 u, .int .i64 v] 51) = wq := ⟨_, rfl⟩
  have M16 := M15.alloc 51 [.int .i64 u, .int .i64 v]
  rw [show w15.alloc (.cells [Value.int .i64 u, .int .i64 v].toArray 51) = w16 from hw16] at M16
  have hA : Below w15.heap.size w15 w16 := by rw [← hw16]; exact (Below.refl _ _).alloc (Nat.le_refl _) _
  replace R1 := Lib.hid (R1.out.below hA)
  replace R2 := Lib.hid (R2.out.below hA)
  replace R3 := Lib.hid (R3.out.below hA)
  replace R4 := Lib.hid (R4.out.below hA)
  replace R5 := Lib.hid (R5.out.below hA)
  replace R6 := Lib.hid (R6.out.below hA)
  replace R7 := Lib.hid (R7.out.below hA)
  have HW16 := Lib.hid hw16
  clear hw16 hA M15
  go_upto_region 11 with fail
  rw [HW16.out]
  clear HW16
  obtain ⟨gP, hgP⟩ : ∃ g9, g9 = w15.heap.size := ⟨_, rfl⟩
  rw [← hgP] at M16 ⊢
  clear hgP
  have c_gG_0 := M16.cell (.tail _ _ _ _ _ (.tail _ _ _ _ _ (.tail _ _ _ _ _ (.tail _ _ _ _ _ (.tail _ _ _ _ _ (.tail _ _ _ _ _ (.tail _ _ _ _ _ (Has.head _ _ _ _)))))))) (i := 0) rfl
  have c_gG_1 := M16.cell (.tail _ _ _ _ _ (.tail _ _ _ _ _ (.tail _ _ _ _ _ (.tail _ _ _ _ _ (.tail _ _ _ _ _ (.tail _ _ _ _ _ (.tail _ _ _ _ _ (Has.head _ _ _ _)))))))) (i := 1) rfl
  have c_gG_2 := M16.cell (.tail _ _ _ _ _ (.tail _ _ _ _ _ (.tail _ _ _ _ _ (.tail _ _ _ _ _ (.tail _ _ _ _ _ (.tail _ _ _ _ _ (.tail _ _ _ _ _ (Has.head _ _ _ _)))))))) (i := 2) rfl
  have c_gG_3 := M16.cell (.tail _ _ _ _ _ (.tail _ _ _ _ _ (.tail _ _ _ _ _ (.tail _ _ _ _ _ (.tail _ _ _ _ _ (.tail _ _ _ _ _ (.tail _ _ _ _ _ (Has.head _ _ _ _)))))))) (i := 3) rfl
  have c_gG_4 := M16.cell (.tail _ _ _ _ _ (.tail _ _ _ _ _ (.tail _ _ _ _ _ (.tail _ _ _ _ _ (.tail _ _ _ _ _ (.tail _ _ _ _ _ (.tail _ _ _ _ _ (Has.head _ _ _ _)))))))) (i := 4) rfl
  have c_gG_5 := M16.cell (.tail _ _ _ _ _ (.tail _ _ _ _ _ (.tail _ _ _ _ _ (.tail _ _ _ _ _ (.tail _ _ _ _ _ (.tail _ _ _ _ _ (.tail _ _ _ _ _ (Has.head _ _ _ _)))))))) (i := 5) rfl
  have pp0 := M16.cell (Has.head _ _ _ _) (i := 0) rfl
  have pp1 := M16.cell (Has.head _ _ _ _) (i := 1) rfl
  by_cases hi2 : 0 ≤ i
  · have hi3 : ¬ (i < (n : Int)) := by omega
    go_wp2_with fail
    go_quiet (fail)
    have Md := M16.drewN nq
    replace R1 := Lib.hid (R1.out.below (below_dN (Below.refl w16.heap.size w16) nq))
    replace R2 := Lib.hid (R2.out.below (below_dN (Below.refl w16.heap.size w16) nq))
    replace R3 := Lib.hid (R3.out.below (below_dN (Below.refl w16.heap.size w16) nq))
    replace R4 := Lib.hid (R4.out.below (below_dN (Below.refl w16.heap.size w16) nq))
    replace R5 := Lib.hid (R5.out.below (below_dN (Below.refl w16.heap.size w16) nq))
    replace R6 := Lib.hid (R6.out.below (below_dN (Below.refl w16.heap.size w16) nq))
    replace R7 := Lib.hid (R7.out.below (below_dN (Below.refl w16.heap.size w16) nq))
    obtain ⟨wl, hwl⟩ : ∃ wl, wl = w16.drewN nq := ⟨_, rfl⟩
    rw [← hwl] at Md R1 R2 R3 R4 R5 R6 R7 ⊢
    clear hwl M16 c_gG_0 c_gG_1 c_gG_2 c_gG_3 c_gG_4 c_gG_5 pp0 pp1
    have M17 := Md
    clear Md
    have c_g1_0 := M17.cell (.tail _ _ _ _ _ (.tail _ _ _ _ _ (.tail _ _ _ _ _ (.tail _ _ _ _ _ (.tail _ _ _ _ _ (.tail _ _ _ _ _ (Has.head _ _ _ _))))))) (i := 0) rfl
    have c_g1_1 := M17.cell (.tail _ _ _ _ _ (.tail _ _ _ _ _ (.tail _ _ _ _ _ (.tail _ _ _ _ _ (.tail _ _ _ _ _ (.tail _ _ _ _ _ (Has.head _ _ _ _))))))) (i := 1) rfl
    have c_g1_2 := M17.cell (.tail _ _ _ _ _ (.tail _ _ _ _ _ (.tail _ _ _ _ _ (.tail _ _ _ _ _ (.tail _ _ _ _ _ (.tail _ _ _ _ _ (Has.head _ _ _ _))))))) (i := 2) rfl
    have c_g1_3 := M17.cell (.tail _ _ _ _ _ (.tail _ _ _ _ _ (.tail _ _ _ _ _ (.tail _ _ _ _ _ (.tail _ _ _ _ _ (.tail _ _ _ _ _ (Has.head _ _ _ _))))))) (i := 3) rfl
    have c_g1_4 := M17.cell (.tail _ _ _ _ _ (.tail _ _ _ _ _ (.tail _ _ _ _ _ (.tail _ _ _ _ _ (.tail _ _ _ _ _ (.tail _ _ _ _ _ (Has.head _ _ _ _))))))) (i := 4) rfl
    have c_g1_5 := M17.cell (.tail _ _ _ _ _ (.tail _ _ _ _ _ (.tail _ _ _ _ _ (.tail _ _ _ _ _ (.tail _ _ _ _ _ (.tail _ _ _ _ _ (Has.head _ _ _ _))))))) (i := 5) rfl
    have c_g2_0 := M17.cell (.tail _ _ _ _ _ (.tail _ _ _ _ _ (.tail _ _ _ _ _ (.tail _ _ _ _ _ (.tail _ _ _ _ _ (Has.head _ _ _ _)))))) (i := 0) rfl
    have c_g2_1 := M17.cell (.tail _ _ _ _ _ (.tail _ _ _ _ _ (.tail _ _ _ _ _ (.tail _ _ _ _ _ (.tail _ _ _ _ _ (Has.head _ _ _ _)))))) (i := 1) rfl
    have c_g2_2 := M17.cell (.tail _ _ _ _ _ (.tail _ _ _ _ _ (.tail _ _ _ _ _ (.tail _ _ _ _ _ (.tail _ _ _ _ _ (Has.head _ _ _ _)))))) (i := 2) rfl
    have c_g2_3 := M17.cell (.tail _ _ _ _ _ (.tail _ _ _ _ _ (.tail _ _ _ _ _ (.tail _ _ _ _ _ (.tail _ _ _ _ _ (Has.head _ _ _ _)))))) (i := 3) rfl
    have c_g2_4 := M17.cell (.tail _ _ _ _ _ (.tail _ _ _ _ _ (.tail _ _ _ _ _ (.tail _ _ _ _ _ (.tail _ _ _ _ _ (Has.head _ _ _ _)))))) (i := 4) rfl
    have c_g2_5 := M17.cell (.tail _ _ _ _ _ (.tail _ _ _ _ _ (.tail _ _ _ _ _ (.tail _ _ _ _ _ (.tail _ _ _ _ _ (Has.head _ _ _ _)))))) (i := 5) rfl
    go_wp2_with fail
    refine (S1.out _ _ _ _ _ R2.out R3.out).mono ?_
    rintro e w18 ⟨rfl, hA⟩
    have M18 := M17.call hA
    clear c_g1_0 c_g1_1 c_g1_2 c_g1_3 c_g1_4 c_g1_5 c_g2_0 c_g2_1 c_g2_2 c_g2_3 c_g2_4 c_g2_5
    clear M17
    replace R1 := Lib.hid (R1.out.below hA)
    replace R2 := Lib.hid (R2.out.below hA)
    replace R3 := Lib.hid (R3.out.below hA)
    replace R4 := Lib.hid (R4.out.below hA)
    replace R5 := Lib.hid (R5.out.below hA)
    replace R6 := Lib.hid (R6.out.below hA)
    replace R7 := Lib.hid (R7.out.below hA)
    clear hA
    have c_g3_0 := M18.cell (.tail _ _ _ _ _ (.tail _ _ _ _ _ (.tail _ _ _ _ _ (.tail _ _ _ _ _ (Has.head _ _ _ _))))) (i := 0) rfl
    have c_g3_1 := M18.cell (.tail _ _ _ _ _ (.tail _ _ _ _ _ (.tail _ _ _ _ _ (.tail _ _ _ _ _ (Has.head _ _ _ _))))) (i := 1) rfl
    have c_g3_2 := M18.cell (.tail _ _ _ _ _ (.tail _ _ _ _ _ (.tail _ _ _ _ _ (.tail _ _ _ _ _ (Has.head _ _ _ _))))) (i := 2) rfl
    have c_g3_3 := M18.cell (.tail _ _ _ _ _ (.tail _ _ _ _ _ (.tail _ _ _ _ _ (.tail _ _ _ _ _ (Has.head _ _ _ _))))) (i := 3) rfl
    have c_g3_4 := M18.cell (.tail _ _ _ _ _ (.tail _ _ _ _ _ (.tail _ _ _ _ _ (.tail _ _ _ _ _ (Has.head _ _ _ _))))) (i := 4) rfl
    have c_g3_5 := M18.cell (.tail _ _ _ _ _ (.tail _ _ _ _ _ (.tail _ _ _ _ _ (.tail _ _ _ _ _ (Has.head _ _ _ _))))) (i := 5) rfl
    have c_g4_0 := M18.cell (.tail _ _ _ _ _ (.tail _ _ _ _ _ (.tail _ _ _ _ _ (Has.head _ _ _ _)))) (i := 0) rfl
    have c_g4_1 := M18.cell (.tail _ _ _ _ _ (.tail _ _ _ _ _ (.tail _ _ _ _ _ (Has.head _ _ _ _)))) (i := 1) rfl
    have c_g4_2 := M18.cell (.tail _ _ _ _ _ (.tail _ _ _ _ _ (.tail _ _ _ _ _ (Has.head _ _ _ _)))) (i := 2) rfl
    have c_g4_3 := M18.cell (.tail _ _ _ _ _ (.tail _ _ _ _ _ (.tail _ _ _ _ _ (Has.head _ _ _ _)))) (i := 3) rfl
    have c_g4_4 := M18.cell (.tail _ _ _ _ _ (.tail _ _ _ _ _ (.tail _ _ _ _ _ (Has.head _ _ _ _)))) (i := 4) rfl
    have c_g4_5 := M18.cell (.tail _ _ _ _ _ (.tail _ _ _ _ _ (.tail _ _ _ _ _ (Has.head _ _ _ _)))) (i := 5) rfl
    go_wp2_with fail
    refine (S2.out _ _ _ _ _ R4.out R5.out).mono ?_
    rintro e w19 ⟨rfl, hA⟩
    have M19 := M18.call hA
    clear c_g3_0 c_g3_1 c_g3_2 c_g3_3 c_g3_4 c_g3_5 c_g4_0 c_g4_1 c_g4_2 c_g4_3 c_g4_4 c_g4_5
    clear M18
    replace R1 := Lib.hid (R1.out.below hA)
    replace R2 := Lib.hid (R2.out.below hA)
    replace R3 := Lib.hid (R3.out.below hA)
    replace R4 := Lib.hid (R4.out.below hA)
    replace R5 := Lib.hid (R5.out.below hA)
    replace R6 := Lib.hid (R6.out.below hA)
    replace R7 := Lib.hid (R7.out.below hA)
    clear hA
    have c_g5_0 := M19.cell (.tail _ _ _ _ _ (.tail _ _ _ _ _ (Has.head _ _ _ _))) (i := 0) rfl
    have c_g5_1 := M19.cell (.tail _ _ _ _ _ (.tail _ _ _ _ _ (Has.head _ _ _ _))) (i := 1) rfl
    have c_g5_2 := M19.cell (.tail _ _ _ _ _ (.tail _ _ _ _ _ (Has.head _ _ _ _))) (i := 2) rfl
    have c_g5_3 := M19.cell (.tail _ _ _ _ _ (.tail _ _ _ _ _ (Has.head _ _ _ _))) (i := 3) rfl
    have c_g5_4 := M19.cell (.tail _ _ _ _ _ (.tail _ _ _ _ _ (Has.head _ _ _ _))) (i := 4) rfl
    have c_g5_5 := M19.cell (.tail _ _ _ _ _ (.tail _ _ _ _ _ (Has.head _ _ _ _))) (i := 5) rfl
    have c_g6_0 := M19.cell (.tail _ _ _ _ _ (Has.head _ _ _ _)) (i := 0) rfl
    have c_g6_1 := M19.cell (.tail _ _ _ _ _ (Has.head _ _ _ _)) (i := 1) rfl
    have c_g6_2 := M19.cell (.tail _ _ _ _ _ (Has.head _ _ _ _)) (i := 2) rfl
    have c_g6_3 := M19.cell (.tail _ _ _ _ _ (Has.head _ _ _ _)) (i := 3) rfl
    have c_g6_4 := M19.cell (.tail _ _ _ _ _ (Has.head _ _ _ _)) (i := 4) rfl
    have c_g6_5 := M19.cell (.tail _ _ _ _ _ (Has.head _ _ _ _)) (i := 5) rfl
    go_wp2_with fail
    refine (S3.out _ _ _ _ _ R6.out R7.out).mono ?_
    rintro e w20 ⟨rfl, hA⟩
    have M20 := M19.call hA
    clear c_g5_0 c_g5_1 c_g5_2 c_g5_3 c_g5_4 c_g5_5 c_g6_0 c_g6_1 c_g6_2 c_g6_3 c_g6_4 c_g6_5
    clear M19
    replace R1 := Lib.hid (R1.out.below hA)
    replace R2 := Lib.hid (R2.out.below hA)
    replace R3 := Lib.hid (R3.out.below hA)
    replace R4 := Lib.hid (R4.out.below hA)
    replace R5 := Lib.hid (R5.out.below hA)
    replace R6 := Lib.hid (R6.out.below hA)
    replace R7 := Lib.hid (R7.out.below hA)
    clear hA
    go_wp2_with fail
    refine (C0.out _).mono ?_
    rintro e w21 ⟨rfl, hA⟩
    have M21 := M20.call hA
    clear M20
    replace R1 := Lib.hid (R1.out.below hA)
    replace R2 := Lib.hid (R2.out.below hA)
    replace R3 := Lib.hid (R3.out.below hA)
    replace R4 := Lib.hid (R4.out.below hA)
    replace R5 := Lib.hid (R5.out.below hA)
    replace R6 := Lib.hid (R6.out.below hA)
    replace R7 := Lib.hid (R7.out.below hA)
    clear hA
    go_wp2_with fail
    go_ret
    exact ⟨rfl, M21.below⟩
  · have hi3 : i < 0 := by omega
    go_wp2_with fail
    go_quiet (fail)
    have Md := M16.drewN nq
    replace R1 := Lib.hid (R1.out.below (below_dN (Below.refl w16.heap.size w16) nq))
    replace R2 := Lib.hid (R2.out.below (below_dN (Below.refl w16.heap.size w16) nq))
    replace R3 := Lib.hid (R3.out.below (below_dN (Below.refl w16.heap.size w16) nq))
    replace R4 := Lib.hid (R4.out.below (below_dN (Below.refl w16.heap.size w16) nq))
    replace R5 := Lib.hid (R5.out.below (below_dN (Below.refl w16.heap.size w16) nq))
    replace R6 := Lib.hid (R6.out.below (below_dN (Below.refl w16.heap.size w16) nq))
    replace R7 := Lib.hid (R7.out.below (below_dN (Below.refl w16.heap.size w16) nq))
    obtain ⟨wl, hwl⟩ : ∃ wl, wl = w16.drewN nq := ⟨_, rfl⟩
    rw [← hwl] at Md R1 R2 R3 R4 R5 R6 R7 ⊢
    clear hwl M16 c_gG_0 c_gG_1 c_gG_2 c_gG_3 c_gG_4 c_gG_5 pp0 pp1
    have M17 := Md
    clear Md
    have c_g1_0 := M17.cell (.tail _ _ _ _ _ (.tail _ _ _ _ _ (.tail _ _ _ _ _ (.tail _ _ _ _ _ (.tail _ _ _ _ _ (.tail _ _ _ _ _ (Has.head _ _ _ _))))))) (i := 0) rfl
    have c_g1_1 := M17.cell (.tail _ _ _ _ _ (.tail _ _ _ _ _ (.tail _ _ _ _ _ (.tail _ _ _ _ _ (.tail _ _ _ _ _ (.tail _ _ _ _ _ (Has.head _ _ _ _))))))) (i := 1) rfl
    have c_g1_2 := M17.cell (.tail _ _ _ _ _ (.tail _ _ _ _ _ (.tail _ _ _ _ _ (.tail _ _ _ _ _ (.tail _ _ _ _ _ (.tail _ _ _ _ _ (Has.head _ _ _ _))))))) (i := 2) rfl
    have c_g1_3 := M17.cell (.tail _ _ _ _ _ (.tail _ _ _ _ _ (.tail _ _ _ _ _ (.tail _ _ _ _ _ (.tail _ _ _ _ _ (.tail _ _ _ _ _ (Has.head _ _ _ _))))))) (i := 3) rfl
    have c_g1_4 := M17.cell (.tail _ _ _ _ _ (.tail _ _ _ _ _ (.tail _ _ _ _ _ (.tail _ _ _ _ _ (.tail _ _ _ _ _ (.tail _ _ _ _ _ (Has.head _ _ _ _))))))) (i := 4) rfl
    have c_g1_5 := M17.cell (.tail _ _ _ _ _ (.tail _ _ _ _ _ (.tail _ _ _ _ _ (.tail _ _ _ _ _ (.tail _ _ _ _ _ (.tail _ _ _ _ _ (Has.head _ _ _ _))))))) (i := 5) rfl
    have c_g2_0 := M17.cell (.tail _ _ _ _ _ (.tail _ _ _ _ _ (.tail _ _ _ _ _ (.tail _ _ _ _ _ (.tail _ _ _ _ _ (Has.head _ _ _ _)))))) (i := 0) rfl
    have c_g2_1 := M17.cell (.tail _ _ _ _ _ (.tail _ _ _ _ _ (.tail _ _ _ _ _ (.tail _ _ _ _ _ (.tail _ _ _ _ _ (Has.head _ _ _ _)))))) (i := 1) rfl
    have c_g2_2 := M17.cell (.tail _ _ _ _ _ (.tail _ _ _ _ _ (.tail _ _ _ _ _ (.tail _ _ _ _ _ (.tail _ _ _ _ _ (Has.head _ _ _ _)))))) (i := 2) rfl
    have c_g2_3 := M17.cell (.tail _ _ _ _ _ (.tail _ _ _ _ _ (.tail _ _ _ _ _ (.tail _ _ _ _ _ (.tail _ _ _ _ _ (Has.head _ _ _ _)))))) (i := 3) rfl
    have c_g2_4 := M17.cell (.tail _ _ _ _ _ (.tail _ _ _ _ _ (.tail _ _ _ _ _ (.tail _ _ _ _ _ (.tail _ _ _ _ _ (Has.head _ _ _ _)))))) (i := 4) rfl
    have c_g2_5 := M17.cell (.tail _ _ _ _ _ (.tail _ _ _ _ _ (.tail _ _ _ _ _ (.tail _ _ _ _ _ (.tail _ _ _ _ _ (Has.head _ _ _ _)))))) (i := 5) rfl
    go_wp2_with fail
    refine (S1.out _ _ _ _ _ R2.out R3.out).mono ?_
    rintro e w18 ⟨rfl, hA⟩
    have M18 := M17.call hA
    clear c_g1_0 c_g1_1 c_g1_2 c_g1_3 c_g1_4 c_g1_5 c_g2_0 c_g2_1 c_g2_2 c_g2_3 c_g2_4 c_g2_5
    clear M17
    replace R1 := Lib.hid (R1.out.below hA)
    replace R2 := Lib.hid (R2.out.below hA)
    replace R3 := Lib.hid (R3.out.below hA)
    replace R4 := Lib.hid (R4.out.below hA)
    replace R5 := Lib.hid (R5.out.below hA)
    replace R6 := Lib.hid (R6.out.below hA)
    replace R7 := Lib.hid (R7.out.below hA)
    clear hA
    have c_g3_0 := M18.cell (.tail _ _ _ _ _ (.tail _ _ _ _ _ (.tail _ _ _ _ _ (.tail _ _ _ _ _ (Has.head _ _ _ _))))) (i := 0) rfl
    have c_g3_1 := M18.cell (.tail _ _ _ _ _ (.tail _ _ _ _ _ (.tail _ _ _ _ _ (.tail _ _ _ _ _ (Has.head _ _ _ _))))) (i := 1) rfl
    have c_g3_2 := M18.cell (.tail _ _ _ _ _ (.tail _ _ _ _ _ (.tail _ _ _ _ _ (.tail _ _ _ _ _ (Has.head _ _ _ _))))) (i := 2) rfl
    have c_g3_3 := M18.cell (.tail _ _ _ _ _ (.tail _ _ _ _ _ (.tail _ _ _ _ _ (.tail _ _ _ _ _ (Has.head _ _ _ _))))) (i := 3) rfl
    have c_g3_4 := M18.cell (.tail _ _ _ _ _ (.tail _ _ _ _ _ (.tail _ _ _ _ _ (.tail _ _ _ _ _ (Has.head _ _ _ _))))) (i := 4) rfl
    have c_g3_5 := M18.cell (.tail _ _ _ _ _ (.tail _ _ _ _ _ (.tail _ _ _ _ _ (.tail _ _ _ _ _ (Has.head _ _ _ _))))) (i := 5) rfl
    have c_g4_0 := M18.cell (.tail _ _ _ _ _ (.tail _ _ _ _ _ (.tail _ _ _ _ _ (Has.head _ _ _ _)))) (i := 0) rfl
    have c_g4_1 := M18.cell (.tail _ _ _ _ _ (.tail _ _ _ _ _ (.tail _ _ _ _ _ (Has.head _ _ _ _)))) (i := 1) rfl
    have c_g4_2 := M18.cell (.tail _ _ _ _ _ (.tail _ _ _ _ _ (.tail _ _ _ _ _ (Has.head _ _ _ _)))) (i := 2) rfl
    have c_g4_3 := M18.cell (.tail _ _ _ _ _ (.tail _ _ _ _ _ (.tail _ _ _ _ _ (Has.head _ _ _ _)))) (i := 3) rfl
    have c_g4_4 := M18.cell (.tail _ _ _ _ _ (.tail _ _ _ _ _ (.tail _ _ _ _ _ (Has.head _ _ _ _)))) (i := 4) rfl
    have c_g4_5 := M18.cell (.tail _ _ _ _ _ (.tail _ _ _ _ _ (.tail _ _ _ _ _ (Has.head _ _ _ _)))) (i := 5) rfl
    go_wp2_with fail
    refine (S2.out _ _ _ _ _ R4.out R5.out).mono ?_
    rintro e w19 ⟨rfl, hA⟩
    have M19 := M18.call hA
    clear c_g3_0 c_g3_1 c_g3_2 c_g3_3 c_g3_4 c_g3_5 c_g4_0 c_g4_1 c_g4_2 c_g4_3 c_g4_4 c_g4_5
    clear M18
    replace R1 := Lib.hid (R1.out.below hA)
    replace R2 := Lib.hid (R2.out.below hA)
    replace R3 := Lib.hid (R3.out.below hA)
    replace R4 := Lib.hid (R4.out.below hA)
    replace R5 := Lib.hid (R5.out.below hA)
    replace R6 := Lib.hid (R6.out.below hA)
    replace R7 := Lib.hid (R7.out.below hA)
    clear hA
    have c_g5_0 := M19.cell (.tail _ _ _ _ _ (.tail _ _ _ _ _ (Has.head _ _ _ _))) (i := 0) rfl
    have c_g5_1 := M19.cell (.tail _ _ _ _ _ (.tail _ _ _ _ _ (Has.head _ _ _ _))) (i := 1) rfl
    have c_g5_2 := M19.cell (.tail _ _ _ _ _ (.tail _ _ _ _ _ (Has.head _ _ _ _))) (i := 2) rfl
    have c_g5_3 := M19.cell (.tail _ _ _ _ _ (.tail _ _ _ _ _ (Has.head _ _ _ _))) (i := 3) rfl
    have c_g5_4 := M19.cell (.tail _ _ _ _ _ (.tail _ _ _ _ _ (Has.head _ _ _ _))) (i := 4) rfl
    have c_g5_5 := M19.cell (.tail _ _ _ _ _ (.tail _ _ _ _ _ (Has.head _ _ _ _))) (i := 5) rfl
    have c_g6_0 := M19.cell (.tail _ _ _ _ _ (Has.head _ _ _ _)) (i := 0) rfl
    have c_g6_1 := M19.cell (.tail _ _ _ _ _ (Has.head _ _ _ _)) (i := 1) rfl
    have c_g6_2 := M19.cell (.tail _ _ _ _ _ (Has.head _ _ _ _)) (i := 2) rfl
    have c_g6_3 := M19.cell (.tail _ _ _ _ _ (Has.head _ _ _ _)) (i := 3) rfl
    have c_g6_4 := M19.cell (.tail _ _ _ _ _ (Has.head _ _ _ _)) (i := 4) rfl
    have c_g6_5 := M19.cell (.tail _ _ _ _ _ (Has.head _ _ _ _)) (i := 5) rfl
    go_wp2_with fail
    refine (S3.out _ _ _ _ _ R6.out R7.out).mono ?_
    rintro e w20 ⟨rfl, hA⟩
    have M20 := M19.call hA
    clear c_g5_0 c_g5_1 c_g5_2 c_g5_3 c_g5_4 c_g5_5 c_g6_0 c_g6_1 c_g6_2 c_g6_3 c_g6_4 c_g6_5
    clear M19
    replace R1 := Lib.hid (R1.out.below hA)
    replace R2 := Lib.hid (R2.out.below hA)
    replace R3 := Lib.hid (R3.out.below hA)
    replace R4 := Lib.hid (R4.out.below hA)
    replace R5 := Lib.hid (R5.out.below hA)
    replace R6 := Lib.hid (R6.out.below hA)
    replace R7 := Lib.hid (R7.out.below hA)
    clear hA
    go_wp2_with fail
    refine (C0.out _).mono ?_
    rintro e w21 ⟨rfl, hA⟩
    have M21 := M20.call hA
    clear M20
    replace R1 := Lib.hid (R1.out.below hA)
    replace R2 := Lib.hid (R2.out.below hA)
    replace R3 := Lib.hid (R3.out.below hA)
    replace R4 := Lib.hid (R4.out.below hA)
    replace R5 := Lib.hid (R5.out.below hA)
    replace R6 := Lib.hid (R6.out.below hA)
    replace R7 := Lib.hid (R7.out.below hA)
    clear hA
    go_wp2_with fail
    go_ret
    exact ⟨rfl, M21.below⟩

set_option maxRecDepth 100000 in
set_option maxHeartbeats 6400000 in
theorem cuts_in (p q st x y S n m1 m2 m3 k capl : Nat) (al : Option Addr) (z G L1 L2 L3 : List Int) (cx cy cw ch i d1 d2 d3 d4 d5 e1 e2 e3 e4 e5 f1 f2 f3 f4 f5 c1 c2 c3 u v : Int) (hk : ¬ ((100 : Int) < (k : Int))) (hn : n ≤ 64) (hx1 : 1 ≤ x) (hx : x ≤ 8) (hSb : S ≤ 4096) (CM : ∀ w, Sl w 1 (.slice al k capl) k (u16s z) → Calls Try.prog 16 #[.int .u8 p, .int .u8 q, .slice al k capl, .int .u8 st] w fun e w' => ∃ a cap, e = .returned (gv x y 1000 (-1000) S (.slice a n cap)) ∧ Sl w' 1 (.slice a n cap) n (i64s G) ∧ Below w.heap.size w w')
    (K1 : ∀ a cap w, Sl w 1 (.slice a n cap) n (i64s G) → Calls Try.prog 25 #[gv x y 1000 (-1000) S (.slice a n cap), .int .i64 cx, .int .i64 cy, .int .i64 cw, .int .i64 ch] w (GSaid d1 d2 d3 d4 d5 m1 L1 c1 w))
    (K2 : ∀ a cap w, Sl w 1 (.slice a n cap) n (i64s G) → Calls Try.prog 26 #[gv x y 1000 (-1000) S (.slice a n cap), .int .i64 cx, .int .i64 cy, .int .i64 cw, .int .i64 ch] w (GSaid d1 d2 d3 d4 d5 m1 L1 c1 w))
    (K3 : ∀ a cap w, Sl w 1 (.slice a n cap) n (i64s G) → Calls Try.prog 27 #[gv x y 1000 (-1000) S (.slice a n cap)] w (GSaid e1 e2 e3 e4 e5 m2 L2 c2 w))
    (K4 : ∀ a cap w, Sl w 1 (.slice a n cap) n (i64s G) → Calls Try.prog 28 #[gv x y 1000 (-1000) S (.slice a n cap)] w (GSaid e1 e2 e3 e4 e5 m2 L2 c2 w))
    (K5 : ∀ a cap w, Sl w 1 (.slice a n cap) n (i64s G) → Calls Try.prog 29 #[gv x y 1000 (-1000) S (.slice a n cap)] w (GSaid f1 f2 f3 f4 f5 m3 L3 c3 w))
    (K6 : ∀ a cap w, Sl w 1 (.slice a n cap) n (i64s G) → Calls Try.prog 30 #[gv x y 1000 (-1000) S (.slice a n cap)] w (GSaid f1 f2 f3 f4 f5 m3 L3 c3 w))
    (S1 : ∀ a ca b cb w, Sl w 1 (.slice a m1 ca) m1 (i64s L1) → Sl w 1 (.slice b m1 cb) m1 (i64s L1) → Calls Try.prog 13 #[gv d1 d2 d3 d4 d5 (.slice a m1 ca), gv d1 d2 d3 d4 d5 (.slice b m1 cb)] w fun e w' => e = .returned (.bool true) ∧ Below w.heap.size w w') (S2 : ∀ a ca b cb w, Sl w 1 (.slice a m2 ca) m2 (i64s L2) → Sl w 1 (.slice b m2 cb) m2 (i64s L2) → Calls Try.prog 13 #[gv e1 e2 e3 e4 e5 (.slice a m2 ca), gv e1 e2 e3 e4 e5 (.slice b m2 cb)] w fun e w' => e = .returned (.bool true) ∧ Below w.heap.size w w') (S3 : ∀ a ca b cb w, Sl w 1 (.slice a m3 ca) m3 (i64s L3) → Sl w 1 (.slice b m3 cb) m3 (i64s L3) → Calls Try.prog 13 #[gv f1 f2 f3 f4 f5 (.slice a m3 ca), gv f1 f2 f3 f4 f5 (.slice b m3 cb)] w fun e w' => e = .returned (.bool true) ∧ Below w.heap.size w w')
    (KA : ∀ a cap, Ans 31 #[gv x y 1000 (-1000) S (.slice a n cap), .int .i64 i] (.tuple #[.agg #[.int .i64 u, .int .i64 v], .bool true]))
    (hi : 0 ≤ i ∧ i < (n : Int)) (hu : 1000 + ((i.toNat % x : Nat) : Int) * (S : Int) = u) (hv : -1000 + ((i.toNat / x : Nat) : Int) * (S : Int) = v)
    (C0 : Ans 8 #[] (.bool true)) (w : World) (hT : Sl w 1 (.slice al k capl) k (u16s z)) :
    Calls Try.prog 6 #[.int .u8 p, .int .u8 q, .slice al k capl, .int .u8 st, .int .i64 cx, .int .i64 cy, .int .i64 cw, .int .i64 ch, .int .i64 i] w fun e w' => e = .returned (.bool true) ∧ Below w.heap.size w w' := by
  have M0 := Mem.start w
  have hmy := hT.max
  have CM := Lib.hid CM
  have K1 := Lib.hid K1
  have K2 := Lib.hid K2
  have K3 := Lib.hid K3
  have K4 := Lib.hid K4
  have K5 := Lib.hid K5
  have K6 := Lib.hid K6
  have S1 := Lib.hid S1
  have S2 := Lib.hid S2
  have S3 := Lib.hid S3
  have KA := Lib.hid KA
  have C0 := Lib.hid C0
  have hT := Lib.hid hT
  have b1 : (c1 == c1) = true := by simp
  have b2 : (c2 == c2) = true := by simp
  have b3 : (c3 == c3) = true := by simp
  obtain ⟨hi0, hi1⟩ := hi
  obtain ⟨j, rfl⟩ := Int.eq_ofNat_of_zero_le hi0
  rw [Int.toNat_natCast] at hu hv
  have em : (j : Int) % (x : Int) = ((j % x : Nat) : Int) := by simp
  have ed : (j : Int) / (x : Int) = ((j / x : Nat) : Int) := by simp
  have hm1 : j % x < x := Nat.mod_lt _ (by omega)
  have hd1 : j / x ≤ j := Nat.div_le_self _ _
  obtain ⟨km, hkm⟩ : ∃ km, km = j % x := ⟨_, rfl⟩
  obtain ⟨kd, hkd⟩ : ∃ kd, kd = j / x := ⟨_, rfl⟩
  rw [← hkm] at hu hm1 em
  rw [← hkd] at hv hd1 ed
  have emt : (j : Int).tmod (x : Int) = (km : Int) := by rw [Int.tmod_eq_emod_of_nonneg (by omega)]; exact em
  have edt : (j : Int).tdiv (x : Int) = (kd : Int) := by rw [Int.tdiv_eq_ediv_of_nonneg (by omega)]; exact ed
  have q1 : km * S ≤ 64 * 4096 := Nat.mul_le_mul (by omega) hSb
  have q2 : kd * S ≤ 64 * 4096 := Nat.mul_le_mul (by omega) hSb
  obtain ⟨pm, hpm⟩ : ∃ pm, pm = km * S := ⟨_, rfl⟩
  obtain ⟨pd, hpd⟩ : ∃ pd, pd = kd * S := ⟨_, rfl⟩
  have n1 : (km : Int) * (S : Int) = (pm : Int) := by rw [hpm]; simp
  have n2 : (kd : Int) * (S : Int) = (pd : Int) := by rw [hpd]; simp
  rw [← hpm] at q1
  rw [← hpd] at q2
  rw [n1] at hu
  rw [n2] at hv
  have wm : IntKind.i64.wrap (pm : Int) = (pm : Int) := IntWalk.i64_in _ (by omega)
  have wd : IntKind.i64.wrap (pd : Int) = (pd : Int) := IntWalk.i64_in _ (by omega)
  have wkm : IntKind.i64.wrap (km : Int) = (km : Int) := IntWalk.i64_in _ (by omega)
  have wkd : IntKind.i64.wrap (kd : Int) = (kd : Int) := IntWalk.i64_in _ (by omega)
  have wkd2 : wrap64 (kd : Int) = (kd : Int) := IntWalk.wrap64_in _ (by omega)
  have wu : IntKind.i64.wrap u = u := IntWalk.i64_in _ (by omega)
  have wv : IntKind.i64.wrap v = v := IntWalk.i64_in _ (by omega)
  have bu : (u != u) = false := by simp
  have bv : (v != v) = false := by simp
  have hx0 : ¬ (x = 0) := by omega
  have hj1 : ¬ ((j : Int) < 0) := by omega
  clear hkm hkd hpm hpd
  have HARI := Lib.hid (And.intro em (And.intro ed (And.intro emt (And.intro edt (And.intro n1 (And.intro n2 (And.intro hu hv)))))))
  clear em ed emt edt n1 n2 hu hv
  go_enter Try.func6, Try.ntmps6
  go_wp2_with fail
  refine (CM.out _ hT.out).mono ?_
  rintro e w1 ⟨a1, cap1, rfl, s1, hA⟩
  have M1 := M0.call hA
  clear M0
  have R1 := Lib.hid s1
  clear s1
  clear hA
  obtain ⟨w2, hw2⟩ : ∃ wq, w1.alloc (.cells #[.int .i64 x, .int .i64 y, .int .i64 1000, .int .i64 (-1000), .int .i64 S, .slice a1 n cap1] 24) = wq := ⟨_, rfl⟩
  have M2 := M1.alloc 24 [.int .i64 x, .int .i64 y, .int .i64 1000, .int .i64 (-1000), .int .i64 S, .slice a1 n cap1]
  rw [show w1.alloc (.cells [Value.int .i64 x, .int .i64 y, .int .i64 1000, .int .i64 (-1000), .int .i64 S, .slice a1 n cap1].toArray 24) = w2 from hw2] at M2
  have hA : Below w1.heap.size w1 w2 := by rw [← hw2]; exact (Below.refl _ _).alloc (Nat.le_refl _) _
  replace R1 := Lib.hid (R1.out.below hA)
  have HW2 := Lib.hid hw2
  clear hw2 hA M1
  go_upto_region 4 with fail
  rw [HW2.out]
  clear HW2
  obtain ⟨gG, hgG⟩ : ∃ g9, g9 = w1.heap.size := ⟨_, rfl⟩
  rw [← hgG] at M2 ⊢
  clear hgG
  have c_gG_0 := M2.cell (Has.head _ _ _ _) (i := 0) rfl
  have c_gG_1 := M2.cell (Has.head _ _ _ _) (i := 1) rfl
  have c_gG_2 := M2.cell (Has.head _ _ _ _) (i := 2) rfl
  have c_gG_3 := M2.cell (Has.head _ _ _ _) (i := 3) rfl
  have c_gG_4 := M2.cell (Has.head _ _ _ _) (i := 4) rfl
  have c_gG_5 := M2.cell (Has.head _ _ _ _) (i := 5) rfl
  go_wp2_with fail
  refine (K1.out _ _ _ R1.out).mono ?_
  rintro e w3 ⟨a2, cap2, rfl, s2, hA⟩
  have M3 := M2.call hA
  clear c_gG_0 c_gG_1 c_gG_2 c_gG_3 c_gG_4 c_gG_5
  clear M2
  replace R1 := Lib.hid (R1.out.below hA)
  have R2 := Lib.hid s2
  clear s2
  clear hA
  obtain ⟨w4, hw4⟩ : ∃ wq, w3.alloc (.cells #[.int .i64 d1, .int .i64 d2, .int .i64 d3, .int .i64 d4, .int .i64 d5, .slice a2 m1 cap2] 24) = wq := ⟨_, rfl⟩
  have M4 := M3.alloc 24 [.int .i64 d1, .int .i64 d2, .int .i64 d3, .int .i64 d4, .int .i64 d5, .slice a2 m1 cap2]
  rw [show w3.alloc (.cells [Value.int .i64 d1, .int .i64 d2, .int .i64 d3, .int .i64 d4, .int .i64 d5, .slice a2 m1 cap2].toArray 24) = w4 from hw4] at M4
  have hA : Below w3.heap.size w3 w4 := by rw [← hw4]; exact (Below.refl _ _).alloc (Nat.le_refl _) _
  replace R1 := Lib.hid (R1.out.below hA)
  replace R2 := Lib.hid (R2.out.below hA)
  have HW4 := Lib.hid hw4
  clear hw4 hA M3
  go_upto_region 5 with fail
  rw [HW4.out]
  clear HW4
  obtain ⟨g1, hg1⟩ : ∃ g9, g9 = w3.heap.size := ⟨_, rfl⟩
  rw [← hg1] at M4 ⊢
  clear hg1
  have c_gG_0 := M4.cell (.tail _ _ _ _ _ (Has.head _ _ _ _)) (i := 0) rfl
  have c_gG_1 := M4.cell (.tail _ _ _ _ _ (Has.head _ _ _ _)) (i := 1) rfl
  have c_gG_2 := M4.cell (.tail _ _ _ _ _ (Has.head _ _ _ _)) (i := 2) rfl
  have c_gG_3 := M4.cell (.tail _ _ _ _ _ (Has.head _ _ _ _)) (i := 3) rfl
  have c_gG_4 := M4.cell (.tail _ _ _ _ _ (Has.head _ _ _ _)) (i := 4) rfl
  have c_gG_5 := M4.cell (.tail _ _ _ _ _ (Has.head _ _ _ _)) (i := 5) rfl
  go_wp2_with fail
  refine (K2.out _ _ _ R1.out).mono ?_
  rintro e w5 ⟨a3, cap3, rfl, s3, hA⟩
  have M5 := M4.call hA
  clear c_gG_0 c_gG_1 c_gG_2 c_gG_3 c_gG_4 c_gG_5
  clear M4
  replace R1 := Lib.hid (R1.out.below hA)
  replace R2 := Lib.hid (R2.out.below hA)
  have R3 := Lib.hid s3
  clear s3
  clear hA
  obtain ⟨w6, hw6⟩ : ∃ wq, w5.alloc (.cells #[.int .i64 d1, .int .i64 d2, .int .i64 d3, .int .i64 d4, .int .i64 d5, .slice a3 m1 cap3] 24) = wq := ⟨_, rfl⟩
  have M6 := M5.alloc 24 [.int .i64 d1, .int .i64 d2, .int .i64 d3, .int .i64 d4, .int .i64 d5, .slice a3 m1 cap3]
  rw [show w5.alloc (.cells [Value.int .i64 d1, .int .i64 d2, .int .i64 d3, .int .i64 d4, .int .i64 d5, .slice a3 m1 cap3].toArray 24) = w6 from hw6] at M6
  have hA : Below w5.heap.size w5 w6 := by rw [← hw6]; exact (Below.refl _ _).alloc (Nat.le_refl _) _
  replace R1 := Lib.hid (R1.out.below hA)
  replace R2 := Lib.hid (R2.out.below hA)
  replace R3 := Lib.hid (R3.out.below hA)
  have HW6 := Lib.hid hw6
  clear hw6 hA M5
  go_upto_region 6 with fail
  rw [HW6.out]
  clear HW6
  obtain ⟨g2, hg2⟩ : ∃ g9, g9 = w5.heap.size := ⟨_, rfl⟩
  rw [← hg2] at M6 ⊢
  clear hg2
  have c_gG_0 := M6.cell (.tail _ _ _ _ _ (.tail _ _ _ _ _ (Has.head _ _ _ _))) (i := 0) rfl
  have c_gG_1 := M6.cell (.tail _ _ _ _ _ (.tail _ _ _ _ _ (Has.head _ _ _ _))) (i := 1) rfl
  have c_gG_2 := M6.cell (.tail _ _ _ _ _ (.tail _ _ _ _ _ (Has.head _ _ _ _))) (i := 2) rfl
  have c_gG_3 := M6.cell (.tail _ _ _ _ _ (.tail _ _ _ _ _ (Has.head _ _ _ _))) (i := 3) rfl
  have c_gG_4 := M6.cell (.tail _ _ _ _ _ (.tail _ _ _ _ _ (Has.head _ _ _ _))) (i := 4) rfl
  have c_gG_5 := M6.cell (.tail _ _ _ _ _ (.tail _ _ _ _ _ (Has.head _ _ _ _))) (i := 5) rfl
  go_wp2_with fail
  refine (K3.out _ _ _ R1.out).mono ?_
  rintro e w7 ⟨a4, cap4, rfl, s4, hA⟩
  have M7 := M6.call hA
  clear c_gG_0 c_gG_1 c_gG_2 c_gG_3 c_gG_4 c_gG_5
  clear M6
  replace R1 := Lib.hid (R1.out.below hA)
  replace R2 := Lib.hid (R2.out.below hA)
  replace R3 := Lib.hid (R3.out.below hA)
  have R4 := Lib.hid s4
  clear s4
  clear hA
  obtain ⟨w8, hw8⟩ : ∃ wq, w7.alloc (.cells #[.int .i64 e1, .int .i64 e2, .int .i64 e3, .int .i64 e4, .int .i64 e5, .slice a4 m2 cap4] 24) = wq := ⟨_, rfl⟩
  have M8 := M7.alloc 24 [.int .i64 e1, .int .i64 e2, .int .i64 e3, .int .i64 e4, .int .i64 e5, .slice a4 m2 cap4]
  rw [show w7.alloc (.cells [Value.int .i64 e1, .int .i64 e2, .int .i64 e3, .int .i64 e4, .int .i64 e5, .slice a4 m2 cap4].toArray 24) = w8 from hw8] at M8
  have hA : Below w7.heap.size w7 w8 := by rw [← hw8]; exact (Below.refl _ _).alloc (Nat.le_refl _) _
  replace R1 := Lib.hid (R1.out.below hA)
  replace R2 := Lib.hid (R2.out.below hA)
  replace R3 := Lib.hid (R3.out.below hA)
  replace R4 := Lib.hid (R4.out.below hA)
  have HW8 := Lib.hid hw8
  clear hw8 hA M7
  go_upto_region 7 with fail
  rw [HW8.out]
  clear HW8
  obtain ⟨g3, hg3⟩ : ∃ g9, g9 = w7.heap.size := ⟨_, rfl⟩
  rw [← hg3] at M8 ⊢
  clear hg3
  have c_gG_0 := M8.cell (.tail _ _ _ _ _ (.tail _ _ _ _ _ (.tail _ _ _ _ _ (Has.head _ _ _ _)))) (i := 0) rfl
  have c_gG_1 := M8.cell (.tail _ _ _ _ _ (.tail _ _ _ _ _ (.tail _ _ _ _ _ (Has.head _ _ _ _)))) (i := 1) rfl
  have c_gG_2 := M8.cell (.tail _ _ _ _ _ (.tail _ _ _ _ _ (.tail _ _ _ _ _ (Has.head _ _ _ _)))) (i := 2) rfl
  have c_gG_3 := M8.cell (.tail _ _ _ _ _ (.tail _ _ _ _ _ (.tail _ _ _ _ _ (Has.head _ _ _ _)))) (i := 3) rfl
  have c_gG_4 := M8.cell (.tail _ _ _ _ _ (.tail _ _ _ _ _ (.tail _ _ _ _ _ (Has.head _ _ _ _)))) (i := 4) rfl
  have c_gG_5 := M8.cell (.tail _ _ _ _ _ (.tail _ _ _ _ _ (.tail _ _ _ _ _ (Has.head _ _ _ _)))) (i := 5) rfl
  go_wp2_with fail
  refine (K4.out _ _ _ R1.out).mono ?_
  rintro e w9 ⟨a5, cap5, rfl, s5, hA⟩
  have M9 := M8.call hA
  clear c_gG_0 c_gG_1 c_gG_2 c_gG_3 c_gG_4 c_gG_5
  clear M8
  replace R1 := Lib.hid (R1.out.below hA)
  replace R2 := Lib.hid (R2.out.below hA)
  replace R3 := Lib.hid (R3.out.below hA)
  replace R4 := Lib.hid (R4.out.below hA)
  have R5 := Lib.hid s5
  clear s5
  clear hA
  obtain ⟨w10, hw10⟩ : ∃ wq, w9.alloc (.cells #[.int .i64 e1, .int .i64 e2, .int .i64 e3, .int .i64 e4, .int .i64 e5, .slice a5 m2 cap5] 24) = wq := ⟨_, rfl⟩
  have M10 := M9.alloc 24 [.int .i64 e1, .int .i64 e2, .int .i64 e3, .int .i64 e4, .int .i64 e5, .slice a5 m2 cap5]
  rw [show w9.alloc (.cells [Value.int .i64 e1, .int .i64 e2, .int .i64 e3, .int .i64 e4, .int .i64 e5, .slice a5 m2 cap5].toArray 24) = w10 from hw10] at M10
  have hA : Below w9.heap.size w9 w10 := by rw [← hw10]; exact (Below.refl _ _).alloc (Nat.le_refl _) _
  replace R1 := Lib.hid (R1.out.below hA)
  replace R2 := Lib.hid (R2.out.below hA)
  replace R3 := Lib.hid (R3.out.below hA)
  replace R4 := Lib.hid (R4.out.below hA)
  replace R5 := Lib.hid (R5.out.below hA)
  have HW10 := Lib.hid hw10
  clear hw10 hA M9
  go_upto_region 8 with fail
  rw [HW10.out]
  clear HW10
  obtain ⟨g4, hg4⟩ : ∃ g9, g9 = w9.heap.size := ⟨_, rfl⟩
  rw [← hg4] at M10 ⊢
  clear hg4
  have c_gG_0 := M10.cell (.tail _ _ _ _ _ (.tail _ _ _ _ _ (.tail _ _ _ _ _ (.tail _ _ _ _ _ (Has.head _ _ _ _))))) (i := 0) rfl
  have c_gG_1 := M10.cell (.tail _ _ _ _ _ (.tail _ _ _ _ _ (.tail _ _ _ _ _ (.tail _ _ _ _ _ (Has.head _ _ _ _))))) (i := 1) rfl
  have c_gG_2 := M10.cell (.tail _ _ _ _ _ (.tail _ _ _ _ _ (.tail _ _ _ _ _ (.tail _ _ _ _ _ (Has.head _ _ _ _))))) (i := 2) rfl
  have c_gG_3 := M10.cell (.tail _ _ _ _ _ (.tail _ _ _ _ _ (.tail _ _ _ _ _ (.tail _ _ _ _ _ (Has.head _ _ _ _))))) (i := 3) rfl
  have c_gG_4 := M10.cell (.tail _ _ _ _ _ (.tail _ _ _ _ _ (.tail _ _ _ _ _ (.tail _ _ _ _ _ (Has.head _ _ _ _))))) (i := 4) rfl
  have c_gG_5 := M10.cell (.tail _ _ _ _ _ (.tail _ _ _ _ _ (.tail _ _ _ _ _ (.tail _ _ _ _ _ (Has.head _ _ _ _))))) (i := 5) rfl
  go_wp2_with fail
  refine (K5.out _ _ _ R1.out).mono ?_
  rintro e w11 ⟨a6, cap6, rfl, s6, hA⟩
  have M11 := M10.call hA
  clear c_gG_0 c_gG_1 c_gG_2 c_gG_3 c_gG_4 c_gG_5
  clear M10
  replace R1 := Lib.hid (R1.out.below hA)
  replace R2 := Lib.hid (R2.out.below hA)
  replace R3 := Lib.hid (R3.out.below hA)
  replace R4 := Lib.hid (R4.out.below hA)
  replace R5 := Lib.hid (R5.out.below hA)
  have R6 := Lib.hid s6
  clear s6
  clear hA
  obtain ⟨w12, hw12⟩ : ∃ wq, w11.alloc (.cells #[.int .i64 f1, .int .i64 f2, .int .i64 f3, .int .i64 f4, .int .i64 f5, .slice a6 m3 cap6] 24) = wq := ⟨_, rfl⟩
  have M12 := M11.alloc 24 [.int .i64 f1, .int .i64 f2, .int .i64 f3, .int .i64 f4, .int .i64 f5, .slice a6 m3 cap6]
  rw [show w11.alloc (.cells [Value.int .i64 f1, .int .i64 f2, .int .i64 f3, .int .i64 f4, .int .i64 f5, .slice a6 m3 cap6].toArray 24) = w12 from hw12] at M12
  have hA : Below w11.heap.size w11 w12 := by rw [← hw12]; exact (Below.refl _ _).alloc (Nat.le_refl _) _
  replace R1 := Lib.hid (R1.out.below hA)
  replace R2 := Lib.hid (R2.out.below hA)
  replace R3 := Lib.hid (R3.out.below hA)
  replace R4 := Lib.hid (R4.out.below hA)
  replace R5 := Lib.hid (R5.out.below hA)
  replace R6 := Lib.hid (R6.out.below hA)
  have HW12 := Lib.hid hw12
  clear hw12 hA M11
  go_upto_region 9 with fail
  rw [HW12.out]
  clear HW12
  obtain ⟨g5, hg5⟩ : ∃ g9, g9 = w11.heap.size := ⟨_, rfl⟩
  rw [← hg5] at M12 ⊢
  clear hg5
  have c_gG_0 := M12.cell (.tail _ _ _ _ _ (.tail _ _ _ _ _ (.tail _ _ _ _ _ (.tail _ _ _ _ _ (.tail _ _ _ _ _ (Has.head _ _ _ _)))))) (i := 0) rfl
  have c_gG_1 := M12.cell (.tail _ _ _ _ _ (.tail _ _ _ _ _ (.tail _ _ _ _ _ (.tail _ _ _ _ _ (.tail _ _ _ _ _ (Has.head _ _ _ _)))))) (i := 1) rfl
  have c_gG_2 := M12.cell (.tail _ _ _ _ _ (.tail _ _ _ _ _ (.tail _ _ _ _ _ (.tail _ _ _ _ _ (.tail _ _ _ _ _ (Has.head _ _ _ _)))))) (i := 2) rfl
  have c_gG_3 := M12.cell (.tail _ _ _ _ _ (.tail _ _ _ _ _ (.tail _ _ _ _ _ (.tail _ _ _ _ _ (.tail _ _ _ _ _ (Has.head _ _ _ _)))))) (i := 3) rfl
  have c_gG_4 := M12.cell (.tail _ _ _ _ _ (.tail _ _ _ _ _ (.tail _ _ _ _ _ (.tail _ _ _ _ _ (.tail _ _ _ _ _ (Has.head _ _ _ _)))))) (i := 4) rfl
  have c_gG_5 := M12.cell (.tail _ _ _ _ _ (.tail _ _ _ _ _ (.tail _ _ _ _ _ (.tail _ _ _ _ _ (.tail _ _ _ _ _ (Has.head _ _ _ _)))))) (i := 5) rfl
  go_wp2_with fail
  refine (K6.out _ _ _ R1.out).mono ?_
  rintro e w13 ⟨a7, cap7, rfl, s7, hA⟩
  have M13 := M12.call hA
  clear c_gG_0 c_gG_1 c_gG_2 c_gG_3 c_gG_4 c_gG_5
  clear M12
  replace R1 := Lib.hid (R1.out.below hA)
  replace R2 := Lib.hid (R2.out.below hA)
  replace R3 := Lib.hid (R3.out.below hA)
  replace R4 := Lib.hid (R4.out.below hA)
  replace R5 := Lib.hid (R5.out.below hA)
  replace R6 := Lib.hid (R6.out.below hA)
  have R7 := Lib.hid s7
  clear s7
  clear hA
  obtain ⟨w14, hw14⟩ : ∃ wq, w13.alloc (.cells #[.int .i64 f1, .int .i64 f2, .int .i64 f3, .int .i64 f4, .int .i64 f5, .slice a7 m3 cap7] 24) = wq := ⟨_, rfl⟩
  have M14 := M13.alloc 24 [.int .i64 f1, .int .i64 f2, .int .i64 f3, .int .i64 f4, .int .i64 f5, .slice a7 m3 cap7]
  rw [show w13.alloc (.cells [Value.int .i64 f1, .int .i64 f2, .int .i64 f3, .int .i64 f4, .int .i64 f5, .slice a7 m3 cap7].toArray 24) = w14 from hw14] at M14
  have hA : Below w13.heap.size w13 w14 := by rw [← hw14]; exact (Below.refl _ _).alloc (Nat.le_refl _) _
  replace R1 := Lib.hid (R1.out.below hA)
  replace R2 := Lib.hid (R2.out.below hA)
  replace R3 := Lib.hid (R3.out.below hA)
  replace R4 := Lib.hid (R4.out.below hA)
  replace R5 := Lib.hid (R5.out.below hA)
  replace R6 := Lib.hid (R6.out.below hA)
  replace R7 := Lib.hid (R7.out.below hA)
  have HW14 := Lib.hid hw14
  clear hw14 hA M13
  go_upto_region 10 with fail
  rw [HW14.out]
  clear HW14
  obtain ⟨g6, hg6⟩ : ∃ g9, g9 = w13.heap.size := ⟨_, rfl⟩
  rw [← hg6] at M14 ⊢
  clear hg6
  have c_gG_0 := M14.cell (.tail _ _ _ _ _ (.tail _ _ _ _ _ (.tail _ _ _ _ _ (.tail _ _ _ _ _ (.tail _ _ _ _ _ (.tail _ _ _ _ _ (Has.head _ _ _ _))))))) (i := 0) rfl
  have c_gG_1 := M14.cell (.tail _ _ _ _ _ (.tail _ _ _ _ _ (.tail _ _ _ _ _ (.tail _ _ _ _ _ (.tail _ _ _ _ _ (.tail _ _ _ _ _ (Has.head _ _ _ _))))))) (i := 1) rfl
  have c_gG_2 := M14.cell (.tail _ _ _ _ _ (.tail _ _ _ _ _ (.tail _ _ _ _ _ (.tail _ _ _ _ _ (.tail _ _ _ _ _ (.tail _ _ _ _ _ (Has.head _ _ _ _))))))) (i := 2) rfl
  have c_gG_3 := M14.cell (.tail _ _ _ _ _ (.tail _ _ _ _ _ (.tail _ _ _ _ _ (.tail _ _ _ _ _ (.tail _ _ _ _ _ (.tail _ _ _ _ _ (Has.head _ _ _ _))))))) (i := 3) rfl
  have c_gG_4 := M14.cell (.tail _ _ _ _ _ (.tail _ _ _ _ _ (.tail _ _ _ _ _ (.tail _ _ _ _ _ (.tail _ _ _ _ _ (.tail _ _ _ _ _ (Has.head _ _ _ _))))))) (i := 4) rfl
  have c_gG_5 := M14.cell (.tail _ _ _ _ _ (.tail _ _ _ _ _ (.tail _ _ _ _ _ (.tail _ _ _ _ _ (.tail _ _ _ _ _ (.tail _ _ _ _ _ (Has.head _ _ _ _))))))) (i := 5) rfl
  go_wp2_with fail
  refine (KA.out _ _ _).mono ?_
  rintro e w15 ⟨rfl, hA⟩
  have M15 := M14.call hA
  clear c_gG_0 c_gG_1 c_gG_2 c_gG_3 c_gG_4 c_gG_5
  clear M14
  replace R1 := Lib.hid (R1.out.below hA)
  replace R2 := Lib.hid (R2.out.below hA)
  replace R3 := Lib.hid (R3.out.below hA)
  replace R4 := Lib.hid (R4.out.below hA)
  replace R5 := Lib.hid (R5.out.below hA)
  replace R6 := Lib.hid (R6.out.below hA)
  replace R7 := Lib.hid (R7.out.below hA)
  clear hA
  obtain ⟨w16, hw16⟩ : ∃ wq, w15.alloc (.cells #[.int .i64 u, .int .i64 v] 51) = wq := ⟨_, rfl⟩
  have M16 := M15.alloc 51 [.int .i64 u, .int .i64 v]
  rw [show w15.alloc (.cells [Value.int .i64 u, .int .i64 v].toArray 51) = w16 from hw16] at M16
  have hA : Below w15.heap.size w15 w16 := by rw [← hw16]; exact (Below.refl _ _).alloc (Nat.le_refl _) _
  replace R1 := Lib.hid (R1.out.below hA)
  replace R2 := Lib.hid (R2.out.below hA)
  replace R3 := Lib.hid (R3.out.below hA)
  replace R4 := Lib.hid (R4.out.below hA)
  replace R5 := Lib.hid (R5.out.below hA)
  replace R6 := Lib.hid (R6.out.below hA)
  replace R7 := Lib.hid (R7.out.below hA)
  have HW16 := Lib.hid hw16
  clear hw16 hA M15
  go_upto_region 11 with fail
  rw [HW16.out]
  clear HW16
  obtain ⟨gP, hgP⟩ : ∃ g9, g9 = w15.heap.size := ⟨_, rfl⟩
  rw [← hgP] at M16 ⊢
  clear hgP
  have c_gG_0 := M16.cell (.tail _ _ _ _ _ (.tail _ _ _ _ _ (.tail _ _ _ _ _ (.tail _ _ _ _ _ (.tail _ _ _ _ _ (.tail _ _ _ _ _ (.tail _ _ _ _ _ (Has.head _ _ _ _)))))))) (i := 0) rfl
  have c_gG_1 := M16.cell (.tail _ _ _ _ _ (.tail _ _ _ _ _ (.tail _ _ _ _ _ (.tail _ _ _ _ _ (.tail _ _ _ _ _ (.tail _ _ _ _ _ (.tail _ _ _ _ _ (Has.head _ _ _ _)))))))) (i := 1) rfl
  have c_gG_2 := M16.cell (.tail _ _ _ _ _ (.tail _ _ _ _ _ (.tail _ _ _ _ _ (.tail _ _ _ _ _ (.tail _ _ _ _ _ (.tail _ _ _ _ _ (.tail _ _ _ _ _ (Has.head _ _ _ _)))))))) (i := 2) rfl
  have c_gG_3 := M16.cell (.tail _ _ _ _ _ (.tail _ _ _ _ _ (.tail _ _ _ _ _ (.tail _ _ _ _ _ (.tail _ _ _ _ _ (.tail _ _ _ _ _ (.tail _ _ _ _ _ (Has.head _ _ _ _)))))))) (i := 3) rfl
  have c_gG_4 := M16.cell (.tail _ _ _ _ _ (.tail _ _ _ _ _ (.tail _ _ _ _ _ (.tail _ _ _ _ _ (.tail _ _ _ _ _ (.tail _ _ _ _ _ (.tail _ _ _ _ _ (Has.head _ _ _ _)))))))) (i := 4) rfl
  have c_gG_5 := M16.cell (.tail _ _ _ _ _ (.tail _ _ _ _ _ (.tail _ _ _ _ _ (.tail _ _ _ _ _ (.tail _ _ _ _ _ (.tail _ _ _ _ _ (.tail _ _ _ _ _ (Has.head _ _ _ _)))))))) (i := 5) rfl
  have pp0 := M16.cell (Has.head _ _ _ _) (i := 0) rfl
  have pp1 := M16.cell (Has.head _ _ _ _) (i := 1) rfl
  go_upto_region 12 with fail
  obtain ⟨em, ed, emt, edt, n1, n2, hu, hv⟩ := HARI.out
  go_quiet (fail)
  have Md := M16.drewN nq
  replace R1 := Lib.hid (R1.out.below (below_dN (Below.refl w16.heap.size w16) nq))
  replace R2 := Lib.hid (R2.out.below (below_dN (Below.refl w16.heap.size w16) nq))
  replace R3 := Lib.hid (R3.out.below (below_dN (Below.refl w16.heap.size w16) nq))
  replace R4 := Lib.hid (R4.out.below (below_dN (Below.refl w16.heap.size w16) nq))
  replace R5 := Lib.hid (R5.out.below (below_dN (Below.refl w16.heap.size w16) nq))
  replace R6 := Lib.hid (R6.out.below (below_dN (Below.refl w16.heap.size w16) nq))
  replace R7 := Lib.hid (R7.out.below (below_dN (Below.refl w16.heap.size w16) nq))
  obtain ⟨wl, hwl⟩ : ∃ wl, wl = w16.drewN nq := ⟨_, rfl⟩
  rw [← hwl] at Md R1 R2 R3 R4 R5 R6 R7 ⊢
  clear hwl M16 c_gG_0 c_gG_1 c_gG_2 c_gG_3 c_gG_4 c_gG_5 pp0 pp1
  clear em ed emt edt n1 n2 hu hv
  have M17 := Md
  clear Md
  have c_g1_0 := M17.cell (.tail _ _ _ _ _ (.tail _ _ _ _ _ (.tail _ _ _ _ _ (.tail _ _ _ _ _ (.tail _ _ _ _ _ (.tail _ _ _ _ _ (Has.head _ _ _ _))))))) (i := 0) rfl
  have c_g1_1 := M17.cell (.tail _ _ _ _ _ (.tail _ _ _ _ _ (.tail _ _ _ _ _ (.tail _ _ _ _ _ (.tail _ _ _ _ _ (.tail _ _ _ _ _ (Has.head _ _ _ _))))))) (i := 1) rfl
  have c_g1_2 := M17.cell (.tail _ _ _ _ _ (.tail _ _ _ _ _ (.tail _ _ _ _ _ (.tail _ _ _ _ _ (.tail _ _ _ _ _ (.tail _ _ _ _ _ (Has.head _ _ _ _))))))) (i := 2) rfl
  have c_g1_3 := M17.cell (.tail _ _ _ _ _ (.tail _ _ _ _ _ (.tail _ _ _ _ _ (.tail _ _ _ _ _ (.tail _ _ _ _ _ (.tail _ _ _ _ _ (Has.head _ _ _ _))))))) (i := 3) rfl
  have c_g1_4 := M17.cell (.tail _ _ _ _ _ (.tail _ _ _ _ _ (.tail _ _ _ _ _ (.tail _ _ _ _ _ (.tail _ _ _ _ _ (.tail _ _ _ _ _ (Has.head _ _ _ _))))))) (i := 4) rfl
  have c_g1_5 := M17.cell (.tail _ _ _ _ _ (.tail _ _ _ _ _ (.tail _ _ _ _ _ (.tail _ _ _ _ _ (.tail _ _ _ _ _ (.tail _ _ _ _ _ (Has.head _ _ _ _))))))) (i := 5) rfl
  have c_g2_0 := M17.cell (.tail _ _ _ _ _ (.tail _ _ _ _ _ (.tail _ _ _ _ _ (.tail _ _ _ _ _ (.tail _ _ _ _ _ (Has.head _ _ _ _)))))) (i := 0) rfl
  have c_g2_1 := M17.cell (.tail _ _ _ _ _ (.tail _ _ _ _ _ (.tail _ _ _ _ _ (.tail _ _ _ _ _ (.tail _ _ _ _ _ (Has.head _ _ _ _)))))) (i := 1) rfl
  have c_g2_2 := M17.cell (.tail _ _ _ _ _ (.tail _ _ _ _ _ (.tail _ _ _ _ _ (.tail _ _ _ _ _ (.tail _ _ _ _ _ (Has.head _ _ _ _)))))) (i := 2) rfl
  have c_g2_3 := M17.cell (.tail _ _ _ _ _ (.tail _ _ _ _ _ (.tail _ _ _ _ _ (.tail _ _ _ _ _ (.tail _ _ _ _ _ (Has.head _ _ _ _)))))) (i := 3) rfl
  have c_g2_4 := M17.cell (.tail _ _ _ _ _ (.tail _ _ _ _ _ (.tail _ _ _ _ _ (.tail _ _ _ _ _ (.tail _ _ _ _ _ (Has.head _ _ _ _)))))) (i := 4) rfl
  have c_g2_5 := M17.cell (.tail _ _ _ _ _ (.tail _ _ _ _ _ (.tail _ _ _ _ _ (.tail _ _ _ _ _ (.tail _ _ _ _ _ (Has.head _ _ _ _)))))) (i := 5) rfl
  go_wp2_with fail
  refine (S1.out _ _ _ _ _ R2.out R3.out).mono ?_
  rintro e w18 ⟨rfl, hA⟩
  have M18 := M17.call hA
  clear c_g1_0 c_g1_1 c_g1_2 c_g1_3 c_g1_4 c_g1_5 c_g2_0 c_g2_1 c_g2_2 c_g2_3 c_g2_4 c_g2_5
  clear M17
  replace R1 := Lib.hid (R1.out.below hA)
  replace R2 := Lib.hid (R2.out.below hA)
  replace R3 := Lib.hid (R3.out.below hA)
  replace R4 := Lib.hid (R4.out.below hA)
  replace R5 := Lib.hid (R5.out.below hA)
  replace R6 := Lib.hid (R6.out.below hA)
  replace R7 := Lib.hid (R7.out.below hA)
  clear hA
  have c_g3_0 := M18.cell (.tail _ _ _ _ _ (.tail _ _ _ _ _ (.tail _ _ _ _ _ (.tail _ _ _ _ _ (Has.head _ _ _ _))))) (i := 0) rfl
  have c_g3_1 := M18.cell (.tail _ _ _ _ _ (.tail _ _ _ _ _ (.tail _ _ _ _ _ (.tail _ _ _ _ _ (Has.head _ _ _ _))))) (i := 1) rfl
  have c_g3_2 := M18.cell (.tail _ _ _ _ _ (.tail _ _ _ _ _ (.tail _ _ _ _ _ (.tail _ _ _ _ _ (Has.head _ _ _ _))))) (i := 2) rfl
  have c_g3_3 := M18.cell (.tail _ _ _ _ _ (.tail _ _ _ _ _ (.tail _ _ _ _ _ (.tail _ _ _ _ _ (Has.head _ _ _ _))))) (i := 3) rfl
  have c_g3_4 := M18.cell (.tail _ _ _ _ _ (.tail _ _ _ _ _ (.tail _ _ _ _ _ (.tail _ _ _ _ _ (Has.head _ _ _ _))))) (i := 4) rfl
  have c_g3_5 := M18.cell (.tail _ _ _ _ _ (.tail _ _ _ _ _ (.tail _ _ _ _ _ (.tail _ _ _ _ _ (Has.head _ _ _ _))))) (i := 5) rfl
  have c_g4_0 := M18.cell (.tail _ _ _ _ _ (.tail _ _ _ _ _ (.tail _ _ _ _ _ (Has.head _ _ _ _)))) (i := 0) rfl
  have c_g4_1 := M18.cell (.tail _ _ _ _ _ (.tail _ _ _ _ _ (.tail _ _ _ _ _ (Has.head _ _ _ _)))) (i := 1) rfl
  have c_g4_2 := M18.cell (.tail _ _ _ _ _ (.tail _ _ _ _ _ (.tail _ _ _ _ _ (Has.head _ _ _ _)))) (i := 2) rfl
  have c_g4_3 := M18.cell (.tail _ _ _ _ _ (.tail _ _ _ _ _ (.tail _ _ _ _ _ (Has.head _ _ _ _)))) (i := 3) rfl
  have c_g4_4 := M18.cell (.tail _ _ _ _ _ (.tail _ _ _ _ _ (.tail _ _ _ _ _ (Has.head _ _ _ _)))) (i := 4) rfl
  have c_g4_5 := M18.cell (.tail _ _ _ _ _ (.tail _ _ _ _ _ (.tail _ _ _ _ _ (Has.head _ _ _ _)))) (i := 5) rfl
  go_wp2_with fail
  refine (S2.out _ _ _ _ _ R4.out R5.out).mono ?_
  rintro e w19 ⟨rfl, hA⟩
  have M19 := M18.call hA
  clear c_g3_0 c_g3_1 c_g3_2 c_g3_3 c_g3_4 c_g3_5 c_g4_0 c_g4_1 c_g4_2 c_g4_3 c_g4_4 c_g4_5
  clear M18
  replace R1 := Lib.hid (R1.out.below hA)
  replace R2 := Lib.hid (R2.out.below hA)
  replace R3 := Lib.hid (R3.out.below hA)
  replace R4 := Lib.hid (R4.out.below hA)
  replace R5 := Lib.hid (R5.out.below hA)
  replace R6 := Lib.hid (R6.out.below hA)
  replace R7 := Lib.hid (R7.out.below hA)
  clear hA
  have c_g5_0 := M19.cell (.tail _ _ _ _ _ (.tail _ _ _ _ _ (Has.head _ _ _ _))) (i := 0) rfl
  have c_g5_1 := M19.cell (.tail _ _ _ _ _ (.tail _ _ _ _ _ (Has.head _ _ _ _))) (i := 1) rfl
  have c_g5_2 := M19.cell (.tail _ _ _ _ _ (.tail _ _ _ _ _ (Has.head _ _ _ _))) (i := 2) rfl
  have c_g5_3 := M19.cell (.tail _ _ _ _ _ (.tail _ _ _ _ _ (Has.head _ _ _ _))) (i := 3) rfl
  have c_g5_4 := M19.cell (.tail _ _ _ _ _ (.tail _ _ _ _ _ (Has.head _ _ _ _))) (i := 4) rfl
  have c_g5_5 := M19.cell (.tail _ _ _ _ _ (.tail _ _ _ _ _ (Has.head _ _ _ _))) (i := 5) rfl
  have c_g6_0 := M19.cell (.tail _ _ _ _ _ (Has.head _ _ _ _)) (i := 0) rfl
  have c_g6_1 := M19.cell (.tail _ _ _ _ _ (Has.head _ _ _ _)) (i := 1) rfl
  have c_g6_2 := M19.cell (.tail _ _ _ _ _ (Has.head _ _ _ _)) (i := 2) rfl
  have c_g6_3 := M19.cell (.tail _ _ _ _ _ (Has.head _ _ _ _)) (i := 3) rfl
  have c_g6_4 := M19.cell (.tail _ _ _ _ _ (Has.head _ _ _ _)) (i := 4) rfl
  have c_g6_5 := M19.cell (.tail _ _ _ _ _ (Has.head _ _ _ _)) (i := 5) rfl
  go_wp2_with fail
  refine (S3.out _ _ _ _ _ R6.out R7.out).mono ?_
  rintro e w20 ⟨rfl, hA⟩
  have M20 := M19.call hA
  clear c_g5_0 c_g5_1 c_g5_2 c_g5_3 c_g5_4 c_g5_5 c_g6_0 c_g6_1 c_g6_2 c_g6_3 c_g6_4 c_g6_5
  clear M19
  replace R1 := Lib.hid (R1.out.below hA)
  replace R2 := Lib.hid (R2.out.below hA)
  replace R3 := Lib.hid (R3.out.below hA)
  replace R4 := Lib.hid (R4.out.below hA)
  replace R5 := Lib.hid (R5.out.below hA)
  replace R6 := Lib.hid (R6.out.below hA)
  replace R7 := Lib.hid (R7.out.below hA)
  clear hA
  go_wp2_with fail
  refine (C0.out _).mono ?_
  rintro e w21 ⟨rfl, hA⟩
  have M21 := M20.call hA
  clear M20
  replace R1 := Lib.hid (R1.out.below hA)
  replace R2 := Lib.hid (R2.out.below hA)
  replace R3 := Lib.hid (R3.out.below hA)
  replace R4 := Lib.hid (R4.out.below hA)
  replace R5 := Lib.hid (R5.out.below hA)
  replace R6 := Lib.hid (R6.out.below hA)
  replace R7 := Lib.hid (R7.out.below hA)
  clear hA
  go_wp2_with fail
  go_ret
  exact ⟨rfl, M21.below⟩

end Go.Proofs.Ytnfgogfbpggnfaa
