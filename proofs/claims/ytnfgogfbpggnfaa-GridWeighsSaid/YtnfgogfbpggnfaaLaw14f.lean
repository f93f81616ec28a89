/-
  GridWeighs: the walk.
-/
import Derived.Test.YtnfgogfbpggnfaaLaw14m
import Derived.Test.YtnfgogfbpggnfaaGridG
import Derived.Test.YtnfgogfbpggnfaaGridH
import Derived.Test.YtnfgogfbpggnfaaGridI
import Derived.Test.YtnfgogfbpggnfaaGridK
import Derived.Test.YtnfgogfbpggnfaaGridRA
import Derived.Test.YtnfgogfbpggnfaaGridRD
set_option linter.unusedVariables false
set_option linter.unusedSimpArgs false
namespace Go.Proofs.Ytnfgogfbpggnfaa
open Go Go.RowKit Go.Th Go.Th.Grid Go.Th.Wide

/-- A block is made, its world told. -/
theorem wp_alB {P : Program} {w w0 : World} {bs : List (Nat × TypeId × List Value)} {o : Oper} {a : Act} {K : Act → World → Prop} {Q : Exit → Act → World → Prop} {ty : TypeId} {cs : List Value} (M : Mem w0 w bs) (ho : o.op = .alloc ty) {z : Value} (hz : (P.info? ty).map (·.zero) = some (some z)) (hc : z.cells = cs.toArray)
    (h : ∀ g w', Mem w0 w' ((g, ty, cs) :: bs) → w.heap.size ≤ g → Below w.heap.size w w' → K (a.put o.dst (.pointer (some ⟨g, 0, none⟩))) w') : o.wp P a w K Q := by
  cases hq : P.info? ty with
  | none => simp [hq] at hz
  | some i =>
    have hs : i.zero = some z := by simpa [hq] using hz
    unfold Oper.wp execOp
    have hr : (Instr.alloc ty true (.tuple #[])).run P w = .ok (.pointer (some ⟨w.heap.size, 0, none⟩)) (w.alloc (.cells cs.toArray ty)) := by
      rw [← hc]
      simp [Instr.alloc, zeroValue, typeInfo, hq, hs, newVar, newRow, Value.cells, go_sem]
    simp only [ho, Sem.run_bind, hr, Result.andThen_ok]
    exact h _ _ (M.alloc _ _) (Nat.le_refl _) ((Below.refl _ _).alloc (Nat.le_refl _) _)
theorem zeroWd : (Try.prog.info? 41).map (·.zero) = some (some (.agg #[.int .i64 0, .int .u64 0])) := by kernel_rfl

set_option maxRecDepth 100000 in
set_option maxHeartbeats 6400000 in
theorem weighs_go (p q x y S n k capl j caplw : Nat) (al bl : Option Addr) (z zw G L PP : List Int) (T most c : Int) (hk : ¬ ((100 : Int) < (k : Int))) (hj : ¬ ((100 : Int) < (j : Int))) (hn1 : 1 ≤ n) (hn : n ≤ 64) (hLl : L.length = n)
    (CM : ∀ w, Sl w 1 (.slice al k capl) k (u16s z) → Calls Try.prog 16 #[.int .u8 p, .int .u8 q, .slice al k capl, .int .u8 3] w fun e w' => ∃ a cap, e = .returned (gv x y 1000 (-1000) S (.slice a n cap)) ∧ Sl w' 1 (.slice a n cap) n (i64s G) ∧ Below w.heap.size w w')
    (CW : ∀ a cap w, Sl w 1 (.slice bl j caplw) j (u16s zw) → Calls Try.prog 20 #[gv x y 1000 (-1000) S (.slice a n cap), .slice bl j caplw] w fun e w' => ∃ v, e = .returned v ∧ w'.ownsRow w.heap.size 2 1 v n (i64s L) ∧ Below w.heap.size w w')
    (K1 : ∀ a cap al capl w, Sl w 1 (.slice a n cap) n (i64s G) → Sl w 1 (.slice al n capl) n (i64s L) → Calls Try.prog 21 #[gv x y 1000 (-1000) S (.slice a n cap), .slice al n capl] w (WRes x y 1000 (-1000) S n PP T most c w))
    (K2 : ∀ a cap al capl w, Sl w 1 (.slice a n cap) n (i64s G) → Sl w 1 (.slice al n capl) n (i64s L) → Calls Try.prog 22 #[gv x y 1000 (-1000) S (.slice a n cap), .slice al n capl] w (GSaid x y 1000 (-1000) S n PP c w))
    (K3 : ∀ a cap al capl w, Sl w 1 (.slice a n cap) n (i64s G) → Sl w 1 (.slice al n capl) n (i64s L) → Calls Try.prog 23 #[gv x y 1000 (-1000) S (.slice a n cap), .slice al n capl] w fun e w' => e = .returned (.tuple #[.int .i64 T, .int .i64 most]) ∧ Below w.heap.size w w')
    (KO : Ans 24 #[.int .i64 T] (wv (hiZ T) (loZ T)))
    (S1 : ∀ a ca b cb w, Sl w 1 (.slice a n ca) n (i64s PP) → Sl w 1 (.slice b n cb) n (i64s PP) → Calls Try.prog 13 #[gv x y 1000 (-1000) S (.slice a n ca), gv x y 1000 (-1000) S (.slice b n cb)] w fun e w' => e = .returned (.bool true) ∧ Below w.heap.size w w')
    (K4 : ∀ a cap al capl w, Sl w 1 (.slice a n cap) n (i64s G) → Calls Try.prog 21 #[gv x y 1000 (-1000) S (.slice a n cap), .slice al (n - 1) capl] w (WRes x y 1000 (-1000) S n G 0 0 5 w))
    (K5 : ∀ a cap al capl w, Sl w 1 (.slice a n cap) n (i64s G) → Sl w 1 (.slice al n capl) n (i64s (L.set 0 65537)) → Calls Try.prog 21 #[gv x y 1000 (-1000) S (.slice a n cap), .slice al n capl] w (WRes x y 1000 (-1000) S n G 0 0 1 w))
    (K6 : c = 0 → ∀ a cap w, Sl w 1 (.slice a n cap) n (i64s PP) → Calls Try.prog 9 #[gv x y 1000 (-1000) S (.slice a n cap)] w fun e w' => e = .returned (.int .i64 0) ∧ Below w.heap.size w w')
    (C0 : Ans 8 #[] (.bool true)) (w : World) (hT : Sl w 1 (.slice al k capl) k (u16s z)) (hTw : Sl w 1 (.slice bl j caplw) j (u16s zw)) :
    Calls Try.prog 5 #[.int .u8 p, .int .u8 q, .slice al k capl, .slice bl j caplw] w fun e w' => e = .returned (.bool true) ∧ Below w.heap.size w w' := by
  have M0 := Mem.start w
  have hmy := hT.max
  have hmz := hTw.max
  have CM := Lib.hid CM
  have CW := Lib.hid CW
  have K1 := Lib.hid K1
  have K2 := Lib.hid K2
  have K3 := Lib.hid K3
  have KO := Lib.hid KO
  have S1 := Lib.hid S1
  have K4 := Lib.hid K4
  have K5 := Lib.hid K5
  have K6 := Lib.hid K6
  have C0 := Lib.hid C0
  have hT := Lib.hid hT
  have hTw := Lib.hid hTw
  have hLl := Lib.hid hLl
  have b1 : (c != c) = false := by simp
  have b2 : (most != most) = false := by simp
  have hn1i : (1 : Int) ≤ (n : Int) := by omega
  go_enter Try.func5, Try.ntmps5
  go_wp2_with fail
  refine (CM.out _ hT.out).mono ?_
  rintro e w1 ⟨a1, cap1, rfl, s1, hA⟩
  have M1 := M0.call hA
  clear M0
  replace hTw := Lib.hid (hTw.out.below hA)
  have R1 := Lib.hid s1
  clear s1
  clear hA
  obtain ⟨w2, hw2⟩ : ∃ wq, w1.alloc (.cells #[.int .i64 x, .int .i64 y, .int .i64 1000, .int .i64 (-1000), .int .i64 S, .slice a1 n cap1] 24) = wq := ⟨_, rfl⟩
  have M2 := M1.alloc 24 [.int .i64 x, .int .i64 y, .int .i64 1000, .int .i64 (-1000), .int .i64 S, .slice a1 n cap1]
  rw [show w1.alloc (.cells [Value.int .i64 x, .int .i64 y, .int .i64 1000, .int .i64 (-1000), .int .i64 S, .slice a1 n cap1].toArray 24) = w2 from hw2] at M2
  have hA : Below w1.heap.size w1 w2 := by rw [← hw2]; exact (Below.refl _ _).alloc (Nat.le_refl _) _
  replace hTw := Lib.hid (hTw.out.below hA)
  replace R1 := Lib.hid (R1.out.below hA)
  have HW2 := Lib.hid hw2
  clear hw2 hA M1
  go_upto_region 4 with fail
  rw [HW2.out]
  clear HW2
  obtain ⟨gG, hgG⟩ : ∃ g9, g9 = w1.heap.size := ⟨_, rfl⟩
  rw [← hgG] at M2 ⊢
  clear hgG
  have c_gG_0 := M2.cell (Has.head _ _ _ _) (i := 0) rfl
  have c_gG_1 := M2.cell (Has.head _ _ _ _) (i := 1) rfl
  have c_gG_2 := M2.cell (Has.head _ _ _ _) (i := 2) rfl
  have c_gG_3 := M2.cell (Has.head _ _ _ _) (i := 3) rfl
  have c_gG_4 := M2.cell (Has.head _ _ _ _) (i := 4) rfl
  have c_gG_5 := M2.cell (Has.head _ _ _ _) (i := 5) rfl
  go_wp2_with fail
  have R0 := R1
  have hw0 := M2.below.size
  have HB := Lib.hid (Below.refl w2.heap.size w2)
  refine (CW.out _ _ _ hTw.out).mono ?_
  rintro e w3 ⟨v2, rfl, s2, hA⟩
  have M3 := M2.call hA
  clear c_gG_0 c_gG_1 c_gG_2 c_gG_3 c_gG_4 c_gG_5
  clear M2
  replace hTw := Lib.hid (hTw.out.below hA)
  replace R1 := Lib.hid (R1.out.below hA)
  replace HB := Lib.hid (HB.out.trans (hA.mono HB.out.size))
  clear hA
  obtain ⟨gX, cX, he, hgX, hgX2, _, _⟩ := ownsRow_val s2 (by omega)
  subst he
  have O2 := Lib.hid s2
  clear s2 hTw
  have hgX0 : w.heap.size ≤ gX := by omega
  have c_gG_0 := M3.cell (Has.head _ _ _ _) (i := 0) rfl
  have c_gG_1 := M3.cell (Has.head _ _ _ _) (i := 1) rfl
  have c_gG_2 := M3.cell (Has.head _ _ _ _) (i := 2) rfl
  have c_gG_3 := M3.cell (Has.head _ _ _ _) (i := 3) rfl
  have c_gG_4 := M3.cell (Has.head _ _ _ _) (i := 4) rfl
  have c_gG_5 := M3.cell (Has.head _ _ _ _) (i := 5) rfl
  go_wp2_with fail
  refine (K1.out a1 cap1 (some ⟨gX, 0, none⟩) cX _ R1.out (Sl.of_own O2.out)).mono ?_
  rintro e w4 ⟨a3, cap3, rfl, s3, hA⟩
  have M4 := M3.call hA
  clear c_gG_0 c_gG_1 c_gG_2 c_gG_3 c_gG_4 c_gG_5
  clear M3
  replace R1 := Lib.hid (R1.out.below hA)
  replace O2 := Lib.hid (ownsRow_below O2.out hA)
  replace HB := Lib.hid (HB.out.trans (hA.mono HB.out.size))
  clear hA
  have hne3 : (Value.slice a3 n cap3).ownBlock ≠ some gX := by
    obtain ⟨gP, cP, he, hgP, _, _, _⟩ := ownsRow_val s3 (by omega)
    rw [he]; simp [Value.ownBlock]; omega
  have HN3 := Lib.hid hne3
  clear hne3
  have O3 := Lib.hid s3
  clear s3
  obtain ⟨w5, hw5⟩ : ∃ wq, w4.alloc (.cells #[.int .i64 x, .int .i64 y, .int .i64 1000, .int .i64 (-1000), .int .i64 S, .slice a3 n cap3] 24) = wq := ⟨_, rfl⟩
  have M5 := M4.alloc 24 [.int .i64 x, .int .i64 y, .int .i64 1000, .int .i64 (-1000), .int .i64 S, .slice a3 n cap3]
  rw [show w4.alloc (.cells [Value.int .i64 x, .int .i64 y, .int .i64 1000, .int .i64 (-1000), .int .i64 S, .slice a3 n cap3].toArray 24) = w5 from hw5] at M5
  have hA : Below w4.heap.size w4 w5 := by rw [← hw5]; exact (Below.refl _ _).alloc (Nat.le_refl _) _
  replace R1 := Lib.hid (R1.out.below hA)
  replace O2 := Lib.hid (ownsRow_below O2.out hA)
  replace O3 := Lib.hid (ownsRow_below O3.out hA)
  replace HB := Lib.hid (HB.out.trans (hA.mono HB.out.size))
  have HW5 := Lib.hid hw5
  clear hw5 hA M4
  obtain ⟨w6, hw6⟩ : ∃ wq, w5.alloc (.cells #[.int .i64 (hiZ T), .int .u64 (loZ T)] 41) = wq := ⟨_, rfl⟩
  have M6 := M5.alloc 41 [.int .i64 (hiZ T), .int .u64 (loZ T)]
  rw [show w5.alloc (.cells [Value.int .i64 (hiZ T), .int .u64 (loZ T)].toArray 41) = w6 from hw6] at M6
  have hA : Below w5.heap.size w5 w6 := by rw [← hw6]; exact (Below.refl _ _).alloc (Nat.le_refl _) _
  replace R1 := Lib.hid (R1.out.below hA)
  replace O2 := Lib.hid (ownsRow_below O2.out hA)
  replace O3 := Lib.hid (ownsRow_below O3.out hA)
  replace HB := Lib.hid (HB.out.trans (hA.mono HB.out.size))
  have HW6 := Lib.hid hw6
  clear hw6 hA M5
  go_upto_region 6 with fail
  rw [HW5.out, HW6.out, show w4.heap.size + 1 = w5.heap.size by rw [← HW5.out]; simp]
  clear HW5 HW6
  obtain ⟨gZ6, hgZ6⟩ : ∃ g9, g9 = w5.heap.size := ⟨_, rfl⟩
  rw [← hgZ6] at M6 ⊢
  clear hgZ6
  obtain ⟨gH6, hgH6⟩ : ∃ g9, g9 = w4.heap.size := ⟨_, rfl⟩
  rw [← hgH6] at M6 ⊢
  clear hgH6
  have c_gG_0 := M6.cell (.tail _ _ _ _ _ (.tail _ _ _ _ _ (Has.head _ _ _ _))) (i := 0) rfl
  have c_gG_1 := M6.cell (.tail _ _ _ _ _ (.tail _ _ _ _ _ (Has.head _ _ _ _))) (i := 1) rfl
  have c_gG_2 := M6.cell (.tail _ _ _ _ _ (.tail _ _ _ _ _ (Has.head _ _ _ _))) (i := 2) rfl
  have c_gG_3 := M6.cell (.tail _ _ _ _ _ (.tail _ _ _ _ _ (Has.head _ _ _ _))) (i := 3) rfl
  have c_gG_4 := M6.cell (.tail _ _ _ _ _ (.tail _ _ _ _ _ (Has.head _ _ _ _))) (i := 4) rfl
  have c_gG_5 := M6.cell (.tail _ _ _ _ _ (.tail _ _ _ _ _ (Has.head _ _ _ _))) (i := 5) rfl
  go_wp2_with fail
  refine (K2.out a1 cap1 (some ⟨gX, 0, none⟩) cX _ R1.out (Sl.of_own O2.out)).mono ?_
  rintro e w7 ⟨a4, cap4, rfl, s4, hA⟩
  have M7 := M6.call hA
  clear c_gG_0 c_gG_1 c_gG_2 c_gG_3 c_gG_4 c_gG_5
  clear M6
  replace R1 := Lib.hid (R1.out.below hA)
  replace O2 := Lib.hid (ownsRow_below O2.out hA)
  replace O3 := Lib.hid (ownsRow_below O3.out hA)
  replace HB := Lib.hid (HB.out.trans (hA.mono HB.out.size))
  have R4 := Lib.hid s4
  clear s4
  clear hA
  obtain ⟨w8, hw8⟩ : ∃ wq, w7.alloc (.cells #[.int .i64 x, .int .i64 y, .int .i64 1000, .int .i64 (-1000), .int .i64 S, .slice a4 n cap4] 24) = wq := ⟨_, rfl⟩
  have M8 := M7.alloc 24 [.int .i64 x, .int .i64 y, .int .i64 1000, .int .i64 (-1000), .int .i64 S, .slice a4 n cap4]
  rw [show w7.alloc (.cells [Value.int .i64 x, .int .i64 y, .int .i64 1000, .int .i64 (-1000), .int .i64 S, .slice a4 n cap4].toArray 24) = w8 from hw8] at M8
  have hA : Below w7.heap.size w7 w8 := by rw [← hw8]; exact (Below.refl _ _).alloc (Nat.le_refl _) _
  replace R1 := Lib.hid (R1.out.below hA)
  replace R4 := Lib.hid (R4.out.below hA)
  replace O2 := Lib.hid (ownsRow_below O2.out hA)
  replace O3 := Lib.hid (ownsRow_below O3.out hA)
  replace HB := Lib.hid (HB.out.trans (hA.mono HB.out.size))
  have HW8 := Lib.hid hw8
  clear hw8 hA M7
  go_upto_region 7 with fail
  rw [HW8.out]
  clear HW8
  obtain ⟨gB9, hgB9⟩ : ∃ g9, g9 = w7.heap.size := ⟨_, rfl⟩
  rw [← hgB9] at M8 ⊢
  clear hgB9
  have c_gG_0 := M8.cell (.tail _ _ _ _ _ (.tail _ _ _ _ _ (.tail _ _ _ _ _ (Has.head _ _ _ _)))) (i := 0) rfl
  have c_gG_1 := M8.cell (.tail _ _ _ _ _ (.tail _ _ _ _ _ (.tail _ _ _ _ _ (Has.head _ _ _ _)))) (i := 1) rfl
  have c_gG_2 := M8.cell (.tail _ _ _ _ _ (.tail _ _ _ _ _ (.tail _ _ _ _ _ (Has.head _ _ _ _)))) (i := 2) rfl
  have c_gG_3 := M8.cell (.tail _ _ _ _ _ (.tail _ _ _ _ _ (.tail _ _ _ _ _ (Has.head _ _ _ _)))) (i := 3) rfl
  have c_gG_4 := M8.cell (.tail _ _ _ _ _ (.tail _ _ _ _ _ (.tail _ _ _ _ _ (Has.head _ _ _ _)))) (i := 4) rfl
  have c_gG_5 := M8.cell (.tail _ _ _ _ _ (.tail _ _ _ _ _ (.tail _ _ _ _ _ (Has.head _ _ _ _)))) (i := 5) rfl
  go_wp2_with fail
  refine (K3.out a1 cap1 (some ⟨gX, 0, none⟩) cX _ R1.out (Sl.of_own O2.out)).mono ?_
  rintro e w9 ⟨rfl, hA⟩
  have M9 := M8.call hA
  clear c_gG_0 c_gG_1 c_gG_2 c_gG_3 c_gG_4 c_gG_5
  clear M8
  replace R1 := Lib.hid (R1.out.below hA)
  replace R4 := Lib.hid (R4.out.below hA)
  replace O2 := Lib.hid (ownsRow_below O2.out hA)
  replace O3 := Lib.hid (ownsRow_below O3.out hA)
  replace HB := Lib.hid (HB.out.trans (hA.mono HB.out.size))
  clear hA
  go_upto_region 8 with fail
  refine wp_region_held_drew (S := (fun w' : World => w'.cell? ⟨gH6, 0, none⟩ = some (.int .i64 x) ∧ w'.cell? ⟨gH6, 1, none⟩ = some (.int .i64 y) ∧ w'.cell? ⟨gH6, 2, none⟩ = some (.int .i64 1000) ∧ w'.cell? ⟨gH6, 3, none⟩ = some (.int .i64 (-1000)) ∧ w'.cell? ⟨gH6, 4, none⟩ = some (.int .i64 S) ∧ w'.cell? ⟨gH6, 5, none⟩ = some (.slice a3 n cap3) ∧ w'.cell? ⟨gB9, 0, none⟩ = some (.int .i64 x) ∧ w'.cell? ⟨gB9, 1, none⟩ = some (.int .i64 y) ∧ w'.cell? ⟨gB9, 2, none⟩ = some (.int .i64 1000) ∧ w'.cell? ⟨gB9, 3, none⟩ = some (.int .i64 (-1000)) ∧ w'.cell? ⟨gB9, 4, none⟩ = some (.int .i64 S) ∧ w'.cell? ⟨gB9, 5, none⟩ = some (.slice a4 n cap4) ∧ w'.cell? ⟨gZ6, 0, none⟩ = some (.int .i64 (hiZ T)) ∧ w'.cell? ⟨gZ6, 1, none⟩ = some (.int .u64 (loZ T)))) (by kernel_rfl) (⟨M9.cell (.tail _ _ _ _ _ (.tail _ _ _ _ _ (Has.head _ _ _ _))) (i := 0) rfl, M9.cell (.tail _ _ _ _ _ (.tail _ _ _ _ _ (Has.head _ _ _ _))) (i := 1) rfl, M9.cell (.tail _ _ _ _ _ (.tail _ _ _ _ _ (Has.head _ _ _ _))) (i := 2) rfl, M9.cell (.tail _ _ _ _ _ (.tail _ _ _ _ _ (Has.head _ _ _ _))) (i := 3) rfl, M9.cell (.tail _ _ _ _ _ (.tail _ _ _ _ _ (Has.head _ _ _ _))) (i := 4) rfl, M9.cell (.tail _ _ _ _ _ (.tail _ _ _ _ _ (Has.head _ _ _ _))) (i := 5) rfl, M9.cell (Has.head _ _ _ _) (i := 0) rfl, M9.cell (Has.head _ _ _ _) (i := 1) rfl, M9.cell (Has.head _ _ _ _) (i := 2) rfl, M9.cell (Has.head _ _ _ _) (i := 3) rfl, M9.cell (Has.head _ _ _ _) (i := 4) rfl, M9.cell (Has.head _ _ _ _) (i := 5) rfl, M9.cell (.tail _ _ _ _ _ (Has.head _ _ _ _)) (i := 0) rfl, M9.cell (.tail _ _ _ _ _ (Has.head _ _ _ _)) (i := 1) rfl⟩) (fun hHeld => ?_)
  refine wpAnyH_take (i := 0) (v := ?v1) rfl (by kernel_rfl) (by kernel_rfl) (by kernel_rfl) (fun _ _ _ h => h) (Or.inl ⟨by rfl, ?hy1⟩) hHeld ?rest1
  case hy1 => (intro w' hSw; (try dsimp only at hSw); go_simp; (try with_reducible rfl))
  try simp only [Act.put, List.setIfInBounds_toArray, List.set_cons_zero, List.set_cons_succ, List.getElem_toArray, List.getElem_cons_zero, List.getElem_cons_succ]
  refine wpAnyH_take (i := 1) (v := ?v2) rfl (by kernel_rfl) (by kernel_rfl) (by kernel_rfl) (fun _ _ _ h => h) (Or.inl ⟨by rfl, ?hy2⟩) hHeld ?rest2
  case hy2 => (intro w' hSw; (try dsimp only at hSw); go_simp; (try with_reducible rfl))
  try simp only [Act.put, List.setIfInBounds_toArray, List.set_cons_zero, List.set_cons_succ, List.getElem_toArray, List.getElem_cons_zero, List.getElem_cons_succ]
  refine wpAnyH_take (i := 2) (v := ?v3) rfl (by kernel_rfl) (by kernel_rfl) (by kernel_rfl) (fun _ _ _ h => h) (Or.inl ⟨by rfl, ?hy3⟩) hHeld ?rest3
  case hy3 => (intro w' hSw; (try dsimp only at hSw); go_simp; (try with_reducible rfl))
  try simp only [Act.put, List.setIfInBounds_toArray, List.set_cons_zero, List.set_cons_succ, List.getElem_toArray, List.getElem_cons_zero, List.getElem_cons_succ]
  refine wpAnyH_take (i := 3) (v := ?v4) rfl (by kernel_rfl) (by kernel_rfl) (by kernel_rfl) (fun _ _ _ h => h) (Or.inl ⟨by rfl, ?hy4⟩) hHeld ?rest4
  case hy4 => (intro w' hSw; (try dsimp only at hSw); go_simp; (try with_reducible rfl))
  try simp only [Act.put, List.setIfInBounds_toArray, List.set_cons_zero, List.set_cons_succ, List.getElem_toArray, List.getElem_cons_zero, List.getElem_cons_succ]
  refine wpAnyH_take (i := 4) (v := ?v5) rfl (by kernel_rfl) (by kernel_rfl) (by kernel_rfl) (fun _ _ _ h => h) (Or.inl ⟨by rfl, ?hy5⟩) hHeld ?rest5
  case hy5 => (intro w' hSw; (try dsimp only at hSw); go_simp; (try with_reducible rfl))
  try simp only [Act.put, List.setIfInBounds_toArray, List.set_cons_zero, List.set_cons_succ, List.getElem_toArray, List.getElem_cons_zero, List.getElem_cons_succ]
  refine wpAnyH_take (i := 5) (v := ?v6) rfl (by kernel_rfl) (by kernel_rfl) (by kernel_rfl) (fun _ _ _ h => h) (Or.inl ⟨by rfl, ?hy6⟩) hHeld ?rest6
  case hy6 => (intro w' hSw; (try dsimp only at hSw); go_simp; (try with_reducible rfl))
  try simp only [Act.put, List.setIfInBounds_toArray, List.set_cons_zero, List.set_cons_succ, List.getElem_toArray, List.getElem_cons_zero, List.getElem_cons_succ]
  refine wpAnyH_ready (rs := [6]) (by kernel_rfl) (by simp) ?_
  refine AllReadyH.cons rfl (fun K hK => ?_) AllReadyH.nil
  go_simp
  refine (S1.out _ _ _ _ _ ((Sl.of_own O3.out).below (Below.refl _ _).drew) (R4.out.below (Below.refl _ _).drew)).mono ?_
  rintro e wx ⟨rfl, hA1⟩
  have Mx := M9.drew.call hA1
  try go_wp2_with fail
  refine hK.out _ _ (⟨Mx.cell (.tail _ _ _ _ _ (.tail _ _ _ _ _ (Has.head _ _ _ _))) (i := 0) rfl, Mx.cell (.tail _ _ _ _ _ (.tail _ _ _ _ _ (Has.head _ _ _ _))) (i := 1) rfl, Mx.cell (.tail _ _ _ _ _ (.tail _ _ _ _ _ (Has.head _ _ _ _))) (i := 2) rfl, Mx.cell (.tail _ _ _ _ _ (.tail _ _ _ _ _ (Has.head _ _ _ _))) (i := 3) rfl, Mx.cell (.tail _ _ _ _ _ (.tail _ _ _ _ _ (Has.head _ _ _ _))) (i := 4) rfl, Mx.cell (.tail _ _ _ _ _ (.tail _ _ _ _ _ (Has.head _ _ _ _))) (i := 5) rfl, Mx.cell (Has.head _ _ _ _) (i := 0) rfl, Mx.cell (Has.head _ _ _ _) (i := 1) rfl, Mx.cell (Has.head _ _ _ _) (i := 2) rfl, Mx.cell (Has.head _ _ _ _) (i := 3) rfl, Mx.cell (Has.head _ _ _ _) (i := 4) rfl, Mx.cell (Has.head _ _ _ _) (i := 5) rfl, Mx.cell (.tail _ _ _ _ _ (Has.head _ _ _ _)) (i := 0) rfl, Mx.cell (.tail _ _ _ _ _ (Has.head _ _ _ _)) (i := 1) rfl⟩) (fun hHeld => ?_)
  clear hK K
  try simp only [Act.put, List.setIfInBounds_toArray, List.set_cons_zero, List.set_cons_succ, List.getElem_toArray, List.getElem_cons_zero, List.getElem_cons_succ]
  refine wpAnyH_take (i := 7) (v := ?v8) rfl (by kernel_rfl) (by kernel_rfl) (by kernel_rfl) (fun _ _ _ h => h) (Or.inl ⟨by rfl, ?hy8⟩) hHeld ?rest8
  case hy8 => (intro w' hSw; (try dsimp only at hSw); go_simp; (try with_reducible rfl))
  try simp only [Act.put, List.setIfInBounds_toArray, List.set_cons_zero, List.set_cons_succ, List.getElem_toArray, List.getElem_cons_zero, List.getElem_cons_succ]
  refine wpAnyH_take (i := 8) (v := ?v9) rfl (by kernel_rfl) (by kernel_rfl) (by kernel_rfl) (fun _ _ _ h => h) (Or.inl ⟨by rfl, ?hy9⟩) hHeld ?rest9
  case hy9 => (intro w' hSw; (try dsimp only at hSw); go_simp; (try with_reducible rfl))
  try simp only [Act.put, List.setIfInBounds_toArray, List.set_cons_zero, List.set_cons_succ, List.getElem_toArray, List.getElem_cons_zero, List.getElem_cons_succ]
  refine wpAnyH_take (i := 9) (v := ?v10) rfl (by kernel_rfl) (by kernel_rfl) (by kernel_rfl) (fun _ _ _ h => h) (Or.inl ⟨by rfl, ?hy10⟩) hHeld ?rest10
  case hy10 => (intro w' hSw; (try dsimp only at hSw); go_simp; (try with_reducible rfl))
  try simp only [Act.put, List.setIfInBounds_toArray, List.set_cons_zero, List.set_cons_succ, List.getElem_toArray, List.getElem_cons_zero, List.getElem_cons_succ]
  refine wpAnyH_take (i := 10) (v := ?v11) rfl (by kernel_rfl) (by kernel_rfl) (by kernel_rfl) (fun _ _ _ h => h) (Or.inl ⟨by rfl, ?hy11⟩) hHeld ?rest11
  case hy11 => (intro w' hSw; (try dsimp only at hSw); go_simp; (try with_reducible rfl))
  try simp only [Act.put, List.setIfInBounds_toArray, List.set_cons_zero, List.set_cons_succ, List.getElem_toArray, List.getElem_cons_zero, List.getElem_cons_succ]
  refine wpAnyH_take (i := 11) (v := ?v12) rfl (by kernel_rfl) (by kernel_rfl) (by kernel_rfl) (fun _ _ _ h => h) (Or.inl ⟨by rfl, ?hy12⟩) hHeld ?rest12
  case hy12 => (intro w' hSw; (try dsimp only at hSw); go_simp; (try with_reducible rfl))
  try simp only [Act.put, List.setIfInBounds_toArray, List.set_cons_zero, List.set_cons_succ, List.getElem_toArray, List.getElem_cons_zero, List.getElem_cons_succ]
  refine wpAnyH_ready (rs := [12]) (by kernel_rfl) (by simp) ?_
  refine AllReadyH.cons rfl (fun K hK => ?_) AllReadyH.nil
  go_simp
  refine (KO.out _).mono ?_
  rintro e wy ⟨rfl, hA2⟩
  have My := Mx.call hA2
  try go_wp2_with fail
  refine hK.out _ _ (⟨My.cell (.tail _ _ _ _ _ (.tail _ _ _ _ _ (Has.head _ _ _ _))) (i := 0) rfl, My.cell (.tail _ _ _ _ _ (.tail _ _ _ _ _ (Has.head _ _ _ _))) (i := 1) rfl, My.cell (.tail _ _ _ _ _ (.tail _ _ _ _ _ (Has.head _ _ _ _))) (i := 2) rfl, My.cell (.tail _ _ _ _ _ (.tail _ _ _ _ _ (Has.head _ _ _ _))) (i := 3) rfl, My.cell (.tail _ _ _ _ _ (.tail _ _ _ _ _ (Has.head _ _ _ _))) (i := 4) rfl, My.cell (.tail _ _ _ _ _ (.tail _ _ _ _ _ (Has.head _ _ _ _))) (i := 5) rfl, My.cell (Has.head _ _ _ _) (i := 0) rfl, My.cell (Has.head _ _ _ _) (i := 1) rfl, My.cell (Has.head _ _ _ _) (i := 2) rfl, My.cell (Has.head _ _ _ _) (i := 3) rfl, My.cell (Has.head _ _ _ _) (i := 4) rfl, My.cell (Has.head _ _ _ _) (i := 5) rfl, My.cell (.tail _ _ _ _ _ (Has.head _ _ _ _)) (i := 0) rfl, My.cell (.tail _ _ _ _ _ (Has.head _ _ _ _)) (i := 1) rfl⟩) (fun hHeld => ?_)
  clear hK K
  try simp only [Act.put, List.setIfInBounds_toArray, List.set_cons_zero, List.set_cons_succ, List.getElem_toArray, List.getElem_cons_zero, List.getElem_cons_succ]
  refine wpAnyH_take (i := 13) (v := ?v14) rfl (by kernel_rfl) (by kernel_rfl) (by kernel_rfl) (fun _ _ _ h => h) (Or.inl ⟨by rfl, ?hy14⟩) hHeld ?rest14
  case hy14 => (intro w' hSw; (try dsimp only at hSw); go_simp; (try with_reducible rfl))
  try simp only [Act.put, List.setIfInBounds_toArray, List.set_cons_zero, List.set_cons_succ, List.getElem_toArray, List.getElem_cons_zero, List.getElem_cons_succ]
  refine wpAnyH_take (i := 14) (v := ?v15) rfl (by kernel_rfl) (by kernel_rfl) (by kernel_rfl) (fun _ _ _ h => h) (Or.inl ⟨by rfl, ?hy15⟩) hHeld ?rest15
  case hy15 => (intro w' hSw; (try dsimp only at hSw); go_simp; (try with_reducible rfl))
  try simp only [Act.put, List.setIfInBounds_toArray, List.set_cons_zero, List.set_cons_succ, List.getElem_toArray, List.getElem_cons_zero, List.getElem_cons_succ]
  refine wpAnyH_take (i := 15) (v := ?v16) rfl (by kernel_rfl) (by kernel_rfl) (by kernel_rfl) (fun _ _ _ h => h) (Or.inl ⟨by rfl, ?hy16⟩) hHeld ?rest16
  case hy16 => (intro w' hSw; (try dsimp only at hSw); go_simp; (try with_reducible rfl))
  try simp only [Act.put, List.setIfInBounds_toArray, List.set_cons_zero, List.set_cons_succ, List.getElem_toArray, List.getElem_cons_zero, List.getElem_cons_succ]
  refine wpAnyH_take (i := 16) (v := ?v17) rfl (by kernel_rfl) (by kernel_rfl) (by kernel_rfl) (fun _ _ _ h => h) (Or.inl ⟨by rfl, ?hy17⟩) hHeld ?rest17
  case hy17 => (intro w' hSw; (try dsimp only at hSw); go_simp; (try with_reducible rfl))
  try simp only [Act.put, List.setIfInBounds_toArray, List.set_cons_zero, List.set_cons_succ, List.getElem_toArray, List.getElem_cons_zero, List.getElem_cons_succ]
  refine wpAnyH_take (i := 17) (v := ?v18) rfl (by kernel_rfl) (by kernel_rfl) (by kernel_rfl) (fun _ _ _ h => h) (Or.inl ⟨by rfl, ?hy18⟩) hHeld ?rest18
  case hy18 => (intro w' hSw; (try dsimp only at hSw); go_simp; (try with_reducible rfl))
  try simp only [Act.put, List.setIfInBounds_toArray, List.set_cons_zero, List.set_cons_succ, List.getElem_toArray, List.getElem_cons_zero, List.getElem_cons_succ]
  refine wpAnyH_take (i := 18) (v := ?v19) rfl (by kernel_rfl) (by kernel_rfl) (by kernel_rfl) (fun _ _ _ h => h) (Or.inl ⟨by rfl, ?hy19⟩) hHeld ?rest19
  case hy19 => (intro w' hSw; (try dsimp only at hSw); go_simp; (try with_reducible rfl))
  try simp only [Act.put, List.setIfInBounds_toArray, List.set_cons_zero, List.set_cons_succ, List.getElem_toArray, List.getElem_cons_zero, List.getElem_cons_succ]
  refine wpAnyH_take (i := 19) (v := ?v20) rfl (by kernel_rfl) (by kernel_rfl) (by kernel_rfl) (fun _ _ _ h => h) (Or.inl ⟨by rfl, ?hy20⟩) hHeld ?rest20
  case hy20 => (intro w' hSw; (try dsimp only at hSw); go_simp; (try with_reducible rfl))
  try simp only [Act.put, List.setIfInBounds_toArray, List.set_cons_zero, List.set_cons_succ, List.getElem_toArray, List.getElem_cons_zero, List.getElem_cons_succ]
  refine wpAnyH_done (by kernel_rfl) ?_ _
  have hA : Below w9.heap.size w9 wy := (((Below.refl w9.heap.size w9).drew).trans hA1).trans (hA2.mono hA1.size)
  replace R1 := Lib.hid (R1.out.below hA)
  replace O2 := Lib.hid (ownsRow_below O2.out hA)
  replace O3 := Lib.hid (ownsRow_below O3.out hA)
  replace HB := Lib.hid (HB.out.trans (hA.mono HB.out.size))
  have M10 := My
  clear hA hA1 hA2 Mx My M9 R4
  have c_gG_0 := M10.cell (.tail _ _ _ _ _ (.tail _ _ _ _ _ (.tail _ _ _ _ _ (Has.head _ _ _ _)))) (i := 0) rfl
  have c_gG_1 := M10.cell (.tail _ _ _ _ _ (.tail _ _ _ _ _ (.tail _ _ _ _ _ (Has.head _ _ _ _)))) (i := 1) rfl
  have c_gG_2 := M10.cell (.tail _ _ _ _ _ (.tail _ _ _ _ _ (.tail _ _ _ _ _ (Has.head _ _ _ _)))) (i := 2) rfl
  have c_gG_3 := M10.cell (.tail _ _ _ _ _ (.tail _ _ _ _ _ (.tail _ _ _ _ _ (Has.head _ _ _ _)))) (i := 3) rfl
  have c_gG_4 := M10.cell (.tail _ _ _ _ _ (.tail _ _ _ _ _ (.tail _ _ _ _ _ (Has.head _ _ _ _)))) (i := 4) rfl
  have c_gG_5 := M10.cell (.tail _ _ _ _ _ (.tail _ _ _ _ _ (.tail _ _ _ _ _ (Has.head _ _ _ _)))) (i := 5) rfl
  go_upto_region 10 with fail
  obtain ⟨ax, cx, cut1, _, _⟩ := (Sl.of_own O2.out).cut_from E64 1 hn1
  replace cut1 : ∀ wx : World, (Instr.slice 22 (.slice (some ⟨gX, 0, none⟩) n cX) (some (.int .i64 1)) none none).run Try.prog wx = .ok (.slice ax (n - 1) cx) wx := cut1
  go_cut [19, 20, 21, 22] from 23 (fun s19 s20 s21 s22 wx => s22 = .int .i64 5 ∧ Below wy.heap.size wy wx)
  case first =>
    refine wp_region_held_drew (S := (fun w' : World => w'.cell? ⟨gG, 0, none⟩ = some (.int .i64 x) ∧ w'.cell? ⟨gG, 1, none⟩ = some (.int .i64 y) ∧ w'.cell? ⟨gG, 2, none⟩ = some (.int .i64 1000) ∧ w'.cell? ⟨gG, 3, none⟩ = some (.int .i64 (-1000)) ∧ w'.cell? ⟨gG, 4, none⟩ = some (.int .i64 S) ∧ w'.cell? ⟨gG, 5, none⟩ = some (.slice a1 n cap1))) (by kernel_rfl) (gcells (M10.has (.tail _ _ _ _ _ (.tail _ _ _ _ _ (.tail _ _ _ _ _ (Has.head _ _ _ _)))))) (fun hHeld => ?_)
    refine wpAnyH_take (i := 0) (v := ?v7001) rfl (by kernel_rfl) (by kernel_rfl) (by kernel_rfl) (fun _ _ _ h => h) (Or.inl ⟨by rfl, ?hy7001⟩) hHeld ?rest7001
    case hy7001 => (intro w' hSw; (try dsimp only at hSw); go_simp; (try with_reducible rfl))
    try simp only [Act.put, List.setIfInBounds_toArray, List.set_cons_zero, List.set_cons_succ, List.getElem_toArray, List.getElem_cons_zero, List.getElem_cons_succ]
    refine wpAnyH_take (i := 1) (v := ?v7002) rfl (by kernel_rfl) (by kernel_rfl) (by kernel_rfl) (fun _ _ _ h => h) (Or.inl ⟨by rfl, ?hy7002⟩) hHeld ?rest7002
    case hy7002 => (intro w' hSw; (try dsimp only at hSw); go_simp; (try with_reducible rfl))
    try simp only [Act.put, List.setIfInBounds_toArray, List.set_cons_zero, List.set_cons_succ, List.getElem_toArray, List.getElem_cons_zero, List.getElem_cons_succ]
    refine wpAnyH_take (i := 2) (v := ?v7003) rfl (by kernel_rfl) (by kernel_rfl) (by kernel_rfl) (fun _ _ _ h => h) (Or.inl ⟨by rfl, ?hy7003⟩) hHeld ?rest7003
    case hy7003 => (intro w' hSw; (try dsimp only at hSw); go_simp; (try with_reducible rfl))
    try simp only [Act.put, List.setIfInBounds_toArray, List.set_cons_zero, List.set_cons_succ, List.getElem_toArray, List.getElem_cons_zero, List.getElem_cons_succ]
    have Mq0 := M10.drew
    have Hq0 := (Below.refl wy.heap.size wy).drew
    refine wpAnyH_ready (rs := [3, 9, 10]) (by kernel_rfl) (by simp) ?_
    refine AllReadyH.cons rfl (fun K hK => ?ord1) (AllReadyH.cons rfl (fun K hK => ?ord2) (AllReadyH.cons rfl (fun K hK => ?ord3) AllReadyH.nil))
    case ord1 =>
     go_simp
     refine (K4.out a1 cap1 _ _ _ (R1.out.below Hq0)).mono ?_
     rintro e wx1 ⟨a5, cap5, rfl, _, hA5⟩
     have Mq1 := Mq0.call hA5
     have Hq1 := Hq0.trans (hA5.mono Hq0.size)
     try go_wp2_with fail
     refine hK.out _ _ (gcells (Mq1.has (.tail _ _ _ _ _ (.tail _ _ _ _ _ (.tail _ _ _ _ _ (Has.head _ _ _ _)))))) (fun hHeld => ?_)
     clear hK K Mq0 Hq0
     try simp only [Act.put, List.setIfInBounds_toArray, List.set_cons_zero, List.set_cons_succ, List.getElem_toArray, List.getElem_cons_zero, List.getElem_cons_succ]
     refine wpAnyH_take (i := 4) (v := ?v7004) rfl (by kernel_rfl) (by kernel_rfl) (by kernel_rfl) (fun _ _ _ h => h) (Or.inl ⟨by rfl, ?hy7004⟩) hHeld ?rest7004
     case hy7004 => (intro w' hSw; (try dsimp only at hSw); go_simp; (try with_reducible rfl))
     try simp only [Act.put, List.setIfInBounds_toArray, List.set_cons_zero, List.set_cons_succ, List.getElem_toArray, List.getElem_cons_zero, List.getElem_cons_succ]
     refine wpAnyH_take (i := 5) (v := ?v7005) rfl (by kernel_rfl) (by kernel_rfl) (by kernel_rfl) (fun _ _ _ h => h) (Or.inl ⟨by rfl, ?hy7005⟩) hHeld ?rest7005
     case hy7005 => (intro w' hSw; (try dsimp only at hSw); go_simp; (try with_reducible rfl))
     try simp only [Act.put, List.setIfInBounds_toArray, List.set_cons_zero, List.set_cons_succ, List.getElem_toArray, List.getElem_cons_zero, List.getElem_cons_succ]
     refine wpAnyH_take (i := 6) (v := ?v7006) rfl (by kernel_rfl) (by kernel_rfl) (by kernel_rfl) (fun _ _ _ h => h) (Or.inl ⟨by rfl, ?hy7006⟩) hHeld ?rest7006
     case hy7006 => (intro w' hSw; (try dsimp only at hSw); go_simp; (try with_reducible rfl))
     try simp only [Act.put, List.setIfInBounds_toArray, List.set_cons_zero, List.set_cons_succ, List.getElem_toArray, List.getElem_cons_zero, List.getElem_cons_succ]
     refine wpAnyH_take (i := 7) (v := ?v7007) rfl (by kernel_rfl) (by kernel_rfl) (by kernel_rfl) (fun _ _ _ h => h) (Or.inl ⟨by rfl, ?hy7007⟩) hHeld ?rest7007
     case hy7007 => (intro w' hSw; (try dsimp only at hSw); go_simp; (try with_reducible rfl))
     try simp only [Act.put, List.setIfInBounds_toArray, List.set_cons_zero, List.set_cons_succ, List.getElem_toArray, List.getElem_cons_zero, List.getElem_cons_succ]
     refine wpAnyH_take (i := 8) (v := ?v7008) rfl (by kernel_rfl) (by kernel_rfl) (by kernel_rfl) (fun _ _ _ h => h) (Or.inl ⟨by rfl, ?hy7008⟩) hHeld ?rest7008
     case hy7008 => (intro w' hSw; (try dsimp only at hSw); go_simp; (try with_reducible rfl))
     try simp only [Act.put, List.setIfInBounds_toArray, List.set_cons_zero, List.set_cons_succ, List.getElem_toArray, List.getElem_cons_zero, List.getElem_cons_succ]
     refine wpAnyH_ready (rs := [9, 10]) (by kernel_rfl) (by simp) ?_
     refine AllReadyH.cons rfl (fun K hK => ?ord4) (AllReadyH.cons rfl (fun K hK => ?ord5) AllReadyH.nil)
     case ord4 =>
      rw [if_pos (by rfl)]
      refine wp_alB Mq1 rfl zeroG rfl ?_
      intro gA wx2 Mq2 hg hb
      have Hq2 := Hq1.trans (hb.mono Hq1.size)
      have hgA : wy.heap.size ≤ gA := Nat.le_trans Hq1.size hg
      clear hg hb
      refine hK.out _ _ (gcells (Mq2.has (.tail _ _ _ _ _ (.tail _ _ _ _ _ (.tail _ _ _ _ _ (.tail _ _ _ _ _ (Has.head _ _ _ _))))))) (fun hHeld => ?_)
      clear hK K Mq1 Hq1
      try simp only [Act.put, List.setIfInBounds_toArray, List.set_cons_zero, List.set_cons_succ, List.getElem_toArray, List.getElem_cons_zero, List.getElem_cons_succ]
      refine wpAnyH_ready (rs := [10]) (by kernel_rfl) (by simp) ?_
      refine AllReadyH.cons rfl (fun K hK => ?ord6) AllReadyH.nil
      case ord6 =>
       rw [if_pos (by rfl)]
       refine wp_alB Mq2 rfl zeroWd rfl ?_
       intro gB wx3 Mq3 hg hb
       have Hq3 := Hq2.trans (hb.mono Hq2.size)
       have hgB : wy.heap.size ≤ gB := Nat.le_trans Hq2.size hg
       clear hg hb
       refine hK.out _ _ (gcells (Mq3.has (.tail _ _ _ _ _ (.tail _ _ _ _ _ (.tail _ _ _ _ _ (.tail _ _ _ _ _ (.tail _ _ _ _ _ (Has.head _ _ _ _)))))))) (fun hHeld => ?_)
       clear hK K Mq2 Hq2
       try simp only [Act.put, List.setIfInBounds_toArray, List.set_cons_zero, List.set_cons_succ, List.getElem_toArray, List.getElem_cons_zero, List.getElem_cons_succ]
       refine wpAnyH_ready (rs := [11]) (by kernel_rfl) (by simp) ?_
       refine AllReadyH.cons rfl (fun K hK => ?ord7) AllReadyH.nil
       case ord7 =>
        rw [if_pos (by rfl)]
        refine wp_stM (v := gv x y 1000 (-1000) S (.slice a5 n cap5)) Mq3 rfl rfl rfl (wr_g _ _ _ _ _ _ _ _ _ _ _ _ _ _) (.tail _ _ _ _ _ _ _ (Upd.head _ _ _ _ _)) ?_
        intro wx4 Mq4 hT9
        have Hq4 := hT9.old Hq3 Hq3.size (fun k hk e => by omega)
        clear hT9
        refine hK.out _ _ (gcells (Mq4.has (.tail _ _ _ _ _ (.tail _ _ _ _ _ (.tail _ _ _ _ _ (.tail _ _ _ _ _ (.tail _ _ _ _ _ (Has.head _ _ _ _)))))))) (fun hHeld => ?_)
        clear hK K Mq3 Hq3
        try simp only [Act.put, List.setIfInBounds_toArray, List.set_cons_zero, List.set_cons_succ, List.getElem_toArray, List.getElem_cons_zero, List.getElem_cons_succ]
        refine wpAnyH_ready (rs := [12]) (by kernel_rfl) (by simp) ?_
        refine AllReadyH.cons rfl (fun K hK => ?ord8) AllReadyH.nil
        case ord8 =>
         rw [if_pos (by rfl)]
         refine wp_stM (v := wv (hiZ 0) (loZ 0)) Mq4 rfl rfl rfl (wr_w _ rfl _ _) (Upd.head _ _ _ _ _) ?_
         intro wx5 Mq5 hT9
         have Hq5 := hT9.old Hq4 Hq4.size (fun k hk e => by omega)
         clear hT9
         refine hK.out _ _ (gcells (Mq5.has (.tail _ _ _ _ _ (.tail _ _ _ _ _ (.tail _ _ _ _ _ (.tail _ _ _ _ _ (.tail _ _ _ _ _ (Has.head _ _ _ _)))))))) (fun hHeld => ?_)
         clear hK K Mq4 Hq4
         try simp only [Act.put, List.setIfInBounds_toArray, List.set_cons_zero, List.set_cons_succ, List.getElem_toArray, List.getElem_cons_zero, List.getElem_cons_succ]
         refine wpAnyH_take (i := 13) (v := ?v7009) rfl (by kernel_rfl) (by kernel_rfl) (by kernel_rfl) (fun _ _ _ h => h) (Or.inl ⟨by rfl, ?hy7009⟩) hHeld ?rest7009
         case hy7009 => (intro w' hSw; (try dsimp only at hSw); go_simp; (try with_reducible rfl))
         try simp only [Act.put, List.setIfInBounds_toArray, List.set_cons_zero, List.set_cons_succ, List.getElem_toArray, List.getElem_cons_zero, List.getElem_cons_succ]
         refine wpAnyH_take (i := 14) (v := ?v7010) rfl (by kernel_rfl) (by kernel_rfl) (by kernel_rfl) (fun _ _ _ h => h) (Or.inl ⟨by rfl, ?hy7010⟩) hHeld ?rest7010
         case hy7010 => (intro w' hSw; (try dsimp only at hSw); go_simp; (try with_reducible rfl))
         try simp only [Act.put, List.setIfInBounds_toArray, List.set_cons_zero, List.set_cons_succ, List.getElem_toArray, List.getElem_cons_zero, List.getElem_cons_succ]
         refine wpAnyH_done (by kernel_rfl) ?_ _
         go_wp2_with fail
         go_meet
         exact ⟨rfl, Hq5⟩
     case ord5 =>
      rw [if_pos (by rfl)]
      refine wp_alB Mq1 rfl zeroWd rfl ?_
      intro gB wx2 Mq2 hg hb
      have Hq2 := Hq1.trans (hb.mono Hq1.size)
      have hgB : wy.heap.size ≤ gB := Nat.le_trans Hq1.size hg
      clear hg hb
      refine hK.out _ _ (gcells (Mq2.has (.tail _ _ _ _ _ (.tail _ _ _ _ _ (.tail _ _ _ _ _ (.tail _ _ _ _ _ (Has.head _ _ _ _))))))) (fun hHeld => ?_)
      clear hK K Mq1 Hq1
      try simp only [Act.put, List.setIfInBounds_toArray, List.set_cons_zero, List.set_cons_succ, List.getElem_toArray, List.getElem_cons_zero, List.getElem_cons_succ]
      refine wpAnyH_ready (rs := [9]) (by kernel_rfl) (by simp) ?_
      refine AllReadyH.cons rfl (fun K hK => ?ord9) AllReadyH.nil
      case ord9 =>
       rw [if_pos (by rfl)]
       refine wp_alB Mq2 rfl zeroG rfl ?_
       intro gA wx3 Mq3 hg hb
       have Hq3 := Hq2.trans (hb.mono Hq2.size)
       have hgA : wy.heap.size ≤ gA := Nat.le_trans Hq2.size hg
       clear hg hb
       refine hK.out _ _ (gcells (Mq3.has (.tail _ _ _ _ _ (.tail _ _ _ _ _ (.tail _ _ _ _ _ (.tail _ _ _ _ _ (.tail _ _ _ _ _ (Has.head _ _ _ _)))))))) (fun hHeld => ?_)
       clear hK K Mq2 Hq2
       try simp only [Act.put, List.setIfInBounds_toArray, List.set_cons_zero, List.set_cons_succ, List.getElem_toArray, List.getElem_cons_zero, List.getElem_cons_succ]
       refine wpAnyH_ready (rs := [11]) (by kernel_rfl) (by simp) ?_
       refine AllReadyH.cons rfl (fun K hK => ?ord10) AllReadyH.nil
       case ord10 =>
        rw [if_pos (by rfl)]
        refine wp_stM (v := gv x y 1000 (-1000) S (.slice a5 n cap5)) Mq3 rfl rfl rfl (wr_g _ _ _ _ _ _ _ _ _ _ _ _ _ _) (Upd.head _ _ _ _ _) ?_
        intro wx4 Mq4 hT9
        have Hq4 := hT9.old Hq3 Hq3.size (fun k hk e => by omega)
        clear hT9
        refine hK.out _ _ (gcells (Mq4.has (.tail _ _ _ _ _ (.tail _ _ _ _ _ (.tail _ _ _ _ _ (.tail _ _ _ _ _ (.tail _ _ _ _ _ (Has.head _ _ _ _)))))))) (fun hHeld => ?_)
        clear hK K Mq3 Hq3
        try simp only [Act.put, List.setIfInBounds_toArray, List.set_cons_zero, List.set_cons_succ, List.getElem_toArray, List.getElem_cons_zero, List.getElem_cons_succ]
        refine wpAnyH_ready (rs := [12]) (by kernel_rfl) (by simp) ?_
        refine AllReadyH.cons rfl (fun K hK => ?ord11) AllReadyH.nil
        case ord11 =>
         rw [if_pos (by rfl)]
         refine wp_stM (v := wv (hiZ 0) (loZ 0)) Mq4 rfl rfl rfl (wr_w _ rfl _ _) (.tail _ _ _ _ _ _ _ (Upd.head _ _ _ _ _)) ?_
         intro wx5 Mq5 hT9
         have Hq5 := hT9.old Hq4 Hq4.size (fun k hk e => by omega)
         clear hT9
         refine hK.out _ _ (gcells (Mq5.has (.tail _ _ _ _ _ (.tail _ _ _ _ _ (.tail _ _ _ _ _ (.tail _ _ _ _ _ (.tail _ _ _ _ _ (Has.head _ _ _ _)))))))) (fun hHeld => ?_)
         clear hK K Mq4 Hq4
         try simp only [Act.put, List.setIfInBounds_toArray, List.set_cons_zero, List.set_cons_succ, List.getElem_toArray, List.getElem_cons_zero, List.getElem_cons_succ]
         refine wpAnyH_take (i := 13) (v := ?v7011) rfl (by kernel_rfl) (by kernel_rfl) (by kernel_rfl) (fun _ _ _ h => h) (Or.inl ⟨by rfl, ?hy7011⟩) hHeld ?rest7011
         case hy7011 => (intro w' hSw; (try dsimp only at hSw); go_simp; (try with_reducible rfl))
         try simp only [Act.put, List.setIfInBounds_toArray, List.set_cons_zero, List.set_cons_succ, List.getElem_toArray, List.getElem_cons_zero, List.getElem_cons_succ]
         refine wpAnyH_take (i := 14) (v := ?v7012) rfl (by kernel_rfl) (by kernel_rfl) (by kernel_rfl) (fun _ _ _ h => h) (Or.inl ⟨by rfl, ?hy7012⟩) hHeld ?rest7012
         case hy7012 => (intro w' hSw; (try dsimp only at hSw); go_simp; (try with_reducible rfl))
         try simp only [Act.put, List.setIfInBounds_toArray, List.set_cons_zero, List.set_cons_succ, List.getElem_toArray, List.getElem_cons_zero, List.getElem_cons_succ]
         refine wpAnyH_done (by kernel_rfl) ?_ _
         go_wp2_with fail
         go_meet
         exact ⟨rfl, Hq5⟩
    case ord2 =>
     rw [if_pos (by rfl)]
     refine wp_alB Mq0 rfl zeroG rfl ?_
     intro gA wx1 Mq1 hg hb
     have Hq1 := Hq0.trans (hb.mono Hq0.size)
     have hgA : wy.heap.size ≤ gA := Nat.le_trans Hq0.size hg
     clear hg hb
     refine hK.out _ _ (gcells (Mq1.has (.tail _ _ _ _ _ (.tail _ _ _ _ _ (.tail _ _ _ _ _ (.tail _ _ _ _ _ (Has.head _ _ _ _))))))) (fun hHeld => ?_)
     clear hK K Mq0 Hq0
     try simp only [Act.put, List.setIfInBounds_toArray, List.set_cons_zero, List.set_cons_succ, List.getElem_toArray, List.getElem_cons_zero, List.getElem_cons_succ]
     refine wpAnyH_ready (rs := [3, 10]) (by kernel_rfl) (by simp) ?_
     refine AllReadyH.cons rfl (fun K hK => ?ord12) (AllReadyH.cons rfl (fun K hK => ?ord13) AllReadyH.nil)
     case ord12 =>
      go_simp
      refine (K4.out a1 cap1 _ _ _ (R1.out.below Hq1)).mono ?_
      rintro e wx2 ⟨a5, cap5, rfl, _, hA5⟩
      have Mq2 := Mq1.call hA5
      have Hq2 := Hq1.trans (hA5.mono Hq1.size)
      try go_wp2_with fail
      refine hK.out _ _ (gcells (Mq2.has (.tail _ _ _ _ _ (.tail _ _ _ _ _ (.tail _ _ _ _ _ (.tail _ _ _ _ _ (Has.head _ _ _ _))))))) (fun hHeld => ?_)
      clear hK K Mq1 Hq1
      try simp only [Act.put, List.setIfInBounds_toArray, List.set_cons_zero, List.set_cons_succ, List.getElem_toArray, List.getElem_cons_zero, List.getElem_cons_succ]
      refine wpAnyH_take (i := 4) (v := ?v7013) rfl (by kernel_rfl) (by kernel_rfl) (by kernel_rfl) (fun _ _ _ h => h) (Or.inl ⟨by rfl, ?hy7013⟩) hHeld ?rest7013
      case hy7013 => (intro w' hSw; (try dsimp only at hSw); go_simp; (try with_reducible rfl))
      try simp only [Act.put, List.setIfInBounds_toArray, List.set_cons_zero, List.set_cons_succ, List.getElem_toArray, List.getElem_cons_zero, List.getElem_cons_succ]
      refine wpAnyH_take (i := 5) (v := ?v7014) rfl (by kernel_rfl) (by kernel_rfl) (by kernel_rfl) (fun _ _ _ h => h) (Or.inl ⟨by rfl, ?hy7014⟩) hHeld ?rest7014
      case hy7014 => (intro w' hSw; (try dsimp only at hSw); go_simp; (try with_reducible rfl))
      try simp only [Act.put, List.setIfInBounds_toArray, List.set_cons_zero, List.set_cons_succ, List.getElem_toArray, List.getElem_cons_zero, List.getElem_cons_succ]
      refine wpAnyH_take (i := 6) (v := ?v7015) rfl (by kernel_rfl) (by kernel_rfl) (by kernel_rfl) (fun _ _ _ h => h) (Or.inl ⟨by rfl, ?hy7015⟩) hHeld ?rest7015
      case hy7015 => (intro w' hSw; (try dsimp only at hSw); go_simp; (try with_reducible rfl))
      try simp only [Act.put, List.setIfInBounds_toArray, List.set_cons_zero, List.set_cons_succ, List.getElem_toArray, List.getElem_cons_zero, List.getElem_cons_succ]
      refine wpAnyH_take (i := 7) (v := ?v7016) rfl (by kernel_rfl) (by kernel_rfl) (by kernel_rfl) (fun _ _ _ h => h) (Or.inl ⟨by rfl, ?hy7016⟩) hHeld ?rest7016
      case hy7016 => (intro w' hSw; (try dsimp only at hSw); go_simp; (try with_reducible rfl))
      try simp only [Act.put, List.setIfInBounds_toArray, List.set_cons_zero, List.set_cons_succ, List.getElem_toArray, List.getElem_cons_zero, List.getElem_cons_succ]
      refine wpAnyH_take (i := 8) (v := ?v7017) rfl (by kernel_rfl) (by kernel_rfl) (by kernel_rfl) (fun _ _ _ h => h) (Or.inl ⟨by rfl, ?hy7017⟩) hHeld ?rest7017
      case hy7017 => (intro w' hSw; (try dsimp only at hSw); go_simp; (try with_reducible rfl))
      try simp only [Act.put, List.setIfInBounds_toArray, List.set_cons_zero, List.set_cons_succ, List.getElem_toArray, List.getElem_cons_zero, List.getElem_cons_succ]
      refine wpAnyH_ready (rs := [10]) (by kernel_rfl) (by simp) ?_
      refine AllReadyH.cons rfl (fun K hK => ?ord14) AllReadyH.nil
      case ord14 =>
       rw [if_pos (by rfl)]
       refine wp_alB Mq2 rfl zeroWd rfl ?_
       intro gB wx3 Mq3 hg hb
       have Hq3 := Hq2.trans (hb.mono Hq2.size)
       have hgB : wy.heap.size ≤ gB := Nat.le_trans Hq2.size hg
       clear hg hb
       refine hK.out _ _ (gcells (Mq3.has (.tail _ _ _ _ _ (.tail _ _ _ _ _ (.tail _ _ _ _ _ (.tail _ _ _ _ _ (.tail _ _ _ _ _ (Has.head _ _ _ _)))))))) (fun hHeld => ?_)
       clear hK K Mq2 Hq2
       try simp only [Act.put, List.setIfInBounds_toArray, List.set_cons_zero, List.set_cons_succ, List.getElem_toArray, List.getElem_cons_zero, List.getElem_cons_succ]
       refine wpAnyH_ready (rs := [11]) (by kernel_rfl) (by simp) ?_
       refine AllReadyH.cons rfl (fun K hK => ?ord15) AllReadyH.nil
       case ord15 =>
        rw [if_pos (by rfl)]
        refine wp_stM (v := gv x y 1000 (-1000) S (.slice a5 n cap5)) Mq3 rfl rfl rfl (wr_g _ _ _ _ _ _ _ _ _ _ _ _ _ _) (.tail _ _ _ _ _ _ _ (Upd.head _ _ _ _ _)) ?_
        intro wx4 Mq4 hT9
        have Hq4 := hT9.old Hq3 Hq3.size (fun k hk e => by omega)
        clear hT9
        refine hK.out _ _ (gcells (Mq4.has (.tail _ _ _ _ _ (.tail _ _ _ _ _ (.tail _ _ _ _ _ (.tail _ _ _ _ _ (.tail _ _ _ _ _ (Has.head _ _ _ _)))))))) (fun hHeld => ?_)
        clear hK K Mq3 Hq3
        try simp only [Act.put, List.setIfInBounds_toArray, List.set_cons_zero, List.set_cons_succ, List.getElem_toArray, List.getElem_cons_zero, List.getElem_cons_succ]
        refine wpAnyH_ready (rs := [12]) (by kernel_rfl) (by simp) ?_
        refine AllReadyH.cons rfl (fun K hK => ?ord16) AllReadyH.nil
        case ord16 =>
         rw [if_pos (by rfl)]
         refine wp_stM (v := wv (hiZ 0) (loZ 0)) Mq4 rfl rfl rfl (wr_w _ rfl _ _) (Upd.head _ _ _ _ _) ?_
         intro wx5 Mq5 hT9
         have Hq5 := hT9.old Hq4 Hq4.size (fun k hk e => by omega)
         clear hT9
         refine hK.out _ _ (gcells (Mq5.has (.tail _ _ _ _ _ (.tail _ _ _ _ _ (.tail _ _ _ _ _ (.tail _ _ _ _ _ (.tail _ _ _ _ _ (Has.head _ _ _ _)))))))) (fun hHeld => ?_)
         clear hK K Mq4 Hq4
         try simp only [Act.put, List.setIfInBounds_toArray, List.set_cons_zero, List.set_cons_succ, List.getElem_toArray, List.getElem_cons_zero, List.getElem_cons_succ]
         refine wpAnyH_take (i := 13) (v := ?v7018) rfl (by kernel_rfl) (by kernel_rfl) (by kernel_rfl) (fun _ _ _ h => h) (Or.inl ⟨by rfl, ?hy7018⟩) hHeld ?rest7018
         case hy7018 => (intro w' hSw; (try dsimp only at hSw); go_simp; (try with_reducible rfl))
         try simp only [Act.put, List.setIfInBounds_toArray, List.set_cons_zero, List.set_cons_succ, List.getElem_toArray, List.getElem_cons_zero, List.getElem_cons_succ]
         refine wpAnyH_take (i := 14) (v := ?v7019) rfl (by kernel_rfl) (by kernel_rfl) (by kernel_rfl) (fun _ _ _ h => h) (Or.inl ⟨by rfl, ?hy7019⟩) hHeld ?rest7019
         case hy7019 => (intro w' hSw; (try dsimp only at hSw); go_simp; (try with_reducible rfl))
         try simp only [Act.put, List.setIfInBounds_toArray, List.set_cons_zero, List.set_cons_succ, List.getElem_toArray, List.getElem_cons_zero, List.getElem_cons_succ]
         refine wpAnyH_done (by kernel_rfl) ?_ _
         go_wp2_with fail
         go_meet
         exact ⟨rfl, Hq5⟩
     case ord13 =>
      rw [if_pos (by rfl)]
      refine wp_alB Mq1 rfl zeroWd rfl ?_
      intro gB wx2 Mq2 hg hb
      have Hq2 := Hq1.trans (hb.mono Hq1.size)
      have hgB : wy.heap.size ≤ gB := Nat.le_trans Hq1.size hg
      clear hg hb
      refine hK.out _ _ (gcells (Mq2.has (.tail _ _ _ _ _ (.tail _ _ _ _ _ (.tail _ _ _ _ _ (.tail _ _ _ _ _ (.tail _ _ _ _ _ (Has.head _ _ _ _)))))))) (fun hHeld => ?_)
      clear hK K Mq1 Hq1
      try simp only [Act.put, List.setIfInBounds_toArray, List.set_cons_zero, List.set_cons_succ, List.getElem_toArray, List.getElem_cons_zero, List.getElem_cons_succ]
      refine wpAnyH_ready (rs := [3]) (by kernel_rfl) (by simp) ?_
      refine AllReadyH.cons rfl (fun K hK => ?ord17) AllReadyH.nil
      case ord17 =>
       go_simp
       refine (K4.out a1 cap1 _ _ _ (R1.out.below Hq2)).mono ?_
       rintro e wx3 ⟨a5, cap5, rfl, _, hA5⟩
       have Mq3 := Mq2.call hA5
       have Hq3 := Hq2.trans (hA5.mono Hq2.size)
       try go_wp2_with fail
       refine hK.out _ _ (gcells (Mq3.has (.tail _ _ _ _ _ (.tail _ _ _ _ _ (.tail _ _ _ _ _ (.tail _ _ _ _ _ (.tail _ _ _ _ _ (Has.head _ _ _ _)))))))) (fun hHeld => ?_)
       clear hK K Mq2 Hq2
       try simp only [Act.put, List.setIfInBounds_toArray, List.set_cons_zero, List.set_cons_succ, List.getElem_toArray, List.getElem_cons_zero, List.getElem_cons_succ]
       refine wpAnyH_take (i := 4) (v := ?v7020) rfl (by kernel_rfl) (by kernel_rfl) (by kernel_rfl) (fun _ _ _ h => h) (Or.inl ⟨by rfl, ?hy7020⟩) hHeld ?rest7020
       case hy7020 => (intro w' hSw; (try dsimp only at hSw); go_simp; (try with_reducible rfl))
       try simp only [Act.put, List.setIfInBounds_toArray, List.set_cons_zero, List.set_cons_succ, List.getElem_toArray, List.getElem_cons_zero, List.getElem_cons_succ]
       refine wpAnyH_take (i := 5) (v := ?v7021) rfl (by kernel_rfl) (by kernel_rfl) (by kernel_rfl) (fun _ _ _ h => h) (Or.inl ⟨by rfl, ?hy7021⟩) hHeld ?rest7021
       case hy7021 => (intro w' hSw; (try dsimp only at hSw); go_simp; (try with_reducible rfl))
       try simp only [Act.put, List.setIfInBounds_toArray, List.set_cons_zero, List.set_cons_succ, List.getElem_toArray, List.getElem_cons_zero, List.getElem_cons_succ]
       refine wpAnyH_take (i := 6) (v := ?v7022) rfl (by kernel_rfl) (by kernel_rfl) (by kernel_rfl) (fun _ _ _ h => h) (Or.inl ⟨by rfl, ?hy7022⟩) hHeld ?rest7022
       case hy7022 => (intro w' hSw; (try dsimp only at hSw); go_simp; (try with_reducible rfl))
       try simp only [Act.put, List.setIfInBounds_toArray, List.set_cons_zero, List.set_cons_succ, List.getElem_toArray, List.getElem_cons_zero, List.getElem_cons_succ]
       refine wpAnyH_take (i := 7) (v := ?v7023) rfl (by kernel_rfl) (by kernel_rfl) (by kernel_rfl) (fun _ _ _ h => h) (Or.inl ⟨by rfl, ?hy7023⟩) hHeld ?rest7023
       case hy7023 => (intro w' hSw; (try dsimp only at hSw); go_simp; (try with_reducible rfl))
       try simp only [Act.put, List.setIfInBounds_toArray, List.set_cons_zero, List.set_cons_succ, List.getElem_toArray, List.getElem_cons_zero, List.getElem_cons_succ]
       refine wpAnyH_take (i := 8) (v := ?v7024) rfl (by kernel_rfl) (by kernel_rfl) (by kernel_rfl) (fun _ _ _ h => h) (Or.inl ⟨by rfl, ?hy7024⟩) hHeld ?rest7024
       case hy7024 => (intro w' hSw; (try dsimp only at hSw); go_simp; (try with_reducible rfl))
       try simp only [Act.put, List.setIfInBounds_toArray, List.set_cons_zero, List.set_cons_succ, List.getElem_toArray, List.getElem_cons_zero, List.getElem_cons_succ]
       refine wpAnyH_ready (rs := [11]) (by kernel_rfl) (by simp) ?_
       refine AllReadyH.cons rfl (fun K hK => ?ord18) AllReadyH.nil
       case ord18 =>
        rw [if_pos (by rfl)]
        refine wp_stM (v := gv x y 1000 (-1000) S (.slice a5 n cap5)) Mq3 rfl rfl rfl (wr_g _ _ _ _ _ _ _ _ _ _ _ _ _ _) (.tail _ _ _ _ _ _ _ (Upd.head _ _ _ _ _)) ?_
        intro wx4 Mq4 hT9
        have Hq4 := hT9.old Hq3 Hq3.size (fun k hk e => by omega)
        clear hT9
        refine hK.out _ _ (gcells (Mq4.has (.tail _ _ _ _ _ (.tail _ _ _ _ _ (.tail _ _ _ _ _ (.tail _ _ _ _ _ (.tail _ _ _ _ _ (Has.head _ _ _ _)))))))) (fun hHeld => ?_)
        clear hK K Mq3 Hq3
        try simp only [Act.put, List.setIfInBounds_toArray, List.set_cons_zero, List.set_cons_succ, List.getElem_toArray, List.getElem_cons_zero, List.getElem_cons_succ]
        refine wpAnyH_ready (rs := [12]) (by kernel_rfl) (by simp) ?_
        refine AllReadyH.cons rfl (fun K hK => ?ord19) AllReadyH.nil
        case ord19 =>
         rw [if_pos (by rfl)]
         refine wp_stM (v := wv (hiZ 0) (loZ 0)) Mq4 rfl rfl rfl (wr_w _ rfl _ _) (Upd.head _ _ _ _ _) ?_
         intro wx5 Mq5 hT9
         have Hq5 := hT9.old Hq4 Hq4.size (fun k hk e => by omega)
         clear hT9
         refine hK.out _ _ (gcells (Mq5.has (.tail _ _ _ _ _ (.tail _ _ _ _ _ (.tail _ _ _ _ _ (.tail _ _ _ _ _ (.tail _ _ _ _ _ (Has.head _ _ _ _)))))))) (fun hHeld => ?_)
         clear hK K Mq4 Hq4
         try simp only [Act.put, List.setIfInBounds_toArray, List.set_cons_zero, List.set_cons_succ, List.getElem_toArray, List.getElem_cons_zero, List.getElem_cons_succ]
         refine wpAnyH_take (i := 13) (v := ?v7025) rfl (by kernel_rfl) (by kernel_rfl) (by kernel_rfl) (fun _ _ _ h => h) (Or.inl ⟨by rfl, ?hy7025⟩) hHeld ?rest7025
         case hy7025 => (intro w' hSw; (try dsimp only at hSw); go_simp; (try with_reducible rfl))
         try simp only [Act.put, List.setIfInBounds_toArray, List.set_cons_zero, List.set_cons_succ, List.getElem_toArray, List.getElem_cons_zero, List.getElem_cons_succ]
         refine wpAnyH_take (i := 14) (v := ?v7026) rfl (by kernel_rfl) (by kernel_rfl) (by kernel_rfl) (fun _ _ _ h => h) (Or.inl ⟨by rfl, ?hy7026⟩) hHeld ?rest7026
         case hy7026 => (intro w' hSw; (try dsimp only at hSw); go_simp; (try with_reducible rfl))
         try simp only [Act.put, List.setIfInBounds_toArray, List.set_cons_zero, List.set_cons_succ, List.getElem_toArray, List.getElem_cons_zero, List.getElem_cons_succ]
         refine wpAnyH_done (by kernel_rfl) ?_ _
         go_wp2_with fail
         go_meet
         exact ⟨rfl, Hq5⟩
    case ord3 =>
     rw [if_pos (by rfl)]
     refine wp_alB Mq0 rfl zeroWd rfl ?_
     intro gB wx1 Mq1 hg hb
     have Hq1 := Hq0.trans (hb.mono Hq0.size)
     have hgB : wy.heap.size ≤ gB := Nat.le_trans Hq0.size hg
     clear hg hb
     refine hK.out _ _ (gcells (Mq1.has (.tail _ _ _ _ _ (.tail _ _ _ _ _ (.tail _ _ _ _ _ (.tail _ _ _ _ _ (Has.head _ _ _ _))))))) (fun hHeld => ?_)
     clear hK K Mq0 Hq0
     try simp only [Act.put, List.setIfInBounds_toArray, List.set_cons_zero, List.set_cons_succ, List.getElem_toArray, List.getElem_cons_zero, List.getElem_cons_succ]
     refine wpAnyH_ready (rs := [3, 9]) (by kernel_rfl) (by simp) ?_
     refine AllReadyH.cons rfl (fun K hK => ?ord20) (AllReadyH.cons rfl (fun K hK => ?ord21) AllReadyH.nil)
     case ord20 =>
      go_simp
      refine (K4.out a1 cap1 _ _ _ (R1.out.below Hq1)).mono ?_
      rintro e wx2 ⟨a5, cap5, rfl, _, hA5⟩
      have Mq2 := Mq1.call hA5
      have Hq2 := Hq1.trans (hA5.mono Hq1.size)
      try go_wp2_with fail
      refine hK.out _ _ (gcells (Mq2.has (.tail _ _ _ _ _ (.tail _ _ _ _ _ (.tail _ _ _ _ _ (.tail _ _ _ _ _ (Has.head _ _ _ _))))))) (fun hHeld => ?_)
      clear hK K Mq1 Hq1
      try simp only [Act.put, List.setIfInBounds_toArray, List.set_cons_zero, List.set_cons_succ, List.getElem_toArray, List.getElem_cons_zero, List.getElem_cons_succ]
      refine wpAnyH_take (i := 4) (v := ?v7027) rfl (by kernel_rfl) (by kernel_rfl) (by kernel_rfl) (fun _ _ _ h => h) (Or.inl ⟨by rfl, ?hy7027⟩) hHeld ?rest7027
      case hy7027 => (intro w' hSw; (try dsimp only at hSw); go_simp; (try with_reducible rfl))
      try simp only [Act.put, List.setIfInBounds_toArray, List.set_cons_zero, List.set_cons_succ, List.getElem_toArray, List.getElem_cons_zero, List.getElem_cons_succ]
      refine wpAnyH_take (i := 5) (v := ?v7028) rfl (by kernel_rfl) (by kernel_rfl) (by kernel_rfl) (fun _ _ _ h => h) (Or.inl ⟨by rfl, ?hy7028⟩) hHeld ?rest7028
      case hy7028 => (intro w' hSw; (try dsimp only at hSw); go_simp; (try with_reducible rfl))
      try simp only [Act.put, List.setIfInBounds_toArray, List.set_cons_zero, List.set_cons_succ, List.getElem_toArray, List.getElem_cons_zero, List.getElem_cons_succ]
      refine wpAnyH_take (i := 6) (v := ?v7029) rfl (by kernel_rfl) (by kernel_rfl) (by kernel_rfl) (fun _ _ _ h => h) (Or.inl ⟨by rfl, ?hy7029⟩) hHeld ?rest7029
      case hy7029 => (intro w' hSw; (try dsimp only at hSw); go_simp; (try with_reducible rfl))
      try simp only [Act.put, List.setIfInBounds_toArray, List.set_cons_zero, List.set_cons_succ, List.getElem_toArray, List.getElem_cons_zero, List.getElem_cons_succ]
      refine wpAnyH_take (i := 7) (v := ?v7030) rfl (by kernel_rfl) (by kernel_rfl) (by kernel_rfl) (fun _ _ _ h => h) (Or.inl ⟨by rfl, ?hy7030⟩) hHeld ?rest7030
      case hy7030 => (intro w' hSw; (try dsimp only at hSw); go_simp; (try with_reducible rfl))
      try simp only [Act.put, List.setIfInBounds_toArray, List.set_cons_zero, List.set_cons_succ, List.getElem_toArray, List.getElem_cons_zero, List.getElem_cons_succ]
      refine wpAnyH_take (i := 8) (v := ?v7031) rfl (by kernel_rfl) (by kernel_rfl) (by kernel_rfl) (fun _ _ _ h => h) (Or.inl ⟨by rfl, ?hy7031⟩) hHeld ?rest7031
      case hy7031 => (intro w' hSw; (try dsimp only at hSw); go_simp; (try with_reducible rfl))
      try simp only [Act.put, List.setIfInBounds_toArray, List.set_cons_zero, List.set_cons_succ, List.getElem_toArray, List.getElem_cons_zero, List.getElem_cons_succ]
      refine wpAnyH_ready (rs := [9]) (by kernel_rfl) (by simp) ?_
      refine AllReadyH.cons rfl (fun K hK => ?ord22) AllReadyH.nil
      case ord22 =>
       rw [if_pos (by rfl)]
       refine wp_alB Mq2 rfl zeroG rfl ?_
       intro gA wx3 Mq3 hg hb
       have Hq3 := Hq2.trans (hb.mono Hq2.size)
       have hgA : wy.heap.size ≤ gA := Nat.le_trans Hq2.size hg
       clear hg hb
       refine hK.out _ _ (gcells (Mq3.has (.tail _ _ _ _ _ (.tail _ _ _ _ _ (.tail _ _ _ _ _ (.tail _ _ _ _ _ (.tail _ _ _ _ _ (Has.head _ _ _ _)))))))) (fun hHeld => ?_)
       clear hK K Mq2 Hq2
       try simp only [Act.put, List.setIfInBounds_toArray, List.set_cons_zero, List.set_cons_succ, List.getElem_toArray, List.getElem_cons_zero, List.getElem_cons_succ]
       refine wpAnyH_ready (rs := [11]) (by kernel_rfl) (by simp) ?_
       refine AllReadyH.cons rfl (fun K hK => ?ord23) AllReadyH.nil
       case ord23 =>
        rw [if_pos (by rfl)]
        refine wp_stM (v := gv x y 1000 (-1000) S (.slice a5 n cap5)) Mq3 rfl rfl rfl (wr_g _ _ _ _ _ _ _ _ _ _ _ _ _ _) (Upd.head _ _ _ _ _) ?_
        intro wx4 Mq4 hT9
        have Hq4 := hT9.old Hq3 Hq3.size (fun k hk e => by omega)
        clear hT9
        refine hK.out _ _ (gcells (Mq4.has (.tail _ _ _ _ _ (.tail _ _ _ _ _ (.tail _ _ _ _ _ (.tail _ _ _ _ _ (.tail _ _ _ _ _ (Has.head _ _ _ _)))))))) (fun hHeld => ?_)
        clear hK K Mq3 Hq3
        try simp only [Act.put, List.setIfInBounds_toArray, List.set_cons_zero, List.set_cons_succ, List.getElem_toArray, List.getElem_cons_zero, List.getElem_cons_succ]
        refine wpAnyH_ready (rs := [12]) (by kernel_rfl) (by simp) ?_
        refine AllReadyH.cons rfl (fun K hK => ?ord24) AllReadyH.nil
        case ord24 =>
         rw [if_pos (by rfl)]
         refine wp_stM (v := wv (hiZ 0) (loZ 0)) Mq4 rfl rfl rfl (wr_w _ rfl _ _) (.tail _ _ _ _ _ _ _ (Upd.head _ _ _ _ _)) ?_
         intro wx5 Mq5 hT9
         have Hq5 := hT9.old Hq4 Hq4.size (fun k hk e => by omega)
         clear hT9
         refine hK.out _ _ (gcells (Mq5.has (.tail _ _ _ _ _ (.tail _ _ _ _ _ (.tail _ _ _ _ _ (.tail _ _ _ _ _ (.tail _ _ _ _ _ (Has.head _ _ _ _)))))))) (fun hHeld => ?_)
         clear hK K Mq4 Hq4
         try simp only [Act.put, List.setIfInBounds_toArray, List.set_cons_zero, List.set_cons_succ, List.getElem_toArray, List.getElem_cons_zero, List.getElem_cons_succ]
         refine wpAnyH_take (i := 13) (v := ?v7032) rfl (by kernel_rfl) (by kernel_rfl) (by kernel_rfl) (fun _ _ _ h => h) (Or.inl ⟨by rfl, ?hy7032⟩) hHeld ?rest7032
         case hy7032 => (intro w' hSw; (try dsimp only at hSw); go_simp; (try with_reducible rfl))
         try simp only [Act.put, List.setIfInBounds_toArray, List.set_cons_zero, List.set_cons_succ, List.getElem_toArray, List.getElem_cons_zero, List.getElem_cons_succ]
         refine wpAnyH_take (i := 14) (v := ?v7033) rfl (by kernel_rfl) (by kernel_rfl) (by kernel_rfl) (fun _ _ _ h => h) (Or.inl ⟨by rfl, ?hy7033⟩) hHeld ?rest7033
         case hy7033 => (intro w' hSw; (try dsimp only at hSw); go_simp; (try with_reducible rfl))
         try simp only [Act.put, List.setIfInBounds_toArray, List.set_cons_zero, List.set_cons_succ, List.getElem_toArray, List.getElem_cons_zero, List.getElem_cons_succ]
         refine wpAnyH_done (by kernel_rfl) ?_ _
         go_wp2_with fail
         go_meet
         exact ⟨rfl, Hq5⟩
     case ord21 =>
      rw [if_pos (by rfl)]
      refine wp_alB Mq1 rfl zeroG rfl ?_
      intro gA wx2 Mq2 hg hb
      have Hq2 := Hq1.trans (hb.mono Hq1.size)
      have hgA : wy.heap.size ≤ gA := Nat.le_trans Hq1.size hg
      clear hg hb
      refine hK.out _ _ (gcells (Mq2.has (.tail _ _ _ _ _ (.tail _ _ _ _ _ (.tail _ _ _ _ _ (.tail _ _ _ _ _ (.tail _ _ _ _ _ (Has.head _ _ _ _)))))))) (fun hHeld => ?_)
      clear hK K Mq1 Hq1
      try simp only [Act.put, List.setIfInBounds_toArray, List.set_cons_zero, List.set_cons_succ, List.getElem_toArray, List.getElem_cons_zero, List.getElem_cons_succ]
      refine wpAnyH_ready (rs := [3]) (by kernel_rfl) (by simp) ?_
      refine AllReadyH.cons rfl (fun K hK => ?ord25) AllReadyH.nil
      case ord25 =>
       go_simp
       refine (K4.out a1 cap1 _ _ _ (R1.out.below Hq2)).mono ?_
       rintro e wx3 ⟨a5, cap5, rfl, _, hA5⟩
       have Mq3 := Mq2.call hA5
       have Hq3 := Hq2.trans (hA5.mono Hq2.size)
       try go_wp2_with fail
       refine hK.out _ _ (gcells (Mq3.has (.tail _ _ _ _ _ (.tail _ _ _ _ _ (.tail _ _ _ _ _ (.tail _ _ _ _ _ (.tail _ _ _ _ _ (Has.head _ _ _ _)))))))) (fun hHeld => ?_)
       clear hK K Mq2 Hq2
       try simp only [Act.put, List.setIfInBounds_toArray, List.set_cons_zero, List.set_cons_succ, List.getElem_toArray, List.getElem_cons_zero, List.getElem_cons_succ]
       refine wpAnyH_take (i := 4) (v := ?v7034) rfl (by kernel_rfl) (by kernel_rfl) (by kernel_rfl) (fun _ _ _ h => h) (Or.inl ⟨by rfl, ?hy7034⟩) hHeld ?rest7034
       case hy7034 => (intro w' hSw; (try dsimp only at hSw); go_simp; (try with_reducible rfl))
       try simp only [Act.put, List.setIfInBounds_toArray, List.set_cons_zero, List.set_cons_succ, List.getElem_toArray, List.getElem_cons_zero, List.getElem_cons_succ]
       refine wpAnyH_take (i := 5) (v := ?v7035) rfl (by kernel_rfl) (by kernel_rfl) (by kernel_rfl) (fun _ _ _ h => h) (Or.inl ⟨by rfl, ?hy7035⟩) hHeld ?rest7035
       case hy7035 => (intro w' hSw; (try dsimp only at hSw); go_simp; (try with_reducible rfl))
       try simp only [Act.put, List.setIfInBounds_toArray, List.set_cons_zero, List.set_cons_succ, List.getElem_toArray, List.getElem_cons_zero, List.getElem_cons_succ]
       refine wpAnyH_take (i := 6) (v := ?v7036) rfl (by kernel_rfl) (by kernel_rfl) (by kernel_rfl) (fun _ _ _ h => h) (Or.inl ⟨by rfl, ?hy7036⟩) hHeld ?rest7036
       case hy7036 => (intro w' hSw; (try dsimp only at hSw); go_simp; (try with_reducible rfl))
       try simp only [Act.put, List.setIfInBounds_toArray, List.set_cons_zero, List.set_cons_succ, List.getElem_toArray, List.getElem_cons_zero, List.getElem_cons_succ]
       refine wpAnyH_take (i := 7) (v := ?v7037) rfl (by kernel_rfl) (by kernel_rfl) (by kernel_rfl) (fun _ _ _ h => h) (Or.inl ⟨by rfl, ?hy7037⟩) hHeld ?rest7037
       case hy7037 => (intro w' hSw; (try dsimp only at hSw); go_simp; (try with_reducible rfl))
       try simp only [Act.put, List.setIfInBounds_toArray, List.set_cons_zero, List.set_cons_succ, List.getElem_toArray, List.getElem_cons_zero, List.getElem_cons_succ]
       refine wpAnyH_take (i := 8) (v := ?v7038) rfl (by kernel_rfl) (by kernel_rfl) (by kernel_rfl) (fun _ _ _ h => h) (Or.inl ⟨by rfl, ?hy7038⟩) hHeld ?rest7038
       case hy7038 => (intro w' hSw; (try dsimp only at hSw); go_simp; (try with_reducible rfl))
       try simp only [Act.put, List.setIfInBounds_toArray, List.set_cons_zero, List.set_cons_succ, List.getElem_toArray, List.getElem_cons_zero, List.getElem_cons_succ]
       refine wpAnyH_ready (rs := [11]) (by kernel_rfl) (by simp) ?_
       refine AllReadyH.cons rfl (fun K hK => ?ord26) AllReadyH.nil
       case ord26 =>
        rw [if_pos (by rfl)]
        refine wp_stM (v := gv x y 1000 (-1000) S (.slice a5 n cap5)) Mq3 rfl rfl rfl (wr_g _ _ _ _ _ _ _ _ _ _ _ _ _ _) (Upd.head _ _ _ _ _) ?_
        intro wx4 Mq4 hT9
        have Hq4 := hT9.old Hq3 Hq3.size (fun k hk e => by omega)
        clear hT9
        refine hK.out _ _ (gcells (Mq4.has (.tail _ _ _ _ _ (.tail _ _ _ _ _ (.tail _ _ _ _ _ (.tail _ _ _ _ _ (.tail _ _ _ _ _ (Has.head _ _ _ _)))))))) (fun hHeld => ?_)
        clear hK K Mq3 Hq3
        try simp only [Act.put, List.setIfInBounds_toArray, List.set_cons_zero, List.set_cons_succ, List.getElem_toArray, List.getElem_cons_zero, List.getElem_cons_succ]
        refine wpAnyH_ready (rs := [12]) (by kernel_rfl) (by simp) ?_
        refine AllReadyH.cons rfl (fun K hK => ?ord27) AllReadyH.nil
        case ord27 =>
         rw [if_pos (by rfl)]
         refine wp_stM (v := wv (hiZ 0) (loZ 0)) Mq4 rfl rfl rfl (wr_w _ rfl _ _) (.tail _ _ _ _ _ _ _ (Upd.head _ _ _ _ _)) ?_
         intro wx5 Mq5 hT9
         have Hq5 := hT9.old Hq4 Hq4.size (fun k hk e => by omega)
         clear hT9
         refine hK.out _ _ (gcells (Mq5.has (.tail _ _ _ _ _ (.tail _ _ _ _ _ (.tail _ _ _ _ _ (.tail _ _ _ _ _ (.tail _ _ _ _ _ (Has.head _ _ _ _)))))))) (fun hHeld => ?_)
         clear hK K Mq4 Hq4
         try simp only [Act.put, List.setIfInBounds_toArray, List.set_cons_zero, List.set_cons_succ, List.getElem_toArray, List.getElem_cons_zero, List.getElem_cons_succ]
         refine wpAnyH_take (i := 13) (v := ?v7039) rfl (by kernel_rfl) (by kernel_rfl) (by kernel_rfl) (fun _ _ _ h => h) (Or.inl ⟨by rfl, ?hy7039⟩) hHeld ?rest7039
         case hy7039 => (intro w' hSw; (try dsimp only at hSw); go_simp; (try with_reducible rfl))
         try simp only [Act.put, List.setIfInBounds_toArray, List.set_cons_zero, List.set_cons_succ, List.getElem_toArray, List.getElem_cons_zero, List.getElem_cons_succ]
         refine wpAnyH_take (i := 14) (v := ?v7040) rfl (by kernel_rfl) (by kernel_rfl) (by kernel_rfl) (fun _ _ _ h => h) (Or.inl ⟨by rfl, ?hy7040⟩) hHeld ?rest7040
         case hy7040 => (intro w' hSw; (try dsimp only at hSw); go_simp; (try with_reducible rfl))
         try simp only [Act.put, List.setIfInBounds_toArray, List.set_cons_zero, List.set_cons_succ, List.getElem_toArray, List.getElem_cons_zero, List.getElem_cons_succ]
         refine wpAnyH_done (by kernel_rfl) ?_ _
         go_wp2_with fail
         go_meet
         exact ⟨rfl, Hq5⟩
  clear cut1
  clear c_gG_0 c_gG_1 c_gG_2 c_gG_3 c_gG_4 c_gG_5
  obtain ⟨rfl, hA⟩ := hcut
  have M11 := M10.call hA
  replace R1 := Lib.hid (R1.out.below hA)
  replace O2 := Lib.hid (ownsRow_below O2.out hA)
  replace O3 := Lib.hid (ownsRow_below O3.out hA)
  replace HB := Lib.hid (HB.out.trans (hA.mono HB.out.size))
  clear hA M10
  obtain ⟨u0, hu0⟩ : ∃ u0, wc.cell? ⟨gX, 0, none⟩ = some (.int .i64 u0) := ⟨_, own64 O2.out 0 (by rw [hLl.out]; omega)⟩
  have hf0 := ownsRow_free O2.out 0
  have ho2 := ownsRow_set O2.out 0 (by omega) (.int .i64 65537)
  rw [i64s_set] at ho2
  have M12 := mem_turned M11 (turned_cell wc gX 0 (.int .i64 65537)) (fun j hj e => by omega) (fun e he h => gown_ne (M11.blk e he) O2.out (by simp at he; rcases he with rfl | rfl | rfl | rfl <;> simp) gX rfl h.symm)
  have ho3 := ownsRow_setCell_other (a := ⟨gX, 0, none⟩) O3.out HN3.out (.int .i64 65537)
  have hB9 := HB.out.setCell (p := ⟨gX, 0, none⟩) hgX (.int .i64 65537)
  obtain ⟨wz, hwz⟩ : ∃ wz, wc.setCell ⟨gX, 0, none⟩ (.int .i64 65537) = wz := ⟨_, rfl⟩
  rw [hwz] at M12 ho2 ho3 hB9
  have HWZ := Lib.hid hwz
  clear hwz O2 O3 R1 HB
  have O2 := Lib.hid ho2
  have O3 := Lib.hid ho3
  have R1 := Lib.hid (R0.out.below hB9)
  clear ho2 ho3 hB9
  go_upto_region 12 with fail
  rw [HWZ.out]
  clear HWZ hu0 hf0 M11
  have c_gG_0 := M12.cell (.tail _ _ _ _ _ (.tail _ _ _ _ _ (.tail _ _ _ _ _ (Has.head _ _ _ _)))) (i := 0) rfl
  have c_gG_1 := M12.cell (.tail _ _ _ _ _ (.tail _ _ _ _ _ (.tail _ _ _ _ _ (Has.head _ _ _ _)))) (i := 1) rfl
  have c_gG_2 := M12.cell (.tail _ _ _ _ _ (.tail _ _ _ _ _ (.tail _ _ _ _ _ (Has.head _ _ _ _)))) (i := 2) rfl
  have c_gG_3 := M12.cell (.tail _ _ _ _ _ (.tail _ _ _ _ _ (.tail _ _ _ _ _ (Has.head _ _ _ _)))) (i := 3) rfl
  have c_gG_4 := M12.cell (.tail _ _ _ _ _ (.tail _ _ _ _ _ (.tail _ _ _ _ _ (Has.head _ _ _ _)))) (i := 4) rfl
  have c_gG_5 := M12.cell (.tail _ _ _ _ _ (.tail _ _ _ _ _ (.tail _ _ _ _ _ (Has.head _ _ _ _)))) (i := 5) rfl
  go_wp2_with fail
  refine (K5.out a1 cap1 (some ⟨gX, 0, none⟩) cX _ R1.out (Sl.of_own O2.out)).mono ?_
  rintro e w13 ⟨a6, cap6, rfl, _, hA⟩
  have M13 := M12.call hA
  clear c_gG_0 c_gG_1 c_gG_2 c_gG_3 c_gG_4 c_gG_5
  clear M12
  replace R1 := Lib.hid (R1.out.below hA)
  replace O2 := Lib.hid (ownsRow_below O2.out hA)
  replace O3 := Lib.hid (ownsRow_below O3.out hA)
  clear hA
  obtain ⟨w14, hw14⟩ : ∃ wq, w13.alloc (.cells #[.int .i64 x, .int .i64 y, .int .i64 1000, .int .i64 (-1000), .int .i64 S, .slice a6 n cap6] 24) = wq := ⟨_, rfl⟩
  have M14 := M13.alloc 24 [.int .i64 x, .int .i64 y, .int .i64 1000, .int .i64 (-1000), .int .i64 S, .slice a6 n cap6]
  rw [show w13.alloc (.cells [Value.int .i64 x, .int .i64 y, .int .i64 1000, .int .i64 (-1000), .int .i64 S, .slice a6 n cap6].toArray 24) = w14 from hw14] at M14
  have hA : Below w13.heap.size w13 w14 := by rw [← hw14]; exact (Below.refl _ _).alloc (Nat.le_refl _) _
  replace R1 := Lib.hid (R1.out.below hA)
  replace O2 := Lib.hid (ownsRow_below O2.out hA)
  replace O3 := Lib.hid (ownsRow_below O3.out hA)
  have HW14 := Lib.hid hw14
  clear hw14 hA M13
  obtain ⟨w15, hw15⟩ : ∃ wq, w14.alloc (.cells #[.int .i64 (hiZ 0), .int .u64 (loZ 0)] 41) = wq := ⟨_, rfl⟩
  have M15 := M14.alloc 41 [.int .i64 (hiZ 0), .int .u64 (loZ 0)]
  rw [show w14.alloc (.cells [Value.int .i64 (hiZ 0), .int .u64 (loZ 0)].toArray 41) = w15 from hw15] at M15
  have hA : Below w14.heap.size w14 w15 := by rw [← hw15]; exact (Below.refl _ _).alloc (Nat.le_refl _) _
  replace R1 := Lib.hid (R1.out.below hA)
  replace O2 := Lib.hid (ownsRow_below O2.out hA)
  replace O3 := Lib.hid (ownsRow_below O3.out hA)
  have HW15 := Lib.hid hw15
  clear hw15 hA M14
  go_upto_region 13 with fail
  rw [HW14.out, HW15.out, show w13.heap.size + 1 = w14.heap.size by rw [← HW14.out]; simp]
  clear HW14 HW15
  obtain ⟨gZ13, hgZ13⟩ : ∃ g9, g9 = w14.heap.size := ⟨_, rfl⟩
  rw [← hgZ13] at M15 ⊢
  clear hgZ13
  obtain ⟨gH13, hgH13⟩ : ∃ g9, g9 = w13.heap.size := ⟨_, rfl⟩
  rw [← hgH13] at M15 ⊢
  clear hgH13
  have c_gH6_0 := M15.cell (.tail _ _ _ _ _ (.tail _ _ _ _ _ (.tail _ _ _ _ _ (.tail _ _ _ _ _ (Has.head _ _ _ _))))) (i := 0) rfl
  have c_gH6_1 := M15.cell (.tail _ _ _ _ _ (.tail _ _ _ _ _ (.tail _ _ _ _ _ (.tail _ _ _ _ _ (Has.head _ _ _ _))))) (i := 1) rfl
  have c_gH6_2 := M15.cell (.tail _ _ _ _ _ (.tail _ _ _ _ _ (.tail _ _ _ _ _ (.tail _ _ _ _ _ (Has.head _ _ _ _))))) (i := 2) rfl
  have c_gH6_3 := M15.cell (.tail _ _ _ _ _ (.tail _ _ _ _ _ (.tail _ _ _ _ _ (.tail _ _ _ _ _ (Has.head _ _ _ _))))) (i := 3) rfl
  have c_gH6_4 := M15.cell (.tail _ _ _ _ _ (.tail _ _ _ _ _ (.tail _ _ _ _ _ (.tail _ _ _ _ _ (Has.head _ _ _ _))))) (i := 4) rfl
  have c_gH6_5 := M15.cell (.tail _ _ _ _ _ (.tail _ _ _ _ _ (.tail _ _ _ _ _ (.tail _ _ _ _ _ (Has.head _ _ _ _))))) (i := 5) rfl
  by_cases hc : c = 0
  · subst hc
    go_wp2_with fail
    refine (K6.out (by first | rfl | trivial) _ _ _ (Sl.of_own O3.out)).mono ?_
    rintro e w16 ⟨rfl, hA⟩
    have M16 := M15.call hA
    clear c_gH6_0 c_gH6_1 c_gH6_2 c_gH6_3 c_gH6_4 c_gH6_5
    clear M15
    replace R1 := Lib.hid (R1.out.below hA)
    replace O2 := Lib.hid (ownsRow_below O2.out hA)
    replace O3 := Lib.hid (ownsRow_below O3.out hA)
    clear hA
    go_wp2_with fail
    refine (C0.out _).mono ?_
    rintro e w17 ⟨rfl, hA⟩
    have M17 := M16.call hA
    clear M16
    replace R1 := Lib.hid (R1.out.below hA)
    replace O2 := Lib.hid (ownsRow_below O2.out hA)
    replace O3 := Lib.hid (ownsRow_below O3.out hA)
    clear hA
    go_wp2_with fail
    go_ret
    exact ⟨rfl, M17.below⟩
  · have b4 : (c != 0) = true := by simpa using hc
    go_wp2_with fail
    refine (C0.out _).mono ?_
    rintro e w16 ⟨rfl, hA⟩
    have M16 := M15.call hA
    clear c_gH6_0 c_gH6_1 c_gH6_2 c_gH6_3 c_gH6_4 c_gH6_5
    clear M15
    replace R1 := Lib.hid (R1.out.below hA)
    replace O2 := Lib.hid (ownsRow_below O2.out hA)
    replace O3 := Lib.hid (ownsRow_below O3.out hA)
    clear hA
    go_wp2_with fail
    go_ret
    exact ⟨rfl, M16.below⟩
end Go.Proofs.Ytnfgogfbpggnfaa
