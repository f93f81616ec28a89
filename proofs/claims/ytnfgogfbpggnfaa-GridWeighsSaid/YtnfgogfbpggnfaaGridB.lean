/-
  How many places a grid has, and what all are together; what is wrong with it; one that lies where another one does; a copy: the code's.
-/
import Derived.Test.YtnfgogfbpggnfaaGridA
set_option linter.unusedVariables false
set_option linter.unusedSimpArgs false
namespace Go.Proofs.Ytnfgogfbpggnfaa
open Go Go.RowKit Go.Th Go.Th.Grid

/-- A grid that lies in a variable reads so. -/
theorem gcells {w : World} {gA : Nat} {x y X Y s : Int} {v : Value} (K : Blk w gA 24 (gc x y X Y s v)) :
    w.cell? ⟨gA, 0, none⟩ = some (.int .i64 x) ∧ w.cell? ⟨gA, 1, none⟩ = some (.int .i64 y) ∧ w.cell? ⟨gA, 2, none⟩ = some (.int .i64 X) ∧ w.cell? ⟨gA, 3, none⟩ = some (.int .i64 Y) ∧ w.cell? ⟨gA, 4, none⟩ = some (.int .i64 s) ∧ w.cell? ⟨gA, 5, none⟩ = some v :=
  ⟨K.cell (i := 0) rfl, K.cell (i := 1) rfl, K.cell (i := 2) rfl, K.cell (i := 3) rfl, K.cell (i := 4) rfl, K.cell (i := 5) rfl⟩

theorem glen_any (x y X Y s m : Int) (a : Option Addr) (n cap : Nat) (hm : wrap64 (x * y) = m) : Ans 34 #[gv x y X Y s (.slice a n cap)] (.int .i64 m) := by
  intro w
  obtain ⟨w1, hw1⟩ : ∃ w1, w.alloc (.cells #[.int .i64 x, .int .i64 y, .int .i64 X, .int .i64 Y, .int .i64 s, .slice a n cap] 24) = w1 := ⟨_, rfl⟩
  have hB1 : Below w.heap.size w w1 := by rw [← hw1]; exact (Below.refl _ _).alloc (Nat.le_refl _) _
  have K1 : Blk w1 w.heap.size 24 (gc x y X Y s (.slice a n cap)) := by rw [← hw1]; exact Blk.new w _ _
  obtain ⟨c0, c1, c2, c3, c4, c5⟩ := gcells K1
  have HW1 := Lib.hid hw1
  clear hw1
  go_enter Try.func34, Try.ntmps34
  go_upto_region 1 with fail
  rw [HW1.out]
  go_wp2_with fail
  go_ret
  exact ⟨by first | exact ret_int hm | rfl, hB1⟩
set_option maxRecDepth 20000 in
theorem gsum_any (x y X Y s : Int) (a : Option Addr) (n cap : Nat) (p : List Int) (hp : p.length = n) (hb : ∀ i, -9223372036854775808 ≤ sm (p.take i) ∧ sm (p.take i) ≤ 9223372036854775807) (w : World) (hS : Sl w 1 (.slice a n cap) n (i64s p)) :
    Calls Try.prog 32 #[gv x y X Y s (.slice a n cap)] w fun e w' => e = .returned (.int .i64 (sm p)) ∧ Below w.heap.size w w' := by
  obtain ⟨w1, hw1⟩ : ∃ w1, w.alloc (.cells #[.int .i64 x, .int .i64 y, .int .i64 X, .int .i64 Y, .int .i64 s, .slice a n cap] 24) = w1 := ⟨_, rfl⟩
  have hB1 : Below w.heap.size w w1 := by rw [← hw1]; exact (Below.refl _ _).alloc (Nat.le_refl _) _
  have K1 : Blk w1 w.heap.size 24 (gc x y X Y s (.slice a n cap)) := by rw [← hw1]; exact Blk.new w _ _
  obtain ⟨c0, c1, c2, c3, c4, c5⟩ := gcells K1
  have C1 := Lib.hid (total_any a n cap p hp hb w1 (hS.below hB1))
  have HW1 := Lib.hid hw1
  clear hw1 hS hp hb
  go_enter Try.func32, Try.ntmps32
  go_upto_region 1 with fail
  rw [HW1.out]
  go_wp2_with fail
  refine C1.out.mono ?_
  rintro e wx ⟨rfl, rfl⟩
  go_wp2_with fail
  go_ret
  exact ⟨rfl, hB1⟩

/-! ### What is wrong with a grid -/
def shp (x y : Int) (n : Nat) : Int := if sdG x y = false then 2 else if (n : Int) ≠ x * y then 5 else 0
theorem shp_ok {x y n : Nat} (h : sdG x y = true) (hn : n = x * y) : shp x y n = 0 := by
  unfold shp; rw [if_neg (by rw [h]; simp), if_neg (by rw [hn]; simp)]
set_option maxRecDepth 20000 in
set_option maxHeartbeats 1600000 in
theorem shape_any (x y X Y s : Int) (a : Option Addr) (n cap : Nat) (hn : n ≤ 1000000) : Ans 45 #[gv x y X Y s (.slice a n cap)] (.int .i64 (shp x y n)) := by
  intro w
  obtain ⟨w1, hw1⟩ : ∃ w1, w.alloc (.cells #[.int .i64 x, .int .i64 y, .int .i64 X, .int .i64 Y, .int .i64 s, .slice a n cap] 24) = w1 := ⟨_, rfl⟩
  have hB1 : Below w.heap.size w w1 := by rw [← hw1]; exact (Below.refl _ _).alloc (Nat.le_refl _) _
  have K1 : Blk w1 w.heap.size 24 (gc x y X Y s (.slice a n cap)) := by rw [← hw1]; exact Blk.new w _ _
  obtain ⟨gA, hgA⟩ : ∃ gA, gA = w.heap.size := ⟨_, rfl⟩
  have HW1 := Lib.hid hw1
  have C1 := sides_any x y
  clear hw1
  go_enter Try.func45, Try.ntmps45
  go_upto_region 1 with fail
  rw [HW1.out, ← hgA]
  rw [← hgA] at K1
  clear HW1 hgA
  have hlt := K1.lt
  obtain ⟨c0, c1, c2, c3, c4, c5⟩ := gcells K1
  cases hsd : sdG x y
  · rw [hsd] at C1
    have C1 := Lib.hid C1
    have hv : shp x y n = 2 := by unfold shp; rw [if_pos hsd]
    have HV := Lib.hid hv
    clear hv hsd
    go_wp2_with fail
    refine (C1.out _).mono ?_
    rintro e wx ⟨rfl, rfl⟩
    go_wp2_with fail
    go_ret
    exact ⟨ret_int HV.out.symm, hB1⟩
  · rw [hsd] at C1
    obtain ⟨⟨q1, q2⟩, q3, q4⟩ := sdG_t hsd
    obtain ⟨i, hi⟩ := Int.eq_ofNat_of_zero_le (by omega : 0 ≤ x)
    obtain ⟨j, hj⟩ := Int.eq_ofNat_of_zero_le (by omega : 0 ≤ y)
    have hle : i * j ≤ 64 * 64 := Nat.mul_le_mul (by omega) (by omega)
    obtain ⟨m, hm⟩ : ∃ m, m = i * j := ⟨_, rfl⟩
    have hmul : x * y = (m : Int) := by rw [hi, hj, hm]; simp
    rw [← hm] at hle
    have C2 := Lib.hid (glen_any x y X Y s (m : Int) a n cap (by rw [hmul]; exact IntWalk.wrap64_in _ (by omega)))
    have C1 := Lib.hid C1
    have hv : shp x y n = if (n : Int) ≠ (m : Int) then 5 else 0 := by unfold shp; rw [if_neg (by rw [hsd]; simp), hmul]
    have HV := Lib.hid hv
    clear hv hm hmul hsd hi hj
    go_wp2_with fail
    refine (C1.out _).mono ?_
    rintro e wx ⟨rfl, rfl⟩
    clear C1
    go_wp2_with fail
    refine wp_region_held_drew (S := (fun w' : World => w'.cell? ⟨gA, 0, none⟩ = some (.int .i64 x) ∧ w'.cell? ⟨gA, 1, none⟩ = some (.int .i64 y) ∧ w'.cell? ⟨gA, 2, none⟩ = some (.int .i64 X) ∧ w'.cell? ⟨gA, 3, none⟩ = some (.int .i64 Y) ∧ w'.cell? ⟨gA, 4, none⟩ = some (.int .i64 s) ∧ w'.cell? ⟨gA, 5, none⟩ = some (.slice a n cap))) (by kernel_rfl) (⟨c0, c1, c2, c3, c4, c5⟩) (fun hHeld => ?_)
    refine wpAnyH_take (i := 0) (v := ?v1) rfl (by kernel_rfl) (by kernel_rfl) (by kernel_rfl) (fun _ _ _ h => h) (Or.inl ⟨by rfl, ?hy1⟩) hHeld ?rest1
    case hy1 => (intro w' hSw; (try dsimp only at hSw); go_simp; (try with_reducible rfl))
    try simp only [Act.put, List.setIfInBounds_toArray, List.set_cons_zero, List.set_cons_succ, List.getElem_toArray, List.getElem_cons_zero, List.getElem_cons_succ]
    refine wpAnyH_take (i := 1) (v := ?v2) rfl (by kernel_rfl) (by kernel_rfl) (by kernel_rfl) (fun _ _ _ h => h) (Or.inl ⟨by rfl, ?hy2⟩) hHeld ?rest2
    case hy2 => (intro w' hSw; (try dsimp only at hSw); go_simp; (try with_reducible rfl))
    try simp only [Act.put, List.setIfInBounds_toArray, List.set_cons_zero, List.set_cons_succ, List.getElem_toArray, List.getElem_cons_zero, List.getElem_cons_succ]
    refine wpAnyH_take (i := 2) (v := ?v3) rfl (by kernel_rfl) (by kernel_rfl) (by kernel_rfl) (fun _ _ _ h => h) (Or.inl ⟨by rfl, ?hy3⟩) hHeld ?rest3
    case hy3 => (intro w' hSw; (try dsimp only at hSw); go_simp; (try with_reducible rfl))
    try simp only [Act.put, List.setIfInBounds_toArray, List.set_cons_zero, List.set_cons_succ, List.getElem_toArray, List.getElem_cons_zero, List.getElem_cons_succ]
    refine wpAnyH_take (i := 3) (v := ?v4) rfl (by kernel_rfl) (by kernel_rfl) (by kernel_rfl) (fun _ _ _ h => h) (Or.inl ⟨by rfl, ?hy4⟩) hHeld ?rest4
    case hy4 => (intro w' hSw; (try dsimp only at hSw); go_simp; (try with_reducible rfl))
    try simp only [Act.put, List.setIfInBounds_toArray, List.set_cons_zero, List.set_cons_succ, List.getElem_toArray, List.getElem_cons_zero, List.getElem_cons_succ]
    refine wpAnyH_ready (rs := [4]) (by kernel_rfl) (by simp) ?_
    refine AllReadyH.cons rfl (fun K hK => ?_) AllReadyH.nil
    go_simp
    refine (C2.out _).mono ?_
    rintro e w2 ⟨rfl, hA⟩
    have K2 := K1.drew.below hA hlt
    have hB2 := hB1.drew.trans (hA.mono hB1.size)
    try go_wp2_with fail
    refine hK.out _ _ (gcells K2) (fun hHeld => ?_)
    clear hK K
    try simp only [Act.put, List.setIfInBounds_toArray, List.set_cons_zero, List.set_cons_succ, List.getElem_toArray, List.getElem_cons_zero, List.getElem_cons_succ]
    refine wpAnyH_take (i := 5) (v := ?v6) rfl (by kernel_rfl) (by kernel_rfl) (by kernel_rfl) (fun _ _ _ h => h) (Or.inl ⟨by rfl, ?hy6⟩) hHeld ?rest6
    case hy6 => (intro w' hSw; (try dsimp only at hSw); go_simp; (try with_reducible rfl))
    try simp only [Act.put, List.setIfInBounds_toArray, List.set_cons_zero, List.set_cons_succ, List.getElem_toArray, List.getElem_cons_zero, List.getElem_cons_succ]
    refine wpAnyH_take (i := 6) (v := ?v7) rfl (by kernel_rfl) (by kernel_rfl) (by kernel_rfl) (fun _ _ _ h => h) (Or.inl ⟨by rfl, ?hy7⟩) hHeld ?rest7
    case hy7 => (intro w' hSw; (try dsimp only at hSw); go_simp; (try with_reducible rfl))
    try simp only [Act.put, List.setIfInBounds_toArray, List.set_cons_zero, List.set_cons_succ, List.getElem_toArray, List.getElem_cons_zero, List.getElem_cons_succ]
    refine wpAnyH_done (by kernel_rfl) ?_ _
    by_cases hnm : n = m
    · subst hnm
      have hq : ((n : Int) != (n : Int)) = false := by simp
      have HV2 := Lib.hid (HV.out.trans (if_neg (by simp)))
      clear HV
      go_wp2_with fail
      go_ret
      exact ⟨ret_int HV2.out.symm, hB2⟩
    · have hq : ((n : Int) != (m : Int)) = true := by simp; omega
      have HV2 := Lib.hid (HV.out.trans (if_pos (by omega)))
      clear HV
      go_wp2_with fail
      go_ret
      exact ⟨ret_int HV2.out.symm, hB2⟩

/-! ### With other numbers; a copy -/
set_option maxRecDepth 20000 in
theorem with_any (x y X Y s : Int) (v0 : Value) (a : Option Addr) (n cap : Nat) (hv0 : ∃ a0 n0 c0, v0 = .slice a0 n0 c0) : Ans 40 #[gv x y X Y s v0, .slice a n cap] (gv x y X Y s (.slice a n cap)) := by
  intro w
  obtain ⟨a0, n0, c0, rfl⟩ := hv0
  obtain ⟨w1, hw1⟩ : ∃ w1, w.alloc (.cells #[.int .i64 x, .int .i64 y, .int .i64 X, .int .i64 Y, .int .i64 s, .slice a0 n0 c0] 24) = w1 := ⟨_, rfl⟩
  have M1 := (Mem.start w).alloc 24 (gc x y X Y s (.slice a0 n0 c0))
  rw [show w.alloc (.cells (gc x y X Y s (.slice a0 n0 c0)).toArray 24) = w1 from hw1] at M1
  obtain ⟨w2, hw2⟩ : ∃ w2, w1.alloc (.cells #[.int .i64 0, .int .i64 0, .int .i64 0, .int .i64 0, .int .i64 0, .slice none 0 0] 24) = w2 := ⟨_, rfl⟩
  have M2 := M1.alloc 24 (gc 0 0 0 0 0 (.slice none 0 0))
  rw [show w1.alloc (.cells (gc 0 0 0 0 0 (.slice none 0 0)).toArray 24) = w2 from hw2] at M2
  have hsz : w1.heap.size = w.heap.size + 1 := by rw [← hw1]; simp
  have HW1 := Lib.hid hw1
  have HW2 := Lib.hid hw2
  clear hw1 hw2 M1
  go_enter Try.func40, Try.ntmps40
  go_upto_region 1 with fail
  rw [HW1.out, HW2.out, ← hsz]
  clear HW1 HW2
  obtain ⟨gB, hgB⟩ : ∃ gB, gB = w1.heap.size := ⟨_, rfl⟩
  obtain ⟨gA, hgA⟩ : ∃ gA, gA = w.heap.size := ⟨_, rfl⟩
  rw [← hgB] at M2 ⊢
  rw [← hgA] at M2 ⊢
  have hne : gA ≠ gB := by omega
  clear hgA hgB hsz
  have c5 := M2.cell (.tail _ _ _ _ _ (Has.head _ _ _ _)) (i := 5) rfl
  have f5 := M2.free (.tail _ _ _ _ _ (Has.head _ _ _ _)) 5
  have M3 := M2.set 5 (.slice a n cap) (.tail _ _ _ _ _ _ _ (Upd.head _ _ _ _ _)) (by simp)
  go_upto_region 2 with fail
  obtain ⟨w3, hw3⟩ : ∃ w3, w2.setCell ⟨gA, 5, none⟩ (.slice a n cap) = w3 := ⟨_, rfl⟩
  rw [hw3] at M3 ⊢
  clear hw3 c5 f5 M2
  obtain ⟨c0, c1, c2, c3, c4, c5⟩ := gcells (M3.has (.tail _ _ _ _ _ (Has.head _ _ _ _)))
  obtain ⟨d0, d1, d2, d3, d4, d5⟩ := gcells (M3.has (Has.head _ _ _ _))
  have K := M3.has (Has.head _ _ _ _)
  have f0 := K.free 0
  have f1 := K.free 1
  have f2 := K.free 2
  have f3 := K.free 3
  have f4 := K.free 4
  have f5 := K.free 5
  have M4 := (((((M3.set 0 (.int .i64 x) (Upd.head _ _ _ _ _) (by simp)).set 1 (.int .i64 y) (Upd.head _ _ _ _ _) (by simp)).set 2 (.int .i64 X) (Upd.head _ _ _ _ _) (by simp)).set 3 (.int .i64 Y) (Upd.head _ _ _ _ _) (by simp)).set 4 (.int .i64 s) (Upd.head _ _ _ _ _) (by simp)).set 5 (.slice a n cap) (Upd.head _ _ _ _ _) (by simp)
  go_wp2_with fail
  refine bodyPost_ret (v := gv x y X Y s (.slice a n cap)) (gres_blk rfl rfl (M4.has (Has.head _ _ _ _)) Try.underlying24 rfl (by kernel_rfl)) rfl ?_
  exact ⟨rfl, M4.below⟩
end Go.Proofs.Ytnfgogfbpggnfaa
