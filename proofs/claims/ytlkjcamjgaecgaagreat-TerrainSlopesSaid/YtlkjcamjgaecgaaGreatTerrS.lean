/-
  How steep the ground is at a place: the code's.
-/
import Derived.Test.YtlkjcamjgaecgaaGreatTerrH
set_option linter.unusedVariables false
set_option linter.unusedSimpArgs false
namespace Go.Proofs.YtlkjcamjgaecgaaGreat
open Go Go.RowKit Go.Th Go.Th.Crc

set_option maxRecDepth 20000 in
set_option maxHeartbeats 1600000 in
theorem tslp_bad (g base : Nat) (F : List Int) (W H cell : Nat) (ox oy : Int) (room k : Nat) (x y c : Int) (hc : ¬ c = 0) (L : Looks g base F W H cell ox oy room k x y #[.int .i64 0, .int .i64 0, .int .i64 0, .int .i64 0, .int .i64 0, .int .i64 0] c) (w : World) (J : CN w base g F W H cell ox oy room k) :
    Calls Tryz.prog 18 #[.pointer (some ⟨g, 0, none⟩), sv x y] w fun e w' => e = .returned (.tuple #[.int .i64 0, .int .i64 0, .int .i64 c]) ∧ CN w' base g F W H cell ox oy room (k + 4) ∧ Turned (fun b => b = g) w w' := by
  obtain ⟨w1, hw1⟩ : ∃ w1, w.alloc (.cells #[.int .i64 x, .int .i64 y] 37) = w1 := ⟨_, rfl⟩
  have hB1 : Below w.heap.size w w1 := by rw [← hw1]; exact (Below.refl _ _).alloc (Nat.le_refl _) _
  have K1 : Blk w1 w.heap.size 37 [.int .i64 x, .int .i64 y] := by rw [← hw1]; exact Blk.new w _ _
  have d0 := K1.cell (i := 0) rfl
  have d1 := K1.cell (i := 1) rfl
  have HW1 := Lib.hid hw1
  have HL := Lib.hid (L w1 (J.below hB1))
  have b1 : ((c : Int) != 0) = true := by simp [hc]
  clear hw1 J L
  go_enter Tryz.func18, Tryz.ntmps18
  go_upto_region 1 with fail
  rw [HW1.out]
  clear HW1
  go_wp2_with fail
  refine HL.out.mono ?_
  rintro e w2 ⟨rfl, J2, hT⟩
  have HJ := Lib.hid J2
  have HT := Lib.hid hT
  clear HL d0 d1 J2 hT
  go_wp2_with fail
  go_ret3
  have hB3 : Below w2.heap.size w2 (w2.alloc (.cells #[.int .i64 0, .int .i64 0, .int .i64 0, .int .i64 0, .int .i64 0, .int .i64 0] 70)) := (Below.refl _ _).alloc (Nat.le_refl _) _
  exact ⟨rfl, HJ.out.below hB3, ((Turned.below (S := fun b => b = g) hB1).trans HT.out (fun _ _ h => h)).trans (Turned.below (S := fun b => b = g) hB3) (fun _ _ h => h)⟩

set_option maxRecDepth 20000 in
set_option maxHeartbeats 1600000 in
theorem tslp_ok (g base : Nat) (F : List Int) (W H cell : Nat) (ox oy : Int) (room k : Nat) (x y z0 z1 z2 z3 fx fy d1 d2 d3 d4 p q v1 v2 : Int) (L : Looks g base F W H cell ox oy room k x y #[.int .i64 z0, .int .i64 z1, .int .i64 z2, .int .i64 z3, .int .i64 fx, .int .i64 fy] 0)
    (g1 : wrap64 (z1 - z0) = d1) (g2 : wrap64 (z3 - z2) = d2) (g3 : wrap64 (z2 - z0) = d3) (g4 : wrap64 (z3 - z1) = d4)
    (C1 : Ans 30 #[.int .i64 d1, .int .i64 d2, .int .i64 fy] (.int .i64 p)) (C2 : Ans 30 #[.int .i64 d3, .int .i64 d4, .int .i64 fx] (.int .i64 q))
    (C3 : Ans 31 #[.int .i64 p, .int .i64 256] (.int .i64 v1)) (C4 : Ans 31 #[.int .i64 q, .int .i64 256] (.int .i64 v2)) (w : World) (J : CN w base g F W H cell ox oy room k) :
    Calls Tryz.prog 18 #[.pointer (some ⟨g, 0, none⟩), sv x y] w fun e w' => e = .returned (.tuple #[.int .i64 v1, .int .i64 v2, .int .i64 0]) ∧ CN w' base g F W H cell ox oy room (k + 4) ∧ Turned (fun b => b = g) w w' := by
  obtain ⟨w1, hw1⟩ : ∃ w1, w.alloc (.cells #[.int .i64 x, .int .i64 y] 37) = w1 := ⟨_, rfl⟩
  have hB1 : Below w.heap.size w w1 := by rw [← hw1]; exact (Below.refl _ _).alloc (Nat.le_refl _) _
  have K1 : Blk w1 w.heap.size 37 [.int .i64 x, .int .i64 y] := by rw [← hw1]; exact Blk.new w _ _
  have d0 := K1.cell (i := 0) rfl
  have d00 := K1.cell (i := 1) rfl
  have HW1 := Lib.hid hw1
  have HL := Lib.hid (L w1 (J.below hB1))
  replace C1 := Lib.hid C1
  replace C2 := Lib.hid C2
  replace C3 := Lib.hid C3
  replace C4 := Lib.hid C4
  clear hw1 J L
  go_enter Tryz.func18, Tryz.ntmps18
  go_upto_region 1 with fail
  rw [HW1.out]
  clear HW1
  go_wp2_with fail
  refine HL.out.mono ?_
  rintro e w2 ⟨rfl, J2, hT⟩
  have hB3 : Below w2.heap.size w2 (w2.alloc (.cells #[.int .i64 z0, .int .i64 z1, .int .i64 z2, .int .i64 z3, .int .i64 fx, .int .i64 fy] 70)) := (Below.refl _ _).alloc (Nat.le_refl _) _
  have HJ := Lib.hid (J2.below hB3)
  have HT := Lib.hid (((Turned.below (S := fun b => b = g) hB1).trans hT (fun _ _ h => h)).trans (Turned.below (S := fun b => b = g) hB3) (fun _ _ h => h))
  have K3 : Blk (w2.alloc (.cells #[.int .i64 z0, .int .i64 z1, .int .i64 z2, .int .i64 z3, .int .i64 fx, .int .i64 fy] 70)) w2.heap.size 70 [.int .i64 z0, .int .i64 z1, .int .i64 z2, .int .i64 z3, .int .i64 fx, .int .i64 fy] := Blk.new w2 _ _
  clear HL d0 d00 J2 hT hB3
  go_wp2_with fail
  refine (C1.out _).mono ?_
  rintro e w4 ⟨rfl, hA⟩
  replace K3 := K3.below hA K3.lt
  have HJ4 := Lib.hid (HJ.out.below hA)
  have HT4 := Lib.hid (HT.out.trans (Turned.below (S := fun b => b = g) hA) (fun _ _ h => h))
  have a0 := K3.cell (i := 0) rfl
  have a1 := K3.cell (i := 1) rfl
  have a2 := K3.cell (i := 2) rfl
  have a3 := K3.cell (i := 3) rfl
  have a4 := K3.cell (i := 4) rfl
  have a5 := K3.cell (i := 5) rfl
  clear C1 hA HJ HT
  go_wp2_with fail
  refine (C2.out _).mono ?_
  rintro e w5 ⟨rfl, hA⟩
  have HJ5 := Lib.hid (HJ4.out.below hA)
  have HT5 := Lib.hid (HT4.out.trans (Turned.below (S := fun b => b = g) hA) (fun _ _ h => h))
  clear C2 hA HJ4 HT4 a0 a1 a2 a3 a4 a5 K3
  go_wp2_with fail
  refine (C3.out _).mono ?_
  rintro e w6 ⟨rfl, hA⟩
  have HJ6 := Lib.hid (HJ5.out.below hA)
  have HT6 := Lib.hid (HT5.out.trans (Turned.below (S := fun b => b = g) hA) (fun _ _ h => h))
  clear C3 hA HJ5 HT5
  go_wp2_with fail
  refine (C4.out _).mono ?_
  rintro e w7 ⟨rfl, hA⟩
  have HJ7 := Lib.hid (HJ6.out.below hA)
  have HT7 := Lib.hid (HT6.out.trans (Turned.below (S := fun b => b = g) hA) (fun _ _ h => h))
  clear C4 hA HJ6 HT6
  go_wp2_with fail
  go_ret3
  exact ⟨rfl, HJ7.out, HT7.out⟩

theorem tslp_any {F : List Int} {W H cell : Nat} {ox oy : Int} (O : MapOk F W H cell ox oy) (g base room k : Nat) (hk : k ≤ 900000) (x y : Int) (hx : -9223372036854775808 ≤ x ∧ x ≤ 9223372036854775807) (hy : -9223372036854775808 ≤ y ∧ y ≤ 9223372036854775807) (w : World) (J : CN w base g F W H cell ox oy room k) :
    Calls Tryz.prog 18 #[.pointer (some ⟨g, 0, none⟩), sv x y] w fun e w' => e = .returned (.tuple #[.int .i64 (slp F W H x y).1, .int .i64 (slp F W H x y).2.1, .int .i64 (slp F W H x y).2.2]) ∧ CN w' base g F W H cell ox oy room (k + 4) ∧ Turned (fun b => b = g) w w' := by
  by_cases h : inS W H x y
  · obtain ⟨X, rfl⟩ := Int.eq_ofNat_of_zero_le h.1
    obtain ⟨Y, rfl⟩ := Int.eq_ofNat_of_zero_le h.2.1
    have L := look_in O g base room k X Y hk h (by omega) (by omega)
    rcases codeT_two F W X Y with hc | hc
    · rw [slp_ok h hc]
      rw [hc, if_pos rfl] at L
      replace L : Looks g base F W H cell ox oy room k X Y #[.int .i64 (czT (zT F W X Y 0 0)), .int .i64 (czT (zT F W X Y 1 0)), .int .i64 (czT (zT F W X Y 0 1)), .int .i64 (czT (zT F W X Y 1 1)), .int .i64 ((X : Int) % 256), .int .i64 ((Y : Int) % 256)] 0 := L
      have z0 := czT_range (show In16 (zT F W X Y 0 0) from getD_in16 O.h16 _)
      have z1 := czT_range (show In16 (zT F W X Y 1 0) from getD_in16 O.h16 _)
      have z2 := czT_range (show In16 (zT F W X Y 0 1) from getD_in16 O.h16 _)
      have z3 := czT_range (show In16 (zT F W X Y 1 1) from getD_in16 O.h16 _)
      have r1 := part_rng z0 z1 (p := 256 - (Y : Int) % 256) (by omega)
      have r2 := part_rng z2 z3 (p := (Y : Int) % 256) (by omega)
      have r3 := part_rng z0 z2 (p := 256 - (X : Int) % 256) (by omega)
      have r4 := part_rng z1 z3 (p := (X : Int) % 256) (by omega)
      exact tslp_ok g base F W H cell ox oy room k X Y _ _ _ _ _ _ _ _ _ _ _ _ _ _ L (IntWalk.wrap64_in _ (by omega)) (IntWalk.wrap64_in _ (by omega)) (IntWalk.wrap64_in _ (by omega)) (IntWalk.wrap64_in _ (by omega))
        (between_any _ _ _ (by omega) (by omega) (by omega)) (between_any _ _ _ (by omega) (by omega) (by omega)) (units_any _ 256 (by omega) (by omega) (by omega)) (units_any _ 256 (by omega) (by omega) (by omega)) w J
    · rw [slp_void h hc]
      rw [hc, if_neg (by decide)] at L
      exact tslp_bad g base F W H cell ox oy room k X Y 8 (by decide) L w J
  · rw [slp_off h]
    exact tslp_bad g base F W H cell ox oy room k x y 9 (by decide) (look_off O g base room k x y hx hy h) w J
end Go.Proofs.YtlkjcamjgaecgaaGreat
