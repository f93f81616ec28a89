/-
  The ground at a place, and how steep it is: the code's.
-/
import Derived.Test.YtlkjcamjgaecgaaGreatTerrL
import Derived.Test.YtlkjcamjgaecgaaGreatRef11E
set_option linter.unusedVariables false
set_option linter.unusedSimpArgs false
namespace Go.Proofs.YtlkjcamjgaecgaaGreat
open Go Go.RowKit Go.Th Go.Th.Crc

theorem MapOk.fld {F : List Int} {W H cell : Nat} {ox oy : Int} (O : MapOk F W H cell ox oy) : FldOk F W H (W * H) := by
  obtain ⟨i1, i2, i3, i4⟩ := isF_yes O.hF
  exact ⟨O.hl, rfl, by omega, by omega, O.h16⟩
/-- A look at the four around a place: what is told. -/
abbrev Looks (g base : Nat) (F : List Int) (W H cell : Nat) (ox oy : Int) (room k : Nat) (x y : Int) (cs : Array Value) (c : Int) : Prop :=
  ∀ w : World, CN w base g F W H cell ox oy room k → Calls Tryz.prog 29 #[.pointer (some ⟨g, 0, none⟩), sv x y] w fun e w' => e = .returned (.tuple #[.agg cs, .int .i64 c]) ∧ CN w' base g F W H cell ox oy room (k + 4) ∧ Turned (fun b => b = g) w w'

theorem look_off {F : List Int} {W H cell : Nat} {ox oy : Int} (O : MapOk F W H cell ox oy) (g base room k : Nat) (x y : Int) (hx : -9223372036854775808 ≤ x ∧ x ≤ 9223372036854775807) (hy : -9223372036854775808 ≤ y ∧ y ≤ 9223372036854775807) (h : ¬ inS W H x y) :
    Looks g base F W H cell ox oy room k x y #[.int .i64 0, .int .i64 0, .int .i64 0, .int .i64 0, .int .i64 0, .int .i64 0] 9 := by
  intro w J
  have hW := O.fld.W1
  have hH := O.fld.H1
  have C1 := inside_any W H none 0 0 cell ox oy x y (by omega) (by omega) hx hy
  rw [decide_eq_false h] at C1
  refine (lookOff_go base g F W H cell ox oy room k x y w J C1).mono ?_
  rintro e w' ⟨he, hB⟩
  exact ⟨he, (J.below hB).mono (by omega), Turned.below hB⟩
theorem colT_0 (X : Nat) : colT X 0 = X / 256 := by unfold colT; split <;> omega
theorem look_in {F : List Int} {W H cell : Nat} {ox oy : Int} (O : MapOk F W H cell ox oy) (g base room k X Y : Nat) (hk : k ≤ 900000) (h : inS W H X Y) (hx : X ≤ 9223372036854775807) (hy : Y ≤ 9223372036854775807) :
    Looks g base F W H cell ox oy room k X Y (if codeT F W X Y = 0 then arL (fun i => czT (zT F W X Y (i % 2) (i / 2))) 4 ((X : Int) % 256) ((Y : Int) % 256) else zero6).toArray (codeT F W X Y) := by
  intro w J
  have hW := O.fld.W1
  have hH := O.fld.H1
  have C1 := inside_any W H none 0 0 cell ox oy X Y (by omega) (by omega) (by omega) (by omega)
  rw [decide_eq_true h] at C1
  have C2 := sides_any X hx
  have C3 := sides_any Y hy
  rw [show ((X % 256 : Nat) : Int) = (X : Int) % 256 by omega] at C2
  rw [show ((Y % 256 : Nat) : Int) = (Y : Int) % 256 by omega] at C3
  refine lookIn_go base g F W H cell ox oy room k X Y (colT X 0) (colT X 1) (colT Y 0) (colT Y 1) ((X : Int) % 256) ((Y : Int) % 256) (codeT F W X Y) (fun i => czT (zT F W X Y (i % 2) (i / 2))) (fun i => ccT (zT F W X Y (i % 2) (i / 2))) O hk w J ?_ ?_ ?_ ?_ C1 C2 C3
  · intro i _
    have hr := czT_range (show In16 (zT F W X Y (i % 2) (i / 2)) from getD_in16 O.h16 _)
    exact ⟨IntWalk.wrap64_in _ (by show _ ∧ _; omega), IntWalk.i64_in _ (by show _ ∧ _; omega)⟩
  · intro i hi
    have e1 : (if i % 2 = 0 then colT X 0 else colT X 1) = colT X (i % 2) := by
      rcases (by omega : i % 2 = 0 ∨ i % 2 = 1) with e | e <;> rw [e] <;> rfl
    have e2 : (if i / 2 = 0 then colT Y 0 else colT Y 1) = colT Y (i / 2) := by
      rcases (by omega : i / 2 = 0 ∨ i / 2 = 1) with e | e <;> rw [e] <;> rfl
    rw [e1, e2]
    exact told_at O.fld X Y (i % 2) (i / 2) h (by omega) (by omega)
  · intro i hi hne
    have h8 := (ccT_two (zT F W X Y (i % 2) (i / 2))).resolve_left hne
    have hv : zT F W X Y (i % 2) (i / 2) = -32768 := by
      unfold ccT at h8
      by_cases e : zT F W X Y (i % 2) (i / 2) = -32768
      · exact e
      · rw [if_neg e] at h8; cases h8
    have hc : codeT F W X Y = 8 := by
      unfold codeT
      rw [if_pos]
      rcases (by omega : i = 0 ∨ i = 1 ∨ i = 2 ∨ i = 3) with rfl | rfl | rfl | rfl
      · exact Or.inl hv
      · exact Or.inr (Or.inl hv)
      · exact Or.inr (Or.inr (Or.inl hv))
      · exact Or.inr (Or.inr (Or.inr hv))
    exact ⟨by rw [hc]; exact h8.symm, by rw [hc]; decide⟩
  · intro k
    have f : ∀ i, i < 4 → ¬ zT F W X Y (i % 2) (i / 2) = -32768 := by
      intro i hi e
      have h2 : ccT (zT F W X Y (i % 2) (i / 2)) = 0 := k i hi
      rw [e] at h2
      exact absurd h2 (by decide)
    unfold codeT
    rw [if_neg]
    rintro (e | e | e | e)
    · exact f 0 (by omega) e
    · exact f 1 (by omega) e
    · exact f 2 (by omega) e
    · exact f 3 (by omega) e

set_option maxRecDepth 20000 in
set_option maxHeartbeats 1600000 in
theorem thgt_bad (g base : Nat) (F : List Int) (W H cell : Nat) (ox oy : Int) (room k : Nat) (x y c : Int) (hc : ¬ c = 0) (L : Looks g base F W H cell ox oy room k x y #[.int .i64 0, .int .i64 0, .int .i64 0, .int .i64 0, .int .i64 0, .int .i64 0] c) (w : World) (J : CN w base g F W H cell ox oy room k) :
    Calls Tryz.prog 11 #[.pointer (some ⟨g, 0, none⟩), sv x y] w fun e w' => e = .returned (.tuple #[.int .i64 0, .int .i64 c]) ∧ CN w' base g F W H cell ox oy room (k + 4) ∧ Turned (fun b => b = g) w w' := by
  obtain ⟨w1, hw1⟩ : ∃ w1, w.alloc (.cells #[.int .i64 x, .int .i64 y] 37) = w1 := ⟨_, rfl⟩
  have hB1 : Below w.heap.size w w1 := by rw [← hw1]; exact (Below.refl _ _).alloc (Nat.le_refl _) _
  have K1 : Blk w1 w.heap.size 37 [.int .i64 x, .int .i64 y] := by rw [← hw1]; exact Blk.new w _ _
  have d0 := K1.cell (i := 0) rfl
  have d1 := K1.cell (i := 1) rfl
  have HW1 := Lib.hid hw1
  have HL := Lib.hid (L w1 (J.below hB1))
  have b1 : ((c : Int) != 0) = true := by simp [hc]
  clear hw1 J L
  go_enter Tryz.func11, Tryz.ntmps11
  go_upto_region 1 with fail
  rw [HW1.out]
  clear HW1
  go_wp2_with fail
  refine HL.out.mono ?_
  rintro e w2 ⟨rfl, J2, hT⟩
  have HJ := Lib.hid J2
  have HT := Lib.hid hT
  clear HL d0 d1 J2 hT
  go_wp2_with fail
  go_ret2
  have hB3 : Below w2.heap.size w2 (w2.alloc (.cells #[.int .i64 0, .int .i64 0, .int .i64 0, .int .i64 0, .int .i64 0, .int .i64 0] 70)) := (Below.refl _ _).alloc (Nat.le_refl _) _
  exact ⟨rfl, HJ.out.below hB3, ((Turned.below (S := fun b => b = g) hB1).trans HT.out (fun _ _ h => h)).trans (Turned.below (S := fun b => b = g) hB3) (fun _ _ h => h)⟩

set_option maxRecDepth 20000 in
set_option maxHeartbeats 1600000 in
theorem thgt_ok (g base : Nat) (F : List Int) (W H cell : Nat) (ox oy : Int) (room k : Nat) (x y z0 z1 z2 z3 fx fy p q r v : Int) (L : Looks g base F W H cell ox oy room k x y #[.int .i64 z0, .int .i64 z1, .int .i64 z2, .int .i64 z3, .int .i64 fx, .int .i64 fy] 0)
    (C1 : Ans 30 #[.int .i64 z0, .int .i64 z1, .int .i64 fx] (.int .i64 p)) (C2 : Ans 30 #[.int .i64 z2, .int .i64 z3, .int .i64 fx] (.int .i64 q)) (C3 : Ans 30 #[.int .i64 p, .int .i64 q, .int .i64 fy] (.int .i64 r))
    (C4 : Ans 31 #[.int .i64 r, .int .i64 65536] (.int .i64 v)) (w : World) (J : CN w base g F W H cell ox oy room k) :
    Calls Tryz.prog 11 #[.pointer (some ⟨g, 0, none⟩), sv x y] w fun e w' => e = .returned (.tuple #[.int .i64 v, .int .i64 0]) ∧ CN w' base g F W H cell ox oy room (k + 4) ∧ Turned (fun b => b = g) w w' := by
  obtain ⟨w1, hw1⟩ : ∃ w1, w.alloc (.cells #[.int .i64 x, .int .i64 y] 37) = w1 := ⟨_, rfl⟩
  have hB1 : Below w.heap.size w w1 := by rw [← hw1]; exact (Below.refl _ _).alloc (Nat.le_refl _) _
  have K1 : Blk w1 w.heap.size 37 [.int .i64 x, .int .i64 y] := by rw [← hw1]; exact Blk.new w _ _
  have d0 := K1.cell (i := 0) rfl
  have d1 := K1.cell (i := 1) rfl
  have HW1 := Lib.hid hw1
  have HL := Lib.hid (L w1 (J.below hB1))
  replace C1 := Lib.hid C1
  replace C2 := Lib.hid C2
  replace C3 := Lib.hid C3
  replace C4 := Lib.hid C4
  clear hw1 J L
  go_enter Tryz.func11, Tryz.ntmps11
  go_upto_region 1 with fail
  rw [HW1.out]
  clear HW1
  go_wp2_with fail
  refine HL.out.mono ?_
  rintro e w2 ⟨rfl, J2, hT⟩
  have hB3 : Below w2.heap.size w2 (w2.alloc (.cells #[.int .i64 z0, .int .i64 z1, .int .i64 z2, .int .i64 z3, .int .i64 fx, .int .i64 fy] 70)) := (Below.refl _ _).alloc (Nat.le_refl _) _
  have HJ := Lib.hid (J2.below hB3)
  have HT := Lib.hid (((Turned.below (S := fun b => b = g) hB1).trans hT (fun _ _ h => h)).trans (Turned.below (S := fun b => b = g) hB3) (fun _ _ h => h))
  have K3 : Blk (w2.alloc (.cells #[.int .i64 z0, .int .i64 z1, .int .i64 z2, .int .i64 z3, .int .i64 fx, .int .i64 fy] 70)) w2.heap.size 70 [.int .i64 z0, .int .i64 z1, .int .i64 z2, .int .i64 z3, .int .i64 fx, .int .i64 fy] := Blk.new w2 _ _
  clear HL d0 d1 J2 hT hB3
  go_wp2_with fail
  refine (C1.out _).mono ?_
  rintro e w4 ⟨rfl, hA⟩
  replace K3 := K3.below hA K3.lt
  have HJ4 := Lib.hid (HJ.out.below hA)
  have HT4 := Lib.hid (HT.out.trans (Turned.below (S := fun b => b = g) hA) (fun _ _ h => h))
  have a2 := K3.cell (i := 2) rfl
  have a3 := K3.cell (i := 3) rfl
  have a4 := K3.cell (i := 4) rfl
  have a5 := K3.cell (i := 5) rfl
  clear C1 hA HJ HT
  go_wp2_with fail
  refine (C2.out _).mono ?_
  rintro e w5 ⟨rfl, hA⟩
  replace K3 := K3.below hA K3.lt
  have HJ5 := Lib.hid (HJ4.out.below hA)
  have HT5 := Lib.hid (HT4.out.trans (Turned.below (S := fun b => b = g) hA) (fun _ _ h => h))
  clear C2 hA HJ4 HT4 a2 a3 a4 a5
  have a5 := K3.cell (i := 5) rfl
  go_wp2_with fail
  refine (C3.out _).mono ?_
  rintro e w6 ⟨rfl, hA⟩
  have HJ6 := Lib.hid (HJ5.out.below hA)
  have HT6 := Lib.hid (HT5.out.trans (Turned.below (S := fun b => b = g) hA) (fun _ _ h => h))
  clear C3 hA HJ5 HT5 a5 K3
  go_wp2_with fail
  refine (C4.out _).mono ?_
  rintro e w7 ⟨rfl, hA⟩
  have HJ7 := Lib.hid (HJ6.out.below hA)
  have HT7 := Lib.hid (HT6.out.trans (Turned.below (S := fun b => b = g) hA) (fun _ _ h => h))
  clear C4 hA HJ6 HT6
  go_wp2_with fail
  go_ret2
  exact ⟨rfl, HJ7.out, HT7.out⟩

theorem exT_between2 (F : List Int) (W X Y : Nat) : (czT (zT F W X Y 0 0) * (256 - (X : Int) % 256) + czT (zT F W X Y 1 0) * ((X : Int) % 256)) * (256 - (Y : Int) % 256) + (czT (zT F W X Y 0 1) * (256 - (X : Int) % 256) + czT (zT F W X Y 1 1) * ((X : Int) % 256)) * ((Y : Int) % 256) = exT F W X Y := by
  have e : exT F W X Y = 0 + czT (zT F W X Y 0 0) * wT X 0 * wT Y 0 + czT (zT F W X Y 1 0) * wT X 1 * wT Y 0 + czT (zT F W X Y 0 1) * wT X 0 * wT Y 1 + czT (zT F W X Y 1 1) * wT X 1 * wT Y 1 := rfl
  have x0 : wT X 0 = 256 - (X : Int) % 256 := by unfold wT; rw [if_pos rfl]; omega
  have x1 : wT X 1 = (X : Int) % 256 := by unfold wT; rw [if_neg (by decide)]; omega
  have y0 : wT Y 0 = 256 - (Y : Int) % 256 := by unfold wT; rw [if_pos rfl]; omega
  have y1 : wT Y 1 = (Y : Int) % 256 := by unfold wT; rw [if_neg (by decide)]; omega
  rw [e, x0, x1, y0, y1, Int.add_mul, Int.add_mul, Int.zero_add]
  omega
theorem thgt_any {F : List Int} {W H cell : Nat} {ox oy : Int} (O : MapOk F W H cell ox oy) (g base room k : Nat) (hk : k ≤ 900000) (x y : Int) (hx : -9223372036854775808 ≤ x ∧ x ≤ 9223372036854775807) (hy : -9223372036854775808 ≤ y ∧ y ≤ 9223372036854775807) (w : World) (J : CN w base g F W H cell ox oy room k) :
    Calls Tryz.prog 11 #[.pointer (some ⟨g, 0, none⟩), sv x y] w fun e w' => e = .returned (.tuple #[.int .i64 (gnd F W H x y).1, .int .i64 (gnd F W H x y).2]) ∧ CN w' base g F W H cell ox oy room (k + 4) ∧ Turned (fun b => b = g) w w' := by
  by_cases h : inS W H x y
  · obtain ⟨X, rfl⟩ := Int.eq_ofNat_of_zero_le h.1
    obtain ⟨Y, rfl⟩ := Int.eq_ofNat_of_zero_le h.2.1
    have L := look_in O g base room k X Y hk h (by omega) (by omega)
    rcases codeT_two F W X Y with hc | hc
    · rw [gnd_ok h hc]
      rw [hc, if_pos rfl] at L
      replace L : Looks g base F W H cell ox oy room k X Y #[.int .i64 (czT (zT F W X Y 0 0)), .int .i64 (czT (zT F W X Y 1 0)), .int .i64 (czT (zT F W X Y 0 1)), .int .i64 (czT (zT F W X Y 1 1)), .int .i64 ((X : Int) % 256), .int .i64 ((Y : Int) % 256)] 0 := L
      have z0 := czT_range (show In16 (zT F W X Y 0 0) from getD_in16 O.h16 _)
      have z1 := czT_range (show In16 (zT F W X Y 1 0) from getD_in16 O.h16 _)
      have z2 := czT_range (show In16 (zT F W X Y 0 1) from getD_in16 O.h16 _)
      have z3 := czT_range (show In16 (zT F W X Y 1 1) from getD_in16 O.h16 _)
      have r0 := mul_range (a := czT (zT F W X Y 0 0)) (p := 256 - (X : Int) % 256) (A := 32768) (B := 256) (by omega) (by omega) (by omega)
      have r1 := mul_range (a := czT (zT F W X Y 1 0)) (p := (X : Int) % 256) (A := 32768) (B := 256) (by omega) (by omega) (by omega)
      have r2 := mul_range (a := czT (zT F W X Y 0 1)) (p := 256 - (X : Int) % 256) (A := 32768) (B := 256) (by omega) (by omega) (by omega)
      have r3 := mul_range (a := czT (zT F W X Y 1 1)) (p := (X : Int) % 256) (A := 32768) (B := 256) (by omega) (by omega) (by omega)
      have rE := exT_range (W := W) (X := X) (Y := Y) O.h16
      refine thgt_ok g base F W H cell ox oy room k X Y _ _ _ _ _ _ _ _ _ _ L (between_any _ _ _ (by omega) (by omega) (by omega)) (between_any _ _ _ (by omega) (by omega) (by omega)) (between_any _ _ _ (by omega) (by omega) (by omega)) ?_ w J
      rw [exT_between2]
      exact units_any _ 65536 (by omega) (by omega) (by omega)
    · rw [gnd_void h hc]
      rw [hc, if_neg (by decide)] at L
      exact thgt_bad g base F W H cell ox oy room k X Y 8 (by decide) L w J
  · rw [gnd_off h]
    exact thgt_bad g base F W H cell ox oy room k x y 9 (by decide) (look_off O g base room k x y hx hy h) w J
end Go.Proofs.YtlkjcamjgaecgaaGreat
