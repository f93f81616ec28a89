/-
  Where a tile lies: the code's.
-/
import Derived.Test.YtapheokmoebgfaaTileC
set_option linter.unusedVariables false
set_option linter.unusedSimpArgs false
namespace Go.Proofs.Ytapheokmoebgfaa
open Go Go.RowKit Go.Th

set_option maxRecDepth 20000 in
set_option maxHeartbeats 1600000 in
theorem box_yes (x y X Y : Nat) (hF : isF x y = true) (hX : X < cnt x) (hY : Y < cnt y) (w : World) :
    Calls Try.prog 14 #[.int .i64 x, .int .i64 y, pv X Y] w fun e w' => e = .returned (.tuple #[.int .i64 ((16 * X : Nat) : Int), .int .i64 ((16 * Y : Nat) : Int), .int .i64 (side x X : Nat), .int .i64 (side y Y : Nat)]) ∧ Below w.heap.size w w' := by
  have C1 := isField_go x y
  obtain ⟨h1, h2, h3, h4⟩ := isF_yes hF
  have C2 := count_go x (by omega) (by omega)
  have C3 := count_go y (by omega) (by omega)
  have e1 := side_min x X hX
  have e2 := side_min y Y hY
  have l1 := cnt_le x
  have l2 := cnt_le y
  have f1 := side_fits x X hX
  have f2 := side_fits y Y hY
  have p1 := (side_pos x X).2 hX
  have p2 := (side_pos y Y).2 hY
  rw [hF] at C1
  obtain ⟨cx, hcx⟩ : ∃ c, c = cnt x := ⟨_, rfl⟩
  obtain ⟨cy, hcy⟩ : ∃ c, c = cnt y := ⟨_, rfl⟩
  rw [← hcx] at C2 l1 hX
  rw [← hcy] at C3 l2 hY
  obtain ⟨sx, hsx⟩ : ∃ s, s = side x X := ⟨_, rfl⟩
  obtain ⟨sy, hsy⟩ : ∃ s, s = side y Y := ⟨_, rfl⟩
  rw [← hsx] at e1 f1 p1 ⊢
  rw [← hsy] at e2 f2 p2 ⊢
  have m1 : min (16 : Int) ((x : Int) - (X : Int) * 16) = (sx : Int) := by omega
  have m2 : min (16 : Int) ((y : Int) - (Y : Int) * 16) = (sy : Int) := by omega
  have b1 : (16 : Int) * (X : Int) ≤ 256 := by omega
  have b2 : (16 : Int) * (Y : Int) ≤ 256 := by omega
  have g1 : (X : Int) * 16 ≤ 256 := by omega
  have g2 : (Y : Int) * 16 ≤ 256 := by omega
  have M1 := Lib.hid m1
  have M2 := Lib.hid m2
  have d1 : decide ((X : Int) < 0) = false := by rw [decide_eq_false_iff_not]; omega
  have d2 : decide ((Y : Int) < 0) = false := by rw [decide_eq_false_iff_not]; omega
  have d3 : decide (cx ≤ X) = false := by rw [decide_eq_false_iff_not]; omega
  have d4 : decide (cy ≤ Y) = false := by rw [decide_eq_false_iff_not]; omega
  have d5 : decide ((cx : Int) ≤ (X : Int)) = false := by rw [decide_eq_false_iff_not]; omega
  have d6 : decide ((cy : Int) ≤ (Y : Int)) = false := by rw [decide_eq_false_iff_not]; omega
  clear hF hcx hcy hsx hsy e1 e2 m1 m2
  go_enter Try.func14, Try.ntmps14
  go_wp2_with fail
  go_quiet ((first | exact Calls.quiet_of_same (quiet_pure C1 _ _) | exact Calls.quiet_of_same (quiet_pure C2 _ _) | exact Calls.quiet_of_same (quiet_pure C3 _ _)))
  go_wp2_with fail
  go_quiet (fail)
  go_wp2_with fail
  all_goals
    have n1 := M1.out
    have n2 := M2.out
    first
      | exact bodyPost_ret (v := .tuple #[.int .i64 ((X : Int) * 16), .int .i64 ((Y : Int) * 16), .int .i64 (min 16 ((x : Int) - (X : Int) * 16)), .int .i64 (min 16 ((y : Int) - (Y : Int) * 16))]) (results_tmp4 (t := 6) (u := 7) (v := 8) (x := 9) rfl _ _ _) rfl ⟨ret4 (by omega) (by omega) n1 n2, below_dN ((Below.refl _ _).alloc (Nat.le_refl _) _) _⟩
      | exact bodyPost_ret (v := .tuple #[.int .i64 ((X : Int) * 16), .int .i64 ((Y : Int) * 16), .int .i64 16, .int .i64 16]) (results_tmp4 (t := 6) (u := 7) (v := 8) (x := 9) rfl _ _ _) rfl ⟨ret4 (by omega) (by omega) (by omega) (by omega), below_dN ((Below.refl _ _).alloc (Nat.le_refl _) _) _⟩
      | exact bodyPost_ret (v := .tuple #[.int .i64 ((X : Int) * 16), .int .i64 ((Y : Int) * 16), .int .i64 ((x : Int) - (X : Int) * 16), .int .i64 16]) (results_tmp4 (t := 6) (u := 7) (v := 8) (x := 9) rfl _ _ _) rfl ⟨ret4 (by omega) (by omega) (by omega) (by omega), below_dN ((Below.refl _ _).alloc (Nat.le_refl _) _) _⟩
      | exact bodyPost_ret (v := .tuple #[.int .i64 ((X : Int) * 16), .int .i64 ((Y : Int) * 16), .int .i64 16, .int .i64 ((y : Int) - (Y : Int) * 16)]) (results_tmp4 (t := 6) (u := 7) (v := 8) (x := 9) rfl _ _ _) rfl ⟨ret4 (by omega) (by omega) (by omega) (by omega), below_dN ((Below.refl _ _).alloc (Nat.le_refl _) _) _⟩
      | exact bodyPost_ret (v := .tuple #[.int .i64 ((X : Int) * 16), .int .i64 ((Y : Int) * 16), .int .i64 ((x : Int) - (X : Int) * 16), .int .i64 ((y : Int) - (Y : Int) * 16)]) (results_tmp4 (t := 6) (u := 7) (v := 8) (x := 9) rfl _ _ _) rfl ⟨ret4 (by omega) (by omega) (by omega) (by omega), below_dN ((Below.refl _ _).alloc (Nat.le_refl _) _) _⟩
end Go.Proofs.Ytapheokmoebgfaa
