/-
  Where a tile lies: the code's.
-/
import Derived.Test.YtapheokmoebgfaaTileC
set_option linter.unusedVariables false
set_option linter.unusedSimpArgs false
namespace Go.Proofs.Ytapheokmoebgfaa
open Go Go.RowKit Go.Th

set_option maxRecDepth 20000 in
set_option maxHeartbeats 1600000 in
theorem box_no (x y : Nat) (X Y : Int) (hF : isF x y = true) (hn : ¬ (0 ≤ X ∧ 0 ≤ Y ∧ X < (cnt x : Nat) ∧ Y < (cnt y : Nat))) (w : World) :
    Calls Try.prog 14 #[.int .i64 x, .int .i64 y, pv X Y] w fun e w' => e = .returned (.tuple #[.int .i64 0, .int .i64 0, .int .i64 0, .int .i64 0]) ∧ Below w.heap.size w w' := by
  have C1 := isField_go x y
  obtain ⟨h1, h2, h3, h4⟩ := isF_yes hF
  have C2 := count_go x (by omega) (by omega)
  have C3 := count_go y (by omega) (by omega)
  rw [hF] at C1
  obtain ⟨cx, hcx⟩ : ∃ c, c = cnt x := ⟨_, rfl⟩
  obtain ⟨cy, hcy⟩ : ∃ c, c = cnt y := ⟨_, rfl⟩
  rw [← hcx] at C2 hn
  rw [← hcy] at C3 hn
  clear hF hcx hcy
  by_cases a1 : 0 ≤ X
  · have d1 : decide (X < 0) = false := by rw [decide_eq_false_iff_not]; omega
    by_cases a2 : 0 ≤ Y
    · have d2 : decide (Y < 0) = false := by rw [decide_eq_false_iff_not]; omega
      by_cases a3 : X < (cx : Int)
      · have d3 : decide ((cx : Int) ≤ X) = false := by rw [decide_eq_false_iff_not]; omega
        have d4 : decide ((cy : Int) ≤ Y) = true := by rw [decide_eq_true_iff]; rcases Int.lt_or_le Y cy with h | h; · exact absurd ⟨a1, a2, a3, h⟩ hn
                                                       · exact h
        clear hn
        go_enter Try.func14, Try.ntmps14
        go_wp2_with fail
        go_quiet ((first | exact Calls.quiet_of_same (quiet_pure C1 _ _) | exact Calls.quiet_of_same (quiet_pure C2 _ _) | exact Calls.quiet_of_same (quiet_pure C3 _ _)))
        go_wp2_with fail
        refine bodyPost_ret (results_tmp4 rfl _ _ _) rfl ⟨rfl, below_dN ((Below.refl _ _).alloc (Nat.le_refl _) _) _⟩
      · have d3 : decide ((cx : Int) ≤ X) = true := by rw [decide_eq_true_iff]; omega
        clear hn
        go_enter Try.func14, Try.ntmps14
        go_wp2_with fail
        go_quiet ((first | exact Calls.quiet_of_same (quiet_pure C1 _ _) | exact Calls.quiet_of_same (quiet_pure C2 _ _) | exact Calls.quiet_of_same (quiet_pure C3 _ _)))
        go_wp2_with fail
        refine bodyPost_ret (results_tmp4 rfl _ _ _) rfl ⟨rfl, below_dN ((Below.refl _ _).alloc (Nat.le_refl _) _) _⟩
    · have d2 : decide (Y < 0) = true := by rw [decide_eq_true_iff]; omega
      clear hn
      go_enter Try.func14, Try.ntmps14
      go_wp2_with fail
      go_quiet ((first | exact Calls.quiet_of_same (quiet_pure C1 _ _) | exact Calls.quiet_of_same (quiet_pure C2 _ _) | exact Calls.quiet_of_same (quiet_pure C3 _ _)))
      go_wp2_with fail
      refine bodyPost_ret (results_tmp4 rfl _ _ _) rfl ⟨rfl, below_dN ((Below.refl _ _).alloc (Nat.le_refl _) _) _⟩
  · have d1 : decide (X < 0) = true := by rw [decide_eq_true_iff]; omega
    clear hn
    go_enter Try.func14, Try.ntmps14
    go_wp2_with fail
    go_quiet ((first | exact Calls.quiet_of_same (quiet_pure C1 _ _) | exact Calls.quiet_of_same (quiet_pure C2 _ _) | exact Calls.quiet_of_same (quiet_pure C3 _ _)))
    go_wp2_with fail
    refine bodyPost_ret (results_tmp4 rfl _ _ _) rfl ⟨rfl, below_dN ((Below.refl _ _).alloc (Nat.le_refl _) _) _⟩

end Go.Proofs.Ytapheokmoebgfaa
