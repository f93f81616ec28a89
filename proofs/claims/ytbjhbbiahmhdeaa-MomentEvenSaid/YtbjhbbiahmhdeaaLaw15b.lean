/-
  The law's example holds.
-/
import Derived.Test.YtbjhbbiahmhdeaaLaw15a
set_option linter.unusedVariables false
set_option linter.unusedSimpArgs false
namespace Go.Proofs.Ytbjhbbiahmhdeaa
open Go Go.RowKit Go.Shelf Go.Th Go.Th.Grid Go.Th.Moment Go.Th.Wide

theorem GE : GOk 3 1 3 pE := ⟨rfl, by decide +kernel, by decide +kernel, rfl⟩
theorem hE : 0 < sm pE ∧ sm pE ≤ 1073741824 := by decide +kernel
theorem G0 : GOk 1 1 1 [0] := ⟨rfl, by decide +kernel, by decide +kernel, rfl⟩
theorem wk1 : OfG 9 3 1 100 50 64 3 pE (fun g => #[g]) (.tuple #[spv 196 50, .bool true]) := fun a cap w hS => by
  have h := Mean_any GE hE 64 100 50 a cap (by omega) (by omega) (by omega) w hS
  rw [show (100 : Int) + nr (((64 : Nat) : Int) * mo (fx 3) (en pE 3)) (sm pE) = 196 by decide +kernel, show (50 : Int) + nr (((64 : Nat) : Int) * mo (fy 3) (en pE 3)) (sm pE) = 50 by decide +kernel] at h
  exact h
theorem wk2 : OfG 11 3 1 100 50 64 3 pE (fun g => #[g]) (.tuple #[srv 49152 0 0, .bool true]) := fun a cap w hS => by
  have h := Vary_any GE hE 100 50 64 a cap w hS
  rw [show vr (sm pE) (mo (fxx 3) (en pE 3)) (mo (fx 3) (en pE 3)) (mo (fx 3) (en pE 3)) = 49152 by decide +kernel, show vr (sm pE) (mo (fxy 3) (en pE 3)) (mo (fx 3) (en pE 3)) (mo (fy 3) (en pE 3)) = 0 by decide +kernel, show vr (sm pE) (mo (fyy 3) (en pE 3)) (mo (fy 3) (en pE 3)) (mo (fy 3) (en pE 3)) = 0 by decide +kernel] at h
  exact h
theorem wk3 : OfG 9 1 1 0 0 64 1 [0] (fun g => #[g]) (.tuple #[spv 0 0, .bool false]) := fun a cap w hS => by
  have CS : SumsAt 1 1 1 0 0 64 a cap [0] (sumV 1 (en [0] 1)) := fun w hS => summed_any 1 1 1 0 0 64 a cap [0] G0.len G0.rng G0.sd G0.side w hS
  unfold sumV sumC at CS
  rw [show mo f1 (en [0] 1) = 0 by decide +kernel] at CS
  have h := mean_no 1 1 1 0 0 64 a cap [0] _ _ _ _ _ CS w hS
  exact h
theorem wk4 : OfG 15 3 1 100 50 64 3 pE (fun g => #[g]) (.int .i64 2) := fun a cap w hS => by
  have h := Peak_any 3 1 3 100 50 64 a cap pE GE w hS
  rw [show ix (pk pE 3) = 2 by decide +kernel] at h
  exact h
theorem wk5 : OfG 16 3 1 100 50 64 3 pE (fun g => #[g, .int .i64 1]) (.int .i64 0) := fun a cap w hS => by
  have h := Second_any 3 1 3 100 50 64 a cap pE GE 1 w hS
  rw [show ix (sec 3 1 pE 3) = 0 by decide +kernel] at h
  exact h
theorem wk6 : OfG 16 3 1 100 50 64 3 pE (fun g => #[g, .int .i64 2]) (.int .i64 (-1)) := fun a cap w hS => by
  have h := Second_any 3 1 3 100 50 64 a cap pE GE 2 w hS
  rw [show ix (sec 3 2 pE 3) = -1 by decide +kernel] at h
  exact h
theorem wk7 : OfG 19 3 1 100 50 64 3 pE (fun g => #[g, .int .i64 2, .int .i64 1]) (.int .i64 805306368) := fun a cap w hS => by
  have h := Around_any 3 1 3 64 100 50 2 1 a cap pE GE (by omega) (by omega) (by omega) w hS
  rw [show aro 3 pE 3 2 1 = 805306368 by decide +kernel] at h
  exact h
theorem wk8 : OfG 21 3 1 100 50 64 3 pE (fun g => #[g]) (.int .i64 1073741824) := fun a cap w hS => by
  have h := Edge_any 3 1 3 100 50 64 a cap pE GE w hS
  rw [show so (edge 3 1) (en pE 3) = 1073741824 by decide +kernel] at h
  exact h
theorem wk9 : OfG 23 3 1 100 50 64 3 pE (fun g => #[g]) (.int .i64 1) := fun a cap w hS => by
  have h := Even_any GE hE 100 50 64 a cap w hS
  rw [show sm pE * sm pE / sqs (en pE 3) = 1 by decide +kernel] at h
  exact h
theorem works15_any : Ans 7 #[] (.bool true) := works15_go wk1 wk2 wk3 wk4 wk5 wk6 wk7 wk8 wk9
end Go.Proofs.Ytbjhbbiahmhdeaa
