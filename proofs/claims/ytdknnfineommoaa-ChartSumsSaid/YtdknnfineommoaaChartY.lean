/-
  The law's example: its bytes, and the spoilt ones: reckoned.
-/
import Derived.Test.YtdknnfineommoaaChartL
set_option linter.unusedVariables false
set_option linter.unusedSimpArgs false
namespace Go.Proofs.Ytdknnfineommoaa
open Go Go.RowKit Go.Th Go.Th.Crc

def wF : List Int := (List.range (22 * 5)).map (fldAt [5, 9])
def wB : List Nat := chartB wF 22 5 30 (-7) 8
def wB1 : List Nat := wB.set 92 (wB.getD 92 0 ^^^ 1)
def wB2 : List Nat := wB1.set 5 9
set_option maxRecDepth 100000
theorem wB_length : wB.length = 93 := by decide +kernel
theorem wB1_length : wB1.length = 93 := by unfold wB1; rw [List.length_set]; exact wB_length
theorem wB2_length : wB2.length = 93 := by unfold wB2; rw [List.length_set]; exact wB1_length
theorem wB_lt : ∀ x ∈ wB, x < 256 := chartB_lt wF 22 5 30 (-7) 8
theorem wB1_lt : ∀ x ∈ wB1, x < 256 := by decide +kernel
theorem wB2_lt : ∀ x ∈ wB2, x < 256 := by decide +kernel
theorem wF_length : wF.length = 22 * 5 := by simp [wF]
theorem wB_opens : Opens wB 22 5 30 := opens_chart wF_length (by decide) (by decide) (by decide)
theorem wB1_opens : Opens wB1 22 5 30 := by
  refine ⟨by rw [wB1_length]; decide, by decide +kernel, by decide +kernel, by decide +kernel, by decide +kernel, by decide, by decide, by decide, by rw [wB1_length]; decide, by decide +kernel, by decide +kernel, by decide +kernel⟩
theorem wB1_tile0 : tb wB1 22 5 0 = tileB wF 22 5 0 := by decide +kernel
theorem wB1_tile1 : okB (tb wB1 22 5 1) = false := by decide +kernel
theorem wB2_head : rd wB2 0 4 = 1296978516 ∧ isF (rd wB2 4 2 : Nat) (rd wB2 6 2 : Nat) = false := by decide +kernel
theorem wB_last : wB.getD 92 0 ^^^ 1 < 256 := by decide +kernel
end Go.Proofs.Ytdknnfineommoaa
