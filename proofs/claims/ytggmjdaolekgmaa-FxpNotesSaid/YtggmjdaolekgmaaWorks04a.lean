/-
  The examples of layer 4: rows.
-/
import Derived.Test.YtggmjdaolekgmaaFxpC
set_option linter.unusedVariables false
set_option linter.unusedSimpArgs false
namespace Go.Proofs.Ytggmjdaolekgmaa
open Go Go.RowKit Go.Th Go.Th.Wide

theorem sumEx (g gS : Nat) (w0 w : World) (r : List (Nat × TypeId × List Value)) (M : Mem w0 w ((gS, 3, [.int .i64 1, .int .i64 2, .int .i64 3]) :: (g, 28, [.bool true, .int .i64 6]) :: r)) :
    Calls Try.prog 34 #[.pointer (some ⟨g, 0, none⟩), .slice (some ⟨gS, 0, none⟩) 3 3] w fun e w' => e = .returned (.int .i64 6) ∧ Mem w0 w' ((g, 28, [.bool true, .int .i64 9]) :: r) := by
  have hs : sumF [1, 2, 3] = (6, false) := by decide
  have C := sum_int g true 6 (by decide) [1, 2, 3] (by intro x hx; simp only [List.mem_cons, List.not_mem_nil, or_false] at hx; rcases hx with rfl | rfl | rfl <;> exact ⟨by decide, by decide⟩) (by decide) (some ⟨gS, 0, none⟩) 3 w0 w ((gS, 3, [.int .i64 1, .int .i64 2, .int .i64 3]) :: r)
    (fun wx cs M => (M.has (.tail _ _ _ _ _ (.head _ _ _ _))).sl 3 rfl (by decide)) (M.perm (List.Perm.swap _ _ _))
  rw [hs] at C
  refine Calls.mono C ?_
  rintro e w' ⟨rfl, M'⟩
  exact ⟨rfl, M'.pick (by exact .cons_cons _ (.cons _ (List.Sublist.refl _)))⟩
theorem dotEx (g gS gT : Nat) (w0 w : World) (r : List (Nat × TypeId × List Value)) (M : Mem w0 w ((gT, 2, [.int .i64 768, .int .i64 1024, .int .i64 9]) :: (gS, 2, [.int .i64 256, .int .i64 512]) :: (g, 28, [.bool true, .int .i64 9]) :: r)) :
    Calls Try.prog 25 #[.pointer (some ⟨g, 0, none⟩), .slice (some ⟨gS, 0, none⟩) 2 2, .slice (some ⟨gT, 0, none⟩) 3 3, .int .i64 8, .int .i64 2] w fun e w' => e = .returned (.int .i64 2816) ∧ Mem w0 w' ((g, 28, [.bool true, .int .i64 13]) :: r) := by
  have hs : dotF 8 2 ([256, 512].zip [768, 1024, 9]) = (2816, false) := by decide +kernel
  have C := dot_any g true 9 8 2 (by decide) [256, 512] [768, 1024, 9] (by intro x hx; simp only [List.mem_cons, List.not_mem_nil, or_false] at hx; rcases hx with rfl | rfl <;> exact ⟨by decide, by decide⟩) (by intro x hx; simp only [List.mem_cons, List.not_mem_nil, or_false] at hx; rcases hx with rfl | rfl | rfl <;> exact ⟨by decide, by decide⟩) (by decide) (by decide) (some ⟨gS, 0, none⟩) (some ⟨gT, 0, none⟩) 2 3 w0 w ((gT, 2, [.int .i64 768, .int .i64 1024, .int .i64 9]) :: (gS, 2, [.int .i64 256, .int .i64 512]) :: r)
    (fun wx cs M => (M.has (.tail _ _ _ _ _ (.tail _ _ _ _ _ (.head _ _ _ _)))).sl 2 rfl (by decide)) (fun wx cs M => (M.has (.tail _ _ _ _ _ (.head _ _ _ _))).sl 3 rfl (by decide))
    (M.perm ((List.Perm.swap _ _ _).trans ((List.Perm.swap _ _ _).cons _)))
  rw [hs] at C
  refine Calls.mono C ?_
  rintro e w' ⟨rfl, M'⟩
  exact ⟨rfl, M'.pick (by exact .cons_cons _ (.cons _ (.cons _ (List.Sublist.refl _))))⟩
end Go.Proofs.Ytggmjdaolekgmaa
