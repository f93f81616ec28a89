/-
  Rows of pairs of 64 bits, as an argument: places of a map.
-/
import Derived.Test.YtlkjcamjgaecgaaGreatRows
import Derived.Test.YtlkjcamjgaecgaaGreatPackBits
set_option linter.unusedVariables false
set_option linter.unusedSimpArgs false
namespace Go.Proofs.YtlkjcamjgaecgaaGreat
open Go Go.RowKit Go.Th

/-- Pairs as cells. -/
def spts (l : List (Int × Int)) : List Value := l.flatMap fun z => [.int .i64 z.1, .int .i64 z.2]
theorem spts_length : ∀ l : List (Int × Int), (spts l).length = l.length * 2
  | [] => rfl
  | z :: r => by
    have := spts_length r
    unfold spts at this ⊢
    rw [List.flatMap_cons, List.length_append, this, List.length_cons]; simp; omega
theorem spts_at : ∀ (l : List (Int × Int)) (i : Nat) (z : Int × Int), l[i]? = some z → (spts l)[i * 2]? = some (.int .i64 z.1) ∧ (spts l)[i * 2 + 1]? = some (.int .i64 z.2)
  | [], i, z, h => by simp at h
  | y :: r, 0, z, h => by
    have e : y = z := by simpa using h
    subst e
    simp [spts]
  | y :: r, i + 1, z, h => by
    have := spts_at r i z (by simpa using h)
    have e : spts (y :: r) = .int .i64 y.1 :: .int .i64 y.2 :: spts r := rfl
    rw [e, show (i + 1) * 2 = i * 2 + 1 + 1 by omega, List.getElem?_cons_succ, List.getElem?_cons_succ, List.getElem?_cons_succ, List.getElem?_cons_succ]
    exact this
theorem cell_spts {w : World} {a : Option Addr} {n cap : Nat} {l : List (Int × Int)} (hS : Sl w 2 (.slice a n cap) n (spts l)) (i : Nat) (x y : Int) (h : l[i]? = some (x, y)) :
    ∃ b o, a = some ⟨b, o, none⟩ ∧ b < w.heap.size ∧ w.cell? ⟨b, o + i * 2, none⟩ = some (.int .i64 x) ∧ w.cell? ⟨b, o + i * 2 + 1, none⟩ = some (.int .i64 y) := by
  obtain ⟨a', c', he, _, _, _, _, h5⟩ := hS
  cases he
  obtain ⟨h1, h2⟩ := spts_at l i (x, y) h
  obtain ⟨b, o, e, hc⟩ := h5 (i * 2) _ h1
  obtain ⟨b', o', e', hc'⟩ := h5 (i * 2 + 1) _ h2
  cases e
  cases e'
  refine ⟨b, o, rfl, ?_, hc, by rw [Nat.add_assoc]; exact hc'⟩
  have := World.block_lt_of_cell? w _ hc
  simpa using this
end Go.Proofs.YtlkjcamjgaecgaaGreat
