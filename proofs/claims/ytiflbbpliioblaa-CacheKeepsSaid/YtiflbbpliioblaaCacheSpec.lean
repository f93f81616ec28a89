/-
  Tiles at hand, as they were used; a height of a field, and where it lies in its tile: plain.
-/
import Derived.Test.YtiflbbpliioblaaPackChartA
set_option linter.unusedVariables false
set_option linter.unusedSimpArgs false
namespace Go.Proofs.Ytiflbbpliioblaa
open Go.RowKit Go.Th Go.Th.Crc

/-- A tile is used: it comes first, and of the others as many stay as there is room for. -/
def useL (room : Nat) (L : List Nat) (n : Nat) : List Nat := (n :: L.filter (fun m => !(m == n))).take room
theorem useL_length (room : Nat) (L : List Nat) (n : Nat) : (useL room L n).length ≤ room := by
  unfold useL; rw [List.length_take]; exact Nat.min_le_left _ _
theorem useL_head (room : Nat) (L : List Nat) (n : Nat) (h : 0 < room) : ∃ R, useL room L n = n :: R := by
  obtain ⟨k, rfl⟩ : ∃ k, room = k + 1 := ⟨room - 1, by omega⟩
  exact ⟨_, by unfold useL; rw [List.take_succ_cons]⟩
theorem useL_nodup (room : Nat) (L : List Nat) (n : Nat) (h : L.Nodup) : (useL room L n).Nodup := by
  unfold useL
  refine List.Sublist.nodup (List.take_sublist _ _) (List.nodup_cons.2 ⟨?_, List.Sublist.nodup List.filter_sublist h⟩)
  intro hm
  have := (List.mem_filter.1 hm).2
  simp at this
theorem useL_mem (room : Nat) (L : List Nat) (n k : Nat) (h : k ∈ useL room L n) : k = n ∨ k ∈ L := by
  have h1 := List.mem_of_mem_take h
  rcases List.mem_cons.1 h1 with h2 | h2
  · exact .inl h2
  · exact .inr (List.mem_filter.1 h2).1
/-- One that is at hand: nobody goes. -/
theorem filter_out (L : List Nat) (n : Nat) (hn : L.Nodup) (hm : n ∈ L) : (L.filter (fun m => !(m == n))).length + 1 = L.length := by
  induction L with
  | nil => cases hm
  | cons a r ih =>
    obtain ⟨h1, h2⟩ := List.nodup_cons.1 hn
    by_cases e : a = n
    · subst e
      have : r.filter (fun m => !(m == a)) = r := List.filter_eq_self.2 fun x hx => by
        have : x ≠ a := fun h => h1 (h ▸ hx)
        simpa using this
      rw [List.filter_cons_of_neg (by simp), this, List.length_cons]
    · have hm' : n ∈ r := by
        rcases List.mem_cons.1 hm with h | h
        · exact absurd h.symm e
        · exact h
      rw [List.filter_cons_of_pos (by simpa using e), List.length_cons, List.length_cons, ih h2 hm']
/-- One that is not at hand: all others stay ahead of the cut. -/
theorem filter_none (L : List Nat) (n : Nat) (hm : n ∉ L) : L.filter (fun m => !(m == n)) = L := List.filter_eq_self.2 fun x hx => by
  have : x ≠ n := fun h => hm (h ▸ hx)
  simpa using this

theorem getD_mid (l : List Int) (a w c : Nat) (h : c < w) : ((l.drop a).take w).getD c 0 = l.getD (a + c) 0 := by
  simp only [List.getD, List.getElem?_take, h, if_true, List.getElem?_drop]
/-- The height of a column and a row, in its tile. -/
theorem tile_height (F : List Int) (W H x y : Nat) (hF : F.length = W * H) (hx : x < W) (hy : y < H) :
    y / 16 * cnt W + x / 16 < nT W H ∧ (tileAt F W H (y / 16 * cnt W + x / 16)).getD (y % 16 * side W (x / 16) + x % 16) 0 = F.getD (y * W + x) 0 := by
  obtain ⟨X, hX⟩ : ∃ X, X = x / 16 := ⟨_, rfl⟩
  obtain ⟨Y, hY⟩ : ∃ Y, Y = y / 16 := ⟨_, rfl⟩
  have hXc : X < cnt W := by have := cnt_ge W; omega
  have hYc : Y < cnt H := by have := cnt_ge H; omega
  rw [← hX, ← hY]
  have hlt : Y * cnt W + X < nT W H := by
    have := Nat.mul_le_mul_right (cnt W) (Nat.succ_le_of_lt hYc)
    rw [Nat.succ_mul, Nat.mul_comm (cnt H)] at this
    unfold nT; omega
  have e1 : (Y * cnt W + X) % cnt W = X := by rw [Nat.mul_comm, Nat.mul_add_mod]; exact Nat.mod_eq_of_lt hXc
  have e2 : (Y * cnt W + X) / cnt W = Y := by rw [Nat.mul_comm, Nat.mul_add_div (by omega), Nat.div_eq_of_lt hXc]; rfl
  refine ⟨hlt, ?_⟩
  unfold tileAt
  rw [e1, e2]
  have f1 := side_fits W X hXc
  have f2 := side_fits H Y hYc
  have g1 := side_min W X hXc
  have g2 := side_min H Y hYc
  have hc : x % 16 < side W X := by omega
  have hr : y % 16 < side H Y := by omega
  have key := tileTo_row F W H (16 * X) (16 * Y) (side W X) (side H Y) (y % 16) hF f1 f2 hr
  have k2 := congrArg (fun l => l.getD (x % 16) 0) key
  simp only [getD_mid _ _ _ _ hc] at k2
  rw [k2, show 16 * Y + y % 16 = y by omega, Nat.add_assoc, show 16 * X + x % 16 = x by omega]
end Go.Proofs.Ytiflbbpliioblaa
