/-
  Tiles laid row by row; the places as cells; bits turned within a part: plain.
-/
import Derived.Test.YtdknnfineommoaaChartSpec
set_option linter.unusedVariables false
set_option linter.unusedSimpArgs false
namespace Go.Proofs.Ytdknnfineommoaa
open Go.RowKit Go.Th Go.Th.Crc

/-- Which heights are laid: those of the first i tiles, row by row. -/
def laid9 (W i : Nat) (j : Nat) : Bool := decide (j / W / 16 * cnt W + j % W / 16 < i)
theorem tile_xy (W H i : Nat) (h : i < nT W H) : i % cnt W < cnt W ∧ i / cnt W < cnt H ∧ i / cnt W * cnt W + i % cnt W = i := by
  have hc : 0 < cnt W := by rcases Nat.eq_zero_or_pos (cnt W) with e | e; · simp [nT, e] at h
                            · exact e
  exact ⟨Nat.mod_lt _ hc, (Nat.div_lt_iff_lt_mul hc).2 (by rw [Nat.mul_comm]; exact h), by rw [Nat.mul_comm]; exact Nat.div_add_mod i (cnt W)⟩
theorem pair_eq (r c Y X C : Nat) (h1 : c < C) (h2 : X < C) : r * C + c = Y * C + X ↔ (r = Y ∧ c = X) := by
  constructor
  · intro e
    have hr : (r * C + c) / C = r := by rw [Nat.mul_comm, Nat.mul_add_div (by omega), Nat.div_eq_of_lt h1]; rfl
    have hY : (Y * C + X) / C = Y := by rw [Nat.mul_comm, Nat.mul_add_div (by omega), Nat.div_eq_of_lt h2]; rfl
    have : r = Y := by rw [← hr, ← hY, e]
    subst this
    exact ⟨rfl, by omega⟩
  · rintro ⟨rfl, rfl⟩; rfl
theorem laid9_next (W H i : Nat) (F : List Int) (hF : F.length = W * H) (hi : i < nT W H) (hW : 0 < W) :
    layTo (mix F (laid9 W i)) W (16 * (i % cnt W)) (16 * (i / cnt W)) (side W (i % cnt W)) (tileAt F W H i) (side H (i / cnt W)) = mix F (laid9 W (i + 1)) := by
  obtain ⟨hX, hY, hXY⟩ := tile_xy W H i hi
  unfold tileAt
  obtain ⟨X, hXe⟩ : ∃ X, X = i % cnt W := ⟨_, rfl⟩
  obtain ⟨Y, hYe⟩ : ∃ Y, Y = i / cnt W := ⟨_, rfl⟩
  rw [← hXe] at hX hXY ⊢
  rw [← hYe] at hY hXY ⊢
  have f1 := side_fits W X hX
  have f2 := side_fits H Y hY
  have p1 := (side_pos W X).2 hX
  have e1 := side_min W X hX
  have e2 := side_min H Y hY
  rw [layTo_mix F W H (16 * X) (16 * Y) (side W X) (side H Y) (laid9 W i) hF f1 p1 f2 (side H Y) (Nat.le_refl _)]
  refine mix_congr F _ _ fun j hj => ?_
  have h1 : j % W < W := Nat.mod_lt _ hW
  have h2 : j / W < H := (Nat.div_lt_iff_lt_mul hW).2 (by rw [Nat.mul_comm H W, ← hF]; exact hj)
  unfold laid9
  have g := cnt_ge W
  have hp := pair_eq (j / W / 16) (j % W / 16) Y X (cnt W) (by omega) hX
  rw [hXY] at hp
  rw [Bool.eq_iff_iff, Bool.or_eq_true, decide_eq_true_iff, decide_eq_true_iff, decide_eq_true_iff]
  generalize j / W / 16 * cnt W + j % W / 16 = p at *
  generalize j % W = c at *
  generalize j / W = r at *
  have q1 : p < i + 1 ↔ (p < i ∨ p = i) := by omega
  rw [q1, hp]
  have q2 : (r / 16 = Y ∧ c / 16 = X) ↔ (16 * X ≤ c ∧ c < 16 * X + side W X ∧ 16 * Y ≤ r ∧ r < 16 * Y + side H Y) := by omega
  rw [q2]
theorem laid9_none (W n : Nat) (F : List Int) (hl : F.length = n) : mix F (laid9 W 0) = List.replicate n 0 := by
  rw [mix_none F _ (fun j _ => by unfold laid9; exact decide_eq_false (Nat.not_lt_zero _)), hl]
theorem laid9_all (W H : Nat) (F : List Int) (hF : F.length = W * H) (hW : 0 < W) : mix F (laid9 W (nT W H)) = F := by
  refine mix_all F _ fun j hj => ?_
  have h1 : j % W < W := Nat.mod_lt _ hW
  have h2 : j / W < H := (Nat.div_lt_iff_lt_mul hW).2 (by rw [Nat.mul_comm H W, ← hF]; exact hj)
  have g := cnt_ge W
  have g2 := cnt_ge H
  unfold laid9
  refine decide_eq_true ?_
  have h3 : (j / W / 16 + 1) * cnt W ≤ cnt H * cnt W := Nat.mul_le_mul_right _ (by omega)
  unfold nT
  rw [Nat.mul_comm (cnt W), Nat.succ_mul] at *
  omega

/-! ### Bits turned within a part of a row -/
theorem mid_set (A s B : List Nat) (q i v : Nat) (hq : q = A.length + i) (hi : i < s.length) : (A ++ (s ++ B)).set q v = A ++ (s.set i v ++ B) := by
  subst hq
  rw [List.set_append_right _ _ (by omega), Nat.add_sub_cancel_left, List.set_append_left _ _ hi]
theorem mid_get (A s B : List Nat) (q i : Nat) (hq : q = A.length + i) (hi : i < s.length) : (A ++ (s ++ B))[q]? = some s[i] := by
  subst hq
  rw [List.getElem?_append_right (by omega), Nat.add_sub_cancel_left, List.getElem?_append_left hi, List.getElem?_eq_getElem hi]
end Go.Proofs.Ytdknnfineommoaa
