/-
  Bits of packed rows: plain.
-/
import Derived.Test.YtapheokmoebgfaaBitsSpec
set_option linter.unusedVariables false
set_option linter.unusedSimpArgs false
namespace Go.Th
/-! ### Bits of packed rows -/
theorem bit_of_fold : ∀ (b0 b1 b2 b3 b4 b5 b6 b7 : Bool) (k : Fin 8),
    ((List.range 8).foldl (fun n k => 2 * n + ([b0, b1, b2, b3, b4, b5, b6, b7].getD k false).toNat) 0 / 2 ^ (7 - k.1) % 2 == 1) = [b0, b1, b2, b3, b4, b5, b6, b7].getD k.1 false := by decide +kernel

theorem byteAt_bit (l : List Bool) (i k : Nat) (hk : k < 8) : (byteAt l i / 2 ^ (7 - k) % 2 == 1) = l.getD (8 * i + k) false := by
  have h := bit_of_fold (l.getD (8 * i) false) (l.getD (8 * i + 1) false) (l.getD (8 * i + 2) false) (l.getD (8 * i + 3) false) (l.getD (8 * i + 4) false) (l.getD (8 * i + 5) false) (l.getD (8 * i + 6) false) (l.getD (8 * i + 7) false) ⟨k, hk⟩
  have e : ∀ k, k < 8 → [l.getD (8 * i) false, l.getD (8 * i + 1) false, l.getD (8 * i + 2) false, l.getD (8 * i + 3) false, l.getD (8 * i + 4) false, l.getD (8 * i + 5) false, l.getD (8 * i + 6) false, l.getD (8 * i + 7) false].getD k false = l.getD (8 * i + k) false := by
    intro k hk
    match k, hk with
    | 0, _ => rfl
    | 1, _ => rfl
    | 2, _ => rfl
    | 3, _ => rfl
    | 4, _ => rfl
    | 5, _ => rfl
    | 6, _ => rfl
    | 7, _ => rfl
  rw [e k hk] at h
  rw [← h, byteAt]
  congr 3

theorem bitAt_pack (l : List Bool) (j : Nat) (hj : j < l.length) : bitAt (pack l) j = l.getD j false := by
  have h : (pack l).getD (j / 8) 0 = byteAt l (j / 8) := by
    simp only [pack, List.getD, List.getElem?_map]
    rw [List.getElem?_range (by omega)]
    rfl
  rw [bitAt, h, byteAt_bit l (j / 8) (j % 8) (by omega), Nat.div_add_mod]

theorem pack_lt (l : List Bool) : ∀ x ∈ pack l, x < 256 := by
  intro x hx
  obtain ⟨i, _, rfl⟩ := List.mem_map.1 hx
  exact byteAt_lt l i
end Go.Th
