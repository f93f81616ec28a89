/-
  A small number as digits.
-/
import Derived.Test.YtghioakpigdagaaDoorLaw16m
set_option linter.unusedVariables false
set_option linter.unusedSimpArgs false
namespace Go.Proofs.YtghioakpigdagaaDoor
open Go Go.RowKit Go.Th Go.Th.Dig
/-- A small number as digits: of the row of its two halves, just laid. -/
theorem small16 (x : Nat) (hx : x < 18446744073709551616) (w : World) :
    Calls Tryd.prog 11 #[.slice (some ⟨w.heap.size, 0, none⟩) 2 2] (w.alloc (.cells #[.int .u32 ((x % 4294967296 : Nat) : Int), .int .u32 ((x / 4294967296 : Nat) : Int)] 38)) fun e w' => ∃ t, e = .returned t ∧ Is16 w' t x ∧ Below w.heap.size w w' := by
  have hv : val 4294967296 [x % 4294967296, x / 4294967296] = x := by simp [val]; omega
  have hd : ∀ d ∈ [x % 4294967296, x / 4294967296], d < 4294967296 := by intro d hd; simp at hd; omega
  have C := refOf16_any _ 2 2 [x % 4294967296, x / 4294967296] _ (sl_lit2 w (.int .u32 ((x % 4294967296 : Nat) : Int)) (.int .u32 ((x / 4294967296 : Nat) : Int)) 38) (by omega) hd
  rw [hv] at C
  have hB := (Below.refl w.heap.size w).alloc (Nat.le_refl _) (.cells #[.int .u32 ((x % 4294967296 : Nat) : Int), .int .u32 ((x / 4294967296 : Nat) : Int)] 38)
  refine C.mono ?_
  rintro e w' ⟨t, h1, h2, h3⟩
  exact ⟨t, h1, h2, hB.trans (h3.mono hB.size)⟩
end Go.Proofs.YtghioakpigdagaaDoor
