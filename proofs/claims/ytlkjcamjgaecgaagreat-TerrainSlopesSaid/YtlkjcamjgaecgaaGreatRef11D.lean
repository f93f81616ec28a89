/-
  The reference's ground and slope.
-/
import Derived.Test.YtlkjcamjgaecgaaGreatRef11C
set_option linter.unusedVariables false
set_option linter.unusedSimpArgs false
namespace Go.Proofs.YtlkjcamjgaecgaaGreat
open Go Go.RowKit Go.Th Go.Th.Crc

set_option maxRecDepth 20000 in
set_option maxHeartbeats 1600000 in
theorem refHgt_bad (F : List Int) (W H : Int) (a : Option Addr) (n cap : Nat) (x y c : Int) (h : ¬ c = 0) (C : AnsF F a n cap 15 #[hv W H (.slice a n cap), .int .i64 x, .int .i64 y] (.int .i64 c)) :
    AnsF F a n cap 12 #[hv W H (.slice a n cap), .int .i64 x, .int .i64 y] (.tuple #[.int .i64 0, .int .i64 c]) := by
  intro w hS
  obtain ⟨w1, hw1⟩ : ∃ w1, w.alloc (.cells #[.int .i64 W, .int .i64 H, .slice a n cap] 26) = w1 := ⟨_, rfl⟩
  have hB1 : Below w.heap.size w w1 := by rw [← hw1]; exact (Below.refl _ _).alloc (Nat.le_refl _) _
  have K1 : Blk w1 w.heap.size 26 [.int .i64 W, .int .i64 H, .slice a n cap] := by rw [← hw1]; exact Blk.new w _ _
  have c0 := K1.cell (i := 0) rfl
  have c1 := K1.cell (i := 1) rfl
  have c2 := K1.cell (i := 2) rfl
  have HW1 := Lib.hid hw1
  have b1 : ((c : Int) != 0) = true := by simp [h]
  have D := C w1 (hS.below hB1)
  clear hw1 hS C
  go_enter Tryz.func12, Tryz.ntmps12
  go_upto_region 1 with fail
  rw [HW1.out]
  go_wp2_with fail
  refine D.mono ?_
  rintro e w2 ⟨rfl, hA⟩
  clear D c0 c1 c2
  go_wp2_with fail
  go_ret2
  exact ⟨rfl, hB1.trans (hA.mono hB1.size)⟩

set_option maxRecDepth 20000 in
set_option maxHeartbeats 1600000 in
theorem refHgt_ok (F : List Int) (W H : Int) (a : Option Addr) (n cap : Nat) (x y E E' N : Int) (hE : wrap64 (16 * E) = E') (C : AnsF F a n cap 15 #[hv W H (.slice a n cap), .int .i64 x, .int .i64 y] (.int .i64 0))
    (C2 : AnsF F a n cap 16 #[hv W H (.slice a n cap), .int .i64 x, .int .i64 y] (.int .i64 E)) (C3 : Ans 32 #[.int .i64 E', .int .i64 65536] (.int .i64 N)) :
    AnsF F a n cap 12 #[hv W H (.slice a n cap), .int .i64 x, .int .i64 y] (.tuple #[.int .i64 N, .int .i64 0]) := by
  intro w hS
  obtain ⟨w1, hw1⟩ : ∃ w1, w.alloc (.cells #[.int .i64 W, .int .i64 H, .slice a n cap] 26) = w1 := ⟨_, rfl⟩
  have hB1 : Below w.heap.size w w1 := by rw [← hw1]; exact (Below.refl _ _).alloc (Nat.le_refl _) _
  have K1 : Blk w1 w.heap.size 26 [.int .i64 W, .int .i64 H, .slice a n cap] := by rw [← hw1]; exact Blk.new w _ _
  have c0 := K1.cell (i := 0) rfl
  have c1 := K1.cell (i := 1) rfl
  have c2 := K1.cell (i := 2) rfl
  have HW1 := Lib.hid hw1
  have HS := Lib.hid hS
  have D := C w1 (hS.below hB1)
  clear hw1 hS C
  go_enter Tryz.func12, Tryz.ntmps12
  go_upto_region 1 with fail
  rw [HW1.out]
  go_wp2_with fail
  refine D.mono ?_
  rintro e w2 ⟨rfl, hA⟩
  replace K1 := K1.below hA K1.lt
  have hB2 := hB1.trans (hA.mono hB1.size)
  have D2 := C2 w2 (HS.out.below hB2)
  clear D c0 c1 c2 hA hB1 HW1 C2
  have c0 := K1.cell (i := 0) rfl
  have c1 := K1.cell (i := 1) rfl
  have c2 := K1.cell (i := 2) rfl
  go_wp2_with fail
  refine D2.mono ?_
  rintro e w3 ⟨rfl, hA⟩
  have hB3 := hB2.trans (hA.mono hB2.size)
  clear D2 c0 c1 c2 hA hB2
  go_wp2_with fail
  refine (C3 w3).mono ?_
  rintro e w4 ⟨rfl, hA⟩
  go_wp2_with fail
  go_ret2
  exact ⟨rfl, hB3.trans (hA.mono hB3.size)⟩

/-- The ground at a place, or why there is none. -/
def gnd (F : List Int) (W H : Nat) (x y : Int) : Int × Int := if inS W H x y then (if codeT F W x.toNat y.toNat = 0 then (nearQ (16 * exT F W x.toNat y.toNat) 65536, 0) else (0, 8)) else (0, 9)
theorem codeT_two (F : List Int) (W X Y : Nat) : codeT F W X Y = 0 ∨ codeT F W X Y = 8 := by unfold codeT; split <;> simp
theorem gnd_off {F : List Int} {W H : Nat} {x y : Int} (h : ¬ inS W H x y) : gnd F W H x y = (0, 9) := by unfold gnd; rw [if_neg h]
theorem gnd_void {F : List Int} {W H X Y : Nat} (h : inS W H X Y) (hc : codeT F W X Y = 8) : gnd F W H X Y = (0, 8) := by
  have : ¬ codeT F W (X : Int).toNat (Y : Int).toNat = 0 := by rw [Int.toNat_natCast, Int.toNat_natCast, hc]; decide
  unfold gnd; rw [if_pos h, if_neg this]
theorem gnd_ok {F : List Int} {W H X Y : Nat} (h : inS W H X Y) (hc : codeT F W X Y = 0) : gnd F W H X Y = (nearQ (16 * exT F W X Y) 65536, 0) := by
  have : codeT F W (X : Int).toNat (Y : Int).toNat = 0 := by rw [Int.toNat_natCast, Int.toNat_natCast, hc]
  unfold gnd; rw [if_pos h, if_pos this]; rfl
theorem exT_range {F : List Int} {W X Y : Nat} (h16 : ∀ u ∈ F, In16 u) : -8589934592 ≤ exT F W X Y ∧ exT F W X Y ≤ 8589934592 := by
  have := exTo_range F W X Y h16 4
  unfold exT; omega
theorem refHgt_any {F : List Int} {W H n : Nat} (O : FldOk F W H n) (x y : Int) (a : Option Addr) (cap : Nat) :
    AnsF F a n cap 12 #[hv W H (.slice a n cap), .int .i64 x, .int .i64 y] (.tuple #[.int .i64 (gnd F W H x y).1, .int .i64 (gnd F W H x y).2]) := by
  have hW := O.W1
  have hH := O.H1
  by_cases h : inS W H x y
  · obtain ⟨X, rfl⟩ := Int.eq_ofNat_of_zero_le h.1
    obtain ⟨Y, rfl⟩ := Int.eq_ofNat_of_zero_le h.2.1
    have C := code_in O X Y a cap h
    have r := exT_range (W := W) (X := X) (Y := Y) O.i16
    rcases codeT_two F W X Y with hc | hc
    · rw [gnd_ok h hc]
      rw [hc] at C
      exact refHgt_ok F W H a n cap X Y _ _ _ (IntWalk.wrap64_in _ (by omega)) C (exact_in O X Y a cap h) (rnear_any _ 65536 (by omega) (by omega) (by omega))
    · rw [gnd_void h hc]
      rw [hc] at C
      exact refHgt_bad F W H a n cap X Y 8 (by decide) C
  · rw [gnd_off h]
    exact refHgt_bad F W H a n cap x y 9 (by decide) (code_off F W H x y a n cap (by omega) (by omega) h)
end Go.Proofs.YtlkjcamjgaecgaaGreat
