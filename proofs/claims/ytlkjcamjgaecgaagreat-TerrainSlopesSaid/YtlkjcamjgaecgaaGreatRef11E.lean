/-
  The reference's slope.
-/
import Derived.Test.YtlkjcamjgaecgaaGreatRef11D
set_option linter.unusedVariables false
set_option linter.unusedSimpArgs false
namespace Go.Proofs.YtlkjcamjgaecgaaGreat
open Go Go.RowKit Go.Th Go.Th.Crc

set_option maxRecDepth 20000 in
set_option maxHeartbeats 1600000 in
theorem refSlp_bad (F : List Int) (W H : Int) (a : Option Addr) (n cap : Nat) (x y c : Int) (h : ¬ c = 0) (C : AnsF F a n cap 15 #[hv W H (.slice a n cap), .int .i64 x, .int .i64 y] (.int .i64 c)) :
    AnsF F a n cap 19 #[hv W H (.slice a n cap), .int .i64 x, .int .i64 y] (.tuple #[.int .i64 0, .int .i64 0, .int .i64 c]) := by
  intro w hS
  obtain ⟨w1, hw1⟩ : ∃ w1, w.alloc (.cells #[.int .i64 W, .int .i64 H, .slice a n cap] 26) = w1 := ⟨_, rfl⟩
  have hB1 : Below w.heap.size w w1 := by rw [← hw1]; exact (Below.refl _ _).alloc (Nat.le_refl _) _
  have K1 : Blk w1 w.heap.size 26 [.int .i64 W, .int .i64 H, .slice a n cap] := by rw [← hw1]; exact Blk.new w _ _
  have c0 := K1.cell (i := 0) rfl
  have c1 := K1.cell (i := 1) rfl
  have c2 := K1.cell (i := 2) rfl
  have HW1 := Lib.hid hw1
  have b1 : ((c : Int) != 0) = true := by simp [h]
  have D := C w1 (hS.below hB1)
  clear hw1 hS C
  go_enter Tryz.func19, Tryz.ntmps19
  go_upto_region 1 with fail
  rw [HW1.out]
  go_wp2_with fail
  refine D.mono ?_
  rintro e w2 ⟨rfl, hA⟩
  clear D c0 c1 c2
  go_wp2_with fail
  go_ret3
  exact ⟨rfl, hB1.trans (hA.mono hB1.size)⟩

set_option maxRecDepth 20000 in
set_option maxHeartbeats 3200000 in
theorem refSlp_ok (F : List Int) (W H : Int) (aa : Option Addr) (n cap : Nat) (X Y : Nat) (a b c d q1 q2 q3 q4 d1 d2 p1 p2 s1 E1 d3 d4 p3 p4 s2 E2 N1 N2 : Int)
    (g1 : wrap64 (b - a) = d1) (g2 : wrap64 (d1 * (256 - (Y : Int) % 256)) = p1) (g3 : wrap64 (d - c) = d2) (g4 : wrap64 (d2 * ((Y : Int) % 256)) = p2) (g5 : wrap64 (p1 + p2) = s1) (g6 : wrap64 (16 * s1) = E1)
    (k1 : wrap64 (c - a) = d3) (k2 : wrap64 (d3 * (256 - (X : Int) % 256)) = p3) (k3 : wrap64 (d - b) = d4) (k4 : wrap64 (d4 * ((X : Int) % 256)) = p4) (k5 : wrap64 (p3 + p4) = s2) (k6 : wrap64 (16 * s2) = E2)
    (C : AnsF F aa n cap 15 #[hv W H (.slice aa n cap), .int .i64 X, .int .i64 Y] (.int .i64 0))
    (C1 : AnsF F aa n cap 17 #[hv W H (.slice aa n cap), .int .i64 X, .int .i64 Y, .int .i64 0, .int .i64 0] (.tuple #[.int .i64 a, .int .i64 q1]))
    (C2 : AnsF F aa n cap 17 #[hv W H (.slice aa n cap), .int .i64 X, .int .i64 Y, .int .i64 1, .int .i64 0] (.tuple #[.int .i64 b, .int .i64 q2]))
    (C3 : AnsF F aa n cap 17 #[hv W H (.slice aa n cap), .int .i64 X, .int .i64 Y, .int .i64 0, .int .i64 1] (.tuple #[.int .i64 c, .int .i64 q3]))
    (C4 : AnsF F aa n cap 17 #[hv W H (.slice aa n cap), .int .i64 X, .int .i64 Y, .int .i64 1, .int .i64 1] (.tuple #[.int .i64 d, .int .i64 q4]))
    (C5 : Ans 32 #[.int .i64 E1, .int .i64 256] (.int .i64 N1)) (C6 : Ans 32 #[.int .i64 E2, .int .i64 256] (.int .i64 N2)) :
    AnsF F aa n cap 19 #[hv W H (.slice aa n cap), .int .i64 X, .int .i64 Y] (.tuple #[.int .i64 N1, .int .i64 N2, .int .i64 0]) := by
  intro w hS
  obtain ⟨w1, hw1⟩ : ∃ w1, w.alloc (.cells #[.int .i64 W, .int .i64 H, .slice aa n cap] 26) = w1 := ⟨_, rfl⟩
  have hB1 : Below w.heap.size w w1 := by rw [← hw1]; exact (Below.refl _ _).alloc (Nat.le_refl _) _
  have K1 : Blk w1 w.heap.size 26 [.int .i64 W, .int .i64 H, .slice aa n cap] := by rw [← hw1]; exact Blk.new w _ _
  have c0 := K1.cell (i := 0) rfl
  have c1 := K1.cell (i := 1) rfl
  have c2 := K1.cell (i := 2) rfl
  have HW1 := Lib.hid hw1
  have HS := Lib.hid hS
  have D := C w1 (hS.below hB1)
  replace C1 := Lib.hid C1
  replace C2 := Lib.hid C2
  replace C3 := Lib.hid C3
  replace C4 := Lib.hid C4
  replace C5 := Lib.hid C5
  replace C6 := Lib.hid C6
  clear hw1 hS C
  go_enter Tryz.func19, Tryz.ntmps19
  go_upto_region 1 with fail
  rw [HW1.out]
  go_wp2_with fail
  refine D.mono ?_
  rintro e w2 ⟨rfl, hA⟩
  replace K1 := K1.below hA K1.lt
  have hB2 := hB1.trans (hA.mono hB1.size)
  have D2 := C1.out w2 (HS.out.below hB2)
  clear D c0 c1 c2 hA hB1 HW1 C1
  have c0 := K1.cell (i := 0) rfl
  have c1 := K1.cell (i := 1) rfl
  have c2 := K1.cell (i := 2) rfl
  go_wp2_with fail
  refine D2.mono ?_
  rintro e w3 ⟨rfl, hA⟩
  replace K1 := K1.below hA K1.lt
  have hB3 := hB2.trans (hA.mono hB2.size)
  have D3 := C2.out w3 (HS.out.below hB3)
  clear D2 c0 c1 c2 hA hB2 C2
  have c0 := K1.cell (i := 0) rfl
  have c1 := K1.cell (i := 1) rfl
  have c2 := K1.cell (i := 2) rfl
  go_wp2_with fail
  refine D3.mono ?_
  rintro e w4 ⟨rfl, hA⟩
  replace K1 := K1.below hA K1.lt
  have hB4 := hB3.trans (hA.mono hB3.size)
  have D4 := C3.out w4 (HS.out.below hB4)
  clear D3 c0 c1 c2 hA hB3 C3
  have c0 := K1.cell (i := 0) rfl
  have c1 := K1.cell (i := 1) rfl
  have c2 := K1.cell (i := 2) rfl
  go_wp2_with fail
  refine D4.mono ?_
  rintro e w5 ⟨rfl, hA⟩
  replace K1 := K1.below hA K1.lt
  have hB5 := hB4.trans (hA.mono hB4.size)
  have D5 := C4.out w5 (HS.out.below hB5)
  clear D4 c0 c1 c2 hA hB4 C4
  have c0 := K1.cell (i := 0) rfl
  have c1 := K1.cell (i := 1) rfl
  have c2 := K1.cell (i := 2) rfl
  go_wp2_with fail
  refine D5.mono ?_
  rintro e w6 ⟨rfl, hA⟩
  have hB6 := hB5.trans (hA.mono hB5.size)
  clear D5 c0 c1 c2 hA hB5
  go_wp2_with fail
  refine (C5.out w6).mono ?_
  rintro e w7 ⟨rfl, hA⟩
  have hB7 := hB6.trans (hA.mono hB6.size)
  clear C5 hA hB6
  go_wp2_with fail
  refine (C6.out w7).mono ?_
  rintro e w8 ⟨rfl, hA⟩
  have hB8 := hB7.trans (hA.mono hB7.size)
  clear C6 hA hB7
  go_wp2_with fail
  go_ret3
  exact ⟨rfl, hB8⟩

/-- How steep it is at a place. -/
def slpE (F : List Int) (W X Y : Nat) : Int := nearQ (16 * ((czT (zT F W X Y 1 0) - czT (zT F W X Y 0 0)) * (256 - (Y : Int) % 256) + (czT (zT F W X Y 1 1) - czT (zT F W X Y 0 1)) * ((Y : Int) % 256))) 256
def slpN (F : List Int) (W X Y : Nat) : Int := nearQ (16 * ((czT (zT F W X Y 0 1) - czT (zT F W X Y 0 0)) * (256 - (X : Int) % 256) + (czT (zT F W X Y 1 1) - czT (zT F W X Y 1 0)) * ((X : Int) % 256))) 256
def slp (F : List Int) (W H : Nat) (x y : Int) : Int × Int × Int := if inS W H x y then (if codeT F W x.toNat y.toNat = 0 then (slpE F W x.toNat y.toNat, slpN F W x.toNat y.toNat, 0) else (0, 0, 8)) else (0, 0, 9)
theorem slp_off {F : List Int} {W H : Nat} {x y : Int} (h : ¬ inS W H x y) : slp F W H x y = (0, 0, 9) := by unfold slp; rw [if_neg h]
theorem slp_void {F : List Int} {W H X Y : Nat} (h : inS W H X Y) (hc : codeT F W X Y = 8) : slp F W H X Y = (0, 0, 8) := by
  have : ¬ codeT F W (X : Int).toNat (Y : Int).toNat = 0 := by rw [Int.toNat_natCast, Int.toNat_natCast, hc]; decide
  unfold slp; rw [if_pos h, if_neg this]
theorem slp_ok {F : List Int} {W H X Y : Nat} (h : inS W H X Y) (hc : codeT F W X Y = 0) : slp F W H X Y = (slpE F W X Y, slpN F W X Y, 0) := by
  have : codeT F W (X : Int).toNat (Y : Int).toNat = 0 := by rw [Int.toNat_natCast, Int.toNat_natCast, hc]
  unfold slp; rw [if_pos h, if_pos this]; rfl
theorem part_rng {a b p : Int} (ha : -32768 ≤ a ∧ a ≤ 32767) (hb : -32768 ≤ b ∧ b ≤ 32767) (hp : 0 ≤ p ∧ p ≤ 256) : -16777216 ≤ (b - a) * p ∧ (b - a) * p ≤ 16777216 := by
  have := mul_range (a := b - a) (p := p) (A := 65536) (B := 256) (by omega) hp (by omega)
  omega
theorem refSlp_any {F : List Int} {W H n : Nat} (O : FldOk F W H n) (x y : Int) (a : Option Addr) (cap : Nat) :
    AnsF F a n cap 19 #[hv W H (.slice a n cap), .int .i64 x, .int .i64 y] (.tuple #[.int .i64 (slp F W H x y).1, .int .i64 (slp F W H x y).2.1, .int .i64 (slp F W H x y).2.2]) := by
  have hW := O.W1
  have hH := O.H1
  by_cases h : inS W H x y
  · obtain ⟨X, rfl⟩ := Int.eq_ofNat_of_zero_le h.1
    obtain ⟨Y, rfl⟩ := Int.eq_ofNat_of_zero_le h.2.1
    have C := code_in O X Y a cap h
    rcases codeT_two F W X Y with hc | hc
    · rw [slp_ok h hc]
      rw [hc] at C
      have z0 := czT_range (show In16 (zT F W X Y 0 0) from getD_in16 O.i16 _)
      have z1 := czT_range (show In16 (zT F W X Y 1 0) from getD_in16 O.i16 _)
      have z2 := czT_range (show In16 (zT F W X Y 0 1) from getD_in16 O.i16 _)
      have z3 := czT_range (show In16 (zT F W X Y 1 1) from getD_in16 O.i16 _)
      have r1 := part_rng z0 z1 (p := 256 - (Y : Int) % 256) (by omega)
      have r2 := part_rng z2 z3 (p := (Y : Int) % 256) (by omega)
      have r3 := part_rng z0 z2 (p := 256 - (X : Int) % 256) (by omega)
      have r4 := part_rng z1 z3 (p := (X : Int) % 256) (by omega)
      exact refSlp_ok F W H a n cap X Y _ _ _ _ _ _ _ _ _ _ _ _ _ _ _ _ _ _ _ _ _ _
        (IntWalk.wrap64_in _ (by omega)) (IntWalk.wrap64_in _ (by omega)) (IntWalk.wrap64_in _ (by omega)) (IntWalk.wrap64_in _ (by omega)) (IntWalk.wrap64_in _ (by omega)) (IntWalk.wrap64_in _ (by omega))
        (IntWalk.wrap64_in _ (by omega)) (IntWalk.wrap64_in _ (by omega)) (IntWalk.wrap64_in _ (by omega)) (IntWalk.wrap64_in _ (by omega)) (IntWalk.wrap64_in _ (by omega)) (IntWalk.wrap64_in _ (by omega))
        C (corner_in O X Y 0 0 a cap h (by omega) (by omega)) (corner_in O X Y 1 0 a cap h (by omega) (by omega)) (corner_in O X Y 0 1 a cap h (by omega) (by omega)) (corner_in O X Y 1 1 a cap h (by omega) (by omega))
        (rnear_any _ 256 (by omega) (by omega) (by omega)) (rnear_any _ 256 (by omega) (by omega) (by omega))
    · rw [slp_void h hc]
      rw [hc] at C
      exact refSlp_bad F W H a n cap X Y 8 (by decide) C
  · rw [slp_off h]
    exact refSlp_bad F W H a n cap x y 9 (by decide) (code_off F W H x y a n cap (by omega) (by omega) h)
end Go.Proofs.YtlkjcamjgaecgaaGreat
