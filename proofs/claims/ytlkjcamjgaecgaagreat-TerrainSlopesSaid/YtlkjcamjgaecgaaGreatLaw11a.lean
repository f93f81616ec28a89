/-
  The examples of the law of layer 11.
-/
import Derived.Test.YtlkjcamjgaecgaaGreatTerrS
import Derived.Test.YtlkjcamjgaecgaaGreatTerrQ
import Derived.Test.YtlkjcamjgaecgaaGreatTerrM
set_option linter.unusedVariables false
set_option linter.unusedSimpArgs false
namespace Go.Proofs.YtlkjcamjgaecgaaGreat
open Go Go.RowKit Go.Th Go.Th.Crc

def wF11 : List Int := [0, 16, 32, 48]
theorem ex_h1 : gnd wF11 2 2 128 64 = (256, 0) := by decide +kernel
theorem ex_s : slp wF11 2 2 128 64 = (256, 512, 0) := by decide +kernel
theorem ex_h2 : gnd wF11 2 2 257 0 = (0, 9) := by decide +kernel
theorem ex_h3 : gnd wF11 2 2 256 256 = (768, 0) := by decide +kernel
theorem ex_p : spotV 30 100 (-100) 115 (-70) = .tuple #[sv 128 256, .bool true] := by kernel_rfl
theorem ex_m : metresV 30 100 (-100) 128 256 = .tuple #[.int .i64 115, .int .i64 (-70), .bool true] := by kernel_rfl
theorem ex_in : inS 2 2 256 256 := by decide +kernel
theorem ex_r : rgh wF11 2 2 0 0 1 = (286, 4) := by
  have e1 : rect (wN wF11 2 2) (0 - (farT 1 : Nat)) (0 - (farT 1 : Nat)) (2 * farT 1 + 1) (2 * farT 1 + 1) = 4 := by decide +kernel
  have e2 : rect (wS wF11 2 2) (0 - (farT 1 : Nat)) (0 - (farT 1 : Nat)) (2 * farT 1 + 1) (2 * farT 1 + 1) = 96 := by decide +kernel
  have e3 : rect (wQ wF11 2 2) (0 - (farT 1 : Nat)) (0 - (farT 1 : Nat)) (2 * farT 1 + 1) (2 * farT 1 + 1) = 3584 := by decide +kernel
  have e : rgh wF11 2 2 0 0 1 = rough _ _ _ := if_pos ⟨⟨by decide, by decide⟩, by decide, by decide⟩
  rw [e, e1, e2, e3]
  unfold rough
  rw [if_neg (by decide)]
  have h : (((256 * ((4 : Int) * 3584 - 96 * 96)).tdiv (4 * 4)) % 18446744073709551616).toNat = 81920 := by decide +kernel
  rw [h, Go.Th.Root.rt_eq (d := 2) (N := 81920) (r := 286) (by decide) (by decide) (by decide)]
  rfl

set_option maxRecDepth 20000 in
set_option maxHeartbeats 12800000 in
theorem works11_any (w : World) : Calls Tryz.prog 8 #[] w fun e w' => e = .returned (.bool true) ∧ Below w.heap.size w w' := by
  obtain ⟨w1, hw1⟩ : ∃ w1, w.alloc (.cells #[.int .i16 0, .int .i16 16, .int .i16 32, .int .i16 48] 51) = w1 := ⟨_, rfl⟩
  have hS1 : Sl w1 1 (.slice (some ⟨w.heap.size, 0, none⟩) 4 4) 4 (i16s wF11) := by rw [← hw1]; exact Sl.i16 [0, 16, 32, 48] 51 4 rfl (by decide)
  have hB1 : Below w.heap.size w w1 := by rw [← hw1]; exact (Below.refl _ _).alloc (Nat.le_refl _) _
  obtain ⟨w2, hw2⟩ : ∃ w2, w1.alloc (.cells #[.int .i64 2, .int .i64 2, .slice (some ⟨w.heap.size, 0, none⟩) 4 4, .int .i64 30, .int .i32 100, .int .i32 (-100)] 28) = w2 := ⟨_, rfl⟩
  have hA : Below w1.heap.size w1 w2 := by rw [← hw2]; exact (Below.refl _ _).alloc (Nat.le_refl _) _
  have KC : Blk w2 w1.heap.size 28 [.int .i64 2, .int .i64 2, .slice (some ⟨w.heap.size, 0, none⟩) 4 4, .int .i64 30, .int .i32 100, .int .i32 (-100)] := by rw [← hw2]; exact Blk.new w1 _ _
  have hB := hB1.trans (hA.mono hB1.size)
  have O : MapOk wF11 2 2 30 100 (-100) := ⟨by decide, by decide, rfl, by intro u hu; simp [wF11] at hu; rcases hu with rfl | rfl | rfl | rfl <;> (constructor <;> decide), ⟨by decide, by decide⟩, ⟨by decide, by decide⟩⟩
  have HO := Lib.hid O
  have C2 := Lib.hid (open10_any wF11 2 2 30 100 (-100) O 4 (by decide) (by decide) 4 rfl (some ⟨w.heap.size, 0, none⟩) 4 w2 (hS1.below hA))
  have hz1 : w1.heap.size = w.heap.size + 1 := by rw [← hw1]; simp
  rw [hz1] at KC
  obtain ⟨gC, hgC⟩ : ∃ q, w.heap.size + 1 = q := ⟨_, rfl⟩
  have HGC := Lib.hid hgC
  rw [hgC] at KC
  have HW1 := Lib.hid hw1
  have HW2 := Lib.hid hw2
  have HB := Lib.hid hB
  clear hw1 hw2 hS1 hB1 hA hB O hgC hz1
  go_enter Tryz.func8, Tryz.ntmps8
  go_upto_region 2 with fail
  rw [HW1.out, HW2.out, HGC.out]
  clear HW1 HW2 HGC
  have c0 := KC.cell (i := 0) rfl
  have c1 := KC.cell (i := 1) rfl
  have c2 := KC.cell (i := 2) rfl
  have c3 := KC.cell (i := 3) rfl
  have c4 := KC.cell (i := 4) rfl
  have c5 := KC.cell (i := 5) rfl
  go_wp2_with fail
  refine C2.out.mono ?_
  rintro e w3 ⟨g, rfl, J3, hA⟩
  have HGW := Lib.hid (Nat.le_trans HB.out.size J3.le)
  replace KC := KC.below hA KC.lt
  have HB3 := Lib.hid (HB.out.trans (hA.mono HB.out.size))
  have HJ3 : Hid (CN w3 w2.heap.size g wF11 2 2 30 100 (-100) 4 0) := Lib.hid ⟨[], 0, 0, by omega, by omega, J3⟩
  obtain ⟨B, hBq⟩ : ∃ q, q = w2.heap.size := ⟨_, rfl⟩
  rw [← hBq] at HJ3
  clear C2 hA HB J3 hBq c0 c1 c2 c3 c4 c5
  have D := Lib.hid (by have h := thgt_any HO.out g B 4 0 (by omega) 128 64 (by omega) (by omega) w3 HJ3.out; rw [ex_h1] at h; exact h)
  go_wp2_with fail
  refine D.out.mono ?_
  rintro e w4 ⟨rfl, J4, hT⟩
  replace KC := HJ3.out.blk hT KC (by decide)
  have HB4 := Lib.hid (hT.old HB3.out HB3.out.size (by have := HGW.out; rintro k hk rfl; omega))
  have HJ4 := Lib.hid J4
  clear D hT J4 HJ3 HB3
  have D := Lib.hid (by have h := tslp_any HO.out g B 4 4 (by omega) 128 64 (by omega) (by omega) w4 HJ4.out; rw [ex_s] at h; exact h)
  go_wp2_with fail
  refine D.out.mono ?_
  rintro e w5 ⟨rfl, J5, hT⟩
  replace KC := HJ4.out.blk hT KC (by decide)
  have HB5 := Lib.hid (hT.old HB4.out HB4.out.size (by have := HGW.out; rintro k hk rfl; omega))
  have HJ5 := Lib.hid J5
  clear D hT J5 HJ4 HB4
  have D := Lib.hid (by have h := thgt_any HO.out g B 4 8 (by omega) 257 0 (by omega) (by omega) w5 HJ5.out; rw [ex_h2] at h; exact h)
  go_wp2_with fail
  refine D.out.mono ?_
  rintro e w6 ⟨rfl, J6, hT⟩
  replace KC := HJ5.out.blk hT KC (by decide)
  have HB6 := Lib.hid (hT.old HB5.out HB5.out.size (by have := HGW.out; rintro k hk rfl; omega))
  have HJ6 := Lib.hid J6
  clear D hT J6 HJ5 HB5
  have D := Lib.hid (by have h := thgt_any HO.out g B 4 12 (by omega) 256 256 (by omega) (by omega) w6 HJ6.out; rw [ex_h3] at h; exact h)
  go_wp2_with fail
  refine D.out.mono ?_
  rintro e w7 ⟨rfl, J7, hT⟩
  replace KC := HJ6.out.blk hT KC (by decide)
  have HB7 := Lib.hid (hT.old HB6.out HB6.out.size (by have := HGW.out; rintro k hk rfl; omega))
  have HJ7 := Lib.hid J7
  clear D hT J7 HJ6 HB6
  have c0 := KC.cell (i := 0) rfl
  have c1 := KC.cell (i := 1) rfl
  have c2 := KC.cell (i := 2) rfl
  have c3 := KC.cell (i := 3) rfl
  have c4 := KC.cell (i := 4) rfl
  have c5 := KC.cell (i := 5) rfl
  have CS := spot_any 2 2 (some ⟨w.heap.size, 0, none⟩) 4 4 30 100 (-100) 115 (-70) (by omega) (by omega) (by omega)
  rw [ex_p] at CS
  go_wp2_with fail
  refine (CS _).mono ?_
  rintro e w8 ⟨rfl, hA⟩
  clear CS
  replace KC := KC.below hA KC.lt
  have HB8 := Lib.hid (HB7.out.trans (hA.mono HB7.out.size))
  have HJ8 := Lib.hid (HJ7.out.below hA)
  clear hA HJ7 HB7 c0 c1 c2 c3 c4 c5
  have hA : Below w8.heap.size w8 (w8.alloc (.cells #[.int .i64 128, .int .i64 256] 37)) := (Below.refl _ _).alloc (Nat.le_refl _) _
  have KS : Blk (w8.alloc (.cells #[.int .i64 128, .int .i64 256] 37)) w8.heap.size 37 [.int .i64 128, .int .i64 256] := Blk.new w8 _ _
  replace KC := KC.below hA KC.lt
  have HB9 := Lib.hid (HB8.out.trans (hA.mono HB8.out.size))
  have HJ9 := Lib.hid (HJ8.out.below hA)
  have HKC := Lib.hid KC
  clear hA KC
  go_upto_region 10 with fail
  obtain ⟨w9, hw9⟩ : ∃ q, w8.alloc (.cells #[.int .i64 128, .int .i64 256] 37) = q := ⟨_, rfl⟩
  rw [hw9] at KS HB9 HJ9 HKC
  obtain ⟨gS, hgS⟩ : ∃ q, w8.heap.size = q := ⟨_, rfl⟩
  rw [hgS] at KS
  rw [hw9, hgS]
  have KC := HKC.out
  clear hw9 hgS HKC HB8 HJ8
  have c0 := KC.cell (i := 0) rfl
  have c1 := KC.cell (i := 1) rfl
  have c2 := KC.cell (i := 2) rfl
  have c3 := KC.cell (i := 3) rfl
  have c4 := KC.cell (i := 4) rfl
  have c5 := KC.cell (i := 5) rfl
  have d0 := KS.cell (i := 0) rfl
  have d1 := KS.cell (i := 1) rfl
  have CM := metresV_any 2 2 (some ⟨w.heap.size, 0, none⟩) 4 4 30 100 (-100) 128 256 (by omega) (by omega) (by omega)
  rw [ex_m] at CM
  go_wp2_with fail
  refine (CM _).mono ?_
  rintro e w10 ⟨rfl, hA⟩
  replace KS := KS.below hA KS.lt
  clear CM d0 d1
  replace KC := KC.below hA KC.lt
  have HB10 := Lib.hid (HB9.out.trans (hA.mono HB9.out.size))
  have HJ10 := Lib.hid (HJ9.out.below hA)
  clear hA HJ9 HB9 c0 c1 c2 c3 c4 c5
  have D := Lib.hid (by have h := trough_any HO.out g B 4 16 (by omega) 0 0 1 w10 HJ10.out; rw [ex_r] at h; exact h)
  go_wp2_with fail
  refine D.out.mono ?_
  rintro e w11 ⟨rfl, J11, hT⟩
  replace KC := HJ10.out.blk hT KC (by decide)
  replace KS := HJ10.out.blk hT KS (by decide)
  have HB11 := Lib.hid (hT.old HB10.out HB10.out.size (by have := HGW.out; rintro k hk rfl; omega))
  clear D hT J11 HJ10 HB10
  have c0 := KC.cell (i := 0) rfl
  have c1 := KC.cell (i := 1) rfl
  have c2 := KC.cell (i := 2) rfl
  have c3 := KC.cell (i := 3) rfl
  have c4 := KC.cell (i := 4) rfl
  have c5 := KC.cell (i := 5) rfl
  have d0 := KS.cell (i := 0) rfl
  have d1 := KS.cell (i := 1) rfl
  have CI := inside_any 2 2 (some ⟨w.heap.size, 0, none⟩) 4 4 30 100 (-100) 256 256 (by omega) (by omega) (by omega) (by omega)
  rw [decide_eq_true ex_in] at CI
  go_wp2_with fail
  refine (CI _).mono ?_
  rintro e w12 ⟨rfl, hA⟩
  clear CI d0 d1 c0 c1 c2 c3 c4 c5
  go_wp2_with fail
  go_ret
  exact ⟨rfl, HB11.out.trans (hA.mono HB11.out.size)⟩
end Go.Proofs.YtlkjcamjgaecgaaGreat
