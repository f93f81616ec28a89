/-
  Texts in one: ExcG, ExcH, ExcI, ExcJ, ExcK.
-/
import Derived.Test.YtallbegibdlpaaaGreatPackExcA
set_option linter.unusedVariables false
set_option linter.unusedSimpArgs false

/-
  Each place mixed with those beside it, along rows, then along columns: the code's.
-/
namespace Go.Proofs.YtallbegibdlpaaaGreat
open Go Go.RowKit Go.Shelf Go.Th Go.Th.Dig Go.Th.Ex Go.Th.Grid

set_option maxRecDepth 20000 in
set_option maxHeartbeats 6400000 in
theorem mixed1_go (x y i j n q q2 q3 p1 p2 p3 r1 r2 r3 : Nat) (DX DY m1 m2 ci cj di dj e1 e2 : Int) (a : Option Addr) (cap : Nat) (fs : List Nat) (g gx gy gq : Nat) (hn : n = x * y) (hx : x ≤ 64) (hy : y ≤ 64) (hq : q ≤ 85) (hq2 : q2 = 2 * q) (hq3 : q3 = 256 - 2 * q)
    (h1 : IntKind.i64.wrap (-1 * DX) = m1) (h2 : IntKind.i64.wrap (-1 * DY) = m2) (h3 : IntKind.i64.wrap ((i : Int) + m1) = ci) (h4 : IntKind.i64.wrap ((j : Int) + m2) = cj) (h1' : wrap64 (-1 * DX) = m1) (h2' : wrap64 (-1 * DY) = m2) (h3' : wrap64 ((i : Int) + m1) = ci) (h4' : wrap64 ((j : Int) + m2) = cj)
    (g1 : IntKind.i64.wrap (1 * DX) = e1) (g2 : IntKind.i64.wrap (1 * DY) = e2) (g3 : IntKind.i64.wrap ((i : Int) + e1) = di) (g4 : IntKind.i64.wrap ((j : Int) + e2) = dj) (g1' : wrap64 (1 * DX) = e1) (g2' : wrap64 (1 * DY) = e2) (g3' : wrap64 ((i : Int) + e1) = di) (g4' : wrap64 ((j : Int) + e2) = dj)
    (hp1 : besV fs x y i j ci cj = p1) (hp2 : fat fs x y (i : Int) (j : Int) = p2) (hp3 : besV fs x y i j di dj = p3) (hr1 : p1 * q = r1) (hr2 : p2 * q3 = r2) (hr3 : p3 * q = r3) (hl : ∀ r ∈ [p1, p2, p3, r1, r2, r3], len32 r ≤ 1000) (w : World) (hV : IsV w a n cap fs)
    (K : Blk w g 32 (fc x y (.slice a n cap))) (Kx : Blk w gx 3 [.int .i64 DX]) (Ky : Blk w gy 3 [.int .i64 DY]) (Kq : Blk w gq 49 [.int .u64 q]) :
    AnsV17 97 #[.int .i64 i, .int .i64 j, .pointer (some ⟨gx, 0, none⟩), .pointer (some ⟨gy, 0, none⟩), .pointer (some ⟨g, 0, none⟩), .pointer (some ⟨gq, 0, none⟩)] w (r2 + r1 + r3) := by
  have C1 := Lib.hid (fun (wx : World) (gi gj : Nat) (hx' : Below w.heap.size w wx) Ki Kj => hp1 ▸ bes_go x y i j n (-1) DX DY m1 m2 ci cj a cap fs g gi gj gx gy hn hx hy h1 h2 h3 h4 h1' h2' h3' h4' wx (hV.below hx') (K.below hx' K.lt) Ki Kj (Kx.below hx' Kx.lt) (Ky.below hx' Ky.lt))
  have C3 := Lib.hid (fun (wx : World) (gi gj : Nat) (hx' : Below w.heap.size w wx) Ki Kj => hp3 ▸ bes_go x y i j n 1 DX DY e1 e2 di dj a cap fs g gi gj gx gy hn hx hy g1 g2 g3 g4 g1' g2' g3' g4' wx (hV.below hx') (K.below hx' K.lt) Ki Kj (Kx.below hx' Kx.lt) (Ky.below hx' Ky.lt))
  have C2 := Lib.hid (fun (wx : World) (hx' : Below w.heap.size w wx) => hp2 ▸ at_any17 x y (i : Int) (j : Int) a n cap fs hn hx hy wx (hV.below hx'))
  have T1 := Lib.hid (fun (v : Value) (wx : World) (hv : IsN wx v p1) => hr1 ▸ times_any16 v p1 q wx hv (hl _ (by simp)) (by omega))
  have T2 := Lib.hid (fun (v : Value) (wx : World) (hv : IsN wx v p2) => hr2 ▸ times_any16 v p2 q3 wx hv (hl _ (by simp)) (by omega))
  have T3 := Lib.hid (fun (v : Value) (wx : World) (hv : IsN wx v p3) => hr3 ▸ times_any16 v p3 q wx hv (hl _ (by simp)) (by omega))
  have CS := Lib.hid (fun wx gx cs (hN : Nats wx (some ⟨gx, 0, none⟩) 3 3 cs [r1, r2, r3]) => sum_any (some ⟨gx, 0, none⟩) 3 3 cs [r1, r2, r3] wx hN (by omega) (fun j => by
    rw [List.getD_eq_getElem?_getD]
    cases hq : [r1, r2, r3][j]? with
    | none => show len32 0 ≤ 1000; rw [(len32_0 0).2 rfl]; omega
    | some r => exact hl r (by have := List.mem_iff_getElem?.2 ⟨j, hq⟩; simp at this ⊢; omega)))
  have et : tot [r1, r2, r3] 3 = r2 + r1 + r3 := by simp [tot]; omega
  rw [et] at CS
  obtain ⟨r0, hr0⟩ : ∃ r0, r0 = r2 + r1 + r3 := ⟨_, rfl⟩
  rw [← hr0] at CS ⊢
  have v1 : IntKind.u64.wrap (2 * (q : Int)) = (q2 : Int) := by have := u64_in q2 (by omega); rw [show (2 : Int) * (q : Int) = (q2 : Int) by omega]; exact this
  have v2 : IntKind.u64.wrap (256 - (q2 : Int)) = (q3 : Int) := by have := u64_in q3 (by omega); rw [show (256 : Int) - (q2 : Int) = (q3 : Int) by omega]; exact this
  have HK := Lib.hid K
  have HKq := Lib.hid Kq
  have hmf : ∀ (A B C D E : Nat) (wx : World), (Instr.makeFunc (.func 98) #[] #[.pointer (some ⟨A, 0, none⟩), .pointer (some ⟨B, 0, none⟩), .pointer (some ⟨C, 0, none⟩), .pointer (some ⟨D, 0, none⟩), .pointer (some ⟨E, 0, none⟩)]).run Tryz.prog wx = .ok (.func (.func 98) #[] #[.pointer (some ⟨A, 0, none⟩), .pointer (some ⟨B, 0, none⟩), .pointer (some ⟨C, 0, none⟩), .pointer (some ⟨D, 0, none⟩), .pointer (some ⟨E, 0, none⟩)]) wx := fun _ _ _ _ _ _ => rfl
  have HE := enters_of Tryz.func98 (by kernel_rfl) rfl
  have M0 := Mem.start w
  clear hn hV K Kx Ky Kq hq2 hq3 h1 h2 h3 h4 h1' h2' h3' h4' g1 g2 g3 g4 g1' g2' g3' g4' hp1 hp2 hp3 hr1 hr2 hr3 hl et hr0
  go_enter Tryz.func97, Tryz.ntmps97
  go_upto_region 2 with (((with_reducible refine (?_ : Go.wpList _ _ _ (_ :: _) _ _)); (first | go_skip | (refine wpL_bx M0 rfl rfl rfl rfl ?_; clear M0; intro g1 w1 M1) | (refine wpL_alc M0 rfl rfl ?_; clear M0; intro g1 w1 M1) | (refine wpL_ldc M0 rfl rfl rfl ?_) | (refine wpL_lgc M0 rfl rfl rfl ?_) | (refine wpL_stc M0 rfl rfl rfl rfl ?_; clear M0; intro w' M0) | (refine wpL_sti M0 rfl rfl rfl rfl ?_; clear M0; intro w' M0) | (refine wpL_sth M0 rfl rfl rfl rfl (wr_minus _ _ _) ?_; clear M0; intro w' M0) | (refine wpL_bx M1 rfl rfl rfl rfl ?_; clear M1; intro g2 w2 M2) | (refine wpL_alc M1 rfl rfl ?_; clear M1; intro g2 w2 M2) | (refine wpL_ldc M1 rfl rfl rfl ?_) | (refine wpL_lgc M1 rfl rfl rfl ?_) | (refine wpL_stc M1 rfl rfl rfl rfl ?_; clear M1; intro w' M1) | (refine wpL_sti M1 rfl rfl rfl rfl ?_; clear M1; intro w' M1) | (refine wpL_sth M1 rfl rfl rfl rfl (wr_minus _ _ _) ?_; clear M1; intro w' M1) | (refine wpL_bx M2 rfl rfl rfl rfl ?_; clear M2; intro g3 w3 M3) | (refine wpL_alc M2 rfl rfl ?_; clear M2; intro g3 w3 M3) | (refine wpL_ldc M2 rfl rfl rfl ?_) | (refine wpL_lgc M2 rfl rfl rfl ?_) | (refine wpL_stc M2 rfl rfl rfl rfl ?_; clear M2; intro w' M2) | (refine wpL_sti M2 rfl rfl rfl rfl ?_; clear M2; intro w' M2) | (refine wpL_sth M2 rfl rfl rfl rfl (wr_minus _ _ _) ?_; clear M2; intro w' M2) | (refine wpL_ldc M3 rfl rfl rfl ?_) | (refine wpL_lgc M3 rfl rfl rfl ?_) | (refine wpL_stc M3 rfl rfl rfl rfl ?_; clear M3; intro w' M3) | (refine wpL_sti M3 rfl rfl rfl rfl ?_; clear M3; intro w' M3) | (refine wpL_sth M3 rfl rfl rfl rfl (wr_minus _ _ _) ?_; clear M3; intro w' M3))))
  refine wp_region_held_drew (S := (fun w' : World => (w'.cell? ⟨g, 0, none⟩ = some (.int .i64 x) ∧ w'.cell? ⟨g, 1, none⟩ = some (.int .i64 y) ∧ w'.cell? ⟨g, 2, none⟩ = some (.slice a n cap)) ∧ w'.cell? ⟨g1, 0, none⟩ = some (.int .i64 i) ∧ w'.cell? ⟨g2, 0, none⟩ = some (.int .i64 j) ∧ w'.cell? ⟨gq, 0, none⟩ = some (.int .u64 q))) (by kernel_rfl) (⟨fcells (HK.out.below M3.drew.below HK.out.lt), M3.drew.cell (.tail _ _ _ _ _ (.tail _ _ _ _ _ (Has.head _ _ _ _))) (i := 0) rfl, M3.drew.cell (.tail _ _ _ _ _ (Has.head _ _ _ _)) (i := 0) rfl, (HKq.out.below M3.drew.below HKq.out.lt).cell (i := 0) rfl⟩) (fun hHeld => ?_)
  refine tkT 0 ?v32 ?hy32 hHeld ?rest32
  case hy32 => (intro w' hSw; (try dsimp only at hSw); go_simp; (try with_reducible rfl))
  try simp only [Act.put, puts]
  refine tkT 2 ?v33 ?hy33 hHeld ?rest33
  case hy33 => (intro w' hSw; (try dsimp only at hSw); go_simp; (try with_reducible rfl))
  try simp only [Act.put, puts]
  refine tkT 4 ?v34 ?hy34 hHeld ?rest34
  case hy34 => (intro w' hSw; (try dsimp only at hSw); go_simp; (try with_reducible rfl))
  try simp only [Act.put, puts]
  refine tkT 5 ?v35 ?hy35 hHeld ?rest35
  case hy35 => (intro w' hSw; (try dsimp only at hSw); go_simp; (try with_reducible rfl))
  try simp only [Act.put, puts]
  refine tkT 6 ?v36 ?hy36 hHeld ?rest36
  case hy36 => (intro w' hSw; (try dsimp only at hSw); go_simp; (try with_reducible rfl))
  try simp only [Act.put, puts]
  refine tkT 8 ?v37 ?hy37 hHeld ?rest37
  case hy37 => (intro w' hSw; (try dsimp only at hSw); go_simp; (try with_reducible rfl))
  try simp only [Act.put, puts]
  refine tkT 9 ?v38 ?hy38 hHeld ?rest38
  case hy38 => (intro w' hSw; (try dsimp only at hSw); go_simp; (try with_reducible rfl))
  try simp only [Act.put, puts]
  refine tkT 10 ?v39 ?hy39 hHeld ?rest39
  case hy39 => (intro w' hSw; (try dsimp only at hSw); go_simp; (try with_reducible rfl))
  try simp only [Act.put, puts]
  refine tkT 12 ?v40 ?hy40 hHeld ?rest40
  case hy40 => (intro w' hSw; (try dsimp only at hSw); go_simp; (try with_reducible rfl))
  try simp only [Act.put, puts]
  refine tkT 14 ?v41 ?hy41 hHeld ?rest41
  case hy41 => (intro w' hSw; (try dsimp only at hSw); go_simp; (try with_reducible rfl))
  try simp only [Act.put, puts]
  refine wpAnyH_ready (rs := [1]) (by kernel_rfl) (by simp) ?_
  refine AllReadyH.cons rfl (fun K hK => ?_) AllReadyH.nil
  go_simp
  refine (C1.out _ _ _ M3.drew.below (M3.drew.has (.tail _ _ _ _ _ (.tail _ _ _ _ _ (Has.head _ _ _ _)))) (M3.drew.has (.tail _ _ _ _ _ (Has.head _ _ _ _)))).mono ?_
  rintro e w4 ⟨v, rfl, hv, hA⟩
  have M4 := M3.drew.call hA
  obtain ⟨d4, c4, rfl, hS⟩ := hv.form
  have HV4 := Lib.hid hv
  clear hv hS hA
  try go_wp2_with fail
  refine hK.out _ _ (⟨fcells (HK.out.below M4.below HK.out.lt), M4.cell (.tail _ _ _ _ _ (.tail _ _ _ _ _ (Has.head _ _ _ _))) (i := 0) rfl, M4.cell (.tail _ _ _ _ _ (Has.head _ _ _ _)) (i := 0) rfl, (HKq.out.below M4.below HKq.out.lt).cell (i := 0) rfl⟩) (fun hHeld => ?_)
  clear hK K
  try simp only [Act.put, puts]
  refine wpAnyH_ready (rs := [3]) (by kernel_rfl) (by simp) ?_
  refine AllReadyH.cons rfl (fun K hK => ?_) AllReadyH.nil
  go_simp
  refine (T1.out _ _ HV4.out).mono ?_
  rintro e w5 ⟨v, rfl, hv, hA⟩
  have M5 := M4.call hA
  obtain ⟨d5, c5, rfl, hS⟩ := hv.form
  have HS5 := Lib.hid hS
  clear hv hS hA HV4
  try go_wp2_with fail
  refine hK.out _ _ (⟨fcells (HK.out.below M5.below HK.out.lt), M5.cell (.tail _ _ _ _ _ (.tail _ _ _ _ _ (Has.head _ _ _ _))) (i := 0) rfl, M5.cell (.tail _ _ _ _ _ (Has.head _ _ _ _)) (i := 0) rfl, (HKq.out.below M5.below HKq.out.lt).cell (i := 0) rfl⟩) (fun hHeld => ?_)
  clear hK K
  try simp only [Act.put, puts]
  refine wpAnyH_ready (rs := [7]) (by kernel_rfl) (by simp) ?_
  refine AllReadyH.cons rfl (fun K hK => ?_) AllReadyH.nil
  go_simp
  refine (C2.out _ M5.below).mono ?_
  rintro e w6 ⟨v, rfl, hv, hA⟩
  have M6 := M5.call hA
  obtain ⟨d6, c6, rfl, hS⟩ := hv.form
  have HV6 := Lib.hid hv
  have HS56 := Lib.hid (HS5.out.below hA)
  clear hv hS hA HS5
  try go_wp2_with fail
  refine hK.out _ _ (⟨fcells (HK.out.below M6.below HK.out.lt), M6.cell (.tail _ _ _ _ _ (.tail _ _ _ _ _ (Has.head _ _ _ _))) (i := 0) rfl, M6.cell (.tail _ _ _ _ _ (Has.head _ _ _ _)) (i := 0) rfl, (HKq.out.below M6.below HKq.out.lt).cell (i := 0) rfl⟩) (fun hHeld => ?_)
  clear hK K
  try simp only [Act.put, puts]
  refine wpAnyH_ready (rs := [11]) (by kernel_rfl) (by simp) ?_
  refine AllReadyH.cons rfl (fun K hK => ?_) AllReadyH.nil
  go_simp
  refine (T2.out _ _ HV6.out).mono ?_
  rintro e w7 ⟨v, rfl, hv, hA⟩
  have M7 := M6.call hA
  obtain ⟨d7, c7, rfl, hS⟩ := hv.form
  have HS7 := Lib.hid hS
  have HS57 := Lib.hid (HS56.out.below hA)
  clear hv hS hA HV6 HS56
  try go_wp2_with fail
  refine hK.out _ _ (⟨fcells (HK.out.below M7.below HK.out.lt), M7.cell (.tail _ _ _ _ _ (.tail _ _ _ _ _ (Has.head _ _ _ _))) (i := 0) rfl, M7.cell (.tail _ _ _ _ _ (Has.head _ _ _ _)) (i := 0) rfl, (HKq.out.below M7.below HKq.out.lt).cell (i := 0) rfl⟩) (fun hHeld => ?_)
  clear hK K
  try simp only [Act.put, puts]
  refine wpAnyH_ready (rs := [13]) (by kernel_rfl) (by simp) ?_
  refine AllReadyH.cons rfl (fun K hK => ?_) AllReadyH.nil
  go_simp
  refine (C3.out _ _ _ M7.below (M7.has (.tail _ _ _ _ _ (.tail _ _ _ _ _ (Has.head _ _ _ _)))) (M7.has (.tail _ _ _ _ _ (Has.head _ _ _ _)))).mono ?_
  rintro e w8 ⟨v, rfl, hv, hA⟩
  have M8 := M7.call hA
  obtain ⟨d8, c8, rfl, hS⟩ := hv.form
  have HV8 := Lib.hid hv
  have HS58 := Lib.hid (HS57.out.below hA)
  have HS78 := Lib.hid (HS7.out.below hA)
  clear hv hS hA HS57 HS7
  try go_wp2_with fail
  refine hK.out _ _ (⟨fcells (HK.out.below M8.below HK.out.lt), M8.cell (.tail _ _ _ _ _ (.tail _ _ _ _ _ (Has.head _ _ _ _))) (i := 0) rfl, M8.cell (.tail _ _ _ _ _ (Has.head _ _ _ _)) (i := 0) rfl, (HKq.out.below M8.below HKq.out.lt).cell (i := 0) rfl⟩) (fun hHeld => ?_)
  clear hK K
  try simp only [Act.put, puts]
  refine wpAnyH_ready (rs := [15]) (by kernel_rfl) (by simp) ?_
  refine AllReadyH.cons rfl (fun K hK => ?_) AllReadyH.nil
  go_simp
  refine (T3.out _ _ HV8.out).mono ?_
  rintro e w9 ⟨v, rfl, hv, hA⟩
  have M9 := M8.call hA
  obtain ⟨d9, c9, rfl, hS⟩ := hv.form
  have HS9 := Lib.hid hS
  have HS59 := Lib.hid (HS58.out.below hA)
  have HS79 := Lib.hid (HS78.out.below hA)
  clear hv hS hA HV8 HS58 HS78
  try go_wp2_with fail
  refine hK.out _ _ (⟨fcells (HK.out.below M9.below HK.out.lt), M9.cell (.tail _ _ _ _ _ (.tail _ _ _ _ _ (Has.head _ _ _ _))) (i := 0) rfl, M9.cell (.tail _ _ _ _ _ (Has.head _ _ _ _)) (i := 0) rfl, (HKq.out.below M9.below HKq.out.lt).cell (i := 0) rfl⟩) (fun hHeld => ?_)
  clear hK K
  try simp only [Act.put, puts]
  refine wpAnyH_ready (rs := [16]) (by kernel_rfl) (by simp) ?_
  refine AllReadyH.cons rfl (fun K hK => ?_) AllReadyH.nil
  go_simp
  obtain ⟨w10, hw10⟩ : ∃ w10, w9.alloc (.cells #[.slice d5 (len32 r1) c5, .slice d7 (len32 r2) c7, .slice d9 (len32 r3) c9] 63) = w10 := ⟨_, rfl⟩
  have hA10 : Below w9.heap.size w9 w10 := by rw [← hw10]; exact (Below.refl _ _).alloc (Nat.le_refl _) _
  have M10 := M9.call hA10
  have K10 : Blk w10 w9.heap.size 63 [.slice d5 (len32 r1) c5, .slice d7 (len32 r2) c7, .slice d9 (len32 r3) c9] := by rw [← hw10]; exact Blk.new w9 _ _
  have HN10 := Lib.hid (nats3 K10 (HS59.out.below hA10) (HS79.out.below hA10) (HS9.out.below hA10))
  (try simp only [hw10])
  clear hw10 K10 hA10 HS59 HS79 HS9
  try go_wp2_with fail
  refine hK.out _ _ (⟨fcells (HK.out.below M10.below HK.out.lt), M10.cell (.tail _ _ _ _ _ (.tail _ _ _ _ _ (Has.head _ _ _ _))) (i := 0) rfl, M10.cell (.tail _ _ _ _ _ (Has.head _ _ _ _)) (i := 0) rfl, (HKq.out.below M10.below HKq.out.lt).cell (i := 0) rfl⟩) (fun hHeld => ?_)
  clear hK K
  try simp only [Act.put, puts]
  refine wpAnyH_ready (rs := [17]) (by kernel_rfl) (by simp) ?_
  refine AllReadyH.cons rfl (fun K hK => ?_) AllReadyH.nil
  go_simp
  refine (CS.out _ _ _ HN10.out).mono ?_
  rintro e w11 ⟨v, rfl, hv, hA⟩
  have M11 := M10.call hA
  obtain ⟨d11, c11, rfl, hS⟩ := hv.form
  have HV11 := Lib.hid hv
  clear hv hS hA HN10
  try go_wp2_with fail
  refine hK.out _ _ (⟨fcells (HK.out.below M11.below HK.out.lt), M11.cell (.tail _ _ _ _ _ (.tail _ _ _ _ _ (Has.head _ _ _ _))) (i := 0) rfl, M11.cell (.tail _ _ _ _ _ (Has.head _ _ _ _)) (i := 0) rfl, (HKq.out.below M11.below HKq.out.lt).cell (i := 0) rfl⟩) (fun hHeld => ?_)
  clear hK K
  try simp only [Act.put, puts]
  refine wpAnyH_ready (rs := [18]) (by kernel_rfl) (by simp) ?_
  refine AllReadyH.cons rfl (fun K hK => ?_) AllReadyH.nil
  rw [if_pos (by rfl)]
  refine Grid.wp_stM (v := .agg #[.slice d11 (len32 r0) c11]) M11 rfl rfl rfl (wr_nat _ _ _ _) (Upd.head _ _ _ _ _) ?_
  intro w12 M12 hT12
  have HV12 := Lib.hid (HV11.out.kept (M11.has (Has.head _ _ _ _)) (noPart_sl _ _ _) hT12)
  refine hK.out _ _ (⟨fcells (HK.out.below M12.below HK.out.lt), M12.cell (.tail _ _ _ _ _ (.tail _ _ _ _ _ (Has.head _ _ _ _))) (i := 0) rfl, M12.cell (.tail _ _ _ _ _ (Has.head _ _ _ _)) (i := 0) rfl, (HKq.out.below M12.below HKq.out.lt).cell (i := 0) rfl⟩) (fun hHeld => ?_)
  clear hK K
  try simp only [Act.put, puts]
  refine wpAnyH_done (by kernel_rfl) ?_ _
  clear M3 M4 M5 M6 M7 M8 M9 M10 M11 hT12 HV11
  go_wp2_with fail
  refine bodyPost_ret (res_cell rfl M12 rfl (Has.head _ _ _ _) (rd_nat _)) rfl ?_
  exact ⟨_, rfl, HV12.out, M12.below⟩
end Go.Proofs.YtallbegibdlpaaaGreat

/-
  A filter spread: the code's.
-/
namespace Go.Proofs.YtallbegibdlpaaaGreat
open Go Go.RowKit Go.Shelf Go.Th Go.Th.Dig Go.Th.Ex Go.Th.Grid

theorem wrap_small {z : Int} (h : -100000 ≤ z ∧ z ≤ 100000) : IntKind.i64.wrap z = z ∧ wrap64 z = z := ⟨IntWalk.i64_in _ (by omega), IntWalk.wrap64_in _ (by omega)⟩
theorem bes_both (fs : List Nat) {x y i j dx dy : Nat} (hi : i < x) (hj : j < y) (hd : (dx = 1 ∧ dy = 0) ∨ (dx = 0 ∧ dy = 1)) (s : Int) (hs : s = -1 ∨ s = 1) :
    besV fs x y i j ((i : Int) + s * (dx : Int)) ((j : Int) + s * (dy : Int)) = fs.getD (clp ((j : Int) + s * (dy : Int)) y * x + clp ((i : Int) + s * (dx : Int)) x) 0 := by
  rcases hd with ⟨rfl, rfl⟩ | ⟨rfl, rfl⟩
  · exact bes_row fs hi hj (by rcases hs with rfl | rfl <;> omega) (by rcases hs with rfl | rfl <;> omega)
  · exact bes_col fs hi hj (by rcases hs with rfl | rfl <;> omega) (by rcases hs with rfl | rfl <;> omega)
theorem pass_bes (fs : List Nat) (x y q dx dy r i j : Nat) (hir : r % x = i) (hjr : r / x = j) (hi : i < x) (hj : j < y) (hd : (dx = 1 ∧ dy = 0) ∨ (dx = 0 ∧ dy = 1)) (hij : fs.getD r 0 = fat fs x y (i : Int) (j : Int)) :
    fat fs x y (i : Int) (j : Int) * (256 - 2 * q) + besV fs x y i j ((i : Int) + -1 * (dx : Int)) ((j : Int) + -1 * (dy : Int)) * q + besV fs x y i j ((i : Int) + 1 * (dx : Int)) ((j : Int) + 1 * (dy : Int)) * q = passAt fs x y q dx dy r := by
  rw [bes_both fs hi hj hd (-1) (.inl rfl), bes_both fs hi hj hd 1 (.inr rfl), ← hij]
  unfold passAt
  rw [hir, hjr]
  have s1 : (j : Int) + -1 * (dy : Int) = (j : Int) - (dy : Int) := by rw [Int.neg_one_mul]; rfl
  have s2 : (i : Int) + -1 * (dx : Int) = (i : Int) - (dx : Int) := by rw [Int.neg_one_mul]; rfl
  have s3 : (j : Int) + 1 * (dy : Int) = (j : Int) + (dy : Int) := by rw [Int.one_mul]
  have s4 : (i : Int) + 1 * (dx : Int) = (i : Int) + (dx : Int) := by rw [Int.one_mul]
  rw [s1, s2, s3, s4]
theorem mixed1_at (x y n q dx dy k0 i j : Nat) (a : Option Addr) (cap : Nat) (fs : List Nat) (g gx gy gq : Nat) (hn : n = x * y) (hx : x ≤ 64) (hy : y ≤ 64) (hi : i < x) (hj : j < y) (hq : q ≤ 85) (hd : (dx = 1 ∧ dy = 0) ∨ (dx = 0 ∧ dy = 1)) (hl : Lt k0 fs) (hk0 : k0 ≤ 7000) (w : World) (hV : IsV w a n cap fs)
    (K : Blk w g 32 (fc x y (.slice a n cap))) (Kx : Blk w gx 3 [.int .i64 (dx : Int)]) (Ky : Blk w gy 3 [.int .i64 (dy : Int)]) (Kq : Blk w gq 49 [.int .u64 q]) :
    AnsV17 97 #[.int .i64 i, .int .i64 j, .pointer (some ⟨gx, 0, none⟩), .pointer (some ⟨gy, 0, none⟩), .pointer (some ⟨g, 0, none⟩), .pointer (some ⟨gq, 0, none⟩)] w
      (fat fs x y (i : Int) (j : Int) * (256 - 2 * q) + besV fs x y i j ((i : Int) + -1 * (dx : Int)) ((j : Int) + -1 * (dy : Int)) * q + besV fs x y i j ((i : Int) + 1 * (dx : Int)) ((j : Int) + 1 * (dy : Int)) * q) := by
  have hdx : dx ≤ 1 := by omega
  have hdy : dy ≤ 1 := by omega
  have hq8 : q < 2 ^ 9 := by omega
  have hq9 : 256 - 2 * q < 2 ^ 9 := by omega
  have hsm : ∀ p, p < 2 ^ (k0 + 9) → len32 p ≤ 1000 := fun p hp => Nat.le_trans (d32 (m := 250) hp (by omega)) (by omega)
  have hsm0 : ∀ p, p < 2 ^ k0 → len32 p ≤ 1000 := fun p hp => Nat.le_trans (d32 (m := 250) hp (by omega)) (by omega)
  have Z1 : -100000 ≤ -1 * (dx : Int) ∧ -1 * (dx : Int) ≤ 100000 := by omega
  have Z2 : -100000 ≤ -1 * (dy : Int) ∧ -1 * (dy : Int) ≤ 100000 := by omega
  have Z3 : -100000 ≤ (i : Int) + -1 * (dx : Int) ∧ (i : Int) + -1 * (dx : Int) ≤ 100000 := by omega
  have Z4 : -100000 ≤ (j : Int) + -1 * (dy : Int) ∧ (j : Int) + -1 * (dy : Int) ≤ 100000 := by omega
  have Z5 : -100000 ≤ 1 * (dx : Int) ∧ 1 * (dx : Int) ≤ 100000 := by omega
  have Z6 : -100000 ≤ 1 * (dy : Int) ∧ 1 * (dy : Int) ≤ 100000 := by omega
  have Z7 : -100000 ≤ (i : Int) + 1 * (dx : Int) ∧ (i : Int) + 1 * (dx : Int) ≤ 100000 := by omega
  have Z8 : -100000 ≤ (j : Int) + 1 * (dy : Int) ∧ (j : Int) + 1 * (dy : Int) ≤ 100000 := by omega
  have W1 := wrap_small Z1
  have W2 := wrap_small Z2
  have W3 := wrap_small Z3
  have W4 := wrap_small Z4
  have W5 := wrap_small Z5
  have W6 := wrap_small Z6
  have W7 := wrap_small Z7
  have W8 := wrap_small Z8
  have hf1 : besV fs x y i j ((i : Int) + -1 * (dx : Int)) ((j : Int) + -1 * (dy : Int)) < 2 ^ k0 := by rw [bes_both fs hi hj hd (-1) (.inl rfl)]; exact hl _
  have hf3 : besV fs x y i j ((i : Int) + 1 * (dx : Int)) ((j : Int) + 1 * (dy : Int)) < 2 ^ k0 := by rw [bes_both fs hi hj hd 1 (.inr rfl)]; exact hl _
  have hf2 : fat fs x y (i : Int) (j : Int) < 2 ^ k0 := by rw [fat_in fs hi hj]; exact hl _
  obtain ⟨p1, hp1⟩ : ∃ p1, besV fs x y i j ((i : Int) + -1 * (dx : Int)) ((j : Int) + -1 * (dy : Int)) = p1 := ⟨_, rfl⟩
  obtain ⟨p2, hp2⟩ : ∃ p2, fat fs x y (i : Int) (j : Int) = p2 := ⟨_, rfl⟩
  obtain ⟨p3, hp3⟩ : ∃ p3, besV fs x y i j ((i : Int) + 1 * (dx : Int)) ((j : Int) + 1 * (dy : Int)) = p3 := ⟨_, rfl⟩
  rw [hp1] at hf1
  rw [hp2] at hf2
  rw [hp3] at hf3
  rw [hp1, hp2, hp3]
  refine mixed1_go x y i j n q (2 * q) (256 - 2 * q) p1 p2 p3 (p1 * q) (p2 * (256 - 2 * q)) (p3 * q) (dx : Int) (dy : Int) (-1 * (dx : Int)) (-1 * (dy : Int)) ((i : Int) + -1 * (dx : Int)) ((j : Int) + -1 * (dy : Int)) ((i : Int) + 1 * (dx : Int)) ((j : Int) + 1 * (dy : Int)) (1 * (dx : Int)) (1 * (dy : Int)) a cap fs g gx gy gq hn hx hy hq rfl rfl
    W1.1 W2.1 W3.1 W4.1 W1.2 W2.2 W3.2 W4.2 W5.1 W6.1 W7.1 W8.1 W5.2 W6.2 W7.2 W8.2 hp1 hp2 hp3 rfl rfl rfl ?_ w hV K Kx Ky Kq
  intro p hp
  simp only [List.mem_cons, List.not_mem_nil, or_false] at hp
  rcases hp with rfl | rfl | rfl | rfl | rfl | rfl
  · exact hsm0 _ hf1
  · exact hsm0 _ hf2
  · exact hsm0 _ hf3
  · exact hsm _ (mul_pow2 hf1 hq8)
  · exact hsm _ (mul_pow2 hf2 hq9)
  · exact hsm _ (mul_pow2 hf3 hq8)
theorem mixed1_told (x y n q dx dy k0 : Nat) (a : Option Addr) (cap : Nat) (fs : List Nat) (g gx gy gq : Nat) (hn : n = x * y) (hx : x ≤ 64) (hy : y ≤ 64) (hq : q ≤ 85) (hd : (dx = 1 ∧ dy = 0) ∨ (dx = 0 ∧ dy = 1)) (hl : Lt k0 fs) (hk0 : k0 ≤ 7000) (w : World) (hV : IsV w a n cap fs)
    (K : Blk w g 32 (fc x y (.slice a n cap))) (Kx : Blk w gx 3 [.int .i64 (dx : Int)]) (Ky : Blk w gy 3 [.int .i64 (dy : Int)]) (Kq : Blk w gq 49 [.int .u64 q]) :
    ToldF 97 #[.pointer (some ⟨gx, 0, none⟩), .pointer (some ⟨gy, 0, none⟩), .pointer (some ⟨g, 0, none⟩), .pointer (some ⟨gq, 0, none⟩)] x n (passAt fs x y q dx dy) w :=
  ⟨enters_of Tryz.func97 (by kernel_rfl) rfl, fun w' hw' r hr => by
    have hx0 : 0 < x := by
      rcases Nat.eq_zero_or_pos x with h | h
      · rw [hn, h, Nat.zero_mul] at hr; omega
      · exact h
    have hix : r % x < x := Nat.mod_lt r hx0
    have hjy : r / x < y := by rw [Nat.div_lt_iff_lt_mul hx0, Nat.mul_comm]; rw [hn] at hr; exact hr
    have hij : fs.getD r 0 = fat fs x y ((r % x : Nat) : Int) ((r / x : Nat) : Int) := by rw [fat_in fs hix hjy, Nat.mul_comm, Nat.div_add_mod]
    have := mixed1_at x y n q dx dy k0 (r % x) (r / x) a cap fs g gx gy gq hn hx hy hix hjy hq hd hl hk0 w' (hV.below hw') (K.below hw' K.lt) (Kx.below hw' Kx.lt) (Ky.below hw' Ky.lt) (Kq.below hw' Kq.lt)
    rw [pass_bes fs x y q dx dy r _ _ rfl rfl hix hjy hd hij] at this
    exact this⟩

set_option maxRecDepth 20000 in
set_option maxHeartbeats 3200000 in
theorem mixed_any17 (x y n q dx dy k0 : Nat) (a : Option Addr) (cap : Nat) (fs : List Nat) (hn : n = x * y) (hx : x ≤ 64) (hy : y ≤ 64) (hq : q ≤ 85) (hd : (dx = 1 ∧ dy = 0) ∨ (dx = 0 ∧ dy = 1)) (hl : Lt k0 fs) (hk0 : k0 ≤ 7000) (w : World) (hV : IsV w a n cap fs) :
    Calls Tryz.prog 65 #[fv x y (.slice a n cap), .int .i64 (dx : Int), .int .i64 (dy : Int), .int .u64 q] w (ResX x y (passU fs x y q dx dy) w) := by
  have CT := Lib.hid (fun (wx : World) (g gx gy gq : Nat) (hw' : Below w.heap.size w wx) (K : Blk wx g 32 (fc x y (.slice a n cap))) (Kx : Blk wx gx 3 [.int .i64 (dx : Int)]) (Ky : Blk wx gy 3 [.int .i64 (dy : Int)]) (Kq : Blk wx gq 49 [.int .u64 q]) =>
    laid_any x y n _ _ _ hn hx hy wx (mixed1_told x y n q dx dy k0 a cap fs g gx gy gq hn hx hy hq hd hl hk0 wx (hV.below (w' := wx) hw') K Kx Ky Kq))
  have e : tabN (passAt fs x y q dx dy) n = passU fs x y q dx dy := by unfold passU; rw [hV.len]
  rw [e] at CT
  have hmf : ∀ (A B C D : Nat) (wx : World), (Instr.makeFunc (.func 97) #[] #[.pointer (some ⟨A, 0, none⟩), .pointer (some ⟨B, 0, none⟩), .pointer (some ⟨C, 0, none⟩), .pointer (some ⟨D, 0, none⟩)]).run Tryz.prog wx = .ok (.func (.func 97) #[] #[.pointer (some ⟨A, 0, none⟩), .pointer (some ⟨B, 0, none⟩), .pointer (some ⟨C, 0, none⟩), .pointer (some ⟨D, 0, none⟩)]) wx := fun _ _ _ _ _ => rfl
  obtain ⟨us, hus⟩ : ∃ us, us = passU fs x y q dx dy := ⟨_, rfl⟩
  rw [← hus] at CT ⊢
  obtain ⟨DX, hDX⟩ : ∃ DX : Int, DX = (dx : Int) := ⟨_, rfl⟩
  obtain ⟨DY, hDY⟩ : ∃ DY : Int, DY = (dy : Int) := ⟨_, rfl⟩
  rw [← hDX, ← hDY] at CT ⊢
  have M0 := Mem.start w
  clear hn hV e hus hl hd hDX hDY
  go_enter Tryz.func65, Tryz.ntmps65
  go_wp2_with ((with_reducible refine (?_ : Go.wpList _ _ _ (_ :: _) _ _)); (first | go_skip | (refine wpL_bx M0 rfl rfl rfl rfl ?_; clear M0; intro g1 w1 M1) | (refine wpL_alc M0 rfl rfl ?_; clear M0; intro g1 w1 M1) | (refine wpL_ldc M0 rfl rfl rfl ?_) | (refine wpL_lgc M0 rfl rfl rfl ?_) | (refine wpL_stc M0 rfl rfl rfl rfl ?_; clear M0; intro w' M0) | (refine wpL_sti M0 rfl rfl rfl rfl ?_; clear M0; intro w' M0) | (refine wpL_sth M0 rfl rfl rfl rfl (wr_minus _ _ _) ?_; clear M0; intro w' M0) | (refine wpL_bx M1 rfl rfl rfl rfl ?_; clear M1; intro g2 w2 M2) | (refine wpL_alc M1 rfl rfl ?_; clear M1; intro g2 w2 M2) | (refine wpL_ldc M1 rfl rfl rfl ?_) | (refine wpL_lgc M1 rfl rfl rfl ?_) | (refine wpL_stc M1 rfl rfl rfl rfl ?_; clear M1; intro w' M1) | (refine wpL_sti M1 rfl rfl rfl rfl ?_; clear M1; intro w' M1) | (refine wpL_sth M1 rfl rfl rfl rfl (wr_minus _ _ _) ?_; clear M1; intro w' M1) | (refine wpL_bx M2 rfl rfl rfl rfl ?_; clear M2; intro g3 w3 M3) | (refine wpL_alc M2 rfl rfl ?_; clear M2; intro g3 w3 M3) | (refine wpL_ldc M2 rfl rfl rfl ?_) | (refine wpL_lgc M2 rfl rfl rfl ?_) | (refine wpL_stc M2 rfl rfl rfl rfl ?_; clear M2; intro w' M2) | (refine wpL_sti M2 rfl rfl rfl rfl ?_; clear M2; intro w' M2) | (refine wpL_sth M2 rfl rfl rfl rfl (wr_minus _ _ _) ?_; clear M2; intro w' M2) | (refine wpL_bx M3 rfl rfl rfl rfl ?_; clear M3; intro g4 w4 M4) | (refine wpL_alc M3 rfl rfl ?_; clear M3; intro g4 w4 M4) | (refine wpL_ldc M3 rfl rfl rfl ?_) | (refine wpL_lgc M3 rfl rfl rfl ?_) | (refine wpL_stc M3 rfl rfl rfl rfl ?_; clear M3; intro w' M3) | (refine wpL_sti M3 rfl rfl rfl rfl ?_; clear M3; intro w' M3) | (refine wpL_sth M3 rfl rfl rfl rfl (wr_minus _ _ _) ?_; clear M3; intro w' M3) | (refine wpL_bx M4 rfl rfl rfl rfl ?_; clear M4; intro g5 w5 M5) | (refine wpL_alc M4 rfl rfl ?_; clear M4; intro g5 w5 M5) | (refine wpL_ldc M4 rfl rfl rfl ?_) | (refine wpL_lgc M4 rfl rfl rfl ?_) | (refine wpL_stc M4 rfl rfl rfl rfl ?_; clear M4; intro w' M4) | (refine wpL_sti M4 rfl rfl rfl rfl ?_; clear M4; intro w' M4) | (refine wpL_sth M4 rfl rfl rfl rfl (wr_minus _ _ _) ?_; clear M4; intro w' M4) | (refine wpL_ldc M5 rfl rfl rfl ?_) | (refine wpL_lgc M5 rfl rfl rfl ?_) | (refine wpL_stc M5 rfl rfl rfl rfl ?_; clear M5; intro w' M5) | (refine wpL_sti M5 rfl rfl rfl rfl ?_; clear M5; intro w' M5) | (refine wpL_sth M5 rfl rfl rfl rfl (wr_minus _ _ _) ?_; clear M5; intro w' M5)))
  refine (CT.out _ _ _ _ _ M5.below (M5.has (.tail _ _ _ _ _ (.tail _ _ _ _ _ (.tail _ _ _ _ _ (.tail _ _ _ _ _ (Has.head _ _ _ _)))))) (M5.has (.tail _ _ _ _ _ (.tail _ _ _ _ _ (.tail _ _ _ _ _ (Has.head _ _ _ _))))) (M5.has (.tail _ _ _ _ _ (.tail _ _ _ _ _ (Has.head _ _ _ _)))) (M5.has (.tail _ _ _ _ _ (Has.head _ _ _ _)))).mono ?_
  rintro e w6 ⟨a6, c6, rfl, hV6, hA⟩
  have M6 := M5.call hA
  have K6 := M6.has (Has.head _ _ _ _)
  have HV6 := Lib.hid hV6
  clear M5 hA hV6
  go_wp2_with ((with_reducible refine (?_ : Go.wpList _ _ _ (_ :: _) _ _)); (first | go_skip | (refine wpL_ldc M6 rfl rfl rfl ?_) | (refine wpL_lgc M6 rfl rfl rfl ?_) | (refine wpL_stcT M6 rfl rfl rfl rfl ?_; clear M6; intro w' M6 hT) | (refine wpL_stiT M6 rfl rfl rfl rfl ?_; clear M6; intro w' M6 hT)))
  refine bodyPost_ret (res_cell rfl M6 rfl (Has.head _ _ _ _) (rd_fx _ _ _)) rfl ?_
  exact ⟨a6, c6, rfl, HV6.out.turnedB K6 (by decide) (noPart_f _ _ _ _ _) hT, M6.below⟩

set_option maxRecDepth 20000 in
set_option maxHeartbeats 3200000 in
theorem spread_any17 (x y n q k0 : Nat) (a : Option Addr) (cap : Nat) (fs : List Nat) (hn : n = x * y) (hx : x ≤ 64) (hy : y ≤ 64) (hq : q ≤ 85) (hl : Lt k0 fs) (hk0 : k0 ≤ 6000) (w : World) (hV : IsV w a n cap fs) :
    Calls Tryz.prog 25 #[fv x y (.slice a n cap), .int .u64 q] w (ResX x y (spreadU fs x y q) w) := by
  have hlen := hV.len
  have C1 := Lib.hid (isWhole_any x y a n cap (by omega) (by omega) hn)
  have C2 := Lib.hid (fun (wx : World) (hw' : Below w.heap.size w wx) => mixed_any17 x y n q 1 0 k0 a cap fs hn hx hy hq (.inl ⟨rfl, rfl⟩) hl (by omega) wx (hV.below (w' := wx) hw'))
  have hl2 : (passU fs x y q 1 0).length = n := by rw [passU_length, hlen]
  have C3 := Lib.hid (fun (a2 : Option Addr) (c2 : Nat) (wx : World) (hV2 : IsV wx a2 (passU fs x y q 1 0).length c2 (passU fs x y q 1 0)) => mixed_any17 x y n q 0 1 (k0 + 8) a2 c2 (passU fs x y q 1 0) hn hx hy hq (.inr ⟨rfl, rfl⟩) (Lt.pass hl hq x y 1 0) (by omega) wx (by rw [hl2] at hV2; exact hV2))
  rw [hl2] at C3
  have e : passU (passU fs x y q 1 0) x y q 0 1 = spreadU fs x y q := rfl
  rw [e] at C3
  obtain ⟨us, hus⟩ : ∃ us, us = spreadU fs x y q := ⟨_, rfl⟩
  rw [← hus] at C3 ⊢
  obtain ⟨vs, hvs⟩ : ∃ vs, vs = passU fs x y q 1 0 := ⟨_, rfl⟩
  rw [← hvs] at C2 C3 hl2
  have HL2 := Lib.hid hl2
  have hq85 : ¬ (85 : Int) < (q : Int) := by omega
  have M0 := Mem.start w
  clear hn hV e hus hl hlen hvs hl2
  go_enter Tryz.func25, Tryz.ntmps25
  go_wp2_with ((with_reducible refine (?_ : Go.wpList _ _ _ (_ :: _) _ _)); (first | go_skip | (refine wpL_bx M0 rfl rfl rfl rfl ?_; clear M0; intro g1 w1 M1) | (refine wpL_alc M0 rfl rfl ?_; clear M0; intro g1 w1 M1) | (refine wpL_ldc M0 rfl rfl rfl ?_) | (refine wpL_lgc M0 rfl rfl rfl ?_) | (refine wpL_stc M0 rfl rfl rfl rfl ?_; clear M0; intro w' M0) | (refine wpL_sti M0 rfl rfl rfl rfl ?_; clear M0; intro w' M0) | (refine wpL_sth M0 rfl rfl rfl rfl (wr_minus _ _ _) ?_; clear M0; intro w' M0) | (refine wpL_bx M1 rfl rfl rfl rfl ?_; clear M1; intro g2 w2 M2) | (refine wpL_alc M1 rfl rfl ?_; clear M1; intro g2 w2 M2) | (refine wpL_ldc M1 rfl rfl rfl ?_) | (refine wpL_lgc M1 rfl rfl rfl ?_) | (refine wpL_stc M1 rfl rfl rfl rfl ?_; clear M1; intro w' M1) | (refine wpL_sti M1 rfl rfl rfl rfl ?_; clear M1; intro w' M1) | (refine wpL_sth M1 rfl rfl rfl rfl (wr_minus _ _ _) ?_; clear M1; intro w' M1) | (refine wpL_ldc M2 rfl rfl rfl ?_) | (refine wpL_lgc M2 rfl rfl rfl ?_) | (refine wpL_stc M2 rfl rfl rfl rfl ?_; clear M2; intro w' M2) | (refine wpL_sti M2 rfl rfl rfl rfl ?_; clear M2; intro w' M2) | (refine wpL_sth M2 rfl rfl rfl rfl (wr_minus _ _ _) ?_; clear M2; intro w' M2)))
  refine (C1.out _).mono ?_
  rintro e w3 ⟨rfl, hA⟩
  have M3 := M2.call hA
  clear M2 hA
  go_wp2_with ((with_reducible refine (?_ : Go.wpList _ _ _ (_ :: _) _ _)); (first | go_skip | (refine wpL_ldc M3 rfl rfl rfl ?_) | (refine wpL_lgc M3 rfl rfl rfl ?_) | (refine wpL_stc M3 rfl rfl rfl rfl ?_; clear M3; intro w' M3) | (refine wpL_sti M3 rfl rfl rfl rfl ?_; clear M3; intro w' M3) | (refine wpL_sth M3 rfl rfl rfl rfl (wr_minus _ _ _) ?_; clear M3; intro w' M3)))
  refine (C2.out _ M3.below).mono ?_
  rintro e w4 ⟨a4, c4, rfl, hV4, hA⟩
  have M4 := M3.call hA
  rw [HL2.out] at hV4 ⊢
  have HV4 := Lib.hid hV4
  clear M3 hA hV4
  go_wp2_with ((with_reducible refine (?_ : Go.wpList _ _ _ (_ :: _) _ _)); (first | go_skip | (refine wpL_ldc M4 rfl rfl rfl ?_) | (refine wpL_lgc M4 rfl rfl rfl ?_) | (refine wpL_stc M4 rfl rfl rfl rfl ?_; clear M4; intro w' M4) | (refine wpL_sti M4 rfl rfl rfl rfl ?_; clear M4; intro w' M4) | (refine wpL_sth M4 rfl rfl rfl rfl (wr_minus _ _ _) ?_; clear M4; intro w' M4)))
  refine (C3.out _ _ _ HV4.out).mono ?_
  rintro e w5 ⟨a5, c5, rfl, hV5, hA⟩
  have M5 := M4.call hA
  have K5 := M5.has (Has.head _ _ _ _)
  have HV5 := Lib.hid hV5
  clear M4 hA hV5 HV4
  go_wp2_with ((with_reducible refine (?_ : Go.wpList _ _ _ (_ :: _) _ _)); (first | go_skip | (refine wpL_ldc M5 rfl rfl rfl ?_) | (refine wpL_lgc M5 rfl rfl rfl ?_) | (refine wpL_stcT M5 rfl rfl rfl rfl ?_; clear M5; intro w' M5 hT) | (refine wpL_stiT M5 rfl rfl rfl rfl ?_; clear M5; intro w' M5 hT)))
  refine bodyPost_ret (res_cell rfl M5 rfl (Has.head _ _ _ _) (rd_fx _ _ _)) rfl ?_
  exact ⟨a5, c5, rfl, HV5.out.turnedB K5 (by decide) (noPart_f _ _ _ _ _) hT, M5.below⟩
end Go.Proofs.YtallbegibdlpaaaGreat

/-
  A filter weighed; the filter of a grid: the code's.
-/
namespace Go.Proofs.YtallbegibdlpaaaGreat
open Go Go.RowKit Go.Shelf Go.Th Go.Th.Dig Go.Th.Ex Go.Th.Grid

set_option maxRecDepth 20000 in
set_option maxHeartbeats 6400000 in
theorem weigh1_go (i n cl p l r : Nat) (al : Option Addr) (zs : List Int) (v : Value) (gl : Nat) (hi : i < n) (hz : zs.length = n) (hzi : zs.getD i 0 = (l : Int)) (hl63 : l < 9223372036854775808) (hp : len32 p ≤ 1000) (hr : l * p = r) (w : World) (hv : IsN w v p)
    (hS : Sl w 1 (.slice al n cl) n (i64s zs)) (K : Blk w gl 26 [.slice al n cl]) :
    AnsV17 67 #[.int .i64 i, v, .pointer (some ⟨gl, 0, none⟩)] w r := by
  have hl1000 : len32 l ≤ 1000 := Nat.le_trans (d32 (k := 63) (m := 2) (by omega) (by omega)) (by omega)
  have C1 := Lib.hid (counted_any l hl63)
  have C2 := Lib.hid (fun (u : Value) (wx : World) (hx : Below w.heap.size w wx) (hu : IsN wx u l) => hr ▸ mul_any16 u v l p wx hu (hv.below hx) hl1000 hp)
  have HV := Lib.hid hv
  obtain ⟨d, c, rfl, hSp⟩ := hv.form
  obtain ⟨b2, o2, rfl, hb2, cl2⟩ := cell64 hS i (by rw [hz]; exact hi)
  rw [hzi] at cl2
  have HS := Lib.hid hS
  have HK := Lib.hid K
  have HC2 := Lib.hid cl2
  have hmx := hS.max
  have M0 := Mem.start w
  have hi0 : (i : Int) < (n : Int) := by omega
  have hni : ¬ (n : Int) ≤ (i : Int) := by omega
  have hni' : ¬ n ≤ i := by omega
  obtain ⟨m, hm⟩ : ∃ m, m = len32 p := ⟨_, rfl⟩
  rw [← hm] at HV C2 ⊢
  clear hv hSp hS K cl2 hz hzi hr hp hm hl1000 hl63
  go_enter Tryz.func67, Tryz.ntmps67
  go_upto_region 1 with (((with_reducible refine (?_ : Go.wpList _ _ _ (_ :: _) _ _)); (first | go_skip | (refine wpL_bx M0 rfl rfl rfl rfl ?_; clear M0; intro g1 w1 M1) | (refine wpL_alc M0 rfl rfl ?_; clear M0; intro g1 w1 M1) | (refine wpL_ldc M0 rfl rfl rfl ?_) | (refine wpL_lgc M0 rfl rfl rfl ?_) | (refine wpL_stc M0 rfl rfl rfl rfl ?_; clear M0; intro w' M0) | (refine wpL_sti M0 rfl rfl rfl rfl ?_; clear M0; intro w' M0) | (refine wpL_sth M0 rfl rfl rfl rfl (wr_minus _ _ _) ?_; clear M0; intro w' M0) | (refine wpL_bx M1 rfl rfl rfl rfl ?_; clear M1; intro g2 w2 M2) | (refine wpL_alc M1 rfl rfl ?_; clear M1; intro g2 w2 M2) | (refine wpL_ldc M1 rfl rfl rfl ?_) | (refine wpL_lgc M1 rfl rfl rfl ?_) | (refine wpL_stc M1 rfl rfl rfl rfl ?_; clear M1; intro w' M1) | (refine wpL_sti M1 rfl rfl rfl rfl ?_; clear M1; intro w' M1) | (refine wpL_sth M1 rfl rfl rfl rfl (wr_minus _ _ _) ?_; clear M1; intro w' M1) | (refine wpL_ldc M2 rfl rfl rfl ?_) | (refine wpL_lgc M2 rfl rfl rfl ?_) | (refine wpL_stc M2 rfl rfl rfl rfl ?_; clear M2; intro w' M2) | (refine wpL_sti M2 rfl rfl rfl rfl ?_; clear M2; intro w' M2) | (refine wpL_sth M2 rfl rfl rfl rfl (wr_minus _ _ _) ?_; clear M2; intro w' M2))))
  have c0 := (HK.out.below M2.below HK.out.lt).cell (i := 0) rfl
  go_wp2_with fail
  refine wp_region_held_drew (S := (fun w' : World => w'.cell? ⟨gl, 0, none⟩ = some (.slice (some ⟨b2, o2, none⟩) n cl) ∧ w'.cell? ⟨b2, o2 + i, none⟩ = some (.int .i64 l) ∧ w'.cell? ⟨g1, 0, none⟩ = some (.slice d m c))) (by kernel_rfl) (⟨(HK.out.below M2.drew.below HK.out.lt).cell (i := 0) rfl, (M2.drew.below.cell (p := ⟨b2, o2 + i, none⟩) hb2).trans HC2.out, M2.drew.cell (.tail _ _ _ _ _ (Has.head _ _ _ _)) (i := 0) rfl⟩) (fun hHeld => ?_)
  refine tkT 0 ?v51 ?hy51 hHeld ?rest51
  case hy51 => (intro w' hSw; (try dsimp only at hSw); go_simp; (try with_reducible rfl))
  try simp only [Act.put, puts]
  refine tkT 1 ?v52 ?hy52 hHeld ?rest52
  case hy52 => (intro w' hSw; (try dsimp only at hSw); go_simp; (try with_reducible rfl))
  try simp only [Act.put, puts]
  refine tkT 2 ?v53 ?hy53 hHeld ?rest53
  case hy53 => (intro w' hSw; (try dsimp only at hSw); go_simp; (try with_reducible rfl))
  try simp only [Act.put, puts]
  refine tkT 3 ?v54 ?hy54 hHeld ?rest54
  case hy54 => (intro w' hSw; (try dsimp only at hSw); go_simp; (try with_reducible rfl))
  try simp only [Act.put, puts]
  refine tkT 5 ?v55 ?hy55 hHeld ?rest55
  case hy55 => (intro w' hSw; (try dsimp only at hSw); go_simp; (try with_reducible rfl))
  try simp only [Act.put, puts]
  refine wpAnyH_ready (rs := [4]) (by kernel_rfl) (by simp) ?_
  refine AllReadyH.cons rfl (fun K hK => ?_) AllReadyH.nil
  go_simp
  refine (C1.out _).mono ?_
  rintro e w3 ⟨u, rfl, hu, hA⟩
  have M3 := M2.drew.call hA
  obtain ⟨d3, c3, rfl, hS3⟩ := hu.form
  have HU3 := Lib.hid hu
  clear hu hS3 hA
  try go_wp2_with fail
  refine hK.out _ _ (⟨(HK.out.below M3.below HK.out.lt).cell (i := 0) rfl, (M3.below.cell (p := ⟨b2, o2 + i, none⟩) hb2).trans HC2.out, M3.cell (.tail _ _ _ _ _ (Has.head _ _ _ _)) (i := 0) rfl⟩) (fun hHeld => ?_)
  clear hK K
  try simp only [Act.put, puts]
  refine wpAnyH_ready (rs := [6]) (by kernel_rfl) (by simp) ?_
  refine AllReadyH.cons rfl (fun K hK => ?_) AllReadyH.nil
  go_simp
  refine (C2.out _ _ M3.below HU3.out).mono ?_
  rintro e w4 ⟨u, rfl, hu, hA⟩
  have M4 := M3.call hA
  obtain ⟨d4, c4, rfl, hS4⟩ := hu.form
  have HU4 := Lib.hid hu
  clear hu hS4 hA HU3
  try go_wp2_with fail
  refine hK.out _ _ (⟨(HK.out.below M4.below HK.out.lt).cell (i := 0) rfl, (M4.below.cell (p := ⟨b2, o2 + i, none⟩) hb2).trans HC2.out, M4.cell (.tail _ _ _ _ _ (Has.head _ _ _ _)) (i := 0) rfl⟩) (fun hHeld => ?_)
  clear hK K
  try simp only [Act.put, puts]
  refine wpAnyH_ready (rs := [7]) (by kernel_rfl) (by simp) ?_
  refine AllReadyH.cons rfl (fun K hK => ?_) AllReadyH.nil
  rw [if_pos (by rfl)]
  refine Grid.wp_stM (v := .agg #[.slice d4 (len32 r) c4]) M4 rfl rfl rfl (wr_nat _ _ _ _) (Upd.head _ _ _ _ _) ?_
  intro w5 M5 hT5
  have HU5 := Lib.hid (HU4.out.kept (M4.has (Has.head _ _ _ _)) (noPart_sl _ _ _) hT5)
  refine hK.out _ _ (⟨(HK.out.below M5.below HK.out.lt).cell (i := 0) rfl, (M5.below.cell (p := ⟨b2, o2 + i, none⟩) hb2).trans HC2.out, M5.cell (.tail _ _ _ _ _ (Has.head _ _ _ _)) (i := 0) rfl⟩) (fun hHeld => ?_)
  clear hK K
  try simp only [Act.put, puts]
  refine wpAnyH_done (by kernel_rfl) ?_ _
  clear M2 M3 M4 hT5 HU4
  go_wp2_with fail
  refine bodyPost_ret (res_cell rfl M5 rfl (Has.head _ _ _ _) (rd_nat _)) rfl ?_
  exact ⟨_, rfl, HU5.out, M5.below⟩
theorem getD_lt63 {ls : List Nat} (h : Lt 63 ls) (i : Nat) : ls.getD i 0 < 9223372036854775808 := h i
theorem weigh1_made (n cl k : Nat) (al : Option Addr) (us ls : List Nat) (gl : Nat) (hl : Lt k us) (hk : k ≤ 7000) (hm : Lt 63 ls) (hls : ls.length = n) (w : World) (hS : Sl w 1 (.slice al n cl) n (i64s (ls.map Int.ofNat))) (K : Blk w gl 26 [.slice al n cl]) :
    MadeF 67 #[.pointer (some ⟨gl, 0, none⟩)] n us (fun j => us.getD j 0 * ls.getD j 0) w :=
  ⟨enters_of Tryz.func67 (by kernel_rfl) rfl, fun w' hw' j hj v hv =>
    weigh1_go j n cl (us.getD j 0) (ls.getD j 0) _ al (ls.map Int.ofNat) v gl hj (by rw [List.length_map]; exact hls) (by
      have h2 : j < ls.length := by omega
      simp [List.getD_eq_getElem?_getD, h2]) (getD_lt63 hm j) (Nat.le_trans (d32 (m := 250) (hl j) (by omega)) (by omega)) (Nat.mul_comm _ _) w' hv (hS.below hw') (K.below hw' K.lt)⟩

set_option maxRecDepth 20000 in
set_option maxHeartbeats 3200000 in
theorem weigh_any17 (x y : Int) (a al : Option Addr) (n cap cl k : Nat) (us ls : List Nat) (hl : Lt k us) (hk : k ≤ 7000) (hm : Lt 63 ls) (hls : ls.length = n) (hn : n ≤ 4096) (w : World) (hV : IsV w a n cap us) (hS : Sl w 1 (.slice al n cl) n (i64s (ls.map Int.ofNat))) :
    Calls Tryz.prog 28 #[fv x y (.slice a n cap), .slice al n cl] w (ResX x y (weighU us ls) w) := by
  have CT := Lib.hid (fun (wx : World) (gl : Nat) (hw' : Below w.heap.size w wx) (K : Blk wx gl 26 [.slice al n cl]) =>
    each_any x y a n cap _ _ us _ hn wx (hV.below (w' := wx) hw') (weigh1_made n cl k al us ls gl hl hk hm hls wx (hS.below hw') K))
  have e : tabN (fun j => us.getD j 0 * ls.getD j 0) n = weighU us ls := by unfold weighU; rw [hV.len]
  rw [e] at CT
  have hmf : ∀ (A : Nat) (wx : World), (Instr.makeFunc (.func 67) #[] #[.pointer (some ⟨A, 0, none⟩)]).run Tryz.prog wx = .ok (.func (.func 67) #[] #[.pointer (some ⟨A, 0, none⟩)]) wx := fun _ _ => rfl
  obtain ⟨vs, hvs⟩ : ∃ vs, vs = weighU us ls := ⟨_, rfl⟩
  rw [← hvs] at CT ⊢
  have M0 := Mem.start w
  clear hl hm hls hV hS e hvs
  go_enter Tryz.func28, Tryz.ntmps28
  go_wp2_with ((with_reducible refine (?_ : Go.wpList _ _ _ (_ :: _) _ _)); (first | go_skip | (refine wpL_bx M0 rfl rfl rfl rfl ?_; clear M0; intro g1 w1 M1) | (refine wpL_alc M0 rfl rfl ?_; clear M0; intro g1 w1 M1) | (refine wpL_ldc M0 rfl rfl rfl ?_) | (refine wpL_lgc M0 rfl rfl rfl ?_) | (refine wpL_stc M0 rfl rfl rfl rfl ?_; clear M0; intro w' M0) | (refine wpL_sti M0 rfl rfl rfl rfl ?_; clear M0; intro w' M0) | (refine wpL_sth M0 rfl rfl rfl rfl (wr_minus _ _ _) ?_; clear M0; intro w' M0) | (refine wpL_bx M1 rfl rfl rfl rfl ?_; clear M1; intro g2 w2 M2) | (refine wpL_alc M1 rfl rfl ?_; clear M1; intro g2 w2 M2) | (refine wpL_ldc M1 rfl rfl rfl ?_) | (refine wpL_lgc M1 rfl rfl rfl ?_) | (refine wpL_stc M1 rfl rfl rfl rfl ?_; clear M1; intro w' M1) | (refine wpL_sti M1 rfl rfl rfl rfl ?_; clear M1; intro w' M1) | (refine wpL_sth M1 rfl rfl rfl rfl (wr_minus _ _ _) ?_; clear M1; intro w' M1) | (refine wpL_bx M2 rfl rfl rfl rfl ?_; clear M2; intro g3 w3 M3) | (refine wpL_alc M2 rfl rfl ?_; clear M2; intro g3 w3 M3) | (refine wpL_ldc M2 rfl rfl rfl ?_) | (refine wpL_lgc M2 rfl rfl rfl ?_) | (refine wpL_stc M2 rfl rfl rfl rfl ?_; clear M2; intro w' M2) | (refine wpL_sti M2 rfl rfl rfl rfl ?_; clear M2; intro w' M2) | (refine wpL_sth M2 rfl rfl rfl rfl (wr_minus _ _ _) ?_; clear M2; intro w' M2) | (refine wpL_ldc M3 rfl rfl rfl ?_) | (refine wpL_lgc M3 rfl rfl rfl ?_) | (refine wpL_stc M3 rfl rfl rfl rfl ?_; clear M3; intro w' M3) | (refine wpL_sti M3 rfl rfl rfl rfl ?_; clear M3; intro w' M3) | (refine wpL_sth M3 rfl rfl rfl rfl (wr_minus _ _ _) ?_; clear M3; intro w' M3)))
  refine (CT.out _ _ M3.below (M3.has (.tail _ _ _ _ _ (Has.head _ _ _ _)))).mono ?_
  rintro e w4 ⟨a6, c6, rfl, hV6, hA⟩
  have M4 := M3.call hA
  have K4 := M4.has (Has.head _ _ _ _)
  have HV6 := Lib.hid hV6
  clear M3 hA hV6
  go_wp2_with ((with_reducible refine (?_ : Go.wpList _ _ _ (_ :: _) _ _)); (first | go_skip | (refine wpL_ldc M4 rfl rfl rfl ?_) | (refine wpL_lgc M4 rfl rfl rfl ?_) | (refine wpL_stcT M4 rfl rfl rfl rfl ?_; clear M4; intro w' M4 hT) | (refine wpL_stiT M4 rfl rfl rfl rfl ?_; clear M4; intro w' M4 hT)))
  refine bodyPost_ret (res_cell rfl M4 rfl (Has.head _ _ _ _) (rd_fx _ _ _)) rfl ?_
  exact ⟨a6, c6, rfl, HV6.out.turnedB K4 (by decide) (noPart_f _ _ _ _ _) hT, M4.below⟩

/-! ### The filter of a grid -/
set_option maxRecDepth 20000 in
set_option maxHeartbeats 3200000 in
theorem from_any17 (x y : Int) (X Y S : Int) (a : Option Addr) (n cap : Nat) (p : List Int) (us : List Nat) (hp : p.length = n) (hus : us.length = n) (hpv : ∀ i, i < n → p.getD i 0 = ((us.getD i 0 : Nat) : Int)) (hl : Lt 63 us) (hn : n ≤ 4096) (w : World) (hS : Sl w 1 (.slice a n cap) n (i64s p)) :
    Calls Tryz.prog 7 #[gv x y X Y S (.slice a n cap)] w (ResX x y us w) := by
  obtain ⟨F, hF⟩ : ∃ F : Nat → Nat, F = fun i => us.getD i 0 := ⟨_, rfl⟩
  have hE : us = tabN F n := by rw [hF, ← hus]; exact (tabN_of us).symm
  rw [hE]
  have HPV := Lib.hid (fun i (h : i < n) => (show p.getD i 0 = ((F i : Nat) : Int) by rw [hF]; exact hpv i h))
  have HLT := Lib.hid (fun i => (show F i < 9223372036854775808 by rw [hF]; exact hl i))
  have HP := Lib.hid hp
  have HS := Lib.hid hS
  have hmx := hS.max
  have M0 := Mem.start w
  clear hp hus hpv hl hS hF hE
  go_enter Tryz.func7, Tryz.ntmps7
  go_upto_region 1 with (((with_reducible refine (?_ : Go.wpList _ _ _ (_ :: _) _ _)); (first | go_skip | (refine wpL_bx M0 rfl rfl rfl rfl ?_; clear M0; intro g1 w1 M1) | (refine wpL_alc M0 rfl rfl ?_; clear M0; intro g1 w1 M1) | (refine wpL_ldc M0 rfl rfl rfl ?_) | (refine wpL_lgc M0 rfl rfl rfl ?_) | (refine wpL_stc M0 rfl rfl rfl rfl ?_; clear M0; intro w' M0) | (refine wpL_sti M0 rfl rfl rfl rfl ?_; clear M0; intro w' M0) | (refine wpL_sth M0 rfl rfl rfl rfl (wr_minus _ _ _) ?_; clear M0; intro w' M0) | (refine wpL_bx M1 rfl rfl rfl rfl ?_; clear M1; intro g2 w2 M2) | (refine wpL_alc M1 rfl rfl ?_; clear M1; intro g2 w2 M2) | (refine wpL_ldc M1 rfl rfl rfl ?_) | (refine wpL_lgc M1 rfl rfl rfl ?_) | (refine wpL_stc M1 rfl rfl rfl rfl ?_; clear M1; intro w' M1) | (refine wpL_sti M1 rfl rfl rfl rfl ?_; clear M1; intro w' M1) | (refine wpL_sth M1 rfl rfl rfl rfl (wr_minus _ _ _) ?_; clear M1; intro w' M1) | (refine wpL_ldc M2 rfl rfl rfl ?_) | (refine wpL_lgc M2 rfl rfl rfl ?_) | (refine wpL_stc M2 rfl rfl rfl rfl ?_; clear M2; intro w' M2) | (refine wpL_sti M2 rfl rfl rfl rfl ?_; clear M2; intro w' M2) | (refine wpL_sth M2 rfl rfl rfl rfl (wr_minus _ _ _) ?_; clear M2; intro w' M2))))
  have MK : (Instr.makeSlice 30 (.int .i64 (n : Int)) (.int .i64 (n : Int))).run Tryz.prog w2 = .ok (.slice (some ⟨w2.heap.size, 0, none⟩) n n) (w2.alloc (.cells (List.replicate n (Value.slice none 0 0)).toArray 63)) := run_mkNat n (by omega) w2
  have M3 := M2.alloc 63 (List.replicate n (Value.slice none 0 0))
  obtain ⟨w3, hw3⟩ : ∃ w3, w2.alloc (.cells (List.replicate n (Value.slice none 0 0)).toArray 63) = w3 := ⟨_, rfl⟩
  obtain ⟨G, hG⟩ : ∃ G, G = w2.heap.size := ⟨_, rfl⟩
  rw [hw3, ← hG] at MK M3
  have hN0 := Lib.hid (NatsB.start w3 n F)
  have HM3 := Lib.hid M3
  have c25 := M2.cell (.tail _ _ _ _ _ (Has.head _ _ _ _)) (i := 5) rfl
  clear hw3 hG M3
  go_upto_region 2 with (((with_reducible refine (?_ : Go.wpList _ _ _ (_ :: _) _ _)); (first | go_skip | (refine wpL_ldc M2 rfl rfl rfl ?_) | (refine wpL_lgc M2 rfl rfl rfl ?_) | (refine wpL_stc M2 rfl rfl rfl rfl ?_; clear M2; intro w' M2) | (refine wpL_sti M2 rfl rfl rfl rfl ?_; clear M2; intro w' M2) | (refine wpL_sth M2 rfl rfl rfl rfl (wr_minus _ _ _) ?_; clear M2; intro w' M2))))
  have M3 := HM3.out
  clear M2 MK HM3 c25
  go_wp2_with ((with_reducible refine (?_ : Go.wpList _ _ _ (_ :: _) _ _)); (first | go_skip | (refine wpL_ldc M3 rfl rfl rfl ?_) | (refine wpL_lgc M3 rfl rfl rfl ?_) | (refine wpL_stc M3 rfl rfl rfl rfl ?_; clear M3; intro w' M3) | (refine wpL_sti M3 rfl rfl rfl rfl ?_; clear M3; intro w' M3) | (refine wpL_sth M3 rfl rfl rfl rfl (wr_minus _ _ _) ?_; clear M3; intro w' M3)))
  go_loopw [13] (fun i wr => ∃ (k : Nat) (cs : List Value), k ≤ n ∧ i = .int .i64 k ∧ Hid (NatsB wr n cs (partN F k)) ∧ Mem w wr [(G, 63, cs), (g2, 32, fc 0 0 (.slice none 0 0)), (g1, 28, gc x y X Y S (.slice a n cap))]) (fun i _ => n - (intOf i).toNat)
  case atStart => exact ⟨0, _, Nat.zero_le _, rfl, hN0, M3⟩
  case round =>
    clear M3 hN0
    obtain ⟨k, cs, hk, rfl, HN, M⟩ := hrel
    by_cases hlt : k < n
    · obtain ⟨b, o, rfl, hb, hc⟩ := cell64 (HS.out.below M.below) k (by rw [HP.out]; exact hlt)
      rw [HPV.out k hlt] at hc
      have hlen := HN.out.len
      obtain ⟨u0, hu0⟩ : ∃ u0, cs[k]? = some u0 := ⟨_, List.getElem?_eq_getElem (by omega)⟩
      have C := Lib.hid (counted_any (F k) (HLT.out k))
      obtain ⟨z, hz⟩ : ∃ z, z = F k := ⟨_, rfl⟩
      have HZ := Lib.hid hz
      rw [← hz] at C hc
      clear hz
      go_wp2_with fail
      refine (C.out _).mono ?_
      rintro e w5 ⟨v, rfl, hv, hA⟩
      have M5 := M.call hA
      have HN5 := Lib.hid (HN.out.below hA)
      rw [HZ.out] at hv
      obtain ⟨d5, c5, rfl, hS5⟩ := hv.form
      have K5 := M5.has (Has.head _ _ _ _)
      have HS5 := Lib.hid hS5
      clear hv hS5 M HN C hA hc
      go_wp2_with ((with_reducible refine (?_ : Go.wpList _ _ _ (_ :: _) _ _)); (first | go_skip | (refine wpL_stT M5 rfl rfl rfl rfl (wr_natAt (i := k) _ (by omega) rfl) (Upd.head _ _ _ _ _) ?_; intro w6 M6 hT6)))
      have HN6 := Lib.hid (HN5.out.step hlt K5 HS5.out hT6)
      clear HN5 K5 HS5 M5 hT6
      go_roundw
      case rel => exact ⟨k + 1, _, by omega, by go_num, HN6, M6⟩
      case measure => simp [intOf]; omega
    · obtain rfl : k = n := by omega
      have K := M.has (.tail _ _ _ _ _ (Has.head _ _ _ _))
      have c0 := M.cell (.tail _ _ _ _ _ (.tail _ _ _ _ _ (Has.head _ _ _ _))) (i := 0) rfl
      have c1 := M.cell (.tail _ _ _ _ _ (.tail _ _ _ _ _ (Has.head _ _ _ _))) (i := 1) rfl
      have M2 := M
      clear M
      go_wp2_with ((with_reducible refine (?_ : Go.wpList _ _ _ (_ :: _) _ _)); (first | go_skip | (refine wpL_ldc M2 rfl rfl rfl ?_) | (refine wpL_lgc M2 rfl rfl rfl ?_) | (refine wpL_stcT M2 rfl rfl rfl rfl ?_; clear M2; intro w' M2 hT) | (refine wpL_stiT M2 rfl rfl rfl rfl ?_; clear M2; intro w' M2 hT)))
      refine bodyPost_ret (res_cell rfl M2 rfl (.tail _ _ _ _ _ (Has.head _ _ _ _)) (rd_fx _ _ _)) rfl ?_
      have hV := ((HN.out.turnedB K (noPart_f _ _ _ _ _) hT).isV (M2.has (Has.head _ _ _ _)) (by omega))
      have hl : (tabN F k).length = k := tabN_length F k
      refine ⟨some ⟨G, 0, none⟩, k, by rw [hl], by rw [hl]; exact hV, M2.below⟩
end Go.Proofs.YtallbegibdlpaaaGreat

/-
  What all places have in common: the code's, for the numbers that the laws ask.
-/
namespace Go.Proofs.YtallbegibdlpaaaGreat
open Go Go.RowKit Go.Shelf Go.Th Go.Th.Dig Go.Th.Ex Go.Th.Grid

end Go.Proofs.YtallbegibdlpaaaGreat

/-
  How far apart a grid and a filter are: the code's.
-/
namespace Go.Proofs.YtallbegibdlpaaaGreat
open Go Go.RowKit Go.Shelf Go.Th Go.Th.Dig Go.Th.Ex Go.Th.Grid

theorem Mem.perm17 {w0 w : World} {bs bs' : List (Nat × TypeId × List Value)} (M : Mem w0 w bs) (h : bs.Perm bs') : Mem w0 w bs' :=
  ⟨M.below, (h.map _).nodup_iff.1 M.nodup, fun e he => M.old e (h.mem_iff.2 he), fun e he => M.blk e (h.mem_iff.2 he)⟩
theorem zNat17 : (Tryz.prog.info? 63).map (·.zero) = some (some (.agg #[.slice none 0 0])) := by kernel_rfl
theorem dif_sub (p q r : Nat) (h : dif q p = r) : (if p < q then q - p else p - q) = r := by rw [← h]; unfold dif; split <;> split <;> omega

set_option maxRecDepth 20000 in
set_option maxHeartbeats 6400000 in
theorem over1_go (i n cap s t u v p q r : Nat) (x y : Int) (a : Option Addr) (us : List Nat) (uv : Value) (ds dt : Option Addr) (cs ct gs gF gt : Nat) (hi : i < n) (hu : us.getD i 0 = u) (hp : s * v = p) (hq : u * t = q) (hr : dif q p = r)
    (l1 : len32 s ≤ 1000) (l2 : len32 t ≤ 1000) (l3 : len32 u ≤ 1000) (l4 : len32 v ≤ 1000) (l5 : len32 p ≤ 1000) (l6 : len32 q ≤ 1000) (w : World) (hv : IsN w uv v) (hV : IsV w a n cap us)
    (K : Blk w gF 32 (fc x y (.slice a n cap))) (Ks : Blk w gs 63 [.slice ds (len32 s) cs]) (Kt : Blk w gt 63 [.slice dt (len32 t) ct]) (hs : SlN w ds s cs) (ht : SlN w dt t ct) :
    AnsV17 45 #[.int .i64 i, uv, .pointer (some ⟨gs, 0, none⟩), .pointer (some ⟨gF, 0, none⟩), .pointer (some ⟨gt, 0, none⟩)] w r := by
  have hS : IsN w (.agg #[.slice ds (len32 s) cs]) s := ⟨ds, cs, rfl, hs⟩
  have hTn : IsN w (.agg #[.slice dt (len32 t) ct]) t := ⟨dt, ct, rfl, ht⟩
  obtain ⟨b, o, d, e0, f0, rfl, hb, hc, hd⟩ := hV.cell hi
  rw [hu] at hd
  have C1 := Lib.hid (fun (wx : World) (hx : Below w.heap.size w wx) => hp ▸ mul_any16 _ uv s v wx (hS.below hx) (hv.below hx) l1 l4)
  have C2 := Lib.hid (fun (wx : World) (hx : Below w.heap.size w wx) => hq ▸ mul_any16 _ _ u t wx (hd.below hx) (hTn.below hx) l3 l2)
  have C3 := Lib.hid (fun (k1 k2 : Value) (wx : World) (h1 : IsN wx k1 p) (h2 : IsN wx k2 q) => dif_sub p q r hr ▸ sub_any16 k1 k2 p q wx h1 h2 l5 l6)
  obtain ⟨du, cu, rfl, hSu⟩ := hv.form
  have HK := Lib.hid K
  have HKs := Lib.hid Ks
  have HKt := Lib.hid Kt
  have HCC := Lib.hid hc
  have hmx := hV.max
  obtain ⟨ls, hls⟩ : ∃ ls, ls = len32 s := ⟨_, rfl⟩
  obtain ⟨lt, hlt⟩ : ∃ lt, lt = len32 t := ⟨_, rfl⟩
  obtain ⟨lv, hlv⟩ : ∃ lv, lv = len32 v := ⟨_, rfl⟩
  rw [← hls] at C1 HKs
  rw [← hlt] at C2 HKt
  rw [← hlv] at C1 ⊢
  have hi0 : (i : Int) < (n : Int) := by omega
  have M0 := Mem.start w
  clear hS hTn hs ht hv hV hSu K Ks Kt hc hd hu hp hq hr l1 l2 l3 l4 l5 l6 hls hlt hlv
  go_enter Tryz.func45, Tryz.ntmps45
  go_upto_region 1 with (((with_reducible refine (?_ : Go.wpList _ _ _ (_ :: _) _ _)); (first | go_skip | (refine wpL_bx M0 rfl rfl rfl rfl ?_; clear M0; intro g1 w1 M1) | (refine wpL_alc M0 rfl rfl ?_; clear M0; intro g1 w1 M1) | (refine wpL_ldc M0 rfl rfl rfl ?_) | (refine wpL_lgc M0 rfl rfl rfl ?_) | (refine wpL_stc M0 rfl rfl rfl rfl ?_; clear M0; intro w' M0) | (refine wpL_sti M0 rfl rfl rfl rfl ?_; clear M0; intro w' M0) | (refine wpL_sth M0 rfl rfl rfl rfl (wr_minus _ _ _) ?_; clear M0; intro w' M0) | (refine wpL_bx M1 rfl rfl rfl rfl ?_; clear M1; intro g2 w2 M2) | (refine wpL_alc M1 rfl rfl ?_; clear M1; intro g2 w2 M2) | (refine wpL_ldc M1 rfl rfl rfl ?_) | (refine wpL_lgc M1 rfl rfl rfl ?_) | (refine wpL_stc M1 rfl rfl rfl rfl ?_; clear M1; intro w' M1) | (refine wpL_sti M1 rfl rfl rfl rfl ?_; clear M1; intro w' M1) | (refine wpL_sth M1 rfl rfl rfl rfl (wr_minus _ _ _) ?_; clear M1; intro w' M1) | (refine wpL_ldc M2 rfl rfl rfl ?_) | (refine wpL_lgc M2 rfl rfl rfl ?_) | (refine wpL_stc M2 rfl rfl rfl rfl ?_; clear M2; intro w' M2) | (refine wpL_sti M2 rfl rfl rfl rfl ?_; clear M2; intro w' M2) | (refine wpL_sth M2 rfl rfl rfl rfl (wr_minus _ _ _) ?_; clear M2; intro w' M2))))
  refine wp_region_held_drew (S := (fun w' : World => (w'.cell? ⟨gF, 0, none⟩ = some (.int .i64 x) ∧ w'.cell? ⟨gF, 1, none⟩ = some (.int .i64 y) ∧ w'.cell? ⟨gF, 2, none⟩ = some (.slice (some ⟨b, o, none⟩) n cap)) ∧ w'.cell? ⟨b, o + i, none⟩ = some (.slice d e0 f0) ∧ w'.cell? ⟨g1, 0, none⟩ = some (.slice du lv cu) ∧ w'.cell? ⟨gs, 0, none⟩ = some (.slice ds ls cs) ∧ w'.cell? ⟨gt, 0, none⟩ = some (.slice dt lt ct))) (by kernel_rfl) (⟨fcells (HK.out.below M2.drew.below HK.out.lt), (M2.drew.below.cell (p := ⟨b, o + i, none⟩) hb).trans HCC.out, M2.drew.cell (.tail _ _ _ _ _ (Has.head _ _ _ _)) (i := 0) rfl, (HKs.out.below M2.drew.below HKs.out.lt).cell (i := 0) rfl, (HKt.out.below M2.drew.below HKt.out.lt).cell (i := 0) rfl⟩) (fun hHeld => ?_)
  refine tkT 0 ?v59 ?hy59 hHeld ?rest59
  case hy59 => (intro w' hSw; (try dsimp only at hSw); go_simp; (try with_reducible rfl))
  try simp only [Act.put, puts]
  refine tkT 1 ?v60 ?hy60 hHeld ?rest60
  case hy60 => (intro w' hSw; (try dsimp only at hSw); go_simp; (try with_reducible rfl))
  try simp only [Act.put, puts]
  refine tkT 3 ?v61 ?hy61 hHeld ?rest61
  case hy61 => (intro w' hSw; (try dsimp only at hSw); go_simp; (try with_reducible rfl))
  try simp only [Act.put, puts]
  refine tkT 4 ?v62 ?hy62 hHeld ?rest62
  case hy62 => (intro w' hSw; (try dsimp only at hSw); go_simp; (try with_reducible rfl))
  try simp only [Act.put, puts]
  refine tkT 5 ?v63 ?hy63 hHeld ?rest63
  case hy63 => (intro w' hSw; (try dsimp only at hSw); go_simp; (try with_reducible rfl))
  try simp only [Act.put, puts]
  refine tkT 6 ?v64 ?hy64 hHeld ?rest64
  case hy64 => (intro w' hSw; (try dsimp only at hSw); go_simp; (try with_reducible rfl))
  try simp only [Act.put, puts]
  refine tkT 7 ?v65 ?hy65 hHeld ?rest65
  case hy65 => (intro w' hSw; (try dsimp only at hSw); go_simp; (try with_reducible rfl))
  try simp only [Act.put, puts]
  refine tkT 8 ?v66 ?hy66 hHeld ?rest66
  case hy66 => (intro w' hSw; (try dsimp only at hSw); go_simp; (try with_reducible rfl))
  try simp only [Act.put, puts]
  refine wpAnyH_ready (rs := [2]) (by kernel_rfl) (by simp) ?_
  refine AllReadyH.cons rfl (fun K hK => ?_) AllReadyH.nil
  go_simp
  refine (C1.out _ M2.drew.below).mono ?_
  rintro e w3 ⟨k, rfl, hk, hA⟩
  have M3 := M2.drew.call hA
  obtain ⟨d3, c3, rfl, hS3⟩ := hk.form
  have HU3 := Lib.hid hk
  clear hk hS3 hA
  try go_wp2_with fail
  refine hK.out _ _ (⟨fcells (HK.out.below M3.below HK.out.lt), (M3.below.cell (p := ⟨b, o + i, none⟩) hb).trans HCC.out, M3.cell (.tail _ _ _ _ _ (Has.head _ _ _ _)) (i := 0) rfl, (HKs.out.below M3.below HKs.out.lt).cell (i := 0) rfl, (HKt.out.below M3.below HKt.out.lt).cell (i := 0) rfl⟩) (fun hHeld => ?_)
  clear hK K
  try simp only [Act.put, puts]
  refine wpAnyH_ready (rs := [9]) (by kernel_rfl) (by simp) ?_
  refine AllReadyH.cons rfl (fun K hK => ?_) AllReadyH.nil
  go_simp
  refine (C2.out _ M3.below).mono ?_
  rintro e w4 ⟨k, rfl, hk, hA⟩
  have M4 := M3.call hA
  obtain ⟨d4, c4, rfl, hS4⟩ := hk.form
  have HU4 := Lib.hid hk
  have HU34 := Lib.hid (HU3.out.below hA)
  clear hk hS4 hA HU3
  try go_wp2_with fail
  refine hK.out _ _ (⟨fcells (HK.out.below M4.below HK.out.lt), (M4.below.cell (p := ⟨b, o + i, none⟩) hb).trans HCC.out, M4.cell (.tail _ _ _ _ _ (Has.head _ _ _ _)) (i := 0) rfl, (HKs.out.below M4.below HKs.out.lt).cell (i := 0) rfl, (HKt.out.below M4.below HKt.out.lt).cell (i := 0) rfl⟩) (fun hHeld => ?_)
  clear hK K
  try simp only [Act.put, puts]
  refine wpAnyH_ready (rs := [10]) (by kernel_rfl) (by simp) ?_
  refine AllReadyH.cons rfl (fun K hK => ?_) AllReadyH.nil
  go_simp
  refine (C3.out _ _ _ HU34.out HU4.out).mono ?_
  rintro e w5 ⟨k, rfl, hk, hA⟩
  have M5 := M4.call hA
  obtain ⟨d5, c5, rfl, hS5⟩ := hk.form
  have HU5 := Lib.hid hk
  clear hk hS5 hA HU34 HU4
  try go_wp2_with fail
  refine hK.out _ _ (⟨fcells (HK.out.below M5.below HK.out.lt), (M5.below.cell (p := ⟨b, o + i, none⟩) hb).trans HCC.out, M5.cell (.tail _ _ _ _ _ (Has.head _ _ _ _)) (i := 0) rfl, (HKs.out.below M5.below HKs.out.lt).cell (i := 0) rfl, (HKt.out.below M5.below HKt.out.lt).cell (i := 0) rfl⟩) (fun hHeld => ?_)
  clear hK K
  try simp only [Act.put, puts]
  refine wpAnyH_ready (rs := [11]) (by kernel_rfl) (by simp) ?_
  refine AllReadyH.cons rfl (fun K hK => ?_) AllReadyH.nil
  rw [if_pos (by rfl)]
  refine Grid.wp_stM (v := .agg #[.slice d5 (len32 r) c5]) M5 rfl rfl rfl (wr_nat _ _ _ _) (Upd.head _ _ _ _ _) ?_
  intro w6 M6 hT6
  have HU6 := Lib.hid (HU5.out.kept (M5.has (Has.head _ _ _ _)) (noPart_sl _ _ _) hT6)
  refine hK.out _ _ (⟨fcells (HK.out.below M6.below HK.out.lt), (M6.below.cell (p := ⟨b, o + i, none⟩) hb).trans HCC.out, M6.cell (.tail _ _ _ _ _ (Has.head _ _ _ _)) (i := 0) rfl, (HKs.out.below M6.below HKs.out.lt).cell (i := 0) rfl, (HKt.out.below M6.below HKt.out.lt).cell (i := 0) rfl⟩) (fun hHeld => ?_)
  clear hK K
  try simp only [Act.put, puts]
  refine wpAnyH_done (by kernel_rfl) ?_ _
  clear M2 M3 M4 M5 hT6 HU5
  go_wp2_with fail
  refine bodyPost_ret (res_cell rfl M6 rfl (Has.head _ _ _ _) (rd_nat _)) rfl ?_
  exact ⟨_, rfl, HU6.out, M6.below⟩

theorem sumD_tab (us vs : List Nat) (s t n : Nat) : ∀ i, i ≤ n → sumN (tabN (fun j => dif (us.getD j 0 * t) (vs.getD j 0 * s)) n) i = sumD us vs s t i
  | 0, _ => by simp [sumN, sumD]
  | i + 1, h => by rw [sumN_next, sumD_tab us vs s t n i (by omega), sumD, tabN_getD _ n i (by omega)]
theorem over1_made (n cap k s t : Nat) (x y : Int) (a : Option Addr) (us vs : List Nat) (ds dt : Option Addr) (cs ct gs gF gt : Nat) (hl : Lt 63 us) (hm : Lt k vs) (hk : k ≤ 7000) (hs0 : s < 2 ^ (63 + 10)) (ht0 : t < 2 ^ (k + 10)) (w : World) (hV : IsV w a n cap us)
    (K : Blk w gF 32 (fc x y (.slice a n cap))) (Ks : Blk w gs 63 [.slice ds (len32 s) cs]) (Kt : Blk w gt 63 [.slice dt (len32 t) ct]) (hs : SlN w ds s cs) (ht : SlN w dt t ct) :
    MadeF 45 #[.pointer (some ⟨gs, 0, none⟩), .pointer (some ⟨gF, 0, none⟩), .pointer (some ⟨gt, 0, none⟩)] n vs (fun j => dif (us.getD j 0 * t) (vs.getD j 0 * s)) w :=
  ⟨enters_of Tryz.func45 (by kernel_rfl) rfl, fun w' hw' j hj v hv => by
    have L : ∀ {p m : Nat}, p < 2 ^ m → m ≤ 8000 → len32 p ≤ 1000 := fun h hm => Nat.le_trans (d32 (m := 250) h (by omega)) (by omega)
    have hp : s * vs.getD j 0 < 2 ^ (63 + 10 + k) := mul_pow2 hs0 (hm j)
    have hq : us.getD j 0 * t < 2 ^ (63 + (k + 10)) := mul_pow2 (hl j) ht0
    exact over1_go j n cap s t (us.getD j 0) (vs.getD j 0) (s * vs.getD j 0) (us.getD j 0 * t) _ x y a us v ds dt cs ct gs gF gt hj rfl rfl rfl (by rw [Nat.mul_comm s])
      (L hs0 (by omega)) (L ht0 (by omega)) (L (hl j) (by omega)) (L (hm j) (by omega)) (L hp (by omega)) (L hq (by omega)) w' hv (hV.below hw') (K.below hw' K.lt) (Ks.below hw' Ks.lt) (Kt.below hw' Kt.lt) (hs.below hw') (ht.below hw')⟩

set_option maxRecDepth 20000 in
set_option maxHeartbeats 12800000 in
theorem over_go (x y X Y S fx fy b : Int) (a a2 : Option Addr) (n ca cb s t m bn b2 Q P D : Nat) (z : Int) (us ds : List Nat) (R Bt Bs : Bool) (hul : us.length = n) (hdl : ds.length = n) (hn : n ≤ 1000) (hbn : max b 0 = (bn : Int)) (hb2 : b2 = 2 * bn) (hb63 : bn < 9223372036854775808)
    (hR0 : Bs = true ∨ Bt = true → decide (b < 1099511627776) = R) (hR1 : Bs = false → Bt = false → decide (0 < z) = R) (w : World)
    (CF : ∀ wx, Below w.heap.size w wx → Calls Tryz.prog 7 #[gv x y X Y S (.slice a n ca)] wx (ResX x y us wx))
    (CS1 : ∀ wx, Below w.heap.size w wx → AnsV17 42 #[fv fx fy (.slice a2 n cb)] wx t)
    (CS2 : ∀ wx af cf, IsV wx af n cf us → AnsV17 42 #[fv x y (.slice af n cf)] wx s)
    (CZt : ∀ v wx, IsN wx v t → Calls Tryz.prog 43 #[v] wx fun e w' => e = .returned (.bool Bt) ∧ Below wx.heap.size wx w')
    (CZs : ∀ v wx, IsN wx v s → Calls Tryz.prog 43 #[v] wx fun e w' => e = .returned (.bool Bs) ∧ Below wx.heap.size wx w')
    (CE : ∀ wx gs gF gt af cf dsv dtv csv ctv, Below w.heap.size w wx → IsV wx af n cf us → Blk wx gF 32 (fc x y (.slice af n cf)) → Blk wx gs 63 [.slice dsv (len32 s) csv] → Blk wx gt 63 [.slice dtv (len32 t) ctv] → SlN wx dsv s csv → SlN wx dtv t ctv →
      Calls Tryz.prog 44 #[fv fx fy (.slice a2 n cb), .func (.func 45) #[] #[.pointer (some ⟨gs, 0, none⟩), .pointer (some ⟨gF, 0, none⟩), .pointer (some ⟨gt, 0, none⟩)]] wx (ResX fx fy ds wx))
    (CS3 : ∀ wx ad cd, IsV wx ad n cd ds → AnsV17 42 #[fv fx fy (.slice ad n cd)] wx D)
    (CM : ∀ v u wx, IsN wx v s → IsN wx u t → AnsV17 47 #[v, u] wx m)
    (CT : ∀ v wx, IsN wx v m → AnsV17 48 #[v, .int .u64 b2] wx Q)
    (CL : ∀ v wx, IsN wx v D → AnsV17 50 #[v, .int .i64 40] wx P)
    (CC : ∀ v u wx, IsN wx v P → IsN wx u Q → Calls Tryz.prog 49 #[v, u] wx fun e w' => e = .returned (.int .i64 z) ∧ Below wx.heap.size wx w') :
    Calls Tryz.prog 10 #[gv x y X Y S (.slice a n ca), fv fx fy (.slice a2 n cb), .int .i64 b] w fun e w' => e = .returned (.bool R) ∧ Below w.heap.size w w' := by
  have HCF := Lib.hid CF
  have HCS1 := Lib.hid CS1
  have HCS2 := Lib.hid CS2
  have HCZt := Lib.hid CZt
  have HCZs := Lib.hid CZs
  have HCE := Lib.hid CE
  have HCS3 := Lib.hid CS3
  have HCM := Lib.hid CM
  have HCT := Lib.hid CT
  have HCL := Lib.hid CL
  have HCC := Lib.hid CC
  have HUL := Lib.hid hul
  have HDL := Lib.hid hdl
  have HR0 := Lib.hid hR0
  have HR1 := Lib.hid hR1
  have HBN := Lib.hid hbn
  have HB1 : Hid (IntKind.u64.wrap (bn : Int) = (bn : Int)) := Lib.hid (u64_in _ (by omega))
  have HB2 : Hid (IntKind.u64.wrap (2 * (bn : Int)) = (b2 : Int)) := Lib.hid (by have := u64_in b2 (by omega); rw [show (2 : Int) * (bn : Int) = (b2 : Int) by omega]; exact this)
  have hmf : ∀ (A B C : Nat) (wx : World), (Instr.makeFunc (.func 45) #[] #[.pointer (some ⟨A, 0, none⟩), .pointer (some ⟨B, 0, none⟩), .pointer (some ⟨C, 0, none⟩)]).run Tryz.prog wx = .ok (.func (.func 45) #[] #[.pointer (some ⟨A, 0, none⟩), .pointer (some ⟨B, 0, none⟩), .pointer (some ⟨C, 0, none⟩)]) wx := fun _ _ _ _ => rfl
  have M0 := Mem.start w
  clear CF CS1 CS2 CZt CZs CE CS3 CM CT CL CC hul hdl hR0 hR1 hbn hb2 hb63
  go_enter Tryz.func10, Tryz.ntmps10
  go_wp2_with ((with_reducible refine (?_ : Go.wpList _ _ _ (_ :: _) _ _)); (first | go_skip | (refine wpL_bx M0 rfl rfl rfl rfl ?_; clear M0; intro g1 w1 M1) | (refine wpL_alc M0 rfl rfl ?_; clear M0; intro g1 w1 M1) | (refine wpL_ldc M0 rfl rfl rfl ?_) | (refine wpL_lgc M0 rfl rfl rfl ?_) | (refine wpL_stc M0 rfl rfl rfl rfl ?_; clear M0; intro w' M0) | (refine wpL_sti M0 rfl rfl rfl rfl ?_; clear M0; intro w' M0) | (refine wpL_sth M0 rfl rfl rfl rfl (wr_minus _ _ _) ?_; clear M0; intro w' M0) | (refine wpL_bx M1 rfl rfl rfl rfl ?_; clear M1; intro g2 w2 M2) | (refine wpL_alc M1 rfl rfl ?_; clear M1; intro g2 w2 M2) | (refine wpL_ldc M1 rfl rfl rfl ?_) | (refine wpL_lgc M1 rfl rfl rfl ?_) | (refine wpL_stc M1 rfl rfl rfl rfl ?_; clear M1; intro w' M1) | (refine wpL_sti M1 rfl rfl rfl rfl ?_; clear M1; intro w' M1) | (refine wpL_sth M1 rfl rfl rfl rfl (wr_minus _ _ _) ?_; clear M1; intro w' M1) | (refine wpL_ldc M2 rfl rfl rfl ?_) | (refine wpL_lgc M2 rfl rfl rfl ?_) | (refine wpL_stc M2 rfl rfl rfl rfl ?_; clear M2; intro w' M2) | (refine wpL_sti M2 rfl rfl rfl rfl ?_; clear M2; intro w' M2) | (refine wpL_sth M2 rfl rfl rfl rfl (wr_minus _ _ _) ?_; clear M2; intro w' M2)))
  refine (HCF.out _ M2.below).mono ?_
  rintro e wF ⟨af, cf, rfl, hVF, hA⟩
  have MF := M2.call hA
  rw [HUL.out] at hVF ⊢
  have M20 := Mem.start wF
  have HVF := Lib.hid hVF
  clear M2 hA hVF HCF
  go_upto_region 4 with (((with_reducible refine (?_ : Go.wpList _ _ _ (_ :: _) _ _)); (first | go_skip | (refine wpL_bx M20 rfl rfl rfl rfl ?_; clear M20; intro g21 w21 M21) | (refine wpL_alc M20 rfl rfl ?_; clear M20; intro g21 w21 M21) | (refine wpL_ldc M20 rfl rfl rfl ?_) | (refine wpL_lgc M20 rfl rfl rfl ?_) | (refine wpL_stc M20 rfl rfl rfl rfl ?_; clear M20; intro w' M20) | (refine wpL_sti M20 rfl rfl rfl rfl ?_; clear M20; intro w' M20) | (refine wpL_sth M20 rfl rfl rfl rfl (wr_minus _ _ _) ?_; clear M20; intro w' M20) | (refine wpL_ldc M21 rfl rfl rfl ?_) | (refine wpL_lgc M21 rfl rfl rfl ?_) | (refine wpL_stc M21 rfl rfl rfl rfl ?_; clear M21; intro w' M21) | (refine wpL_sti M21 rfl rfl rfl rfl ?_; clear M21; intro w' M21) | (refine wpL_sth M21 rfl rfl rfl rfl (wr_minus _ _ _) ?_; clear M21; intro w' M21))))
  obtain ⟨wA, hwA⟩ : ∃ wA, wA = w' := ⟨_, rfl⟩
  rw [← hwA] at M21 ⊢
  have HF := Lib.hid (HVF.out.below M21.below)
  have HBA := Lib.hid ((Mem.join MF M21).below)
  have K2 := Lib.hid ((Mem.join MF M21).has (.tail _ _ _ _ _ (Has.head _ _ _ _)))
  have K21 := Lib.hid (M21.has (Has.head _ _ _ _))
  have M := Mem.start wA
  clear hwA MF M21 HVF
  try simp only [Act.put, puts]
  go_cut [8, 9] from 12 (fun s8 s9 wx => ∃ (g8 g9 : Nat) (dt : Option Addr) (ct : Nat) (dss : Option Addr) (cs : Nat), s8 = .pointer (some ⟨g8, 0, none⟩) ∧ s9 = .pointer (some ⟨g9, 0, none⟩) ∧ Mem wA wx [(g9, 63, [.slice dss (len32 s) cs]), (g8, 63, [.slice dt (len32 t) ct])] ∧ SlN wx dss s cs ∧ SlN wx dt t ct)
  case first =>
    have M := M.drew
    refine wp_region_held_drew (S := (fun w' : World => (w'.cell? ⟨g2, 0, none⟩ = some (.int .i64 fx) ∧ w'.cell? ⟨g2, 1, none⟩ = some (.int .i64 fy) ∧ w'.cell? ⟨g2, 2, none⟩ = some (.slice a2 n cb)) ∧ (w'.cell? ⟨g21, 0, none⟩ = some (.int .i64 x) ∧ w'.cell? ⟨g21, 1, none⟩ = some (.int .i64 y) ∧ w'.cell? ⟨g21, 2, none⟩ = some (.slice af n cf)))) (by kernel_rfl) (⟨fcells (K2.out.below M.below K2.out.lt), fcells (K21.out.below M.below K21.out.lt)⟩) (fun hHeld => ?_)
    refine tkT 0 ?v5001 ?hy5001 hHeld ?rest5001
    case hy5001 => (intro w' hSw; (try dsimp only at hSw); go_simp; (try with_reducible rfl))
    try simp only [Act.put, puts]
    refine tkT 2 ?v5002 ?hy5002 hHeld ?rest5002
    case hy5002 => (intro w' hSw; (try dsimp only at hSw); go_simp; (try with_reducible rfl))
    try simp only [Act.put, puts]
    refine wpAnyH_ready (rs := [1, 4, 5]) (by kernel_rfl) (by simp) ?_
    refine AllReadyH.cons rfl (fun K hK => ?_) (AllReadyH.cons rfl (fun K hK => ?_) (AllReadyH.cons rfl (fun K hK => ?_) AllReadyH.nil))
    · go_simp
      refine (HCS1.out _ (HBA.out.trans (M.below.mono HBA.out.size))).mono ?_
      rintro e wt9 ⟨kv, rfl, hk, hA⟩
      replace M := M.call hA
      obtain ⟨dt, ct, rfl, hSk⟩ := hk.form
      have Ht := Lib.hid hSk
      clear hk hSk hA
      try go_wp2_with fail
      clear hHeld
      refine hK.out _ _ ⟨fcells (K2.out.below M.below K2.out.lt), fcells (K21.out.below M.below K21.out.lt)⟩ (fun hHeld => ?_)
      clear hK K
      try simp only [Act.put, puts]
      refine wpAnyH_ready (rs := [3, 4, 5]) (by kernel_rfl) (by simp) ?_
      refine AllReadyH.cons rfl (fun K hK => ?_) (AllReadyH.cons rfl (fun K hK => ?_) (AllReadyH.cons rfl (fun K hK => ?_) AllReadyH.nil))
      · go_simp
        refine (HCS2.out _ af cf (HF.out.below M.below)).mono ?_
        rintro e ws9 ⟨kv, rfl, hk, hA⟩
        replace M := M.call hA
        replace Ht := Lib.hid (Ht.out.below hA)
        obtain ⟨dss, cs, rfl, hSk⟩ := hk.form
        have Hs := Lib.hid hSk
        clear hk hSk hA
        try go_wp2_with fail
        clear hHeld
        refine hK.out _ _ ⟨fcells (K2.out.below M.below K2.out.lt), fcells (K21.out.below M.below K21.out.lt)⟩ (fun hHeld => ?_)
        clear hK K
        try simp only [Act.put, puts]
        refine wpAnyH_ready (rs := [4, 5]) (by kernel_rfl) (by simp) ?_
        refine AllReadyH.cons rfl (fun K hK => ?_) (AllReadyH.cons rfl (fun K hK => ?_) AllReadyH.nil)
        · rw [if_pos (by rfl)]
          refine wp_al (Mem.start ws9) rfl zNat17 rfl ?_
          intro g8 wa4 M9
          have hA := M9.below
          replace Ht := Lib.hid (Ht.out.below hA)
          replace Hs := Lib.hid (Hs.out.below hA)
          replace M : Mem wA wa4 [(g8, 63, [.slice none 0 0])] := Mem.join M M9
          clear hA M9
          clear hHeld
          refine hK.out _ _ ⟨fcells (K2.out.below M.below K2.out.lt), fcells (K21.out.below M.below K21.out.lt)⟩ (fun hHeld => ?_)
          clear hK K
          try simp only [Act.put, puts]
          refine wpAnyH_ready (rs := [5]) (by kernel_rfl) (by simp) ?_
          refine AllReadyH.cons rfl (fun K hK => ?_) AllReadyH.nil
          rw [if_pos (by rfl)]
          refine wp_al (Mem.start wa4) rfl zNat17 rfl ?_
          intro g9 wa5 M9
          have hA := M9.below
          replace Ht := Lib.hid (Ht.out.below hA)
          replace Hs := Lib.hid (Hs.out.below hA)
          replace M : Mem wA wa5 [(g9, 63, [.slice none 0 0]), (g8, 63, [.slice none 0 0])] := Mem.join M M9
          clear hA M9
          clear hHeld
          refine hK.out _ _ ⟨fcells (K2.out.below M.below K2.out.lt), fcells (K21.out.below M.below K21.out.lt)⟩ (fun hHeld => ?_)
          clear hK K
          try simp only [Act.put, puts]
          refine wpAnyH_ready (rs := [6]) (by kernel_rfl) (by simp) ?_
          refine AllReadyH.cons rfl (fun K hK => ?_) AllReadyH.nil
          rw [if_pos (by rfl)]
          refine Grid.wp_stM (v := .agg #[.slice dt (len32 t) ct]) M rfl rfl rfl (wr_nat _ _ _ _) (.tail _ _ _ _ _ _ _ (Upd.head _ _ _ _ _)) ?_
          intro wz6 Mn hTn
          replace Hs := Lib.hid (sl_kept Hs.out (M.has (.tail _ _ _ _ _ (Has.head _ _ _ _))) (noPart_sl _ _ _) hTn)
          replace Ht := Lib.hid (sl_kept Ht.out (M.has (.tail _ _ _ _ _ (Has.head _ _ _ _))) (noPart_sl _ _ _) hTn)
          replace M := Mn
          clear hTn hHeld Mn
          refine hK.out _ _ ⟨fcells (K2.out.below M.below K2.out.lt), fcells (K21.out.below M.below K21.out.lt)⟩ (fun hHeld => ?_)
          clear hK K
          try simp only [Act.put, puts]
          refine wpAnyH_ready (rs := [7]) (by kernel_rfl) (by simp) ?_
          refine AllReadyH.cons rfl (fun K hK => ?_) AllReadyH.nil
          rw [if_pos (by rfl)]
          refine Grid.wp_stM (v := .agg #[.slice dss (len32 s) cs]) M rfl rfl rfl (wr_nat _ _ _ _) (Upd.head _ _ _ _ _) ?_
          intro wz7 Mn hTn
          replace Hs := Lib.hid (sl_kept Hs.out (M.has (Has.head _ _ _ _)) (noPart_sl _ _ _) hTn)
          replace Ht := Lib.hid (sl_kept Ht.out (M.has (Has.head _ _ _ _)) (noPart_sl _ _ _) hTn)
          replace M := Mn
          clear hTn hHeld Mn
          refine hK.out _ _ ⟨fcells (K2.out.below M.below K2.out.lt), fcells (K21.out.below M.below K21.out.lt)⟩ (fun hHeld => ?_)
          clear hK K
          try simp only [Act.put, puts]
          refine wpAnyH_done (by kernel_rfl) ?_ _
          go_wp2_with fail
          go_meet
          exact ⟨g8, g9, dt, ct, dss, cs, rfl, rfl, Mem.perm17 M (List.Perm.refl _), Hs.out, Ht.out⟩
        · rw [if_pos (by rfl)]
          refine wp_al (Mem.start ws9) rfl zNat17 rfl ?_
          intro g9 wa5 M9
          have hA := M9.below
          replace Ht := Lib.hid (Ht.out.below hA)
          replace Hs := Lib.hid (Hs.out.below hA)
          replace M : Mem wA wa5 [(g9, 63, [.slice none 0 0])] := Mem.join M M9
          clear hA M9
          clear hHeld
          refine hK.out _ _ ⟨fcells (K2.out.below M.below K2.out.lt), fcells (K21.out.below M.below K21.out.lt)⟩ (fun hHeld => ?_)
          clear hK K
          try simp only [Act.put, puts]
          refine wpAnyH_ready (rs := [4]) (by kernel_rfl) (by simp) ?_
          refine AllReadyH.cons rfl (fun K hK => ?_) AllReadyH.nil
          rw [if_pos (by rfl)]
          refine wp_al (Mem.start wa5) rfl zNat17 rfl ?_
          intro g8 wa4 M9
          have hA := M9.below
          replace Ht := Lib.hid (Ht.out.below hA)
          replace Hs := Lib.hid (Hs.out.below hA)
          replace M : Mem wA wa4 [(g8, 63, [.slice none 0 0]), (g9, 63, [.slice none 0 0])] := Mem.join M M9
          clear hA M9
          clear hHeld
          refine hK.out _ _ ⟨fcells (K2.out.below M.below K2.out.lt), fcells (K21.out.below M.below K21.out.lt)⟩ (fun hHeld => ?_)
          clear hK K
          try simp only [Act.put, puts]
          refine wpAnyH_ready (rs := [6]) (by kernel_rfl) (by simp) ?_
          refine AllReadyH.cons rfl (fun K hK => ?_) AllReadyH.nil
          rw [if_pos (by rfl)]
          refine Grid.wp_stM (v := .agg #[.slice dt (len32 t) ct]) M rfl rfl rfl (wr_nat _ _ _ _) (Upd.head _ _ _ _ _) ?_
          intro wz6 Mn hTn
          replace Hs := Lib.hid (sl_kept Hs.out (M.has (Has.head _ _ _ _)) (noPart_sl _ _ _) hTn)
          replace Ht := Lib.hid (sl_kept Ht.out (M.has (Has.head _ _ _ _)) (noPart_sl _ _ _) hTn)
          replace M := Mn
          clear hTn hHeld Mn
          refine hK.out _ _ ⟨fcells (K2.out.below M.below K2.out.lt), fcells (K21.out.below M.below K21.out.lt)⟩ (fun hHeld => ?_)
          clear hK K
          try simp only [Act.put, puts]
          refine wpAnyH_ready (rs := [7]) (by kernel_rfl) (by simp) ?_
          refine AllReadyH.cons rfl (fun K hK => ?_) AllReadyH.nil
          rw [if_pos (by rfl)]
          refine Grid.wp_stM (v := .agg #[.slice dss (len32 s) cs]) M rfl rfl rfl (wr_nat _ _ _ _) (.tail _ _ _ _ _ _ _ (Upd.head _ _ _ _ _)) ?_
          intro wz7 Mn hTn
          replace Hs := Lib.hid (sl_kept Hs.out (M.has (.tail _ _ _ _ _ (Has.head _ _ _ _))) (noPart_sl _ _ _) hTn)
          replace Ht := Lib.hid (sl_kept Ht.out (M.has (.tail _ _ _ _ _ (Has.head _ _ _ _))) (noPart_sl _ _ _) hTn)
          replace M := Mn
          clear hTn hHeld Mn
          refine hK.out _ _ ⟨fcells (K2.out.below M.below K2.out.lt), fcells (K21.out.below M.below K21.out.lt)⟩ (fun hHeld => ?_)
          clear hK K
          try simp only [Act.put, puts]
          refine wpAnyH_done (by kernel_rfl) ?_ _
          go_wp2_with fail
          go_meet
          exact ⟨g8, g9, dt, ct, dss, cs, rfl, rfl, Mem.perm17 M (List.Perm.swap _ _ _), Hs.out, Ht.out⟩
      · rw [if_pos (by rfl)]
        refine wp_al (Mem.start wt9) rfl zNat17 rfl ?_
        intro g8 wa4 M9
        have hA := M9.below
        replace Ht := Lib.hid (Ht.out.below hA)
        replace M : Mem wA wa4 [(g8, 63, [.slice none 0 0])] := Mem.join M M9
        clear hA M9
        clear hHeld
        refine hK.out _ _ ⟨fcells (K2.out.below M.below K2.out.lt), fcells (K21.out.below M.below K21.out.lt)⟩ (fun hHeld => ?_)
        clear hK K
        try simp only [Act.put, puts]
        refine wpAnyH_ready (rs := [3, 5]) (by kernel_rfl) (by simp) ?_
        refine AllReadyH.cons rfl (fun K hK => ?_) (AllReadyH.cons rfl (fun K hK => ?_) AllReadyH.nil)
        · go_simp
          refine (HCS2.out _ af cf (HF.out.below M.below)).mono ?_
          rintro e ws9 ⟨kv, rfl, hk, hA⟩
          replace M := M.call hA
          replace Ht := Lib.hid (Ht.out.below hA)
          obtain ⟨dss, cs, rfl, hSk⟩ := hk.form
          have Hs := Lib.hid hSk
          clear hk hSk hA
          try go_wp2_with fail
          clear hHeld
          refine hK.out _ _ ⟨fcells (K2.out.below M.below K2.out.lt), fcells (K21.out.below M.below K21.out.lt)⟩ (fun hHeld => ?_)
          clear hK K
          try simp only [Act.put, puts]
          refine wpAnyH_ready (rs := [5]) (by kernel_rfl) (by simp) ?_
          refine AllReadyH.cons rfl (fun K hK => ?_) AllReadyH.nil
          rw [if_pos (by rfl)]
          refine wp_al (Mem.start ws9) rfl zNat17 rfl ?_
          intro g9 wa5 M9
          have hA := M9.below
          replace Ht := Lib.hid (Ht.out.below hA)
          replace Hs := Lib.hid (Hs.out.below hA)
          replace M : Mem wA wa5 [(g9, 63, [.slice none 0 0]), (g8, 63, [.slice none 0 0])] := Mem.join M M9
          clear hA M9
          clear hHeld
          refine hK.out _ _ ⟨fcells (K2.out.below M.below K2.out.lt), fcells (K21.out.below M.below K21.out.lt)⟩ (fun hHeld => ?_)
          clear hK K
          try simp only [Act.put, puts]
          refine wpAnyH_ready (rs := [6]) (by kernel_rfl) (by simp) ?_
          refine AllReadyH.cons rfl (fun K hK => ?_) AllReadyH.nil
          rw [if_pos (by rfl)]
          refine Grid.wp_stM (v := .agg #[.slice dt (len32 t) ct]) M rfl rfl rfl (wr_nat _ _ _ _) (.tail _ _ _ _ _ _ _ (Upd.head _ _ _ _ _)) ?_
          intro wz6 Mn hTn
          replace Hs := Lib.hid (sl_kept Hs.out (M.has (.tail _ _ _ _ _ (Has.head _ _ _ _))) (noPart_sl _ _ _) hTn)
          replace Ht := Lib.hid (sl_kept Ht.out (M.has (.tail _ _ _ _ _ (Has.head _ _ _ _))) (noPart_sl _ _ _) hTn)
          replace M := Mn
          clear hTn hHeld Mn
          refine hK.out _ _ ⟨fcells (K2.out.below M.below K2.out.lt), fcells (K21.out.below M.below K21.out.lt)⟩ (fun hHeld => ?_)
          clear hK K
          try simp only [Act.put, puts]
          refine wpAnyH_ready (rs := [7]) (by kernel_rfl) (by simp) ?_
          refine AllReadyH.cons rfl (fun K hK => ?_) AllReadyH.nil
          rw [if_pos (by rfl)]
          refine Grid.wp_stM (v := .agg #[.slice dss (len32 s) cs]) M rfl rfl rfl (wr_nat _ _ _ _) (Upd.head _ _ _ _ _) ?_
          intro wz7 Mn hTn
          replace Hs := Lib.hid (sl_kept Hs.out (M.has (Has.head _ _ _ _)) (noPart_sl _ _ _) hTn)
          replace Ht := Lib.hid (sl_kept Ht.out (M.has (Has.head _ _ _ _)) (noPart_sl _ _ _) hTn)
          replace M := Mn
          clear hTn hHeld Mn
          refine hK.out _ _ ⟨fcells (K2.out.below M.below K2.out.lt), fcells (K21.out.below M.below K21.out.lt)⟩ (fun hHeld => ?_)
          clear hK K
          try simp only [Act.put, puts]
          refine wpAnyH_done (by kernel_rfl) ?_ _
          go_wp2_with fail
          go_meet
          exact ⟨g8, g9, dt, ct, dss, cs, rfl, rfl, Mem.perm17 M (List.Perm.refl _), Hs.out, Ht.out⟩
        · rw [if_pos (by rfl)]
          refine wp_al (Mem.start wa4) rfl zNat17 rfl ?_
          intro g9 wa5 M9
          have hA := M9.below
          replace Ht := Lib.hid (Ht.out.below hA)
          replace M : Mem wA wa5 [(g9, 63, [.slice none 0 0]), (g8, 63, [.slice none 0 0])] := Mem.join M M9
          clear hA M9
          clear hHeld
          refine hK.out _ _ ⟨fcells (K2.out.below M.below K2.out.lt), fcells (K21.out.below M.below K21.out.lt)⟩ (fun hHeld => ?_)
          clear hK K
          try simp only [Act.put, puts]
          refine wpAnyH_ready (rs := [3]) (by kernel_rfl) (by simp) ?_
          refine AllReadyH.cons rfl (fun K hK => ?_) AllReadyH.nil
          go_simp
          refine (HCS2.out _ af cf (HF.out.below M.below)).mono ?_
          rintro e ws9 ⟨kv, rfl, hk, hA⟩
          replace M := M.call hA
          replace Ht := Lib.hid (Ht.out.below hA)
          obtain ⟨dss, cs, rfl, hSk⟩ := hk.form
          have Hs := Lib.hid hSk
          clear hk hSk hA
          try go_wp2_with fail
          clear hHeld
          refine hK.out _ _ ⟨fcells (K2.out.below M.below K2.out.lt), fcells (K21.out.below M.below K21.out.lt)⟩ (fun hHeld => ?_)
          clear hK K
          try simp only [Act.put, puts]
          refine wpAnyH_ready (rs := [6]) (by kernel_rfl) (by simp) ?_
          refine AllReadyH.cons rfl (fun K hK => ?_) AllReadyH.nil
          rw [if_pos (by rfl)]
          refine Grid.wp_stM (v := .agg #[.slice dt (len32 t) ct]) M rfl rfl rfl (wr_nat _ _ _ _) (.tail _ _ _ _ _ _ _ (Upd.head _ _ _ _ _)) ?_
          intro wz6 Mn hTn
          replace Hs := Lib.hid (sl_kept Hs.out (M.has (.tail _ _ _ _ _ (Has.head _ _ _ _))) (noPart_sl _ _ _) hTn)
          replace Ht := Lib.hid (sl_kept Ht.out (M.has (.tail _ _ _ _ _ (Has.head _ _ _ _))) (noPart_sl _ _ _) hTn)
          replace M := Mn
          clear hTn hHeld Mn
          refine hK.out _ _ ⟨fcells (K2.out.below M.below K2.out.lt), fcells (K21.out.below M.below K21.out.lt)⟩ (fun hHeld => ?_)
          clear hK K
          try simp only [Act.put, puts]
          refine wpAnyH_ready (rs := [7]) (by kernel_rfl) (by simp) ?_
          refine AllReadyH.cons rfl (fun K hK => ?_) AllReadyH.nil
          rw [if_pos (by rfl)]
          refine Grid.wp_stM (v := .agg #[.slice dss (len32 s) cs]) M rfl rfl rfl (wr_nat _ _ _ _) (Upd.head _ _ _ _ _) ?_
          intro wz7 Mn hTn
          replace Hs := Lib.hid (sl_kept Hs.out (M.has (Has.head _ _ _ _)) (noPart_sl _ _ _) hTn)
          replace Ht := Lib.hid (sl_kept Ht.out (M.has (Has.head _ _ _ _)) (noPart_sl _ _ _) hTn)
          replace M := Mn
          clear hTn hHeld Mn
          refine hK.out _ _ ⟨fcells (K2.out.below M.below K2.out.lt), fcells (K21.out.below M.below K21.out.lt)⟩ (fun hHeld => ?_)
          clear hK K
          try simp only [Act.put, puts]
          refine wpAnyH_done (by kernel_rfl) ?_ _
          go_wp2_with fail
          go_meet
          exact ⟨g8, g9, dt, ct, dss, cs, rfl, rfl, Mem.perm17 M (List.Perm.refl _), Hs.out, Ht.out⟩
      · rw [if_pos (by rfl)]
        refine wp_al (Mem.start wt9) rfl zNat17 rfl ?_
        intro g9 wa5 M9
        have hA := M9.below
        replace Ht := Lib.hid (Ht.out.below hA)
        replace M : Mem wA wa5 [(g9, 63, [.slice none 0 0])] := Mem.join M M9
        clear hA M9
        clear hHeld
        refine hK.out _ _ ⟨fcells (K2.out.below M.below K2.out.lt), fcells (K21.out.below M.below K21.out.lt)⟩ (fun hHeld => ?_)
        clear hK K
        try simp only [Act.put, puts]
        refine wpAnyH_ready (rs := [3, 4]) (by kernel_rfl) (by simp) ?_
        refine AllReadyH.cons rfl (fun K hK => ?_) (AllReadyH.cons rfl (fun K hK => ?_) AllReadyH.nil)
        · go_simp
          refine (HCS2.out _ af cf (HF.out.below M.below)).mono ?_
          rintro e ws9 ⟨kv, rfl, hk, hA⟩
          replace M := M.call hA
          replace Ht := Lib.hid (Ht.out.below hA)
          obtain ⟨dss, cs, rfl, hSk⟩ := hk.form
          have Hs := Lib.hid hSk
          clear hk hSk hA
          try go_wp2_with fail
          clear hHeld
          refine hK.out _ _ ⟨fcells (K2.out.below M.below K2.out.lt), fcells (K21.out.below M.below K21.out.lt)⟩ (fun hHeld => ?_)
          clear hK K
          try simp only [Act.put, puts]
          refine wpAnyH_ready (rs := [4]) (by kernel_rfl) (by simp) ?_
          refine AllReadyH.cons rfl (fun K hK => ?_) AllReadyH.nil
          rw [if_pos (by rfl)]
          refine wp_al (Mem.start ws9) rfl zNat17 rfl ?_
          intro g8 wa4 M9
          have hA := M9.below
          replace Ht := Lib.hid (Ht.out.below hA)
          replace Hs := Lib.hid (Hs.out.below hA)
          replace M : Mem wA wa4 [(g8, 63, [.slice none 0 0]), (g9, 63, [.slice none 0 0])] := Mem.join M M9
          clear hA M9
          clear hHeld
          refine hK.out _ _ ⟨fcells (K2.out.below M.below K2.out.lt), fcells (K21.out.below M.below K21.out.lt)⟩ (fun hHeld => ?_)
          clear hK K
          try simp only [Act.put, puts]
          refine wpAnyH_ready (rs := [6]) (by kernel_rfl) (by simp) ?_
          refine AllReadyH.cons rfl (fun K hK => ?_) AllReadyH.nil
          rw [if_pos (by rfl)]
          refine Grid.wp_stM (v := .agg #[.slice dt (len32 t) ct]) M rfl rfl rfl (wr_nat _ _ _ _) (Upd.head _ _ _ _ _) ?_
          intro wz6 Mn hTn
          replace Hs := Lib.hid (sl_kept Hs.out (M.has (Has.head _ _ _ _)) (noPart_sl _ _ _) hTn)
          replace Ht := Lib.hid (sl_kept Ht.out (M.has (Has.head _ _ _ _)) (noPart_sl _ _ _) hTn)
          replace M := Mn
          clear hTn hHeld Mn
          refine hK.out _ _ ⟨fcells (K2.out.below M.below K2.out.lt), fcells (K21.out.below M.below K21.out.lt)⟩ (fun hHeld => ?_)
          clear hK K
          try simp only [Act.put, puts]
          refine wpAnyH_ready (rs := [7]) (by kernel_rfl) (by simp) ?_
          refine AllReadyH.cons rfl (fun K hK => ?_) AllReadyH.nil
          rw [if_pos (by rfl)]
          refine Grid.wp_stM (v := .agg #[.slice dss (len32 s) cs]) M rfl rfl rfl (wr_nat _ _ _ _) (.tail _ _ _ _ _ _ _ (Upd.head _ _ _ _ _)) ?_
          intro wz7 Mn hTn
          replace Hs := Lib.hid (sl_kept Hs.out (M.has (.tail _ _ _ _ _ (Has.head _ _ _ _))) (noPart_sl _ _ _) hTn)
          replace Ht := Lib.hid (sl_kept Ht.out (M.has (.tail _ _ _ _ _ (Has.head _ _ _ _))) (noPart_sl _ _ _) hTn)
          replace M := Mn
          clear hTn hHeld Mn
          refine hK.out _ _ ⟨fcells (K2.out.below M.below K2.out.lt), fcells (K21.out.below M.below K21.out.lt)⟩ (fun hHeld => ?_)
          clear hK K
          try simp only [Act.put, puts]
          refine wpAnyH_done (by kernel_rfl) ?_ _
          go_wp2_with fail
          go_meet
          exact ⟨g8, g9, dt, ct, dss, cs, rfl, rfl, Mem.perm17 M (List.Perm.swap _ _ _), Hs.out, Ht.out⟩
        · rw [if_pos (by rfl)]
          refine wp_al (Mem.start wa5) rfl zNat17 rfl ?_
          intro g8 wa4 M9
          have hA := M9.below
          replace Ht := Lib.hid (Ht.out.below hA)
          replace M : Mem wA wa4 [(g8, 63, [.slice none 0 0]), (g9, 63, [.slice none 0 0])] := Mem.join M M9
          clear hA M9
          clear hHeld
          refine hK.out _ _ ⟨fcells (K2.out.below M.below K2.out.lt), fcells (K21.out.below M.below K21.out.lt)⟩ (fun hHeld => ?_)
          clear hK K
          try simp only [Act.put, puts]
          refine wpAnyH_ready (rs := [3]) (by kernel_rfl) (by simp) ?_
          refine AllReadyH.cons rfl (fun K hK => ?_) AllReadyH.nil
          go_simp
          refine (HCS2.out _ af cf (HF.out.below M.below)).mono ?_
          rintro e ws9 ⟨kv, rfl, hk, hA⟩
          replace M := M.call hA
          replace Ht := Lib.hid (Ht.out.below hA)
          obtain ⟨dss, cs, rfl, hSk⟩ := hk.form
          have Hs := Lib.hid hSk
          clear hk hSk hA
          try go_wp2_with fail
          clear hHeld
          refine hK.out _ _ ⟨fcells (K2.out.below M.below K2.out.lt), fcells (K21.out.below M.below K21.out.lt)⟩ (fun hHeld => ?_)
          clear hK K
          try simp only [Act.put, puts]
          refine wpAnyH_ready (rs := [6]) (by kernel_rfl) (by simp) ?_
          refine AllReadyH.cons rfl (fun K hK => ?_) AllReadyH.nil
          rw [if_pos (by rfl)]
          refine Grid.wp_stM (v := .agg #[.slice dt (len32 t) ct]) M rfl rfl rfl (wr_nat _ _ _ _) (Upd.head _ _ _ _ _) ?_
          intro wz6 Mn hTn
          replace Hs := Lib.hid (sl_kept Hs.out (M.has (Has.head _ _ _ _)) (noPart_sl _ _ _) hTn)
          replace Ht := Lib.hid (sl_kept Ht.out (M.has (Has.head _ _ _ _)) (noPart_sl _ _ _) hTn)
          replace M := Mn
          clear hTn hHeld Mn
          refine hK.out _ _ ⟨fcells (K2.out.below M.below K2.out.lt), fcells (K21.out.below M.below K21.out.lt)⟩ (fun hHeld => ?_)
          clear hK K
          try simp only [Act.put, puts]
          refine wpAnyH_ready (rs := [7]) (by kernel_rfl) (by simp) ?_
          refine AllReadyH.cons rfl (fun K hK => ?_) AllReadyH.nil
          rw [if_pos (by rfl)]
          refine Grid.wp_stM (v := .agg #[.slice dss (len32 s) cs]) M rfl rfl rfl (wr_nat _ _ _ _) (.tail _ _ _ _ _ _ _ (Upd.head _ _ _ _ _)) ?_
          intro wz7 Mn hTn
          replace Hs := Lib.hid (sl_kept Hs.out (M.has (.tail _ _ _ _ _ (Has.head _ _ _ _))) (noPart_sl _ _ _) hTn)
          replace Ht := Lib.hid (sl_kept Ht.out (M.has (.tail _ _ _ _ _ (Has.head _ _ _ _))) (noPart_sl _ _ _) hTn)
          replace M := Mn
          clear hTn hHeld Mn
          refine hK.out _ _ ⟨fcells (K2.out.below M.below K2.out.lt), fcells (K21.out.below M.below K21.out.lt)⟩ (fun hHeld => ?_)
          clear hK K
          try simp only [Act.put, puts]
          refine wpAnyH_done (by kernel_rfl) ?_ _
          go_wp2_with fail
          go_meet
          exact ⟨g8, g9, dt, ct, dss, cs, rfl, rfl, Mem.perm17 M (List.Perm.swap _ _ _), Hs.out, Ht.out⟩
    · rw [if_pos (by rfl)]
      refine wp_al (Mem.start wA.drew) rfl zNat17 rfl ?_
      intro g8 wa4 M9
      have hA := M9.below
      replace M : Mem wA wa4 [(g8, 63, [.slice none 0 0])] := Mem.join M M9
      clear hA M9
      clear hHeld
      refine hK.out _ _ ⟨fcells (K2.out.below M.below K2.out.lt), fcells (K21.out.below M.below K21.out.lt)⟩ (fun hHeld => ?_)
      clear hK K
      try simp only [Act.put, puts]
      refine wpAnyH_ready (rs := [1, 5]) (by kernel_rfl) (by simp) ?_
      refine AllReadyH.cons rfl (fun K hK => ?_) (AllReadyH.cons rfl (fun K hK => ?_) AllReadyH.nil)
      · go_simp
        refine (HCS1.out _ (HBA.out.trans (M.below.mono HBA.out.size))).mono ?_
        rintro e wt9 ⟨kv, rfl, hk, hA⟩
        replace M := M.call hA
        obtain ⟨dt, ct, rfl, hSk⟩ := hk.form
        have Ht := Lib.hid hSk
        clear hk hSk hA
        try go_wp2_with fail
        clear hHeld
        refine hK.out _ _ ⟨fcells (K2.out.below M.below K2.out.lt), fcells (K21.out.below M.below K21.out.lt)⟩ (fun hHeld => ?_)
        clear hK K
        try simp only [Act.put, puts]
        refine wpAnyH_ready (rs := [3, 5]) (by kernel_rfl) (by simp) ?_
        refine AllReadyH.cons rfl (fun K hK => ?_) (AllReadyH.cons rfl (fun K hK => ?_) AllReadyH.nil)
        · go_simp
          refine (HCS2.out _ af cf (HF.out.below M.below)).mono ?_
          rintro e ws9 ⟨kv, rfl, hk, hA⟩
          replace M := M.call hA
          replace Ht := Lib.hid (Ht.out.below hA)
          obtain ⟨dss, cs, rfl, hSk⟩ := hk.form
          have Hs := Lib.hid hSk
          clear hk hSk hA
          try go_wp2_with fail
          clear hHeld
          refine hK.out _ _ ⟨fcells (K2.out.below M.below K2.out.lt), fcells (K21.out.below M.below K21.out.lt)⟩ (fun hHeld => ?_)
          clear hK K
          try simp only [Act.put, puts]
          refine wpAnyH_ready (rs := [5]) (by kernel_rfl) (by simp) ?_
          refine AllReadyH.cons rfl (fun K hK => ?_) AllReadyH.nil
          rw [if_pos (by rfl)]
          refine wp_al (Mem.start ws9) rfl zNat17 rfl ?_
          intro g9 wa5 M9
          have hA := M9.below
          replace Ht := Lib.hid (Ht.out.below hA)
          replace Hs := Lib.hid (Hs.out.below hA)
          replace M : Mem wA wa5 [(g9, 63, [.slice none 0 0]), (g8, 63, [.slice none 0 0])] := Mem.join M M9
          clear hA M9
          clear hHeld
          refine hK.out _ _ ⟨fcells (K2.out.below M.below K2.out.lt), fcells (K21.out.below M.below K21.out.lt)⟩ (fun hHeld => ?_)
          clear hK K
          try simp only [Act.put, puts]
          refine wpAnyH_ready (rs := [6]) (by kernel_rfl) (by simp) ?_
          refine AllReadyH.cons rfl (fun K hK => ?_) AllReadyH.nil
          rw [if_pos (by rfl)]
          refine Grid.wp_stM (v := .agg #[.slice dt (len32 t) ct]) M rfl rfl rfl (wr_nat _ _ _ _) (.tail _ _ _ _ _ _ _ (Upd.head _ _ _ _ _)) ?_
          intro wz6 Mn hTn
          replace Hs := Lib.hid (sl_kept Hs.out (M.has (.tail _ _ _ _ _ (Has.head _ _ _ _))) (noPart_sl _ _ _) hTn)
          replace Ht := Lib.hid (sl_kept Ht.out (M.has (.tail _ _ _ _ _ (Has.head _ _ _ _))) (noPart_sl _ _ _) hTn)
          replace M := Mn
          clear hTn hHeld Mn
          refine hK.out _ _ ⟨fcells (K2.out.below M.below K2.out.lt), fcells (K21.out.below M.below K21.out.lt)⟩ (fun hHeld => ?_)
          clear hK K
          try simp only [Act.put, puts]
          refine wpAnyH_ready (rs := [7]) (by kernel_rfl) (by simp) ?_
          refine AllReadyH.cons rfl (fun K hK => ?_) AllReadyH.nil
          rw [if_pos (by rfl)]
          refine Grid.wp_stM (v := .agg #[.slice dss (len32 s) cs]) M rfl rfl rfl (wr_nat _ _ _ _) (Upd.head _ _ _ _ _) ?_
          intro wz7 Mn hTn
          replace Hs := Lib.hid (sl_kept Hs.out (M.has (Has.head _ _ _ _)) (noPart_sl _ _ _) hTn)
          replace Ht := Lib.hid (sl_kept Ht.out (M.has (Has.head _ _ _ _)) (noPart_sl _ _ _) hTn)
          replace M := Mn
          clear hTn hHeld Mn
          refine hK.out _ _ ⟨fcells (K2.out.below M.below K2.out.lt), fcells (K21.out.below M.below K21.out.lt)⟩ (fun hHeld => ?_)
          clear hK K
          try simp only [Act.put, puts]
          refine wpAnyH_done (by kernel_rfl) ?_ _
          go_wp2_with fail
          go_meet
          exact ⟨g8, g9, dt, ct, dss, cs, rfl, rfl, Mem.perm17 M (List.Perm.refl _), Hs.out, Ht.out⟩
        · rw [if_pos (by rfl)]
          refine wp_al (Mem.start wt9) rfl zNat17 rfl ?_
          intro g9 wa5 M9
          have hA := M9.below
          replace Ht := Lib.hid (Ht.out.below hA)
          replace M : Mem wA wa5 [(g9, 63, [.slice none 0 0]), (g8, 63, [.slice none 0 0])] := Mem.join M M9
          clear hA M9
          clear hHeld
          refine hK.out _ _ ⟨fcells (K2.out.below M.below K2.out.lt), fcells (K21.out.below M.below K21.out.lt)⟩ (fun hHeld => ?_)
          clear hK K
          try simp only [Act.put, puts]
          refine wpAnyH_ready (rs := [3]) (by kernel_rfl) (by simp) ?_
          refine AllReadyH.cons rfl (fun K hK => ?_) AllReadyH.nil
          go_simp
          refine (HCS2.out _ af cf (HF.out.below M.below)).mono ?_
          rintro e ws9 ⟨kv, rfl, hk, hA⟩
          replace M := M.call hA
          replace Ht := Lib.hid (Ht.out.below hA)
          obtain ⟨dss, cs, rfl, hSk⟩ := hk.form
          have Hs := Lib.hid hSk
          clear hk hSk hA
          try go_wp2_with fail
          clear hHeld
          refine hK.out _ _ ⟨fcells (K2.out.below M.below K2.out.lt), fcells (K21.out.below M.below K21.out.lt)⟩ (fun hHeld => ?_)
          clear hK K
          try simp only [Act.put, puts]
          refine wpAnyH_ready (rs := [6]) (by kernel_rfl) (by simp) ?_
          refine AllReadyH.cons rfl (fun K hK => ?_) AllReadyH.nil
          rw [if_pos (by rfl)]
          refine Grid.wp_stM (v := .agg #[.slice dt (len32 t) ct]) M rfl rfl rfl (wr_nat _ _ _ _) (.tail _ _ _ _ _ _ _ (Upd.head _ _ _ _ _)) ?_
          intro wz6 Mn hTn
          replace Hs := Lib.hid (sl_kept Hs.out (M.has (.tail _ _ _ _ _ (Has.head _ _ _ _))) (noPart_sl _ _ _) hTn)
          replace Ht := Lib.hid (sl_kept Ht.out (M.has (.tail _ _ _ _ _ (Has.head _ _ _ _))) (noPart_sl _ _ _) hTn)
          replace M := Mn
          clear hTn hHeld Mn
          refine hK.out _ _ ⟨fcells (K2.out.below M.below K2.out.lt), fcells (K21.out.below M.below K21.out.lt)⟩ (fun hHeld => ?_)
          clear hK K
          try simp only [Act.put, puts]
          refine wpAnyH_ready (rs := [7]) (by kernel_rfl) (by simp) ?_
          refine AllReadyH.cons rfl (fun K hK => ?_) AllReadyH.nil
          rw [if_pos (by rfl)]
          refine Grid.wp_stM (v := .agg #[.slice dss (len32 s) cs]) M rfl rfl rfl (wr_nat _ _ _ _) (Upd.head _ _ _ _ _) ?_
          intro wz7 Mn hTn
          replace Hs := Lib.hid (sl_kept Hs.out (M.has (Has.head _ _ _ _)) (noPart_sl _ _ _) hTn)
          replace Ht := Lib.hid (sl_kept Ht.out (M.has (Has.head _ _ _ _)) (noPart_sl _ _ _) hTn)
          replace M := Mn
          clear hTn hHeld Mn
          refine hK.out _ _ ⟨fcells (K2.out.below M.below K2.out.lt), fcells (K21.out.below M.below K21.out.lt)⟩ (fun hHeld => ?_)
          clear hK K
          try simp only [Act.put, puts]
          refine wpAnyH_done (by kernel_rfl) ?_ _
          go_wp2_with fail
          go_meet
          exact ⟨g8, g9, dt, ct, dss, cs, rfl, rfl, Mem.perm17 M (List.Perm.refl _), Hs.out, Ht.out⟩
      · rw [if_pos (by rfl)]
        refine wp_al (Mem.start wa4) rfl zNat17 rfl ?_
        intro g9 wa5 M9
        have hA := M9.below
        replace M : Mem wA wa5 [(g9, 63, [.slice none 0 0]), (g8, 63, [.slice none 0 0])] := Mem.join M M9
        clear hA M9
        clear hHeld
        refine hK.out _ _ ⟨fcells (K2.out.below M.below K2.out.lt), fcells (K21.out.below M.below K21.out.lt)⟩ (fun hHeld => ?_)
        clear hK K
        try simp only [Act.put, puts]
        refine wpAnyH_ready (rs := [1]) (by kernel_rfl) (by simp) ?_
        refine AllReadyH.cons rfl (fun K hK => ?_) AllReadyH.nil
        go_simp
        refine (HCS1.out _ (HBA.out.trans (M.below.mono HBA.out.size))).mono ?_
        rintro e wt9 ⟨kv, rfl, hk, hA⟩
        replace M := M.call hA
        obtain ⟨dt, ct, rfl, hSk⟩ := hk.form
        have Ht := Lib.hid hSk
        clear hk hSk hA
        try go_wp2_with fail
        clear hHeld
        refine hK.out _ _ ⟨fcells (K2.out.below M.below K2.out.lt), fcells (K21.out.below M.below K21.out.lt)⟩ (fun hHeld => ?_)
        clear hK K
        try simp only [Act.put, puts]
        refine wpAnyH_ready (rs := [3]) (by kernel_rfl) (by simp) ?_
        refine AllReadyH.cons rfl (fun K hK => ?_) AllReadyH.nil
        go_simp
        refine (HCS2.out _ af cf (HF.out.below M.below)).mono ?_
        rintro e ws9 ⟨kv, rfl, hk, hA⟩
        replace M := M.call hA
        replace Ht := Lib.hid (Ht.out.below hA)
        obtain ⟨dss, cs, rfl, hSk⟩ := hk.form
        have Hs := Lib.hid hSk
        clear hk hSk hA
        try go_wp2_with fail
        clear hHeld
        refine hK.out _ _ ⟨fcells (K2.out.below M.below K2.out.lt), fcells (K21.out.below M.below K21.out.lt)⟩ (fun hHeld => ?_)
        clear hK K
        try simp only [Act.put, puts]
        refine wpAnyH_ready (rs := [6]) (by kernel_rfl) (by simp) ?_
        refine AllReadyH.cons rfl (fun K hK => ?_) AllReadyH.nil
        rw [if_pos (by rfl)]
        refine Grid.wp_stM (v := .agg #[.slice dt (len32 t) ct]) M rfl rfl rfl (wr_nat _ _ _ _) (.tail _ _ _ _ _ _ _ (Upd.head _ _ _ _ _)) ?_
        intro wz6 Mn hTn
        replace Hs := Lib.hid (sl_kept Hs.out (M.has (.tail _ _ _ _ _ (Has.head _ _ _ _))) (noPart_sl _ _ _) hTn)
        replace Ht := Lib.hid (sl_kept Ht.out (M.has (.tail _ _ _ _ _ (Has.head _ _ _ _))) (noPart_sl _ _ _) hTn)
        replace M := Mn
        clear hTn hHeld Mn
        refine hK.out _ _ ⟨fcells (K2.out.below M.below K2.out.lt), fcells (K21.out.below M.below K21.out.lt)⟩ (fun hHeld => ?_)
        clear hK K
        try simp only [Act.put, puts]
        refine wpAnyH_ready (rs := [7]) (by kernel_rfl) (by simp) ?_
        refine AllReadyH.cons rfl (fun K hK => ?_) AllReadyH.nil
        rw [if_pos (by rfl)]
        refine Grid.wp_stM (v := .agg #[.slice dss (len32 s) cs]) M rfl rfl rfl (wr_nat _ _ _ _) (Upd.head _ _ _ _ _) ?_
        intro wz7 Mn hTn
        replace Hs := Lib.hid (sl_kept Hs.out (M.has (Has.head _ _ _ _)) (noPart_sl _ _ _) hTn)
        replace Ht := Lib.hid (sl_kept Ht.out (M.has (Has.head _ _ _ _)) (noPart_sl _ _ _) hTn)
        replace M := Mn
        clear hTn hHeld Mn
        refine hK.out _ _ ⟨fcells (K2.out.below M.below K2.out.lt), fcells (K21.out.below M.below K21.out.lt)⟩ (fun hHeld => ?_)
        clear hK K
        try simp only [Act.put, puts]
        refine wpAnyH_done (by kernel_rfl) ?_ _
        go_wp2_with fail
        go_meet
        exact ⟨g8, g9, dt, ct, dss, cs, rfl, rfl, Mem.perm17 M (List.Perm.refl _), Hs.out, Ht.out⟩
    · rw [if_pos (by rfl)]
      refine wp_al (Mem.start wA.drew) rfl zNat17 rfl ?_
      intro g9 wa5 M9
      have hA := M9.below
      replace M : Mem wA wa5 [(g9, 63, [.slice none 0 0])] := Mem.join M M9
      clear hA M9
      clear hHeld
      refine hK.out _ _ ⟨fcells (K2.out.below M.below K2.out.lt), fcells (K21.out.below M.below K21.out.lt)⟩ (fun hHeld => ?_)
      clear hK K
      try simp only [Act.put, puts]
      refine wpAnyH_ready (rs := [1, 4]) (by kernel_rfl) (by simp) ?_
      refine AllReadyH.cons rfl (fun K hK => ?_) (AllReadyH.cons rfl (fun K hK => ?_) AllReadyH.nil)
      · go_simp
        refine (HCS1.out _ (HBA.out.trans (M.below.mono HBA.out.size))).mono ?_
        rintro e wt9 ⟨kv, rfl, hk, hA⟩
        replace M := M.call hA
        obtain ⟨dt, ct, rfl, hSk⟩ := hk.form
        have Ht := Lib.hid hSk
        clear hk hSk hA
        try go_wp2_with fail
        clear hHeld
        refine hK.out _ _ ⟨fcells (K2.out.below M.below K2.out.lt), fcells (K21.out.below M.below K21.out.lt)⟩ (fun hHeld => ?_)
        clear hK K
        try simp only [Act.put, puts]
        refine wpAnyH_ready (rs := [3, 4]) (by kernel_rfl) (by simp) ?_
        refine AllReadyH.cons rfl (fun K hK => ?_) (AllReadyH.cons rfl (fun K hK => ?_) AllReadyH.nil)
        · go_simp
          refine (HCS2.out _ af cf (HF.out.below M.below)).mono ?_
          rintro e ws9 ⟨kv, rfl, hk, hA⟩
          replace M := M.call hA
          replace Ht := Lib.hid (Ht.out.below hA)
          obtain ⟨dss, cs, rfl, hSk⟩ := hk.form
          have Hs := Lib.hid hSk
          clear hk hSk hA
          try go_wp2_with fail
          clear hHeld
          refine hK.out _ _ ⟨fcells (K2.out.below M.below K2.out.lt), fcells (K21.out.below M.below K21.out.lt)⟩ (fun hHeld => ?_)
          clear hK K
          try simp only [Act.put, puts]
          refine wpAnyH_ready (rs := [4]) (by kernel_rfl) (by simp) ?_
          refine AllReadyH.cons rfl (fun K hK => ?_) AllReadyH.nil
          rw [if_pos (by rfl)]
          refine wp_al (Mem.start ws9) rfl zNat17 rfl ?_
          intro g8 wa4 M9
          have hA := M9.below
          replace Ht := Lib.hid (Ht.out.below hA)
          replace Hs := Lib.hid (Hs.out.below hA)
          replace M : Mem wA wa4 [(g8, 63, [.slice none 0 0]), (g9, 63, [.slice none 0 0])] := Mem.join M M9
          clear hA M9
          clear hHeld
          refine hK.out _ _ ⟨fcells (K2.out.below M.below K2.out.lt), fcells (K21.out.below M.below K21.out.lt)⟩ (fun hHeld => ?_)
          clear hK K
          try simp only [Act.put, puts]
          refine wpAnyH_ready (rs := [6]) (by kernel_rfl) (by simp) ?_
          refine AllReadyH.cons rfl (fun K hK => ?_) AllReadyH.nil
          rw [if_pos (by rfl)]
          refine Grid.wp_stM (v := .agg #[.slice dt (len32 t) ct]) M rfl rfl rfl (wr_nat _ _ _ _) (Upd.head _ _ _ _ _) ?_
          intro wz6 Mn hTn
          replace Hs := Lib.hid (sl_kept Hs.out (M.has (Has.head _ _ _ _)) (noPart_sl _ _ _) hTn)
          replace Ht := Lib.hid (sl_kept Ht.out (M.has (Has.head _ _ _ _)) (noPart_sl _ _ _) hTn)
          replace M := Mn
          clear hTn hHeld Mn
          refine hK.out _ _ ⟨fcells (K2.out.below M.below K2.out.lt), fcells (K21.out.below M.below K21.out.lt)⟩ (fun hHeld => ?_)
          clear hK K
          try simp only [Act.put, puts]
          refine wpAnyH_ready (rs := [7]) (by kernel_rfl) (by simp) ?_
          refine AllReadyH.cons rfl (fun K hK => ?_) AllReadyH.nil
          rw [if_pos (by rfl)]
          refine Grid.wp_stM (v := .agg #[.slice dss (len32 s) cs]) M rfl rfl rfl (wr_nat _ _ _ _) (.tail _ _ _ _ _ _ _ (Upd.head _ _ _ _ _)) ?_
          intro wz7 Mn hTn
          replace Hs := Lib.hid (sl_kept Hs.out (M.has (.tail _ _ _ _ _ (Has.head _ _ _ _))) (noPart_sl _ _ _) hTn)
          replace Ht := Lib.hid (sl_kept Ht.out (M.has (.tail _ _ _ _ _ (Has.head _ _ _ _))) (noPart_sl _ _ _) hTn)
          replace M := Mn
          clear hTn hHeld Mn
          refine hK.out _ _ ⟨fcells (K2.out.below M.below K2.out.lt), fcells (K21.out.below M.below K21.out.lt)⟩ (fun hHeld => ?_)
          clear hK K
          try simp only [Act.put, puts]
          refine wpAnyH_done (by kernel_rfl) ?_ _
          go_wp2_with fail
          go_meet
          exact ⟨g8, g9, dt, ct, dss, cs, rfl, rfl, Mem.perm17 M (List.Perm.swap _ _ _), Hs.out, Ht.out⟩
        · rw [if_pos (by rfl)]
          refine wp_al (Mem.start wt9) rfl zNat17 rfl ?_
          intro g8 wa4 M9
          have hA := M9.below
          replace Ht := Lib.hid (Ht.out.below hA)
          replace M : Mem wA wa4 [(g8, 63, [.slice none 0 0]), (g9, 63, [.slice none 0 0])] := Mem.join M M9
          clear hA M9
          clear hHeld
          refine hK.out _ _ ⟨fcells (K2.out.below M.below K2.out.lt), fcells (K21.out.below M.below K21.out.lt)⟩ (fun hHeld => ?_)
          clear hK K
          try simp only [Act.put, puts]
          refine wpAnyH_ready (rs := [3]) (by kernel_rfl) (by simp) ?_
          refine AllReadyH.cons rfl (fun K hK => ?_) AllReadyH.nil
          go_simp
          refine (HCS2.out _ af cf (HF.out.below M.below)).mono ?_
          rintro e ws9 ⟨kv, rfl, hk, hA⟩
          replace M := M.call hA
          replace Ht := Lib.hid (Ht.out.below hA)
          obtain ⟨dss, cs, rfl, hSk⟩ := hk.form
          have Hs := Lib.hid hSk
          clear hk hSk hA
          try go_wp2_with fail
          clear hHeld
          refine hK.out _ _ ⟨fcells (K2.out.below M.below K2.out.lt), fcells (K21.out.below M.below K21.out.lt)⟩ (fun hHeld => ?_)
          clear hK K
          try simp only [Act.put, puts]
          refine wpAnyH_ready (rs := [6]) (by kernel_rfl) (by simp) ?_
          refine AllReadyH.cons rfl (fun K hK => ?_) AllReadyH.nil
          rw [if_pos (by rfl)]
          refine Grid.wp_stM (v := .agg #[.slice dt (len32 t) ct]) M rfl rfl rfl (wr_nat _ _ _ _) (Upd.head _ _ _ _ _) ?_
          intro wz6 Mn hTn
          replace Hs := Lib.hid (sl_kept Hs.out (M.has (Has.head _ _ _ _)) (noPart_sl _ _ _) hTn)
          replace Ht := Lib.hid (sl_kept Ht.out (M.has (Has.head _ _ _ _)) (noPart_sl _ _ _) hTn)
          replace M := Mn
          clear hTn hHeld Mn
          refine hK.out _ _ ⟨fcells (K2.out.below M.below K2.out.lt), fcells (K21.out.below M.below K21.out.lt)⟩ (fun hHeld => ?_)
          clear hK K
          try simp only [Act.put, puts]
          refine wpAnyH_ready (rs := [7]) (by kernel_rfl) (by simp) ?_
          refine AllReadyH.cons rfl (fun K hK => ?_) AllReadyH.nil
          rw [if_pos (by rfl)]
          refine Grid.wp_stM (v := .agg #[.slice dss (len32 s) cs]) M rfl rfl rfl (wr_nat _ _ _ _) (.tail _ _ _ _ _ _ _ (Upd.head _ _ _ _ _)) ?_
          intro wz7 Mn hTn
          replace Hs := Lib.hid (sl_kept Hs.out (M.has (.tail _ _ _ _ _ (Has.head _ _ _ _))) (noPart_sl _ _ _) hTn)
          replace Ht := Lib.hid (sl_kept Ht.out (M.has (.tail _ _ _ _ _ (Has.head _ _ _ _))) (noPart_sl _ _ _) hTn)
          replace M := Mn
          clear hTn hHeld Mn
          refine hK.out _ _ ⟨fcells (K2.out.below M.below K2.out.lt), fcells (K21.out.below M.below K21.out.lt)⟩ (fun hHeld => ?_)
          clear hK K
          try simp only [Act.put, puts]
          refine wpAnyH_done (by kernel_rfl) ?_ _
          go_wp2_with fail
          go_meet
          exact ⟨g8, g9, dt, ct, dss, cs, rfl, rfl, Mem.perm17 M (List.Perm.swap _ _ _), Hs.out, Ht.out⟩
      · rw [if_pos (by rfl)]
        refine wp_al (Mem.start wa5) rfl zNat17 rfl ?_
        intro g8 wa4 M9
        have hA := M9.below
        replace M : Mem wA wa4 [(g8, 63, [.slice none 0 0]), (g9, 63, [.slice none 0 0])] := Mem.join M M9
        clear hA M9
        clear hHeld
        refine hK.out _ _ ⟨fcells (K2.out.below M.below K2.out.lt), fcells (K21.out.below M.below K21.out.lt)⟩ (fun hHeld => ?_)
        clear hK K
        try simp only [Act.put, puts]
        refine wpAnyH_ready (rs := [1]) (by kernel_rfl) (by simp) ?_
        refine AllReadyH.cons rfl (fun K hK => ?_) AllReadyH.nil
        go_simp
        refine (HCS1.out _ (HBA.out.trans (M.below.mono HBA.out.size))).mono ?_
        rintro e wt9 ⟨kv, rfl, hk, hA⟩
        replace M := M.call hA
        obtain ⟨dt, ct, rfl, hSk⟩ := hk.form
        have Ht := Lib.hid hSk
        clear hk hSk hA
        try go_wp2_with fail
        clear hHeld
        refine hK.out _ _ ⟨fcells (K2.out.below M.below K2.out.lt), fcells (K21.out.below M.below K21.out.lt)⟩ (fun hHeld => ?_)
        clear hK K
        try simp only [Act.put, puts]
        refine wpAnyH_ready (rs := [3]) (by kernel_rfl) (by simp) ?_
        refine AllReadyH.cons rfl (fun K hK => ?_) AllReadyH.nil
        go_simp
        refine (HCS2.out _ af cf (HF.out.below M.below)).mono ?_
        rintro e ws9 ⟨kv, rfl, hk, hA⟩
        replace M := M.call hA
        replace Ht := Lib.hid (Ht.out.below hA)
        obtain ⟨dss, cs, rfl, hSk⟩ := hk.form
        have Hs := Lib.hid hSk
        clear hk hSk hA
        try go_wp2_with fail
        clear hHeld
        refine hK.out _ _ ⟨fcells (K2.out.below M.below K2.out.lt), fcells (K21.out.below M.below K21.out.lt)⟩ (fun hHeld => ?_)
        clear hK K
        try simp only [Act.put, puts]
        refine wpAnyH_ready (rs := [6]) (by kernel_rfl) (by simp) ?_
        refine AllReadyH.cons rfl (fun K hK => ?_) AllReadyH.nil
        rw [if_pos (by rfl)]
        refine Grid.wp_stM (v := .agg #[.slice dt (len32 t) ct]) M rfl rfl rfl (wr_nat _ _ _ _) (Upd.head _ _ _ _ _) ?_
        intro wz6 Mn hTn
        replace Hs := Lib.hid (sl_kept Hs.out (M.has (Has.head _ _ _ _)) (noPart_sl _ _ _) hTn)
        replace Ht := Lib.hid (sl_kept Ht.out (M.has (Has.head _ _ _ _)) (noPart_sl _ _ _) hTn)
        replace M := Mn
        clear hTn hHeld Mn
        refine hK.out _ _ ⟨fcells (K2.out.below M.below K2.out.lt), fcells (K21.out.below M.below K21.out.lt)⟩ (fun hHeld => ?_)
        clear hK K
        try simp only [Act.put, puts]
        refine wpAnyH_ready (rs := [7]) (by kernel_rfl) (by simp) ?_
        refine AllReadyH.cons rfl (fun K hK => ?_) AllReadyH.nil
        rw [if_pos (by rfl)]
        refine Grid.wp_stM (v := .agg #[.slice dss (len32 s) cs]) M rfl rfl rfl (wr_nat _ _ _ _) (.tail _ _ _ _ _ _ _ (Upd.head _ _ _ _ _)) ?_
        intro wz7 Mn hTn
        replace Hs := Lib.hid (sl_kept Hs.out (M.has (.tail _ _ _ _ _ (Has.head _ _ _ _))) (noPart_sl _ _ _) hTn)
        replace Ht := Lib.hid (sl_kept Ht.out (M.has (.tail _ _ _ _ _ (Has.head _ _ _ _))) (noPart_sl _ _ _) hTn)
        replace M := Mn
        clear hTn hHeld Mn
        refine hK.out _ _ ⟨fcells (K2.out.below M.below K2.out.lt), fcells (K21.out.below M.below K21.out.lt)⟩ (fun hHeld => ?_)
        clear hK K
        try simp only [Act.put, puts]
        refine wpAnyH_done (by kernel_rfl) ?_ _
        go_wp2_with fail
        go_meet
        exact ⟨g8, g9, dt, ct, dss, cs, rfl, rfl, Mem.perm17 M (List.Perm.swap _ _ _), Hs.out, Ht.out⟩
  clear M
  obtain ⟨g8, g9, dt, ct, dss, cs, rfl, rfl, M30, hs0, ht0⟩ := hcut
  have Hs := Lib.hid hs0
  have Ht := Lib.hid ht0
  clear hs0 ht0
  try simp only [Exit.then, Exit.inBlock]
  go_wp2_with ((with_reducible refine (?_ : Go.wpList _ _ _ (_ :: _) _ _)); (first | go_skip | (refine wpL_ldc M30 rfl rfl rfl ?_) | (refine wpL_lgc M30 rfl rfl rfl ?_) | (refine wpL_stc M30 rfl rfl rfl rfl ?_; clear M30; intro w' M30) | (refine wpL_sti M30 rfl rfl rfl rfl ?_; clear M30; intro w' M30) | (refine wpL_sth M30 rfl rfl rfl rfl (wr_minus _ _ _) ?_; clear M30; intro w' M30)))
  refine (HCZt.out _ _ ⟨dt, ct, rfl, Ht.out⟩).mono ?_
  rintro e w31 ⟨rfl, hA⟩
  have M31 := M30.call hA
  replace Hs := Lib.hid (Hs.out.below hA)
  replace Ht := Lib.hid (Ht.out.below hA)
  clear M30 hA
  cases Bt
  · go_wp2_with ((with_reducible refine (?_ : Go.wpList _ _ _ (_ :: _) _ _)); (first | go_skip | (refine wpL_ldc M31 rfl rfl rfl ?_) | (refine wpL_lgc M31 rfl rfl rfl ?_) | (refine wpL_stc M31 rfl rfl rfl rfl ?_; clear M31; intro w' M31) | (refine wpL_sti M31 rfl rfl rfl rfl ?_; clear M31; intro w' M31) | (refine wpL_sth M31 rfl rfl rfl rfl (wr_minus _ _ _) ?_; clear M31; intro w' M31)))
    refine (HCZs.out _ _ ⟨dss, cs, rfl, Hs.out⟩).mono ?_
    rintro e w32 ⟨rfl, hA⟩
    have M32 := M31.call hA
    replace Hs := Lib.hid (Hs.out.below hA)
    replace Ht := Lib.hid (Ht.out.below hA)
    clear M31 hA
    cases Bs
    · have HR := Lib.hid (HR1.out (by simp) (by simp))
      obtain ⟨c0, c1, c2⟩ := fcells (K2.out.below M32.below K2.out.lt)
      clear HR0 HR1
      go_wp2_with ((with_reducible refine (?_ : Go.wpList _ _ _ (_ :: _) _ _)); (first | go_skip | (refine wpL_ldc M32 rfl rfl rfl ?_) | (refine wpL_lgc M32 rfl rfl rfl ?_) | (refine wpL_stc M32 rfl rfl rfl rfl ?_; clear M32; intro w' M32) | (refine wpL_sti M32 rfl rfl rfl rfl ?_; clear M32; intro w' M32) | (refine wpL_sth M32 rfl rfl rfl rfl (wr_minus _ _ _) ?_; clear M32; intro w' M32)))
      refine (HCE.out w32 g9 g21 g8 af cf dss dt cs ct (HBA.out.trans (M32.below.mono HBA.out.size)) (HF.out.below M32.below) (K21.out.below M32.below K21.out.lt) (M32.has (Has.head _ _ _ _)) (M32.has (.tail _ _ _ _ _ (Has.head _ _ _ _))) Hs.out Ht.out).mono ?_
      rintro e w33 ⟨ad, cd, rfl, hD, hA⟩
      have M33 := M32.call hA
      rw [HDL.out] at hD ⊢
      replace Hs := Lib.hid (Hs.out.below hA)
      replace Ht := Lib.hid (Ht.out.below hA)
      have HD := Lib.hid hD
      have M40 := Mem.start w33
      clear M32 hA hD c0 c1 c2
      go_upto_region 8 with (((with_reducible refine (?_ : Go.wpList _ _ _ (_ :: _) _ _)); (first | go_skip | (refine wpL_bx M40 rfl rfl rfl rfl ?_; clear M40; intro g41 w41 M41) | (refine wpL_alc M40 rfl rfl ?_; clear M40; intro g41 w41 M41) | (refine wpL_ldc M40 rfl rfl rfl ?_) | (refine wpL_lgc M40 rfl rfl rfl ?_) | (refine wpL_stc M40 rfl rfl rfl rfl ?_; clear M40; intro w' M40) | (refine wpL_sti M40 rfl rfl rfl rfl ?_; clear M40; intro w' M40) | (refine wpL_sth M40 rfl rfl rfl rfl (wr_minus _ _ _) ?_; clear M40; intro w' M40) | (refine wpL_ldc M41 rfl rfl rfl ?_) | (refine wpL_lgc M41 rfl rfl rfl ?_) | (refine wpL_stc M41 rfl rfl rfl rfl ?_; clear M41; intro w' M41) | (refine wpL_sti M41 rfl rfl rfl rfl ?_; clear M41; intro w' M41) | (refine wpL_sth M41 rfl rfl rfl rfl (wr_minus _ _ _) ?_; clear M41; intro w' M41))))
      obtain ⟨w34, hw34⟩ : ∃ w34, w34 = w' := ⟨_, rfl⟩
      rw [← hw34] at M41 ⊢
      have M34 : Mem wA w34 [(g41, 32, fc fx fy (.slice ad n cd)), (g9, 63, [.slice dss (len32 s) cs]), (g8, 63, [.slice dt (len32 t) ct])] := Mem.join M33 M41
      replace HD := Lib.hid (HD.out.below M41.below)
      replace Hs := Lib.hid (Hs.out.below M41.below)
      replace Ht := Lib.hid (Ht.out.below M41.below)
      have hbn := HBN.out
      have hb1 := HB1.out
      have hb2 := HB2.out
      clear hw34 M33 M41 HBN HB1 HB2
      go_wp2_with ((with_reducible refine (?_ : Go.wpList _ _ _ (_ :: _) _ _)); (first | go_skip | (refine wpL_ldc M34 rfl rfl rfl ?_) | (refine wpL_lgc M34 rfl rfl rfl ?_) | (refine wpL_stc M34 rfl rfl rfl rfl ?_; clear M34; intro w' M34) | (refine wpL_sti M34 rfl rfl rfl rfl ?_; clear M34; intro w' M34) | (refine wpL_sth M34 rfl rfl rfl rfl (wr_minus _ _ _) ?_; clear M34; intro w' M34)))
      refine (HCM.out _ _ _ ⟨dss, cs, rfl, Hs.out⟩ ⟨dt, ct, rfl, Ht.out⟩).mono ?_
      rintro e w35 ⟨kv, rfl, hk, hA⟩
      have M35 := M34.call hA
      obtain ⟨dm, cm, rfl, hSk⟩ := hk.form
      have HM := Lib.hid hk
      replace HD := Lib.hid (HD.out.below hA)
      clear M34 hk hSk hA Hs Ht
      go_wp2_with ((with_reducible refine (?_ : Go.wpList _ _ _ (_ :: _) _ _)); (first | go_skip | (refine wpL_ldc M35 rfl rfl rfl ?_) | (refine wpL_lgc M35 rfl rfl rfl ?_) | (refine wpL_stc M35 rfl rfl rfl rfl ?_; clear M35; intro w' M35) | (refine wpL_sti M35 rfl rfl rfl rfl ?_; clear M35; intro w' M35) | (refine wpL_sth M35 rfl rfl rfl rfl (wr_minus _ _ _) ?_; clear M35; intro w' M35)))
      refine (HCT.out _ _ HM.out).mono ?_
      rintro e w36 ⟨kv, rfl, hk, hA⟩
      have M36 := M35.call hA
      obtain ⟨dq, cq, rfl, hSk⟩ := hk.form
      have HQ := Lib.hid hk
      replace HD := Lib.hid (HD.out.below hA)
      have M50 := Mem.start w36
      clear M35 hk hSk hA HM hbn hb1 hb2
      go_upto_region 9 with (((with_reducible refine (?_ : Go.wpList _ _ _ (_ :: _) _ _)); (first | go_skip | (refine wpL_bx M50 rfl rfl rfl rfl ?_; clear M50; intro g51 w51 M51) | (refine wpL_alc M50 rfl rfl ?_; clear M50; intro g51 w51 M51) | (refine wpL_ldc M50 rfl rfl rfl ?_) | (refine wpL_lgc M50 rfl rfl rfl ?_) | (refine wpL_stc M50 rfl rfl rfl rfl ?_; clear M50; intro w' M50) | (refine wpL_sti M50 rfl rfl rfl rfl ?_; clear M50; intro w' M50) | (refine wpL_sth M50 rfl rfl rfl rfl (wr_minus _ _ _) ?_; clear M50; intro w' M50) | (refine wpL_ldc M51 rfl rfl rfl ?_) | (refine wpL_lgc M51 rfl rfl rfl ?_) | (refine wpL_stc M51 rfl rfl rfl rfl ?_; clear M51; intro w' M51) | (refine wpL_sti M51 rfl rfl rfl rfl ?_; clear M51; intro w' M51) | (refine wpL_sth M51 rfl rfl rfl rfl (wr_minus _ _ _) ?_; clear M51; intro w' M51))))
      obtain ⟨w37, hw37⟩ : ∃ w37, w37 = w' := ⟨_, rfl⟩
      rw [← hw37] at M51 ⊢
      have M37 : Mem wA w37 [(g51, 63, [.slice dq (len32 Q) cq]), (g41, 32, fc fx fy (.slice ad n cd)), (g9, 63, [.slice dss (len32 s) cs]), (g8, 63, [.slice dt (len32 t) ct])] := Mem.join M36 M51
      replace HD := Lib.hid (HD.out.below M51.below)
      replace HQ := Lib.hid (HQ.out.below M51.below)
      have hA := (Below.refl w37.heap.size w37).drew
      have M38 := M37.drew
      replace HD := Lib.hid (IsV.below (w := w37) (w' := w37.drew) HD.out hA)
      replace HQ := Lib.hid (IsN.below (w := w37) (w' := w37.drew) HQ.out hA)
      clear hw37 M36 M51 M37 hA
      refine wp_region_held_drew (S := (fun w' : World => (w'.cell? ⟨g41, 0, none⟩ = some (.int .i64 fx) ∧ w'.cell? ⟨g41, 1, none⟩ = some (.int .i64 fy) ∧ w'.cell? ⟨g41, 2, none⟩ = some (.slice ad n cd)) ∧ w'.cell? ⟨g51, 0, none⟩ = some (.slice dq (len32 Q) cq))) (by kernel_rfl) (⟨fcells (M38.has (.tail _ _ _ _ _ (Has.head _ _ _ _))), M38.cell (Has.head _ _ _ _) (i := 0) rfl⟩) (fun hHeld => ?_)
      refine tkT 0 ?v71 ?hy71 hHeld ?rest71
      case hy71 => (intro w' hSw; (try dsimp only at hSw); go_simp; (try with_reducible rfl))
      try simp only [Act.put, puts]
      refine tkT 3 ?v72 ?hy72 hHeld ?rest72
      case hy72 => (intro w' hSw; (try dsimp only at hSw); go_simp; (try with_reducible rfl))
      try simp only [Act.put, puts]
      refine wpAnyH_ready (rs := [1]) (by kernel_rfl) (by simp) ?_
      refine AllReadyH.cons rfl (fun K hK => ?_) AllReadyH.nil
      go_simp
      refine (HCS3.out _ ad cd HD.out).mono ?_
      rintro e w39 ⟨kv, rfl, hk, hA⟩
      have M39 := M38.call hA
      obtain ⟨dx, cx, rfl, hSk⟩ := hk.form
      have HX := Lib.hid hk
      replace HQ := Lib.hid (HQ.out.below hA)
      clear hk hSk hA
      try go_wp2_with fail
      refine hK.out _ _ (⟨fcells (M39.has (.tail _ _ _ _ _ (Has.head _ _ _ _))), M39.cell (Has.head _ _ _ _) (i := 0) rfl⟩) (fun hHeld => ?_)
      clear hK K
      try simp only [Act.put, puts]
      refine wpAnyH_ready (rs := [2]) (by kernel_rfl) (by simp) ?_
      refine AllReadyH.cons rfl (fun K hK => ?_) AllReadyH.nil
      go_simp
      refine (HCL.out _ _ HX.out).mono ?_
      rintro e w40 ⟨kv, rfl, hk, hA⟩
      have M40 := M39.call hA
      obtain ⟨dp, cp, rfl, hSk⟩ := hk.form
      have HP := Lib.hid hk
      replace HQ := Lib.hid (HQ.out.below hA)
      clear hk hSk hA HX
      try go_wp2_with fail
      refine hK.out _ _ (⟨fcells (M40.has (.tail _ _ _ _ _ (Has.head _ _ _ _))), M40.cell (Has.head _ _ _ _) (i := 0) rfl⟩) (fun hHeld => ?_)
      clear hK K
      try simp only [Act.put, puts]
      refine wpAnyH_ready (rs := [4]) (by kernel_rfl) (by simp) ?_
      refine AllReadyH.cons rfl (fun K hK => ?_) AllReadyH.nil
      go_simp
      refine (HCC.out _ _ _ HP.out HQ.out).mono ?_
      rintro e w41 ⟨rfl, hA⟩
      have M41 := M40.call hA
      clear hA HP HQ
      try go_wp2_with fail
      refine hK.out _ _ (⟨fcells (M41.has (.tail _ _ _ _ _ (Has.head _ _ _ _))), M41.cell (Has.head _ _ _ _) (i := 0) rfl⟩) (fun hHeld => ?_)
      clear hK K
      try simp only [Act.put, puts]
      refine tkT 5 ?v76 ?hy76 hHeld ?rest76
      case hy76 => (intro w' hSw; (try dsimp only at hSw); go_simp; (try with_reducible rfl))
      try simp only [Act.put, puts]
      refine tkT 6 ?v77 ?hy77 hHeld ?rest77
      case hy77 => (intro w' hSw; (try dsimp only at hSw); go_simp; (try with_reducible rfl))
      try simp only [Act.put, puts]
      refine wpAnyH_done (by kernel_rfl) ?_ _
      go_simp
      go_wp2_with fail
      go_ret
      exact ⟨ret_bool HR.out, (HBA.out.trans (M41.below.mono HBA.out.size))⟩
    · have HR := Lib.hid (HR0.out (by simp))
      clear HR0 HR1
      go_wp2_with fail
      go_ret
      exact ⟨ret_bool HR.out, (HBA.out.trans (M32.below.mono HBA.out.size))⟩
  · have HR := Lib.hid (HR0.out (by simp))
    clear HR0 HR1
    go_wp2_with fail
    go_ret
    exact ⟨ret_bool HR.out, (HBA.out.trans (M31.below.mono HBA.out.size))⟩

theorem sumL_tab (us vs : List Nat) (s t n : Nat) : (tabN (fun j => dif (us.getD j 0 * t) (vs.getD j 0 * s)) n).sum = sumD us vs s t n := by
  have h := sumD_tab us vs s t n n (Nat.le_refl _)
  have hl : (tabN (fun j => dif (us.getD j 0 * t) (vs.getD j 0 * s)) n).length = n := tabN_length _ _
  rw [← h]
  conv => lhs; rw [← sumN_all, hl]
theorem cmpN_pos (P Q : Nat) : decide (0 < cmpN P Q) = decide (Q < P) := by
  unfold cmpN
  by_cases h1 : P < Q
  · rw [if_pos h1]
    have h2 : ¬ Q < P := by omega
    simp [h2]
  · rw [if_neg h1]
    by_cases h2 : Q < P
    · rw [if_pos h2]; simp [h2]
    · rw [if_neg h2]; simp [h2]
theorem over_any17 (x y X Y S fx fy b : Int) (a a2 : Option Addr) (n ca cb k : Nat) (p : List Int) (us vs : List Nat) (hp : p.length = n) (hus : us.length = n) (hpv : ∀ i, i < n → p.getD i 0 = ((us.getD i 0 : Nat) : Int)) (hl : Lt 63 us) (hm : Lt k vs) (hk : k ≤ 7000) (hn : n ≤ 1000) (hb : b < 9223372036854775808)
    (w : World) (hS : Sl w 1 (.slice a n ca) n (i64s p)) (hV : IsV w a2 n cb vs) :
    Calls Tryz.prog 10 #[gv x y X Y S (.slice a n ca), fv fx fy (.slice a2 n cb), .int .i64 b] w fun e w' => e = .returned (.bool (overN us vs b)) ∧ Below w.heap.size w w' := by
  have hvl := hV.len
  have hs0 : us.sum < 2 ^ (63 + 10) := by have h := sumN_lt hl us.length (m := 10) (by omega); rwa [sumN_all] at h
  have ht0 : vs.sum < 2 ^ (k + 10) := by have h := sumN_lt hm vs.length (m := 10) (by omega); rwa [sumN_all] at h
  have L : ∀ {p m : Nat}, p < 2 ^ m → m ≤ 8000 → len32 p ≤ 1000 := fun h hm => Nat.le_trans (d32 (m := 250) h (by omega)) (by omega)
  have hsz : ∀ {p m : Nat}, p < 2 ^ m → m ≤ 8000 → len32 p ≤ 1000000 := fun h hm => Nat.le_trans (L h hm) (by omega)
  obtain ⟨s, hs⟩ : ∃ s, s = us.sum := ⟨_, rfl⟩
  obtain ⟨t, ht⟩ : ∃ t, t = vs.sum := ⟨_, rfl⟩
  obtain ⟨ds, hds⟩ : ∃ ds, ds = tabN (fun j => dif (us.getD j 0 * t) (vs.getD j 0 * s)) n := ⟨_, rfl⟩
  have hdl : ds.length = n := by rw [hds, tabN_length]
  have hD : ds.sum = sumD us vs s t n := by rw [hds]; exact sumL_tab us vs s t n
  rw [← hs] at hs0
  rw [← ht] at ht0
  have hdlt : Lt (k + 74) ds := by
    rw [hds]
    refine Lt.tab fun j _ => ?_
    have h1 : us.getD j 0 * t < 2 ^ (k + 73) := by have := mul_pow2 (hl j) ht0; rwa [show 63 + (k + 10) = k + 73 by omega] at this
    have h2 : vs.getD j 0 * s < 2 ^ (k + 73) := by have := mul_pow2 (hm j) hs0; rwa [show k + (63 + 10) = k + 73 by omega] at this
    have h3 := dif_le (us.getD j 0 * t) (vs.getD j 0 * s)
    have e : 2 ^ (k + 74) = 2 ^ (k + 73) * 2 := Nat.pow_succ ..
    omega
  have hDlt : ds.sum < 2 ^ (k + 74 + 10) := by have h := sumN_lt hdlt ds.length (m := 10) (by omega); rwa [sumN_all] at h
  have hmlt : s * t < 2 ^ (63 + 10 + (k + 10)) := mul_pow2 hs0 ht0
  have hbn : b.toNat < 9223372036854775808 := by omega
  have hb2 : 2 * b.toNat < 18446744073709551616 := by omega
  have hQlt : s * t * (2 * b.toNat) < 2 ^ (63 + 10 + (k + 10) + 64) := mul_pow2 hmlt (by have e : (2 : Nat) ^ 64 = 18446744073709551616 := (by decide); omega)
  have hPlt : ds.sum * 2 ^ 40 < 2 ^ (k + 74 + 10 + 41) := mul_pow2 hDlt (Nat.pow_lt_pow_right (by decide) (by decide))
  have hov : overN us vs b = if s = 0 ∨ t = 0 then decide (b < 1099511627776) else decide (0 < cmpN (ds.sum * 2 ^ 40) (s * t * (2 * b.toNat))) := by
    unfold overN
    rw [← hs, ← ht, cmpN_pos, hD, hus]
    have e1 : s * t * (2 * b.toNat) = s * t * b.toNat + s * t * b.toNat := by rw [Nat.mul_left_comm, Nat.two_mul]
    have e2 : (2 : Nat) ^ 40 = 1099511627776 := by decide
    rw [e1, e2]
  refine over_go x y X Y S fx fy b a a2 n ca cb s t (s * t) b.toNat (2 * b.toNat) (s * t * (2 * b.toNat)) (ds.sum * 2 ^ 40) ds.sum (cmpN (ds.sum * 2 ^ 40) (s * t * (2 * b.toNat))) us ds (overN us vs b) (decide (t = 0)) (decide (s = 0)) hus hdl hn (by omega) rfl hbn ?_ ?_ w ?_ ?_ ?_ ?_ ?_ ?_ ?_ ?_ ?_ ?_ ?_
  · intro h
    rw [hov, if_pos (by simpa using h)]
  · intro h1 h2
    have h1' : s ≠ 0 := of_decide_eq_false h1
    have h2' : t ≠ 0 := of_decide_eq_false h2
    rw [hov, if_neg (by omega)]
  · exact fun wx hx => from_any17 x y X Y S a n ca p us hp hus hpv hl (by omega) wx (hS.below hx)
  · intro wx hx
    rw [ht]
    exact fsum_any fx fy a2 n cb vs hn (fun j => L (hm j) (by omega)) wx (hV.below hx)
  · intro wx af cf hf
    rw [hs]
    exact fsum_any x y af n cf us hn (fun j => L (hl j) (by omega)) wx hf
  · exact fun v wx hv => zero_any v t wx hv (hsz ht0 (by omega))
  · exact fun v wx hv => zero_any v s wx hv (hsz hs0 (by omega))
  · intro wx gs gF gt af cf dsv dtv csv ctv hx hf K Ks Kt h1 h2
    rw [hds]
    exact each_any fx fy a2 n cb _ _ vs _ (by omega) wx (hV.below hx) (over1_made n cf k s t x y af us vs dsv dtv csv ctv gs gF gt hl hm hk hs0 ht0 wx hf K Ks Kt h1 h2)
  · exact fun wx ad cd hd => fsum_any fx fy ad n cd ds hn (fun j => L (hdlt j) (by omega)) wx hd
  · exact fun v u wx hv hu => mul_any16 v u s t wx hv hu (L hs0 (by omega)) (L ht0 (by omega))
  · exact fun v wx hv => times_any16 v (s * t) (2 * b.toNat) wx hv (L hmlt (by omega)) hb2
  · exact fun v wx hv => shl_any16 v ds.sum 40 wx hv (L hDlt (by omega)) (by omega)
  · exact fun v u wx hv hu => cmp_any v u _ _ wx hv hu (Nat.le_trans (L hPlt (by omega)) (by omega)) (Nat.le_trans (L hQlt (by omega)) (by omega))
end Go.Proofs.YtallbegibdlpaaaGreat
