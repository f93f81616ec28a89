/-
  An act, both ways: the law's (weighed, cut).
-/
import Derived.Test.YtanblpfpkohghaaDoorExactS
set_option linter.unusedVariables false
set_option linter.unusedSimpArgs false
namespace Go.Proofs.YtanblpfpkohghaaDoor
open Go Go.RowKit Go.Th Go.Th.Dig Go.Th.Ex Go.Th.Grid

set_option maxRecDepth 20000 in
set_option maxHeartbeats 6400000 in
theorem do_weigh (o : OpV) (x y k : Nat) (a b : Option Addr) (n ca cb : Nat) (vs : List Nat) (hk : o.k % 5 = 1) (hk0 : 0 ≤ o.k ∧ o.k < 256) (hn : n ≤ 4096) (hnc : n ≤ cb ∧ cb ≤ 9223372036854775807) (hlen : o.zs.length = o.n) (hon : o.n ≤ 1000000) (hz0 : ∀ u ∈ o.zs, 0 ≤ u ∧ u ≤ 65535) (w : World) (hS : Sl w 1 (.slice o.a o.n o.c) o.n (u16s o.zs))
    (C1 : ∀ wx al cl, Below w.heap.size w wx → Sl wx 1 (.slice al n cl) n (i64s (tab (inAt o.zs 65536) n)) → Calls Tryd.prog 15 #[fv x y (.slice a n ca), .slice al n cl] wx (ResV x y k vs wx))
    (C2 : ∀ wx al cl, Below w.heap.size w wx → Sl wx 1 (.slice al n cl) n (i64s (tab (inAt o.zs 65536) n)) → Calls Tryd.prog 34 #[fv x y (.slice b n cb), .slice al n cl] wx (ResF x y vs wx)) :
    Calls Tryd.prog 12 #[fv x y (.slice a n ca), fv x y (.slice b n cb), opv o] w fun e w' => ∃ a1 c1 a2 c2 fs, e = .returned (.tuple #[fv x y (.slice a1 vs.length c1), fv x y (.slice a2 vs.length c2)]) ∧ IsV w' a1 vs.length c1 fs ∧ Prp fs vs ∧ Lt k fs ∧ IsU w' a2 vs.length c2 vs ∧ Below w.heap.size w w' := by
  obtain ⟨ok, oq, oa, on, oc, zs, X, Y, W, H⟩ := o
  simp only at hk hk0 hlen hon hz0 hS C1 C2
  have CW := Lib.hid (fun wx h => weights17_any oa n on oc zs hlen (by omega) hon hz0 wx h)
  have HC1 := Lib.hid C1
  have HC2 := Lib.hid C2
  have HS := Lib.hid hS
  have hkt : ok.tmod 5 = 1 := by rw [Int.tmod_eq_emod_of_nonneg hk0.1]; exact hk
  have M0 := Mem.start w
  clear C1 C2 hS hlen hz0
  show Calls Tryd.prog 12 #[fv x y (.slice a n ca), fv x y (.slice b n cb), .agg #[.int .u8 ok, .int .u8 oq, .slice oa on oc, .int .i8 X, .int .i8 Y, .int .u8 W, .int .u8 H]] w _
  go_enter Tryd.func12, Tryd.ntmps12
  go_upto_region 6 with (((with_reducible refine (?_ : Go.wpList _ _ _ (_ :: _) _ _)); (first | go_skip | (refine wpL_bx M0 rfl rfl rfl rfl ?_; clear M0; intro g1 w1 M1) | (refine wpL_alc M0 rfl rfl ?_; clear M0; intro g1 w1 M1) | (refine wpL_ldc M0 rfl rfl rfl ?_) | (refine wpL_lgc M0 rfl rfl rfl ?_) | (refine wpL_stc M0 rfl rfl rfl rfl ?_; clear M0; intro w' M0) | (refine wpL_sti M0 rfl rfl rfl rfl ?_; clear M0; intro w' M0) | (refine wpL_sth M0 rfl rfl rfl rfl (wr_minus _ _ _) ?_; clear M0; intro w' M0) | (refine wpL_bx M1 rfl rfl rfl rfl ?_; clear M1; intro g2 w2 M2) | (refine wpL_alc M1 rfl rfl ?_; clear M1; intro g2 w2 M2) | (refine wpL_ldc M1 rfl rfl rfl ?_) | (refine wpL_lgc M1 rfl rfl rfl ?_) | (refine wpL_stc M1 rfl rfl rfl rfl ?_; clear M1; intro w' M1) | (refine wpL_sti M1 rfl rfl rfl rfl ?_; clear M1; intro w' M1) | (refine wpL_sth M1 rfl rfl rfl rfl (wr_minus _ _ _) ?_; clear M1; intro w' M1) | (refine wpL_bx M2 rfl rfl rfl rfl ?_; clear M2; intro g3 w3 M3) | (refine wpL_alc M2 rfl rfl ?_; clear M2; intro g3 w3 M3) | (refine wpL_ldc M2 rfl rfl rfl ?_) | (refine wpL_lgc M2 rfl rfl rfl ?_) | (refine wpL_stc M2 rfl rfl rfl rfl ?_; clear M2; intro w' M2) | (refine wpL_sti M2 rfl rfl rfl rfl ?_; clear M2; intro w' M2) | (refine wpL_sth M2 rfl rfl rfl rfl (wr_minus _ _ _) ?_; clear M2; intro w' M2) | (refine wpL_bx M3 rfl rfl rfl rfl ?_; clear M3; intro g4 w4 M4) | (refine wpL_alc M3 rfl rfl ?_; clear M3; intro g4 w4 M4) | (refine wpL_ldc M3 rfl rfl rfl ?_) | (refine wpL_lgc M3 rfl rfl rfl ?_) | (refine wpL_stc M3 rfl rfl rfl rfl ?_; clear M3; intro w' M3) | (refine wpL_sti M3 rfl rfl rfl rfl ?_; clear M3; intro w' M3) | (refine wpL_sth M3 rfl rfl rfl rfl (wr_minus _ _ _) ?_; clear M3; intro w' M3) | (refine wpL_bx M4 rfl rfl rfl rfl ?_; clear M4; intro g5 w5 M5) | (refine wpL_alc M4 rfl rfl ?_; clear M4; intro g5 w5 M5) | (refine wpL_ldc M4 rfl rfl rfl ?_) | (refine wpL_lgc M4 rfl rfl rfl ?_) | (refine wpL_stc M4 rfl rfl rfl rfl ?_; clear M4; intro w' M4) | (refine wpL_sti M4 rfl rfl rfl rfl ?_; clear M4; intro w' M4) | (refine wpL_sth M4 rfl rfl rfl rfl (wr_minus _ _ _) ?_; clear M4; intro w' M4) | (refine wpL_ldc M5 rfl rfl rfl ?_) | (refine wpL_lgc M5 rfl rfl rfl ?_) | (refine wpL_stc M5 rfl rfl rfl rfl ?_; clear M5; intro w' M5) | (refine wpL_sti M5 rfl rfl rfl rfl ?_; clear M5; intro w' M5) | (refine wpL_sth M5 rfl rfl rfl rfl (wr_minus _ _ _) ?_; clear M5; intro w' M5))))
  go_wp2_with ((with_reducible refine (?_ : Go.wpList _ _ _ (_ :: _) _ _)); (first | go_skip | (refine wpL_ldc M5 rfl rfl rfl ?_) | (refine wpL_lgc M5 rfl rfl rfl ?_) | (refine wpL_stc M5 rfl rfl rfl rfl ?_; clear M5; intro w' M5) | (refine wpL_sti M5 rfl rfl rfl rfl ?_; clear M5; intro w' M5) | (refine wpL_sth M5 rfl rfl rfl rfl (wr_minus _ _ _) ?_; clear M5; intro w' M5)))
  refine (CW.out _ (HS.out.below M5.below)).mono ?_
  rintro e w10 ⟨vw, rfl, how, hA⟩
  obtain ⟨al, cl, rfl, _, _⟩ := ownsRow_slice how
  have M15 := M5.call hA
  have HW := Lib.hid (Sl.of_own how)
  clear how hA M5
  go_wp2_with fail
  refine wp_region_held_drew (S := (fun w' : World => w'.cell? ⟨g1, 0, none⟩ = some (.int .i64 x) ∧ w'.cell? ⟨g1, 1, none⟩ = some (.int .i64 y) ∧ w'.cell? ⟨g1, 2, none⟩ = some (.slice a n ca) ∧ w'.cell? ⟨g2, 0, none⟩ = some (.int .i64 x) ∧ w'.cell? ⟨g2, 1, none⟩ = some (.int .i64 y) ∧ w'.cell? ⟨g2, 2, none⟩ = some (.slice b n cb))) (by kernel_rfl) (⟨M15.cell (.tail _ _ _ _ _ (.tail _ _ _ _ _ (.tail _ _ _ _ _ (.tail _ _ _ _ _ (Has.head _ _ _ _))))) (i := 0) rfl, M15.cell (.tail _ _ _ _ _ (.tail _ _ _ _ _ (.tail _ _ _ _ _ (.tail _ _ _ _ _ (Has.head _ _ _ _))))) (i := 1) rfl, M15.cell (.tail _ _ _ _ _ (.tail _ _ _ _ _ (.tail _ _ _ _ _ (.tail _ _ _ _ _ (Has.head _ _ _ _))))) (i := 2) rfl, M15.cell (.tail _ _ _ _ _ (.tail _ _ _ _ _ (.tail _ _ _ _ _ (Has.head _ _ _ _)))) (i := 0) rfl, M15.cell (.tail _ _ _ _ _ (.tail _ _ _ _ _ (.tail _ _ _ _ _ (Has.head _ _ _ _)))) (i := 1) rfl, M15.cell (.tail _ _ _ _ _ (.tail _ _ _ _ _ (.tail _ _ _ _ _ (Has.head _ _ _ _)))) (i := 2) rfl⟩) (fun hHeld => ?_)
  refine tkT 0 ?v21 ?hy21 hHeld ?rest21
  case hy21 => (intro w' hSw; (try dsimp only at hSw); go_simp; (try with_reducible rfl))
  try simp only [Act.put, puts]
  refine tkT 1 ?v22 ?hy22 hHeld ?rest22
  case hy22 => (intro w' hSw; (try dsimp only at hSw); go_simp; (try with_reducible rfl))
  try simp only [Act.put, puts]
  refine tkT 3 ?v23 ?hy23 hHeld ?rest23
  case hy23 => (intro w' hSw; (try dsimp only at hSw); go_simp; (try with_reducible rfl))
  try simp only [Act.put, puts]
  refine tkT 4 ?v24 ?hy24 hHeld ?rest24
  case hy24 => (intro w' hSw; (try dsimp only at hSw); go_simp; (try with_reducible rfl))
  try simp only [Act.put, puts]
  refine wpAnyH_ready (rs := [2]) (by kernel_rfl) (by simp) ?_
  refine AllReadyH.cons rfl (fun K hK => ?_) AllReadyH.nil
  go_simp
  refine (HC1.out _ al cl M15.drew.below (Sl.below (w := w10) (w' := w10.drew) HW.out ((Below.refl w10.heap.size w10).drew))).mono ?_
  rintro e w6 ⟨a1, c1, fs, rfl, hV, hP, hL, hA⟩
  have M16 := M15.drew.call hA
  have HV := Lib.hid hV
  have HP := Lib.hid hP
  have HLT := Lib.hid hL
  have HW6 := Lib.hid (Sl.below (w := w10.drew) HW.out hA)
  clear hV hP hL hA
  try go_wp2_with fail
  refine hK.out _ _ (⟨M16.cell (.tail _ _ _ _ _ (.tail _ _ _ _ _ (.tail _ _ _ _ _ (.tail _ _ _ _ _ (Has.head _ _ _ _))))) (i := 0) rfl, M16.cell (.tail _ _ _ _ _ (.tail _ _ _ _ _ (.tail _ _ _ _ _ (.tail _ _ _ _ _ (Has.head _ _ _ _))))) (i := 1) rfl, M16.cell (.tail _ _ _ _ _ (.tail _ _ _ _ _ (.tail _ _ _ _ _ (.tail _ _ _ _ _ (Has.head _ _ _ _))))) (i := 2) rfl, M16.cell (.tail _ _ _ _ _ (.tail _ _ _ _ _ (.tail _ _ _ _ _ (Has.head _ _ _ _)))) (i := 0) rfl, M16.cell (.tail _ _ _ _ _ (.tail _ _ _ _ _ (.tail _ _ _ _ _ (Has.head _ _ _ _)))) (i := 1) rfl, M16.cell (.tail _ _ _ _ _ (.tail _ _ _ _ _ (.tail _ _ _ _ _ (Has.head _ _ _ _)))) (i := 2) rfl⟩) (fun hHeld => ?_)
  clear hK K
  try simp only [Act.put, puts]
  refine wpAnyH_ready (rs := [5]) (by kernel_rfl) (by simp) ?_
  refine AllReadyH.cons rfl (fun K hK => ?_) AllReadyH.nil
  go_simp
  refine (HC2.out _ al cl M16.below HW6.out).mono ?_
  rintro e w7 ⟨a2, c2, rfl, hU, hA⟩
  have M17 := M16.call hA
  have HV7 := Lib.hid (HV.out.below hA)
  have HU7 := Lib.hid hU
  clear hU hA
  try go_wp2_with fail
  refine hK.out _ _ (⟨M17.cell (.tail _ _ _ _ _ (.tail _ _ _ _ _ (.tail _ _ _ _ _ (.tail _ _ _ _ _ (Has.head _ _ _ _))))) (i := 0) rfl, M17.cell (.tail _ _ _ _ _ (.tail _ _ _ _ _ (.tail _ _ _ _ _ (.tail _ _ _ _ _ (Has.head _ _ _ _))))) (i := 1) rfl, M17.cell (.tail _ _ _ _ _ (.tail _ _ _ _ _ (.tail _ _ _ _ _ (.tail _ _ _ _ _ (Has.head _ _ _ _))))) (i := 2) rfl, M17.cell (.tail _ _ _ _ _ (.tail _ _ _ _ _ (.tail _ _ _ _ _ (Has.head _ _ _ _)))) (i := 0) rfl, M17.cell (.tail _ _ _ _ _ (.tail _ _ _ _ _ (.tail _ _ _ _ _ (Has.head _ _ _ _)))) (i := 1) rfl, M17.cell (.tail _ _ _ _ _ (.tail _ _ _ _ _ (.tail _ _ _ _ _ (Has.head _ _ _ _)))) (i := 2) rfl⟩) (fun hHeld => ?_)
  clear hK K
  try simp only [Act.put, puts]
  refine wpAnyH_ready (rs := [6]) (by kernel_rfl) (by simp) ?_
  refine AllReadyH.cons rfl (fun K hK => ?_) AllReadyH.nil
  rw [if_pos (by rfl)]
  refine Grid.wp_stM (v := fv x y (.slice a1 vs.length c1)) M17 rfl rfl rfl (wr_fx _ _ _ _ _ _ _ _) (.tail _ _ _ _ _ _ _ (Upd.head _ _ _ _ _)) ?_
  intro w8 M18 hT8
  have HV8 := Lib.hid (HV7.out.turnedB (M17.has (.tail _ _ _ _ _ (Has.head _ _ _ _))) (by decide) (noPart_f _ _ _ _ _) hT8)
  have HU8 := Lib.hid (HU7.out.turnedB (M17.has (.tail _ _ _ _ _ (Has.head _ _ _ _))) (by decide) (by decide) hT8)
  refine hK.out _ _ (⟨M18.cell (.tail _ _ _ _ _ (.tail _ _ _ _ _ (.tail _ _ _ _ _ (.tail _ _ _ _ _ (Has.head _ _ _ _))))) (i := 0) rfl, M18.cell (.tail _ _ _ _ _ (.tail _ _ _ _ _ (.tail _ _ _ _ _ (.tail _ _ _ _ _ (Has.head _ _ _ _))))) (i := 1) rfl, M18.cell (.tail _ _ _ _ _ (.tail _ _ _ _ _ (.tail _ _ _ _ _ (.tail _ _ _ _ _ (Has.head _ _ _ _))))) (i := 2) rfl, M18.cell (.tail _ _ _ _ _ (.tail _ _ _ _ _ (.tail _ _ _ _ _ (Has.head _ _ _ _)))) (i := 0) rfl, M18.cell (.tail _ _ _ _ _ (.tail _ _ _ _ _ (.tail _ _ _ _ _ (Has.head _ _ _ _)))) (i := 1) rfl, M18.cell (.tail _ _ _ _ _ (.tail _ _ _ _ _ (.tail _ _ _ _ _ (Has.head _ _ _ _)))) (i := 2) rfl⟩) (fun hHeld => ?_)
  clear hK K
  try simp only [Act.put, puts]
  refine wpAnyH_ready (rs := [7]) (by kernel_rfl) (by simp) ?_
  refine AllReadyH.cons rfl (fun K hK => ?_) AllReadyH.nil
  rw [if_pos (by rfl)]
  refine Grid.wp_stM (v := fv x y (.slice a2 vs.length c2)) M18 rfl rfl rfl (wr_f _ _ _ _ _ _ _ _) (Upd.head _ _ _ _ _) ?_
  intro w9 M19 hT9
  have HV9 := Lib.hid (HV8.out.turnedB (M18.has (Has.head _ _ _ _)) (by decide) (noPart_f _ _ _ _ _) hT9)
  have HU9 := Lib.hid (HU8.out.turnedB (M18.has (Has.head _ _ _ _)) (by decide) (by decide) hT9)
  refine hK.out _ _ (⟨M19.cell (.tail _ _ _ _ _ (.tail _ _ _ _ _ (.tail _ _ _ _ _ (.tail _ _ _ _ _ (Has.head _ _ _ _))))) (i := 0) rfl, M19.cell (.tail _ _ _ _ _ (.tail _ _ _ _ _ (.tail _ _ _ _ _ (.tail _ _ _ _ _ (Has.head _ _ _ _))))) (i := 1) rfl, M19.cell (.tail _ _ _ _ _ (.tail _ _ _ _ _ (.tail _ _ _ _ _ (.tail _ _ _ _ _ (Has.head _ _ _ _))))) (i := 2) rfl, M19.cell (.tail _ _ _ _ _ (.tail _ _ _ _ _ (.tail _ _ _ _ _ (Has.head _ _ _ _)))) (i := 0) rfl, M19.cell (.tail _ _ _ _ _ (.tail _ _ _ _ _ (.tail _ _ _ _ _ (Has.head _ _ _ _)))) (i := 1) rfl, M19.cell (.tail _ _ _ _ _ (.tail _ _ _ _ _ (.tail _ _ _ _ _ (Has.head _ _ _ _)))) (i := 2) rfl⟩) (fun hHeld => ?_)
  clear hK K
  try simp only [Act.put, puts]
  refine wpAnyH_done (by kernel_rfl) ?_ _
  clear M16 M17 M18 hT8 hT9 HV HV7 HV8 HU7 HU8
  go_wp2_with fail
  refine bodyPost_ret (res_cells rfl M19 rfl (.tail _ _ _ _ _ (Has.head _ _ _ _)) (rd_fx _ _ _) rfl (Has.head _ _ _ _) (rd_f _ _ _)) rfl ?_
  exact ⟨a1, c1, a2, c2, fs, rfl, HV9.out, HP.out, HLT.out, HU9.out, M19.below⟩

end Go.Proofs.YtanblpfpkohghaaDoor
