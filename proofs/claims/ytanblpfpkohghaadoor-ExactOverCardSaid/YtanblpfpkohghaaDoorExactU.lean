/-
  An act, both ways: the law's (cut, split, joined, left as it is).
-/
import Derived.Test.YtanblpfpkohghaaDoorExactT
set_option linter.unusedVariables false
set_option linter.unusedSimpArgs false
namespace Go.Proofs.YtanblpfpkohghaaDoor
open Go Go.RowKit Go.Th Go.Th.Dig Go.Th.Ex Go.Th.Grid

instance rOpx17 (k q : Int) (s : Value) (X Y W H : Int) : RdI Tryd.prog 43 0 [.int .u8 k, .int .u8 q, s, .int .i8 X, .int .i8 Y, .int .u8 W, .int .u8 H] (.agg #[.int .u8 k, .int .u8 q, s, .int .i8 X, .int .i8 Y, .int .u8 W, .int .u8 H]) :=
  ⟨Rd.agg (ds := [.int .u8 k, .int .u8 q, s, .int .i8 X, .int .i8 Y, .int .u8 W, .int .u8 H]) Tryd.underlying43 rfl sizeOp (fun j u hj => by rw [Nat.zero_add]; exact hj)⟩
set_option maxRecDepth 20000 in
set_option maxHeartbeats 6400000 in
theorem do_cut (o : OpV) (x y k : Nat) (a b : Option Addr) (n ca cb : Nat) (vs : List Nat) (hk : o.k % 5 = 2) (hk0 : 0 ≤ o.k ∧ o.k < 256) (hX : -128 ≤ o.X ∧ o.X ≤ 127) (hY : -128 ≤ o.Y ∧ o.Y ≤ 127) (hW : 0 ≤ o.W ∧ o.W < 256) (hH : 0 ≤ o.H ∧ o.H < 256) (w : World)
    (C1 : ∀ wx, Below w.heap.size w wx → Calls Tryd.prog 17 #[fv x y (.slice a n ca), .int .i64 o.X, .int .i64 o.Y, .int .i64 (side17 o.W : Nat), .int .i64 (side17 o.H : Nat)] wx (ResV (side17 o.W : Nat) (side17 o.H : Nat) k vs wx))
    (C2 : ∀ wx, Below w.heap.size w wx → Calls Tryd.prog 36 #[fv x y (.slice b n cb), .int .i64 o.X, .int .i64 o.Y, .int .i64 (side17 o.W : Nat), .int .i64 (side17 o.H : Nat)] wx (ResF (side17 o.W : Nat) (side17 o.H : Nat) vs wx)) :
    Calls Tryd.prog 12 #[fv x y (.slice a n ca), fv x y (.slice b n cb), opv o] w fun e w' => ∃ a1 c1 a2 c2 fs, e = .returned (.tuple #[fv (side17 o.W : Nat) (side17 o.H : Nat) (.slice a1 vs.length c1), fv (side17 o.W : Nat) (side17 o.H : Nat) (.slice a2 vs.length c2)]) ∧ IsV w' a1 vs.length c1 fs ∧ Prp fs vs ∧ Lt k fs ∧ IsU w' a2 vs.length c2 vs ∧ Below w.heap.size w w' := by
  obtain ⟨ok, oq, oa, on, oc, zs, X, Y, W, H⟩ := o
  simp only at hk hk0 hX hY hW hH C1 C2
  have CS := Lib.hid (fun wx => sides17_any ⟨ok, oq, oa, on, oc, zs, X, Y, W, H⟩ hW hH wx)
  show Calls Tryd.prog 12 #[fv x y (.slice a n ca), fv x y (.slice b n cb), opv ⟨ok, oq, oa, on, oc, zs, X, Y, W, H⟩] w fun e w' => ∃ a1 c1 a2 c2 fs, e = .returned (.tuple #[fv (side17 W : Nat) (side17 H : Nat) (.slice a1 vs.length c1), fv (side17 W : Nat) (side17 H : Nat) (.slice a2 vs.length c2)]) ∧ IsV w' a1 vs.length c1 fs ∧ Prp fs vs ∧ Lt k fs ∧ IsU w' a2 vs.length c2 vs ∧ Below w.heap.size w w'
  have CS2 : Hid (∀ wx, Calls Tryd.prog 35 #[.agg #[.int .u8 ok, .int .u8 oq, .slice oa on oc, .int .i8 X, .int .i8 Y, .int .u8 W, .int .u8 H]] wx fun e w' => e = .returned (.tuple #[.int .i64 (side17 W : Nat), .int .i64 (side17 H : Nat)]) ∧ Below wx.heap.size wx w') := Lib.hid CS.out
  obtain ⟨sx, hsx⟩ : ∃ sx, sx = side17 W := ⟨_, rfl⟩
  obtain ⟨sy, hsy⟩ : ∃ sy, sy = side17 H := ⟨_, rfl⟩
  rw [← hsx, ← hsy] at CS2 C1 C2 ⊢
  have HC1 := Lib.hid C1
  have HC2 := Lib.hid C2
  have hkt : ok.tmod 5 = 2 := by rw [Int.tmod_eq_emod_of_nonneg hk0.1]; exact hk
  have M0 := Mem.start w
  clear C1 C2 CS hsx hsy
  show Calls Tryd.prog 12 #[fv x y (.slice a n ca), fv x y (.slice b n cb), .agg #[.int .u8 ok, .int .u8 oq, .slice oa on oc, .int .i8 X, .int .i8 Y, .int .u8 W, .int .u8 H]] w _
  go_enter Tryd.func12, Tryd.ntmps12
  go_upto_region 9 with (((with_reducible refine (?_ : Go.wpList _ _ _ (_ :: _) _ _)); (first | go_skip | (refine wpL_bx M0 rfl rfl rfl rfl ?_; clear M0; intro g1 w1 M1) | (refine wpL_alc M0 rfl rfl ?_; clear M0; intro g1 w1 M1) | (refine wpL_ldc M0 rfl rfl rfl ?_) | (refine wpL_lgc M0 rfl rfl rfl ?_) | (refine wpL_stc M0 rfl rfl rfl rfl ?_; clear M0; intro w' M0) | (refine wpL_sti M0 rfl rfl rfl rfl ?_; clear M0; intro w' M0) | (refine wpL_sth M0 rfl rfl rfl rfl (wr_minus _ _ _) ?_; clear M0; intro w' M0) | (refine wpL_bx M1 rfl rfl rfl rfl ?_; clear M1; intro g2 w2 M2) | (refine wpL_alc M1 rfl rfl ?_; clear M1; intro g2 w2 M2) | (refine wpL_ldc M1 rfl rfl rfl ?_) | (refine wpL_lgc M1 rfl rfl rfl ?_) | (refine wpL_stc M1 rfl rfl rfl rfl ?_; clear M1; intro w' M1) | (refine wpL_sti M1 rfl rfl rfl rfl ?_; clear M1; intro w' M1) | (refine wpL_sth M1 rfl rfl rfl rfl (wr_minus _ _ _) ?_; clear M1; intro w' M1) | (refine wpL_bx M2 rfl rfl rfl rfl ?_; clear M2; intro g3 w3 M3) | (refine wpL_alc M2 rfl rfl ?_; clear M2; intro g3 w3 M3) | (refine wpL_ldc M2 rfl rfl rfl ?_) | (refine wpL_lgc M2 rfl rfl rfl ?_) | (refine wpL_stc M2 rfl rfl rfl rfl ?_; clear M2; intro w' M2) | (refine wpL_sti M2 rfl rfl rfl rfl ?_; clear M2; intro w' M2) | (refine wpL_sth M2 rfl rfl rfl rfl (wr_minus _ _ _) ?_; clear M2; intro w' M2) | (refine wpL_bx M3 rfl rfl rfl rfl ?_; clear M3; intro g4 w4 M4) | (refine wpL_alc M3 rfl rfl ?_; clear M3; intro g4 w4 M4) | (refine wpL_ldc M3 rfl rfl rfl ?_) | (refine wpL_lgc M3 rfl rfl rfl ?_) | (refine wpL_stc M3 rfl rfl rfl rfl ?_; clear M3; intro w' M3) | (refine wpL_sti M3 rfl rfl rfl rfl ?_; clear M3; intro w' M3) | (refine wpL_sth M3 rfl rfl rfl rfl (wr_minus _ _ _) ?_; clear M3; intro w' M3) | (refine wpL_bx M4 rfl rfl rfl rfl ?_; clear M4; intro g5 w5 M5) | (refine wpL_alc M4 rfl rfl ?_; clear M4; intro g5 w5 M5) | (refine wpL_ldc M4 rfl rfl rfl ?_) | (refine wpL_lgc M4 rfl rfl rfl ?_) | (refine wpL_stc M4 rfl rfl rfl rfl ?_; clear M4; intro w' M4) | (refine wpL_sti M4 rfl rfl rfl rfl ?_; clear M4; intro w' M4) | (refine wpL_sth M4 rfl rfl rfl rfl (wr_minus _ _ _) ?_; clear M4; intro w' M4) | (refine wpL_ldc M5 rfl rfl rfl ?_) | (refine wpL_lgc M5 rfl rfl rfl ?_) | (refine wpL_stc M5 rfl rfl rfl rfl ?_; clear M5; intro w' M5) | (refine wpL_sti M5 rfl rfl rfl rfl ?_; clear M5; intro w' M5) | (refine wpL_sth M5 rfl rfl rfl rfl (wr_minus _ _ _) ?_; clear M5; intro w' M5))))
  go_wp2_with ((with_reducible refine (?_ : Go.wpList _ _ _ (_ :: _) _ _)); (first | go_skip | (refine wpL_ldc M5 rfl rfl rfl ?_) | (refine wpL_lgc M5 rfl rfl rfl ?_) | (refine wpL_stc M5 rfl rfl rfl rfl ?_; clear M5; intro w' M5) | (refine wpL_sti M5 rfl rfl rfl rfl ?_; clear M5; intro w' M5) | (refine wpL_sth M5 rfl rfl rfl rfl (wr_minus _ _ _) ?_; clear M5; intro w' M5)))
  refine (CS2.out _).mono ?_
  rintro e w10 ⟨rfl, hA⟩
  have M15 := M5.call hA
  clear hA M5 CS2
  go_wp2_with fail
  have wX : IntKind.i64.wrap X = X := IntWalk.i64_in _ (by omega)
  have wY : IntKind.i64.wrap Y = Y := IntWalk.i64_in _ (by omega)
  refine wp_region_held_drew (S := (fun w' : World => w'.cell? ⟨g1, 0, none⟩ = some (.int .i64 x) ∧ w'.cell? ⟨g1, 1, none⟩ = some (.int .i64 y) ∧ w'.cell? ⟨g1, 2, none⟩ = some (.slice a n ca) ∧ w'.cell? ⟨g2, 0, none⟩ = some (.int .i64 x) ∧ w'.cell? ⟨g2, 1, none⟩ = some (.int .i64 y) ∧ w'.cell? ⟨g2, 2, none⟩ = some (.slice b n cb) ∧ w'.cell? ⟨g3, 3, none⟩ = some (.int .i8 X) ∧ w'.cell? ⟨g3, 4, none⟩ = some (.int .i8 Y))) (by kernel_rfl) (⟨M15.cell (.tail _ _ _ _ _ (.tail _ _ _ _ _ (.tail _ _ _ _ _ (.tail _ _ _ _ _ (Has.head _ _ _ _))))) (i := 0) rfl, M15.cell (.tail _ _ _ _ _ (.tail _ _ _ _ _ (.tail _ _ _ _ _ (.tail _ _ _ _ _ (Has.head _ _ _ _))))) (i := 1) rfl, M15.cell (.tail _ _ _ _ _ (.tail _ _ _ _ _ (.tail _ _ _ _ _ (.tail _ _ _ _ _ (Has.head _ _ _ _))))) (i := 2) rfl, M15.cell (.tail _ _ _ _ _ (.tail _ _ _ _ _ (.tail _ _ _ _ _ (Has.head _ _ _ _)))) (i := 0) rfl, M15.cell (.tail _ _ _ _ _ (.tail _ _ _ _ _ (.tail _ _ _ _ _ (Has.head _ _ _ _)))) (i := 1) rfl, M15.cell (.tail _ _ _ _ _ (.tail _ _ _ _ _ (.tail _ _ _ _ _ (Has.head _ _ _ _)))) (i := 2) rfl, M15.cell (.tail _ _ _ _ _ (.tail _ _ _ _ _ (Has.head _ _ _ _))) (i := 3) rfl, M15.cell (.tail _ _ _ _ _ (.tail _ _ _ _ _ (Has.head _ _ _ _))) (i := 4) rfl⟩) (fun hHeld => ?_)
  refine tkT 0 ?v29 ?hy29 hHeld ?rest29
  case hy29 => (intro w' hSw; (try dsimp only at hSw); go_simp; (try with_reducible rfl))
  try simp only [Act.put, puts]
  refine tkT 1 ?v30 ?hy30 hHeld ?rest30
  case hy30 => (intro w' hSw; (try dsimp only at hSw); go_simp; (try with_reducible rfl))
  try simp only [Act.put, puts]
  refine tkT 2 ?v31 ?hy31 hHeld ?rest31
  case hy31 => (intro w' hSw; (try dsimp only at hSw); go_simp; (try with_reducible rfl))
  try simp only [Act.put, puts]
  refine tkT 3 ?v32 ?hy32 hHeld ?rest32
  case hy32 => (intro w' hSw; (try dsimp only at hSw); go_simp; (try with_reducible rfl))
  try simp only [Act.put, puts]
  refine tkT 4 ?v33 ?hy33 hHeld ?rest33
  case hy33 => (intro w' hSw; (try dsimp only at hSw); go_simp; (try with_reducible rfl))
  try simp only [Act.put, puts]
  refine tkT 5 ?v34 ?hy34 hHeld ?rest34
  case hy34 => (intro w' hSw; (try dsimp only at hSw); go_simp; (try with_reducible rfl))
  try simp only [Act.put, puts]
  refine tkT 6 ?v35 ?hy35 hHeld ?rest35
  case hy35 => (intro w' hSw; (try dsimp only at hSw); go_simp; (try with_reducible rfl))
  try simp only [Act.put, puts]
  refine tkT 7 ?v36 ?hy36 hHeld ?rest36
  case hy36 => (intro w' hSw; (try dsimp only at hSw); go_simp; (try with_reducible rfl))
  try simp only [Act.put, puts]
  refine tkT 8 ?v37 ?hy37 hHeld ?rest37
  case hy37 => (intro w' hSw; (try dsimp only at hSw); go_simp; (try with_reducible rfl))
  try simp only [Act.put, puts]
  refine tkT 10 ?v38 ?hy38 hHeld ?rest38
  case hy38 => (intro w' hSw; (try dsimp only at hSw); go_simp; (try with_reducible rfl))
  try simp only [Act.put, puts]
  refine tkT 11 ?v39 ?hy39 hHeld ?rest39
  case hy39 => (intro w' hSw; (try dsimp only at hSw); go_simp; (try with_reducible rfl))
  try simp only [Act.put, puts]
  refine tkT 12 ?v40 ?hy40 hHeld ?rest40
  case hy40 => (intro w' hSw; (try dsimp only at hSw); go_simp; (try with_reducible rfl))
  try simp only [Act.put, puts]
  refine tkT 13 ?v41 ?hy41 hHeld ?rest41
  case hy41 => (intro w' hSw; (try dsimp only at hSw); go_simp; (try with_reducible rfl))
  try simp only [Act.put, puts]
  refine tkT 14 ?v42 ?hy42 hHeld ?rest42
  case hy42 => (intro w' hSw; (try dsimp only at hSw); go_simp; (try with_reducible rfl))
  try simp only [Act.put, puts]
  refine tkT 15 ?v43 ?hy43 hHeld ?rest43
  case hy43 => (intro w' hSw; (try dsimp only at hSw); go_simp; (try with_reducible rfl))
  try simp only [Act.put, puts]
  refine tkT 16 ?v44 ?hy44 hHeld ?rest44
  case hy44 => (intro w' hSw; (try dsimp only at hSw); go_simp; (try with_reducible rfl))
  try simp only [Act.put, puts]
  refine tkT 17 ?v45 ?hy45 hHeld ?rest45
  case hy45 => (intro w' hSw; (try dsimp only at hSw); go_simp; (try with_reducible rfl))
  try simp only [Act.put, puts]
  refine tkT 18 ?v46 ?hy46 hHeld ?rest46
  case hy46 => (intro w' hSw; (try dsimp only at hSw); go_simp; (try with_reducible rfl))
  try simp only [Act.put, puts]
  refine wpAnyH_ready (rs := [9]) (by kernel_rfl) (by simp) ?_
  refine AllReadyH.cons rfl (fun K hK => ?_) AllReadyH.nil
  go_simp
  refine (HC1.out _ M15.drew.below).mono ?_
  rintro e w6 ⟨a1, c1, fs, rfl, hV, hP, hL, hA⟩
  have M16 := M15.drew.call hA
  have HV := Lib.hid hV
  have HP := Lib.hid hP
  have HLT := Lib.hid hL
  clear hV hP hL hA
  try go_wp2_with fail
  refine hK.out _ _ (⟨M16.cell (.tail _ _ _ _ _ (.tail _ _ _ _ _ (.tail _ _ _ _ _ (.tail _ _ _ _ _ (Has.head _ _ _ _))))) (i := 0) rfl, M16.cell (.tail _ _ _ _ _ (.tail _ _ _ _ _ (.tail _ _ _ _ _ (.tail _ _ _ _ _ (Has.head _ _ _ _))))) (i := 1) rfl, M16.cell (.tail _ _ _ _ _ (.tail _ _ _ _ _ (.tail _ _ _ _ _ (.tail _ _ _ _ _ (Has.head _ _ _ _))))) (i := 2) rfl, M16.cell (.tail _ _ _ _ _ (.tail _ _ _ _ _ (.tail _ _ _ _ _ (Has.head _ _ _ _)))) (i := 0) rfl, M16.cell (.tail _ _ _ _ _ (.tail _ _ _ _ _ (.tail _ _ _ _ _ (Has.head _ _ _ _)))) (i := 1) rfl, M16.cell (.tail _ _ _ _ _ (.tail _ _ _ _ _ (.tail _ _ _ _ _ (Has.head _ _ _ _)))) (i := 2) rfl, M16.cell (.tail _ _ _ _ _ (.tail _ _ _ _ _ (Has.head _ _ _ _))) (i := 3) rfl, M16.cell (.tail _ _ _ _ _ (.tail _ _ _ _ _ (Has.head _ _ _ _))) (i := 4) rfl⟩) (fun hHeld => ?_)
  clear hK K
  try simp only [Act.put, puts]
  refine wpAnyH_ready (rs := [19]) (by kernel_rfl) (by simp) ?_
  refine AllReadyH.cons rfl (fun K hK => ?_) AllReadyH.nil
  go_simp
  refine (HC2.out _ M16.below).mono ?_
  rintro e w7 ⟨a2, c2, rfl, hU, hA⟩
  have M17 := M16.call hA
  have HV7 := Lib.hid (HV.out.below hA)
  have HU7 := Lib.hid hU
  clear hU hA
  try go_wp2_with fail
  refine hK.out _ _ (⟨M17.cell (.tail _ _ _ _ _ (.tail _ _ _ _ _ (.tail _ _ _ _ _ (.tail _ _ _ _ _ (Has.head _ _ _ _))))) (i := 0) rfl, M17.cell (.tail _ _ _ _ _ (.tail _ _ _ _ _ (.tail _ _ _ _ _ (.tail _ _ _ _ _ (Has.head _ _ _ _))))) (i := 1) rfl, M17.cell (.tail _ _ _ _ _ (.tail _ _ _ _ _ (.tail _ _ _ _ _ (.tail _ _ _ _ _ (Has.head _ _ _ _))))) (i := 2) rfl, M17.cell (.tail _ _ _ _ _ (.tail _ _ _ _ _ (.tail _ _ _ _ _ (Has.head _ _ _ _)))) (i := 0) rfl, M17.cell (.tail _ _ _ _ _ (.tail _ _ _ _ _ (.tail _ _ _ _ _ (Has.head _ _ _ _)))) (i := 1) rfl, M17.cell (.tail _ _ _ _ _ (.tail _ _ _ _ _ (.tail _ _ _ _ _ (Has.head _ _ _ _)))) (i := 2) rfl, M17.cell (.tail _ _ _ _ _ (.tail _ _ _ _ _ (Has.head _ _ _ _))) (i := 3) rfl, M17.cell (.tail _ _ _ _ _ (.tail _ _ _ _ _ (Has.head _ _ _ _))) (i := 4) rfl⟩) (fun hHeld => ?_)
  clear hK K
  try simp only [Act.put, puts]
  refine wpAnyH_ready (rs := [20]) (by kernel_rfl) (by simp) ?_
  refine AllReadyH.cons rfl (fun K hK => ?_) AllReadyH.nil
  rw [if_pos (by rfl)]
  refine Grid.wp_stM (v := fv sx sy (.slice a1 vs.length c1)) M17 rfl rfl rfl (wr_fx _ _ _ _ _ _ _ _) (.tail _ _ _ _ _ _ _ (Upd.head _ _ _ _ _)) ?_
  intro w8 M18 hT8
  have HV8 := Lib.hid (HV7.out.turnedB (M17.has (.tail _ _ _ _ _ (Has.head _ _ _ _))) (by decide) (noPart_f _ _ _ _ _) hT8)
  have HU8 := Lib.hid (HU7.out.turnedB (M17.has (.tail _ _ _ _ _ (Has.head _ _ _ _))) (by decide) (by decide) hT8)
  refine hK.out _ _ (⟨M18.cell (.tail _ _ _ _ _ (.tail _ _ _ _ _ (.tail _ _ _ _ _ (.tail _ _ _ _ _ (Has.head _ _ _ _))))) (i := 0) rfl, M18.cell (.tail _ _ _ _ _ (.tail _ _ _ _ _ (.tail _ _ _ _ _ (.tail _ _ _ _ _ (Has.head _ _ _ _))))) (i := 1) rfl, M18.cell (.tail _ _ _ _ _ (.tail _ _ _ _ _ (.tail _ _ _ _ _ (.tail _ _ _ _ _ (Has.head _ _ _ _))))) (i := 2) rfl, M18.cell (.tail _ _ _ _ _ (.tail _ _ _ _ _ (.tail _ _ _ _ _ (Has.head _ _ _ _)))) (i := 0) rfl, M18.cell (.tail _ _ _ _ _ (.tail _ _ _ _ _ (.tail _ _ _ _ _ (Has.head _ _ _ _)))) (i := 1) rfl, M18.cell (.tail _ _ _ _ _ (.tail _ _ _ _ _ (.tail _ _ _ _ _ (Has.head _ _ _ _)))) (i := 2) rfl, M18.cell (.tail _ _ _ _ _ (.tail _ _ _ _ _ (Has.head _ _ _ _))) (i := 3) rfl, M18.cell (.tail _ _ _ _ _ (.tail _ _ _ _ _ (Has.head _ _ _ _))) (i := 4) rfl⟩) (fun hHeld => ?_)
  clear hK K
  try simp only [Act.put, puts]
  refine wpAnyH_ready (rs := [21]) (by kernel_rfl) (by simp) ?_
  refine AllReadyH.cons rfl (fun K hK => ?_) AllReadyH.nil
  rw [if_pos (by rfl)]
  refine Grid.wp_stM (v := fv sx sy (.slice a2 vs.length c2)) M18 rfl rfl rfl (wr_f _ _ _ _ _ _ _ _) (Upd.head _ _ _ _ _) ?_
  intro w9 M19 hT9
  have HV9 := Lib.hid (HV8.out.turnedB (M18.has (Has.head _ _ _ _)) (by decide) (noPart_f _ _ _ _ _) hT9)
  have HU9 := Lib.hid (HU8.out.turnedB (M18.has (Has.head _ _ _ _)) (by decide) (by decide) hT9)
  refine hK.out _ _ (⟨M19.cell (.tail _ _ _ _ _ (.tail _ _ _ _ _ (.tail _ _ _ _ _ (.tail _ _ _ _ _ (Has.head _ _ _ _))))) (i := 0) rfl, M19.cell (.tail _ _ _ _ _ (.tail _ _ _ _ _ (.tail _ _ _ _ _ (.tail _ _ _ _ _ (Has.head _ _ _ _))))) (i := 1) rfl, M19.cell (.tail _ _ _ _ _ (.tail _ _ _ _ _ (.tail _ _ _ _ _ (.tail _ _ _ _ _ (Has.head _ _ _ _))))) (i := 2) rfl, M19.cell (.tail _ _ _ _ _ (.tail _ _ _ _ _ (.tail _ _ _ _ _ (Has.head _ _ _ _)))) (i := 0) rfl, M19.cell (.tail _ _ _ _ _ (.tail _ _ _ _ _ (.tail _ _ _ _ _ (Has.head _ _ _ _)))) (i := 1) rfl, M19.cell (.tail _ _ _ _ _ (.tail _ _ _ _ _ (.tail _ _ _ _ _ (Has.head _ _ _ _)))) (i := 2) rfl, M19.cell (.tail _ _ _ _ _ (.tail _ _ _ _ _ (Has.head _ _ _ _))) (i := 3) rfl, M19.cell (.tail _ _ _ _ _ (.tail _ _ _ _ _ (Has.head _ _ _ _))) (i := 4) rfl⟩) (fun hHeld => ?_)
  clear hK K
  try simp only [Act.put, puts]
  refine wpAnyH_done (by kernel_rfl) ?_ _
  clear M16 M17 M18 hT8 hT9 HV HV7 HV8 HU7 HU8
  go_wp2_with fail
  refine bodyPost_ret (res_cells rfl M19 rfl (.tail _ _ _ _ _ (Has.head _ _ _ _)) (rd_fx _ _ _) rfl (Has.head _ _ _ _) (rd_f _ _ _)) rfl ?_
  exact ⟨a1, c1, a2, c2, fs, rfl, HV9.out, HP.out, HLT.out, HU9.out, M19.below⟩

set_option maxRecDepth 20000 in
set_option maxHeartbeats 6400000 in
theorem do_split (o : OpV) (x y sx sy k : Nat) (a b : Option Addr) (n ca cb : Nat) (vs : List Nat) (hk : o.k % 5 = 3) (hk0 : 0 ≤ o.k ∧ o.k < 256) (hx : x ≤ 4) (hy : y ≤ 4) (w : World)
    (C1 : ∀ wx, Below w.heap.size w wx → Calls Tryd.prog 18 #[fv x y (.slice a n ca)] wx (ResV sx sy k vs wx))
    (C2 : ∀ wx, Below w.heap.size w wx → Calls Tryd.prog 37 #[fv x y (.slice b n cb)] wx (ResF sx sy vs wx)) :
    Calls Tryd.prog 12 #[fv x y (.slice a n ca), fv x y (.slice b n cb), opv o] w fun e w' => ∃ a1 c1 a2 c2 fs, e = .returned (.tuple #[fv sx sy (.slice a1 vs.length c1), fv sx sy (.slice a2 vs.length c2)]) ∧ IsV w' a1 vs.length c1 fs ∧ Prp fs vs ∧ Lt k fs ∧ IsU w' a2 vs.length c2 vs ∧ Below w.heap.size w w' := by
  obtain ⟨ok, oq, oa, on, oc, zs, X, Y, W, H⟩ := o
  simp only at hk hk0
  have HC1 := Lib.hid C1
  have HC2 := Lib.hid C2
  have d1 : decide ((4 : Int) < (x : Int)) = false := decide_eq_false (by omega)
  have d2 : decide ((4 : Int) < (y : Int)) = false := decide_eq_false (by omega)
  have hkt : ok.tmod 5 = 3 := by rw [Int.tmod_eq_emod_of_nonneg hk0.1]; exact hk
  have M0 := Mem.start w
  clear C1 C2
  show Calls Tryd.prog 12 #[fv x y (.slice a n ca), fv x y (.slice b n cb), .agg #[.int .u8 ok, .int .u8 oq, .slice oa on oc, .int .i8 X, .int .i8 Y, .int .u8 W, .int .u8 H]] w _
  go_enter Tryd.func12, Tryd.ntmps12
  go_upto_region 14 with (((with_reducible refine (?_ : Go.wpList _ _ _ (_ :: _) _ _)); (first | go_skip | (refine wpL_bx M0 rfl rfl rfl rfl ?_; clear M0; intro g1 w1 M1) | (refine wpL_alc M0 rfl rfl ?_; clear M0; intro g1 w1 M1) | (refine wpL_ldc M0 rfl rfl rfl ?_) | (refine wpL_lgc M0 rfl rfl rfl ?_) | (refine wpL_stc M0 rfl rfl rfl rfl ?_; clear M0; intro w' M0) | (refine wpL_sti M0 rfl rfl rfl rfl ?_; clear M0; intro w' M0) | (refine wpL_sth M0 rfl rfl rfl rfl (wr_minus _ _ _) ?_; clear M0; intro w' M0) | (refine wpL_bx M1 rfl rfl rfl rfl ?_; clear M1; intro g2 w2 M2) | (refine wpL_alc M1 rfl rfl ?_; clear M1; intro g2 w2 M2) | (refine wpL_ldc M1 rfl rfl rfl ?_) | (refine wpL_lgc M1 rfl rfl rfl ?_) | (refine wpL_stc M1 rfl rfl rfl rfl ?_; clear M1; intro w' M1) | (refine wpL_sti M1 rfl rfl rfl rfl ?_; clear M1; intro w' M1) | (refine wpL_sth M1 rfl rfl rfl rfl (wr_minus _ _ _) ?_; clear M1; intro w' M1) | (refine wpL_bx M2 rfl rfl rfl rfl ?_; clear M2; intro g3 w3 M3) | (refine wpL_alc M2 rfl rfl ?_; clear M2; intro g3 w3 M3) | (refine wpL_ldc M2 rfl rfl rfl ?_) | (refine wpL_lgc M2 rfl rfl rfl ?_) | (refine wpL_stc M2 rfl rfl rfl rfl ?_; clear M2; intro w' M2) | (refine wpL_sti M2 rfl rfl rfl rfl ?_; clear M2; intro w' M2) | (refine wpL_sth M2 rfl rfl rfl rfl (wr_minus _ _ _) ?_; clear M2; intro w' M2) | (refine wpL_bx M3 rfl rfl rfl rfl ?_; clear M3; intro g4 w4 M4) | (refine wpL_alc M3 rfl rfl ?_; clear M3; intro g4 w4 M4) | (refine wpL_ldc M3 rfl rfl rfl ?_) | (refine wpL_lgc M3 rfl rfl rfl ?_) | (refine wpL_stc M3 rfl rfl rfl rfl ?_; clear M3; intro w' M3) | (refine wpL_sti M3 rfl rfl rfl rfl ?_; clear M3; intro w' M3) | (refine wpL_sth M3 rfl rfl rfl rfl (wr_minus _ _ _) ?_; clear M3; intro w' M3) | (refine wpL_bx M4 rfl rfl rfl rfl ?_; clear M4; intro g5 w5 M5) | (refine wpL_alc M4 rfl rfl ?_; clear M4; intro g5 w5 M5) | (refine wpL_ldc M4 rfl rfl rfl ?_) | (refine wpL_lgc M4 rfl rfl rfl ?_) | (refine wpL_stc M4 rfl rfl rfl rfl ?_; clear M4; intro w' M4) | (refine wpL_sti M4 rfl rfl rfl rfl ?_; clear M4; intro w' M4) | (refine wpL_sth M4 rfl rfl rfl rfl (wr_minus _ _ _) ?_; clear M4; intro w' M4) | (refine wpL_ldc M5 rfl rfl rfl ?_) | (refine wpL_lgc M5 rfl rfl rfl ?_) | (refine wpL_stc M5 rfl rfl rfl rfl ?_; clear M5; intro w' M5) | (refine wpL_sti M5 rfl rfl rfl rfl ?_; clear M5; intro w' M5) | (refine wpL_sth M5 rfl rfl rfl rfl (wr_minus _ _ _) ?_; clear M5; intro w' M5))))
  clear d1 d2
  go_wp2_with fail
  refine wp_region_held_drew (S := (fun w' : World => w'.cell? ⟨g1, 0, none⟩ = some (.int .i64 x) ∧ w'.cell? ⟨g1, 1, none⟩ = some (.int .i64 y) ∧ w'.cell? ⟨g1, 2, none⟩ = some (.slice a n ca) ∧ w'.cell? ⟨g2, 0, none⟩ = some (.int .i64 x) ∧ w'.cell? ⟨g2, 1, none⟩ = some (.int .i64 y) ∧ w'.cell? ⟨g2, 2, none⟩ = some (.slice b n cb))) (by kernel_rfl) (⟨M5.cell (.tail _ _ _ _ _ (.tail _ _ _ _ _ (.tail _ _ _ _ _ (.tail _ _ _ _ _ (Has.head _ _ _ _))))) (i := 0) rfl, M5.cell (.tail _ _ _ _ _ (.tail _ _ _ _ _ (.tail _ _ _ _ _ (.tail _ _ _ _ _ (Has.head _ _ _ _))))) (i := 1) rfl, M5.cell (.tail _ _ _ _ _ (.tail _ _ _ _ _ (.tail _ _ _ _ _ (.tail _ _ _ _ _ (Has.head _ _ _ _))))) (i := 2) rfl, M5.cell (.tail _ _ _ _ _ (.tail _ _ _ _ _ (.tail _ _ _ _ _ (Has.head _ _ _ _)))) (i := 0) rfl, M5.cell (.tail _ _ _ _ _ (.tail _ _ _ _ _ (.tail _ _ _ _ _ (Has.head _ _ _ _)))) (i := 1) rfl, M5.cell (.tail _ _ _ _ _ (.tail _ _ _ _ _ (.tail _ _ _ _ _ (Has.head _ _ _ _)))) (i := 2) rfl⟩) (fun hHeld => ?_)
  refine tkT 0 ?v51 ?hy51 hHeld ?rest51
  case hy51 => (intro w' hSw; (try dsimp only at hSw); go_simp; (try with_reducible rfl))
  try simp only [Act.put, puts]
  refine tkT 2 ?v52 ?hy52 hHeld ?rest52
  case hy52 => (intro w' hSw; (try dsimp only at hSw); go_simp; (try with_reducible rfl))
  try simp only [Act.put, puts]
  refine wpAnyH_ready (rs := [1]) (by kernel_rfl) (by simp) ?_
  refine AllReadyH.cons rfl (fun K hK => ?_) AllReadyH.nil
  go_simp
  refine (HC1.out _ M5.drew.below).mono ?_
  rintro e w6 ⟨a1, c1, fs, rfl, hV, hP, hL, hA⟩
  have M16 := M5.drew.call hA
  have HV := Lib.hid hV
  have HP := Lib.hid hP
  have HLT := Lib.hid hL
  clear hV hP hL hA
  try go_wp2_with fail
  refine hK.out _ _ (⟨M16.cell (.tail _ _ _ _ _ (.tail _ _ _ _ _ (.tail _ _ _ _ _ (.tail _ _ _ _ _ (Has.head _ _ _ _))))) (i := 0) rfl, M16.cell (.tail _ _ _ _ _ (.tail _ _ _ _ _ (.tail _ _ _ _ _ (.tail _ _ _ _ _ (Has.head _ _ _ _))))) (i := 1) rfl, M16.cell (.tail _ _ _ _ _ (.tail _ _ _ _ _ (.tail _ _ _ _ _ (.tail _ _ _ _ _ (Has.head _ _ _ _))))) (i := 2) rfl, M16.cell (.tail _ _ _ _ _ (.tail _ _ _ _ _ (.tail _ _ _ _ _ (Has.head _ _ _ _)))) (i := 0) rfl, M16.cell (.tail _ _ _ _ _ (.tail _ _ _ _ _ (.tail _ _ _ _ _ (Has.head _ _ _ _)))) (i := 1) rfl, M16.cell (.tail _ _ _ _ _ (.tail _ _ _ _ _ (.tail _ _ _ _ _ (Has.head _ _ _ _)))) (i := 2) rfl⟩) (fun hHeld => ?_)
  clear hK K
  try simp only [Act.put, puts]
  refine wpAnyH_ready (rs := [3]) (by kernel_rfl) (by simp) ?_
  refine AllReadyH.cons rfl (fun K hK => ?_) AllReadyH.nil
  go_simp
  refine (HC2.out _ M16.below).mono ?_
  rintro e w7 ⟨a2, c2, rfl, hU, hA⟩
  have M17 := M16.call hA
  have HV7 := Lib.hid (HV.out.below hA)
  have HU7 := Lib.hid hU
  clear hU hA
  try go_wp2_with fail
  refine hK.out _ _ (⟨M17.cell (.tail _ _ _ _ _ (.tail _ _ _ _ _ (.tail _ _ _ _ _ (.tail _ _ _ _ _ (Has.head _ _ _ _))))) (i := 0) rfl, M17.cell (.tail _ _ _ _ _ (.tail _ _ _ _ _ (.tail _ _ _ _ _ (.tail _ _ _ _ _ (Has.head _ _ _ _))))) (i := 1) rfl, M17.cell (.tail _ _ _ _ _ (.tail _ _ _ _ _ (.tail _ _ _ _ _ (.tail _ _ _ _ _ (Has.head _ _ _ _))))) (i := 2) rfl, M17.cell (.tail _ _ _ _ _ (.tail _ _ _ _ _ (.tail _ _ _ _ _ (Has.head _ _ _ _)))) (i := 0) rfl, M17.cell (.tail _ _ _ _ _ (.tail _ _ _ _ _ (.tail _ _ _ _ _ (Has.head _ _ _ _)))) (i := 1) rfl, M17.cell (.tail _ _ _ _ _ (.tail _ _ _ _ _ (.tail _ _ _ _ _ (Has.head _ _ _ _)))) (i := 2) rfl⟩) (fun hHeld => ?_)
  clear hK K
  try simp only [Act.put, puts]
  refine wpAnyH_ready (rs := [4]) (by kernel_rfl) (by simp) ?_
  refine AllReadyH.cons rfl (fun K hK => ?_) AllReadyH.nil
  rw [if_pos (by rfl)]
  refine Grid.wp_stM (v := fv sx sy (.slice a1 vs.length c1)) M17 rfl rfl rfl (wr_fx _ _ _ _ _ _ _ _) (.tail _ _ _ _ _ _ _ (Upd.head _ _ _ _ _)) ?_
  intro w8 M18 hT8
  have HV8 := Lib.hid (HV7.out.turnedB (M17.has (.tail _ _ _ _ _ (Has.head _ _ _ _))) (by decide) (noPart_f _ _ _ _ _) hT8)
  have HU8 := Lib.hid (HU7.out.turnedB (M17.has (.tail _ _ _ _ _ (Has.head _ _ _ _))) (by decide) (by decide) hT8)
  refine hK.out _ _ (⟨M18.cell (.tail _ _ _ _ _ (.tail _ _ _ _ _ (.tail _ _ _ _ _ (.tail _ _ _ _ _ (Has.head _ _ _ _))))) (i := 0) rfl, M18.cell (.tail _ _ _ _ _ (.tail _ _ _ _ _ (.tail _ _ _ _ _ (.tail _ _ _ _ _ (Has.head _ _ _ _))))) (i := 1) rfl, M18.cell (.tail _ _ _ _ _ (.tail _ _ _ _ _ (.tail _ _ _ _ _ (.tail _ _ _ _ _ (Has.head _ _ _ _))))) (i := 2) rfl, M18.cell (.tail _ _ _ _ _ (.tail _ _ _ _ _ (.tail _ _ _ _ _ (Has.head _ _ _ _)))) (i := 0) rfl, M18.cell (.tail _ _ _ _ _ (.tail _ _ _ _ _ (.tail _ _ _ _ _ (Has.head _ _ _ _)))) (i := 1) rfl, M18.cell (.tail _ _ _ _ _ (.tail _ _ _ _ _ (.tail _ _ _ _ _ (Has.head _ _ _ _)))) (i := 2) rfl⟩) (fun hHeld => ?_)
  clear hK K
  try simp only [Act.put, puts]
  refine wpAnyH_ready (rs := [5]) (by kernel_rfl) (by simp) ?_
  refine AllReadyH.cons rfl (fun K hK => ?_) AllReadyH.nil
  rw [if_pos (by rfl)]
  refine Grid.wp_stM (v := fv sx sy (.slice a2 vs.length c2)) M18 rfl rfl rfl (wr_f _ _ _ _ _ _ _ _) (Upd.head _ _ _ _ _) ?_
  intro w9 M19 hT9
  have HV9 := Lib.hid (HV8.out.turnedB (M18.has (Has.head _ _ _ _)) (by decide) (noPart_f _ _ _ _ _) hT9)
  have HU9 := Lib.hid (HU8.out.turnedB (M18.has (Has.head _ _ _ _)) (by decide) (by decide) hT9)
  refine hK.out _ _ (⟨M19.cell (.tail _ _ _ _ _ (.tail _ _ _ _ _ (.tail _ _ _ _ _ (.tail _ _ _ _ _ (Has.head _ _ _ _))))) (i := 0) rfl, M19.cell (.tail _ _ _ _ _ (.tail _ _ _ _ _ (.tail _ _ _ _ _ (.tail _ _ _ _ _ (Has.head _ _ _ _))))) (i := 1) rfl, M19.cell (.tail _ _ _ _ _ (.tail _ _ _ _ _ (.tail _ _ _ _ _ (.tail _ _ _ _ _ (Has.head _ _ _ _))))) (i := 2) rfl, M19.cell (.tail _ _ _ _ _ (.tail _ _ _ _ _ (.tail _ _ _ _ _ (Has.head _ _ _ _)))) (i := 0) rfl, M19.cell (.tail _ _ _ _ _ (.tail _ _ _ _ _ (.tail _ _ _ _ _ (Has.head _ _ _ _)))) (i := 1) rfl, M19.cell (.tail _ _ _ _ _ (.tail _ _ _ _ _ (.tail _ _ _ _ _ (Has.head _ _ _ _)))) (i := 2) rfl⟩) (fun hHeld => ?_)
  clear hK K
  try simp only [Act.put, puts]
  refine wpAnyH_done (by kernel_rfl) ?_ _
  clear M16 M17 M18 hT8 hT9 HV HV7 HV8 HU7 HU8
  go_wp2_with fail
  refine bodyPost_ret (res_cells rfl M19 rfl (.tail _ _ _ _ _ (Has.head _ _ _ _)) (rd_fx _ _ _) rfl (Has.head _ _ _ _) (rd_f _ _ _)) rfl ?_
  exact ⟨a1, c1, a2, c2, fs, rfl, HV9.out, HP.out, HLT.out, HU9.out, M19.below⟩

set_option maxRecDepth 20000 in
set_option maxHeartbeats 6400000 in
theorem do_join (o : OpV) (x y sx sy k : Nat) (a b : Option Addr) (n ca cb : Nat) (vs : List Nat) (hk : o.k % 5 = 4) (hk0 : 0 ≤ o.k ∧ o.k < 256) (hx : x % 2 = 0) (hy : y % 2 = 0) (w : World)
    (C1 : ∀ wx, Below w.heap.size w wx → Calls Tryd.prog 19 #[fv x y (.slice a n ca)] wx (ResV sx sy k vs wx))
    (C2 : ∀ wx, Below w.heap.size w wx → Calls Tryd.prog 38 #[fv x y (.slice b n cb)] wx (ResF sx sy vs wx)) :
    Calls Tryd.prog 12 #[fv x y (.slice a n ca), fv x y (.slice b n cb), opv o] w fun e w' => ∃ a1 c1 a2 c2 fs, e = .returned (.tuple #[fv sx sy (.slice a1 vs.length c1), fv sx sy (.slice a2 vs.length c2)]) ∧ IsV w' a1 vs.length c1 fs ∧ Prp fs vs ∧ Lt k fs ∧ IsU w' a2 vs.length c2 vs ∧ Below w.heap.size w w' := by
  obtain ⟨ok, oq, oa, on, oc, zs, X, Y, W, H⟩ := o
  simp only at hk hk0
  have HC1 := Lib.hid C1
  have HC2 := Lib.hid C2
  have d1 : (x : Int) % 2 = 0 := by omega
  have d2 : (y : Int) % 2 = 0 := by omega
  have d3 : (x : Int).tmod 2 = 0 := by rw [Int.tmod_eq_emod_of_nonneg (Int.natCast_nonneg x)]; exact d1
  have d4 : (y : Int).tmod 2 = 0 := by rw [Int.tmod_eq_emod_of_nonneg (Int.natCast_nonneg y)]; exact d2
  have hkt : ok.tmod 5 = 4 := by rw [Int.tmod_eq_emod_of_nonneg hk0.1]; exact hk
  have M0 := Mem.start w
  clear C1 C2 hx hy
  show Calls Tryd.prog 12 #[fv x y (.slice a n ca), fv x y (.slice b n cb), .agg #[.int .u8 ok, .int .u8 oq, .slice oa on oc, .int .i8 X, .int .i8 Y, .int .u8 W, .int .u8 H]] w _
  go_enter Tryd.func12, Tryd.ntmps12
  go_upto_region 17 with (((with_reducible refine (?_ : Go.wpList _ _ _ (_ :: _) _ _)); (first | go_skip | (refine wpL_bx M0 rfl rfl rfl rfl ?_; clear M0; intro g1 w1 M1) | (refine wpL_alc M0 rfl rfl ?_; clear M0; intro g1 w1 M1) | (refine wpL_ldc M0 rfl rfl rfl ?_) | (refine wpL_lgc M0 rfl rfl rfl ?_) | (refine wpL_stc M0 rfl rfl rfl rfl ?_; clear M0; intro w' M0) | (refine wpL_sti M0 rfl rfl rfl rfl ?_; clear M0; intro w' M0) | (refine wpL_sth M0 rfl rfl rfl rfl (wr_minus _ _ _) ?_; clear M0; intro w' M0) | (refine wpL_bx M1 rfl rfl rfl rfl ?_; clear M1; intro g2 w2 M2) | (refine wpL_alc M1 rfl rfl ?_; clear M1; intro g2 w2 M2) | (refine wpL_ldc M1 rfl rfl rfl ?_) | (refine wpL_lgc M1 rfl rfl rfl ?_) | (refine wpL_stc M1 rfl rfl rfl rfl ?_; clear M1; intro w' M1) | (refine wpL_sti M1 rfl rfl rfl rfl ?_; clear M1; intro w' M1) | (refine wpL_sth M1 rfl rfl rfl rfl (wr_minus _ _ _) ?_; clear M1; intro w' M1) | (refine wpL_bx M2 rfl rfl rfl rfl ?_; clear M2; intro g3 w3 M3) | (refine wpL_alc M2 rfl rfl ?_; clear M2; intro g3 w3 M3) | (refine wpL_ldc M2 rfl rfl rfl ?_) | (refine wpL_lgc M2 rfl rfl rfl ?_) | (refine wpL_stc M2 rfl rfl rfl rfl ?_; clear M2; intro w' M2) | (refine wpL_sti M2 rfl rfl rfl rfl ?_; clear M2; intro w' M2) | (refine wpL_sth M2 rfl rfl rfl rfl (wr_minus _ _ _) ?_; clear M2; intro w' M2) | (refine wpL_bx M3 rfl rfl rfl rfl ?_; clear M3; intro g4 w4 M4) | (refine wpL_alc M3 rfl rfl ?_; clear M3; intro g4 w4 M4) | (refine wpL_ldc M3 rfl rfl rfl ?_) | (refine wpL_lgc M3 rfl rfl rfl ?_) | (refine wpL_stc M3 rfl rfl rfl rfl ?_; clear M3; intro w' M3) | (refine wpL_sti M3 rfl rfl rfl rfl ?_; clear M3; intro w' M3) | (refine wpL_sth M3 rfl rfl rfl rfl (wr_minus _ _ _) ?_; clear M3; intro w' M3) | (refine wpL_bx M4 rfl rfl rfl rfl ?_; clear M4; intro g5 w5 M5) | (refine wpL_alc M4 rfl rfl ?_; clear M4; intro g5 w5 M5) | (refine wpL_ldc M4 rfl rfl rfl ?_) | (refine wpL_lgc M4 rfl rfl rfl ?_) | (refine wpL_stc M4 rfl rfl rfl rfl ?_; clear M4; intro w' M4) | (refine wpL_sti M4 rfl rfl rfl rfl ?_; clear M4; intro w' M4) | (refine wpL_sth M4 rfl rfl rfl rfl (wr_minus _ _ _) ?_; clear M4; intro w' M4) | (refine wpL_ldc M5 rfl rfl rfl ?_) | (refine wpL_lgc M5 rfl rfl rfl ?_) | (refine wpL_stc M5 rfl rfl rfl rfl ?_; clear M5; intro w' M5) | (refine wpL_sti M5 rfl rfl rfl rfl ?_; clear M5; intro w' M5) | (refine wpL_sth M5 rfl rfl rfl rfl (wr_minus _ _ _) ?_; clear M5; intro w' M5))))
  clear d1 d2 d3 d4
  go_wp2_with fail
  refine wp_region_held_drew (S := (fun w' : World => w'.cell? ⟨g1, 0, none⟩ = some (.int .i64 x) ∧ w'.cell? ⟨g1, 1, none⟩ = some (.int .i64 y) ∧ w'.cell? ⟨g1, 2, none⟩ = some (.slice a n ca) ∧ w'.cell? ⟨g2, 0, none⟩ = some (.int .i64 x) ∧ w'.cell? ⟨g2, 1, none⟩ = some (.int .i64 y) ∧ w'.cell? ⟨g2, 2, none⟩ = some (.slice b n cb))) (by kernel_rfl) (⟨M5.cell (.tail _ _ _ _ _ (.tail _ _ _ _ _ (.tail _ _ _ _ _ (.tail _ _ _ _ _ (Has.head _ _ _ _))))) (i := 0) rfl, M5.cell (.tail _ _ _ _ _ (.tail _ _ _ _ _ (.tail _ _ _ _ _ (.tail _ _ _ _ _ (Has.head _ _ _ _))))) (i := 1) rfl, M5.cell (.tail _ _ _ _ _ (.tail _ _ _ _ _ (.tail _ _ _ _ _ (.tail _ _ _ _ _ (Has.head _ _ _ _))))) (i := 2) rfl, M5.cell (.tail _ _ _ _ _ (.tail _ _ _ _ _ (.tail _ _ _ _ _ (Has.head _ _ _ _)))) (i := 0) rfl, M5.cell (.tail _ _ _ _ _ (.tail _ _ _ _ _ (.tail _ _ _ _ _ (Has.head _ _ _ _)))) (i := 1) rfl, M5.cell (.tail _ _ _ _ _ (.tail _ _ _ _ _ (.tail _ _ _ _ _ (Has.head _ _ _ _)))) (i := 2) rfl⟩) (fun hHeld => ?_)
  refine tkT 0 ?v57 ?hy57 hHeld ?rest57
  case hy57 => (intro w' hSw; (try dsimp only at hSw); go_simp; (try with_reducible rfl))
  try simp only [Act.put, puts]
  refine tkT 2 ?v58 ?hy58 hHeld ?rest58
  case hy58 => (intro w' hSw; (try dsimp only at hSw); go_simp; (try with_reducible rfl))
  try simp only [Act.put, puts]
  refine wpAnyH_ready (rs := [1]) (by kernel_rfl) (by simp) ?_
  refine AllReadyH.cons rfl (fun K hK => ?_) AllReadyH.nil
  go_simp
  refine (HC1.out _ M5.drew.below).mono ?_
  rintro e w6 ⟨a1, c1, fs, rfl, hV, hP, hL, hA⟩
  have M16 := M5.drew.call hA
  have HV := Lib.hid hV
  have HP := Lib.hid hP
  have HLT := Lib.hid hL
  clear hV hP hL hA
  try go_wp2_with fail
  refine hK.out _ _ (⟨M16.cell (.tail _ _ _ _ _ (.tail _ _ _ _ _ (.tail _ _ _ _ _ (.tail _ _ _ _ _ (Has.head _ _ _ _))))) (i := 0) rfl, M16.cell (.tail _ _ _ _ _ (.tail _ _ _ _ _ (.tail _ _ _ _ _ (.tail _ _ _ _ _ (Has.head _ _ _ _))))) (i := 1) rfl, M16.cell (.tail _ _ _ _ _ (.tail _ _ _ _ _ (.tail _ _ _ _ _ (.tail _ _ _ _ _ (Has.head _ _ _ _))))) (i := 2) rfl, M16.cell (.tail _ _ _ _ _ (.tail _ _ _ _ _ (.tail _ _ _ _ _ (Has.head _ _ _ _)))) (i := 0) rfl, M16.cell (.tail _ _ _ _ _ (.tail _ _ _ _ _ (.tail _ _ _ _ _ (Has.head _ _ _ _)))) (i := 1) rfl, M16.cell (.tail _ _ _ _ _ (.tail _ _ _ _ _ (.tail _ _ _ _ _ (Has.head _ _ _ _)))) (i := 2) rfl⟩) (fun hHeld => ?_)
  clear hK K
  try simp only [Act.put, puts]
  refine wpAnyH_ready (rs := [3]) (by kernel_rfl) (by simp) ?_
  refine AllReadyH.cons rfl (fun K hK => ?_) AllReadyH.nil
  go_simp
  refine (HC2.out _ M16.below).mono ?_
  rintro e w7 ⟨a2, c2, rfl, hU, hA⟩
  have M17 := M16.call hA
  have HV7 := Lib.hid (HV.out.below hA)
  have HU7 := Lib.hid hU
  clear hU hA
  try go_wp2_with fail
  refine hK.out _ _ (⟨M17.cell (.tail _ _ _ _ _ (.tail _ _ _ _ _ (.tail _ _ _ _ _ (.tail _ _ _ _ _ (Has.head _ _ _ _))))) (i := 0) rfl, M17.cell (.tail _ _ _ _ _ (.tail _ _ _ _ _ (.tail _ _ _ _ _ (.tail _ _ _ _ _ (Has.head _ _ _ _))))) (i := 1) rfl, M17.cell (.tail _ _ _ _ _ (.tail _ _ _ _ _ (.tail _ _ _ _ _ (.tail _ _ _ _ _ (Has.head _ _ _ _))))) (i := 2) rfl, M17.cell (.tail _ _ _ _ _ (.tail _ _ _ _ _ (.tail _ _ _ _ _ (Has.head _ _ _ _)))) (i := 0) rfl, M17.cell (.tail _ _ _ _ _ (.tail _ _ _ _ _ (.tail _ _ _ _ _ (Has.head _ _ _ _)))) (i := 1) rfl, M17.cell (.tail _ _ _ _ _ (.tail _ _ _ _ _ (.tail _ _ _ _ _ (Has.head _ _ _ _)))) (i := 2) rfl⟩) (fun hHeld => ?_)
  clear hK K
  try simp only [Act.put, puts]
  refine wpAnyH_ready (rs := [4]) (by kernel_rfl) (by simp) ?_
  refine AllReadyH.cons rfl (fun K hK => ?_) AllReadyH.nil
  rw [if_pos (by rfl)]
  refine Grid.wp_stM (v := fv sx sy (.slice a1 vs.length c1)) M17 rfl rfl rfl (wr_fx _ _ _ _ _ _ _ _) (.tail _ _ _ _ _ _ _ (Upd.head _ _ _ _ _)) ?_
  intro w8 M18 hT8
  have HV8 := Lib.hid (HV7.out.turnedB (M17.has (.tail _ _ _ _ _ (Has.head _ _ _ _))) (by decide) (noPart_f _ _ _ _ _) hT8)
  have HU8 := Lib.hid (HU7.out.turnedB (M17.has (.tail _ _ _ _ _ (Has.head _ _ _ _))) (by decide) (by decide) hT8)
  refine hK.out _ _ (⟨M18.cell (.tail _ _ _ _ _ (.tail _ _ _ _ _ (.tail _ _ _ _ _ (.tail _ _ _ _ _ (Has.head _ _ _ _))))) (i := 0) rfl, M18.cell (.tail _ _ _ _ _ (.tail _ _ _ _ _ (.tail _ _ _ _ _ (.tail _ _ _ _ _ (Has.head _ _ _ _))))) (i := 1) rfl, M18.cell (.tail _ _ _ _ _ (.tail _ _ _ _ _ (.tail _ _ _ _ _ (.tail _ _ _ _ _ (Has.head _ _ _ _))))) (i := 2) rfl, M18.cell (.tail _ _ _ _ _ (.tail _ _ _ _ _ (.tail _ _ _ _ _ (Has.head _ _ _ _)))) (i := 0) rfl, M18.cell (.tail _ _ _ _ _ (.tail _ _ _ _ _ (.tail _ _ _ _ _ (Has.head _ _ _ _)))) (i := 1) rfl, M18.cell (.tail _ _ _ _ _ (.tail _ _ _ _ _ (.tail _ _ _ _ _ (Has.head _ _ _ _)))) (i := 2) rfl⟩) (fun hHeld => ?_)
  clear hK K
  try simp only [Act.put, puts]
  refine wpAnyH_ready (rs := [5]) (by kernel_rfl) (by simp) ?_
  refine AllReadyH.cons rfl (fun K hK => ?_) AllReadyH.nil
  rw [if_pos (by rfl)]
  refine Grid.wp_stM (v := fv sx sy (.slice a2 vs.length c2)) M18 rfl rfl rfl (wr_f _ _ _ _ _ _ _ _) (Upd.head _ _ _ _ _) ?_
  intro w9 M19 hT9
  have HV9 := Lib.hid (HV8.out.turnedB (M18.has (Has.head _ _ _ _)) (by decide) (noPart_f _ _ _ _ _) hT9)
  have HU9 := Lib.hid (HU8.out.turnedB (M18.has (Has.head _ _ _ _)) (by decide) (by decide) hT9)
  refine hK.out _ _ (⟨M19.cell (.tail _ _ _ _ _ (.tail _ _ _ _ _ (.tail _ _ _ _ _ (.tail _ _ _ _ _ (Has.head _ _ _ _))))) (i := 0) rfl, M19.cell (.tail _ _ _ _ _ (.tail _ _ _ _ _ (.tail _ _ _ _ _ (.tail _ _ _ _ _ (Has.head _ _ _ _))))) (i := 1) rfl, M19.cell (.tail _ _ _ _ _ (.tail _ _ _ _ _ (.tail _ _ _ _ _ (.tail _ _ _ _ _ (Has.head _ _ _ _))))) (i := 2) rfl, M19.cell (.tail _ _ _ _ _ (.tail _ _ _ _ _ (.tail _ _ _ _ _ (Has.head _ _ _ _)))) (i := 0) rfl, M19.cell (.tail _ _ _ _ _ (.tail _ _ _ _ _ (.tail _ _ _ _ _ (Has.head _ _ _ _)))) (i := 1) rfl, M19.cell (.tail _ _ _ _ _ (.tail _ _ _ _ _ (.tail _ _ _ _ _ (Has.head _ _ _ _)))) (i := 2) rfl⟩) (fun hHeld => ?_)
  clear hK K
  try simp only [Act.put, puts]
  refine wpAnyH_done (by kernel_rfl) ?_ _
  clear M16 M17 M18 hT8 hT9 HV HV7 HV8 HU7 HU8
  go_wp2_with fail
  refine bodyPost_ret (res_cells rfl M19 rfl (.tail _ _ _ _ _ (Has.head _ _ _ _)) (rd_fx _ _ _) rfl (Has.head _ _ _ _) (rd_f _ _ _)) rfl ?_
  exact ⟨a1, c1, a2, c2, fs, rfl, HV9.out, HP.out, HLT.out, HU9.out, M19.below⟩
end Go.Proofs.YtanblpfpkohghaaDoor
