/-
  An act, both ways: the law's (left as it is).
-/
import Derived.Test.YtanblpfpkohghaaDoorExactU
set_option linter.unusedVariables false
set_option linter.unusedSimpArgs false
namespace Go.Proofs.YtanblpfpkohghaaDoor
open Go Go.RowKit Go.Th Go.Th.Dig Go.Th.Ex Go.Th.Grid

set_option maxRecDepth 20000 in
set_option maxHeartbeats 6400000 in
theorem do_same1 (o : OpV) (x y : Nat) (a b : Option Addr) (n ca cb : Nat) (fs us : List Nat) (hk : o.k % 5 = 3) (hk0 : 0 ≤ o.k ∧ o.k < 256) (hx : 4 < x) (w : World) (hV : IsV w a n ca fs) (hU : IsU w b n cb us) :
    Calls Tryd.prog 12 #[fv x y (.slice a n ca), fv x y (.slice b n cb), opv o] w fun e w' => e = .returned (.tuple #[fv x y (.slice a n ca), fv x y (.slice b n cb)]) ∧ IsV w' a n ca fs ∧ IsU w' b n cb us ∧ Below w.heap.size w w' := by
  obtain ⟨ok, oq, oa, on, oc, zs, X, Y, W, H⟩ := o
  simp only at hk hk0
  have HV := Lib.hid hV
  have HU := Lib.hid hU
  have d1 : decide ((4 : Int) < (x : Int)) = true := decide_eq_true (by omega)
  have hkt : ok.tmod 5 = 3 := by rw [Int.tmod_eq_emod_of_nonneg hk0.1]; exact hk
  have M0 := Mem.start w
  clear hV hU
  show Calls Tryd.prog 12 #[fv x y (.slice a n ca), fv x y (.slice b n cb), .agg #[.int .u8 ok, .int .u8 oq, .slice oa on oc, .int .i8 X, .int .i8 Y, .int .u8 W, .int .u8 H]] w _
  go_enter Tryd.func12, Tryd.ntmps12
  go_upto_region 13 with (((with_reducible refine (?_ : Go.wpList _ _ _ (_ :: _) _ _)); (first | go_skip | (refine wpL_bx M0 rfl rfl rfl rfl ?_; clear M0; intro g1 w1 M1) | (refine wpL_alc M0 rfl rfl ?_; clear M0; intro g1 w1 M1) | (refine wpL_ldc M0 rfl rfl rfl ?_) | (refine wpL_lgc M0 rfl rfl rfl ?_) | (refine wpL_stc M0 rfl rfl rfl rfl ?_; clear M0; intro w' M0) | (refine wpL_sti M0 rfl rfl rfl rfl ?_; clear M0; intro w' M0) | (refine wpL_sth M0 rfl rfl rfl rfl (wr_minus _ _ _) ?_; clear M0; intro w' M0) | (refine wpL_bx M1 rfl rfl rfl rfl ?_; clear M1; intro g2 w2 M2) | (refine wpL_alc M1 rfl rfl ?_; clear M1; intro g2 w2 M2) | (refine wpL_ldc M1 rfl rfl rfl ?_) | (refine wpL_lgc M1 rfl rfl rfl ?_) | (refine wpL_stc M1 rfl rfl rfl rfl ?_; clear M1; intro w' M1) | (refine wpL_sti M1 rfl rfl rfl rfl ?_; clear M1; intro w' M1) | (refine wpL_sth M1 rfl rfl rfl rfl (wr_minus _ _ _) ?_; clear M1; intro w' M1) | (refine wpL_bx M2 rfl rfl rfl rfl ?_; clear M2; intro g3 w3 M3) | (refine wpL_alc M2 rfl rfl ?_; clear M2; intro g3 w3 M3) | (refine wpL_ldc M2 rfl rfl rfl ?_) | (refine wpL_lgc M2 rfl rfl rfl ?_) | (refine wpL_stc M2 rfl rfl rfl rfl ?_; clear M2; intro w' M2) | (refine wpL_sti M2 rfl rfl rfl rfl ?_; clear M2; intro w' M2) | (refine wpL_sth M2 rfl rfl rfl rfl (wr_minus _ _ _) ?_; clear M2; intro w' M2) | (refine wpL_bx M3 rfl rfl rfl rfl ?_; clear M3; intro g4 w4 M4) | (refine wpL_alc M3 rfl rfl ?_; clear M3; intro g4 w4 M4) | (refine wpL_ldc M3 rfl rfl rfl ?_) | (refine wpL_lgc M3 rfl rfl rfl ?_) | (refine wpL_stc M3 rfl rfl rfl rfl ?_; clear M3; intro w' M3) | (refine wpL_sti M3 rfl rfl rfl rfl ?_; clear M3; intro w' M3) | (refine wpL_sth M3 rfl rfl rfl rfl (wr_minus _ _ _) ?_; clear M3; intro w' M3) | (refine wpL_bx M4 rfl rfl rfl rfl ?_; clear M4; intro g5 w5 M5) | (refine wpL_alc M4 rfl rfl ?_; clear M4; intro g5 w5 M5) | (refine wpL_ldc M4 rfl rfl rfl ?_) | (refine wpL_lgc M4 rfl rfl rfl ?_) | (refine wpL_stc M4 rfl rfl rfl rfl ?_; clear M4; intro w' M4) | (refine wpL_sti M4 rfl rfl rfl rfl ?_; clear M4; intro w' M4) | (refine wpL_sth M4 rfl rfl rfl rfl (wr_minus _ _ _) ?_; clear M4; intro w' M4) | (refine wpL_ldc M5 rfl rfl rfl ?_) | (refine wpL_lgc M5 rfl rfl rfl ?_) | (refine wpL_stc M5 rfl rfl rfl rfl ?_; clear M5; intro w' M5) | (refine wpL_sti M5 rfl rfl rfl rfl ?_; clear M5; intro w' M5) | (refine wpL_sth M5 rfl rfl rfl rfl (wr_minus _ _ _) ?_; clear M5; intro w' M5))))
  clear d1
  go_wp2_with fail
  refine wp_region_held_drew (S := (fun w' : World => w'.cell? ⟨g1, 0, none⟩ = some (.int .i64 x) ∧ w'.cell? ⟨g1, 1, none⟩ = some (.int .i64 y) ∧ w'.cell? ⟨g1, 2, none⟩ = some (.slice a n ca) ∧ w'.cell? ⟨g2, 0, none⟩ = some (.int .i64 x) ∧ w'.cell? ⟨g2, 1, none⟩ = some (.int .i64 y) ∧ w'.cell? ⟨g2, 2, none⟩ = some (.slice b n cb))) (by kernel_rfl) (⟨M5.cell (.tail _ _ _ _ _ (.tail _ _ _ _ _ (.tail _ _ _ _ _ (.tail _ _ _ _ _ (Has.head _ _ _ _))))) (i := 0) rfl, M5.cell (.tail _ _ _ _ _ (.tail _ _ _ _ _ (.tail _ _ _ _ _ (.tail _ _ _ _ _ (Has.head _ _ _ _))))) (i := 1) rfl, M5.cell (.tail _ _ _ _ _ (.tail _ _ _ _ _ (.tail _ _ _ _ _ (.tail _ _ _ _ _ (Has.head _ _ _ _))))) (i := 2) rfl, M5.cell (.tail _ _ _ _ _ (.tail _ _ _ _ _ (.tail _ _ _ _ _ (Has.head _ _ _ _)))) (i := 0) rfl, M5.cell (.tail _ _ _ _ _ (.tail _ _ _ _ _ (.tail _ _ _ _ _ (Has.head _ _ _ _)))) (i := 1) rfl, M5.cell (.tail _ _ _ _ _ (.tail _ _ _ _ _ (.tail _ _ _ _ _ (Has.head _ _ _ _)))) (i := 2) rfl⟩) (fun hHeld => ?_)
  refine tkT 0 ?v63 ?hy63 hHeld ?rest63
  case hy63 => (intro w' hSw; (try dsimp only at hSw); go_simp; (try with_reducible rfl))
  try simp only [Act.put, puts]
  refine tkT 1 ?v64 ?hy64 hHeld ?rest64
  case hy64 => (intro w' hSw; (try dsimp only at hSw); go_simp; (try with_reducible rfl))
  try simp only [Act.put, puts]
  refine wpAnyH_ready (rs := [2]) (by kernel_rfl) (by simp) ?_
  refine AllReadyH.cons rfl (fun K hK => ?_) AllReadyH.nil
  rw [if_pos (by rfl)]
  refine Grid.wp_stM (v := fv x y (.slice a n ca)) M5.drew rfl rfl rfl (wr_fx _ _ _ _ _ _ _ _) (.tail _ _ _ _ _ _ _ (Upd.head _ _ _ _ _)) ?_
  intro w8 M18 hT8
  have HV8 := Lib.hid ((HV.out.below M5.drew.below).turnedB (M5.drew.has (.tail _ _ _ _ _ (Has.head _ _ _ _))) (by decide) (noPart_f _ _ _ _ _) hT8)
  have HU8 := Lib.hid ((HU.out.below M5.drew.below).turnedB (M5.drew.has (.tail _ _ _ _ _ (Has.head _ _ _ _))) (by decide) (by decide) hT8)
  refine hK.out _ _ (⟨M18.cell (.tail _ _ _ _ _ (.tail _ _ _ _ _ (.tail _ _ _ _ _ (.tail _ _ _ _ _ (Has.head _ _ _ _))))) (i := 0) rfl, M18.cell (.tail _ _ _ _ _ (.tail _ _ _ _ _ (.tail _ _ _ _ _ (.tail _ _ _ _ _ (Has.head _ _ _ _))))) (i := 1) rfl, M18.cell (.tail _ _ _ _ _ (.tail _ _ _ _ _ (.tail _ _ _ _ _ (.tail _ _ _ _ _ (Has.head _ _ _ _))))) (i := 2) rfl, M18.cell (.tail _ _ _ _ _ (.tail _ _ _ _ _ (.tail _ _ _ _ _ (Has.head _ _ _ _)))) (i := 0) rfl, M18.cell (.tail _ _ _ _ _ (.tail _ _ _ _ _ (.tail _ _ _ _ _ (Has.head _ _ _ _)))) (i := 1) rfl, M18.cell (.tail _ _ _ _ _ (.tail _ _ _ _ _ (.tail _ _ _ _ _ (Has.head _ _ _ _)))) (i := 2) rfl⟩) (fun hHeld => ?_)
  clear hK K
  try simp only [Act.put, puts]
  refine wpAnyH_ready (rs := [3]) (by kernel_rfl) (by simp) ?_
  refine AllReadyH.cons rfl (fun K hK => ?_) AllReadyH.nil
  rw [if_pos (by rfl)]
  refine Grid.wp_stM (v := fv x y (.slice b n cb)) M18 rfl rfl rfl (wr_f _ _ _ _ _ _ _ _) (Upd.head _ _ _ _ _) ?_
  intro w9 M19 hT9
  have HV9 := Lib.hid (HV8.out.turnedB (M18.has (Has.head _ _ _ _)) (by decide) (noPart_f _ _ _ _ _) hT9)
  have HU9 := Lib.hid (HU8.out.turnedB (M18.has (Has.head _ _ _ _)) (by decide) (by decide) hT9)
  refine hK.out _ _ (⟨M19.cell (.tail _ _ _ _ _ (.tail _ _ _ _ _ (.tail _ _ _ _ _ (.tail _ _ _ _ _ (Has.head _ _ _ _))))) (i := 0) rfl, M19.cell (.tail _ _ _ _ _ (.tail _ _ _ _ _ (.tail _ _ _ _ _ (.tail _ _ _ _ _ (Has.head _ _ _ _))))) (i := 1) rfl, M19.cell (.tail _ _ _ _ _ (.tail _ _ _ _ _ (.tail _ _ _ _ _ (.tail _ _ _ _ _ (Has.head _ _ _ _))))) (i := 2) rfl, M19.cell (.tail _ _ _ _ _ (.tail _ _ _ _ _ (.tail _ _ _ _ _ (Has.head _ _ _ _)))) (i := 0) rfl, M19.cell (.tail _ _ _ _ _ (.tail _ _ _ _ _ (.tail _ _ _ _ _ (Has.head _ _ _ _)))) (i := 1) rfl, M19.cell (.tail _ _ _ _ _ (.tail _ _ _ _ _ (.tail _ _ _ _ _ (Has.head _ _ _ _)))) (i := 2) rfl⟩) (fun hHeld => ?_)
  clear hK K
  try simp only [Act.put, puts]
  refine wpAnyH_done (by kernel_rfl) ?_ _
  clear M5 M18 hT8 hT9 HV8 HU8
  go_wp2_with fail
  refine bodyPost_ret (res_cells rfl M19 rfl (.tail _ _ _ _ _ (Has.head _ _ _ _)) (rd_fx _ _ _) rfl (Has.head _ _ _ _) (rd_f _ _ _)) rfl ?_
  exact ⟨rfl, HV9.out, HU9.out, M19.below⟩

set_option maxRecDepth 20000 in
set_option maxHeartbeats 6400000 in
theorem do_same2 (o : OpV) (x y : Nat) (a b : Option Addr) (n ca cb : Nat) (fs us : List Nat) (hk : o.k % 5 = 3) (hk0 : 0 ≤ o.k ∧ o.k < 256) (hx : x ≤ 4) (hy : 4 < y) (w : World) (hV : IsV w a n ca fs) (hU : IsU w b n cb us) :
    Calls Tryd.prog 12 #[fv x y (.slice a n ca), fv x y (.slice b n cb), opv o] w fun e w' => e = .returned (.tuple #[fv x y (.slice a n ca), fv x y (.slice b n cb)]) ∧ IsV w' a n ca fs ∧ IsU w' b n cb us ∧ Below w.heap.size w w' := by
  obtain ⟨ok, oq, oa, on, oc, zs, X, Y, W, H⟩ := o
  simp only at hk hk0
  have HV := Lib.hid hV
  have HU := Lib.hid hU
  have d1 : decide ((4 : Int) < (x : Int)) = false := decide_eq_false (by omega)
  have d2 : decide ((4 : Int) < (y : Int)) = true := decide_eq_true (by omega)
  have hkt : ok.tmod 5 = 3 := by rw [Int.tmod_eq_emod_of_nonneg hk0.1]; exact hk
  have M0 := Mem.start w
  clear hV hU
  show Calls Tryd.prog 12 #[fv x y (.slice a n ca), fv x y (.slice b n cb), .agg #[.int .u8 ok, .int .u8 oq, .slice oa on oc, .int .i8 X, .int .i8 Y, .int .u8 W, .int .u8 H]] w _
  go_enter Tryd.func12, Tryd.ntmps12
  go_upto_region 13 with (((with_reducible refine (?_ : Go.wpList _ _ _ (_ :: _) _ _)); (first | go_skip | (refine wpL_bx M0 rfl rfl rfl rfl ?_; clear M0; intro g1 w1 M1) | (refine wpL_alc M0 rfl rfl ?_; clear M0; intro g1 w1 M1) | (refine wpL_ldc M0 rfl rfl rfl ?_) | (refine wpL_lgc M0 rfl rfl rfl ?_) | (refine wpL_stc M0 rfl rfl rfl rfl ?_; clear M0; intro w' M0) | (refine wpL_sti M0 rfl rfl rfl rfl ?_; clear M0; intro w' M0) | (refine wpL_sth M0 rfl rfl rfl rfl (wr_minus _ _ _) ?_; clear M0; intro w' M0) | (refine wpL_bx M1 rfl rfl rfl rfl ?_; clear M1; intro g2 w2 M2) | (refine wpL_alc M1 rfl rfl ?_; clear M1; intro g2 w2 M2) | (refine wpL_ldc M1 rfl rfl rfl ?_) | (refine wpL_lgc M1 rfl rfl rfl ?_) | (refine wpL_stc M1 rfl rfl rfl rfl ?_; clear M1; intro w' M1) | (refine wpL_sti M1 rfl rfl rfl rfl ?_; clear M1; intro w' M1) | (refine wpL_sth M1 rfl rfl rfl rfl (wr_minus _ _ _) ?_; clear M1; intro w' M1) | (refine wpL_bx M2 rfl rfl rfl rfl ?_; clear M2; intro g3 w3 M3) | (refine wpL_alc M2 rfl rfl ?_; clear M2; intro g3 w3 M3) | (refine wpL_ldc M2 rfl rfl rfl ?_) | (refine wpL_lgc M2 rfl rfl rfl ?_) | (refine wpL_stc M2 rfl rfl rfl rfl ?_; clear M2; intro w' M2) | (refine wpL_sti M2 rfl rfl rfl rfl ?_; clear M2; intro w' M2) | (refine wpL_sth M2 rfl rfl rfl rfl (wr_minus _ _ _) ?_; clear M2; intro w' M2) | (refine wpL_bx M3 rfl rfl rfl rfl ?_; clear M3; intro g4 w4 M4) | (refine wpL_alc M3 rfl rfl ?_; clear M3; intro g4 w4 M4) | (refine wpL_ldc M3 rfl rfl rfl ?_) | (refine wpL_lgc M3 rfl rfl rfl ?_) | (refine wpL_stc M3 rfl rfl rfl rfl ?_; clear M3; intro w' M3) | (refine wpL_sti M3 rfl rfl rfl rfl ?_; clear M3; intro w' M3) | (refine wpL_sth M3 rfl rfl rfl rfl (wr_minus _ _ _) ?_; clear M3; intro w' M3) | (refine wpL_bx M4 rfl rfl rfl rfl ?_; clear M4; intro g5 w5 M5) | (refine wpL_alc M4 rfl rfl ?_; clear M4; intro g5 w5 M5) | (refine wpL_ldc M4 rfl rfl rfl ?_) | (refine wpL_lgc M4 rfl rfl rfl ?_) | (refine wpL_stc M4 rfl rfl rfl rfl ?_; clear M4; intro w' M4) | (refine wpL_sti M4 rfl rfl rfl rfl ?_; clear M4; intro w' M4) | (refine wpL_sth M4 rfl rfl rfl rfl (wr_minus _ _ _) ?_; clear M4; intro w' M4) | (refine wpL_ldc M5 rfl rfl rfl ?_) | (refine wpL_lgc M5 rfl rfl rfl ?_) | (refine wpL_stc M5 rfl rfl rfl rfl ?_; clear M5; intro w' M5) | (refine wpL_sti M5 rfl rfl rfl rfl ?_; clear M5; intro w' M5) | (refine wpL_sth M5 rfl rfl rfl rfl (wr_minus _ _ _) ?_; clear M5; intro w' M5))))
  clear d1 d2
  go_wp2_with fail
  refine wp_region_held_drew (S := (fun w' : World => w'.cell? ⟨g1, 0, none⟩ = some (.int .i64 x) ∧ w'.cell? ⟨g1, 1, none⟩ = some (.int .i64 y) ∧ w'.cell? ⟨g1, 2, none⟩ = some (.slice a n ca) ∧ w'.cell? ⟨g2, 0, none⟩ = some (.int .i64 x) ∧ w'.cell? ⟨g2, 1, none⟩ = some (.int .i64 y) ∧ w'.cell? ⟨g2, 2, none⟩ = some (.slice b n cb))) (by kernel_rfl) (⟨M5.cell (.tail _ _ _ _ _ (.tail _ _ _ _ _ (.tail _ _ _ _ _ (.tail _ _ _ _ _ (Has.head _ _ _ _))))) (i := 0) rfl, M5.cell (.tail _ _ _ _ _ (.tail _ _ _ _ _ (.tail _ _ _ _ _ (.tail _ _ _ _ _ (Has.head _ _ _ _))))) (i := 1) rfl, M5.cell (.tail _ _ _ _ _ (.tail _ _ _ _ _ (.tail _ _ _ _ _ (.tail _ _ _ _ _ (Has.head _ _ _ _))))) (i := 2) rfl, M5.cell (.tail _ _ _ _ _ (.tail _ _ _ _ _ (.tail _ _ _ _ _ (Has.head _ _ _ _)))) (i := 0) rfl, M5.cell (.tail _ _ _ _ _ (.tail _ _ _ _ _ (.tail _ _ _ _ _ (Has.head _ _ _ _)))) (i := 1) rfl, M5.cell (.tail _ _ _ _ _ (.tail _ _ _ _ _ (.tail _ _ _ _ _ (Has.head _ _ _ _)))) (i := 2) rfl⟩) (fun hHeld => ?_)
  refine tkT 0 ?v67 ?hy67 hHeld ?rest67
  case hy67 => (intro w' hSw; (try dsimp only at hSw); go_simp; (try with_reducible rfl))
  try simp only [Act.put, puts]
  refine tkT 1 ?v68 ?hy68 hHeld ?rest68
  case hy68 => (intro w' hSw; (try dsimp only at hSw); go_simp; (try with_reducible rfl))
  try simp only [Act.put, puts]
  refine wpAnyH_ready (rs := [2]) (by kernel_rfl) (by simp) ?_
  refine AllReadyH.cons rfl (fun K hK => ?_) AllReadyH.nil
  rw [if_pos (by rfl)]
  refine Grid.wp_stM (v := fv x y (.slice a n ca)) M5.drew rfl rfl rfl (wr_fx _ _ _ _ _ _ _ _) (.tail _ _ _ _ _ _ _ (Upd.head _ _ _ _ _)) ?_
  intro w8 M18 hT8
  have HV8 := Lib.hid ((HV.out.below M5.drew.below).turnedB (M5.drew.has (.tail _ _ _ _ _ (Has.head _ _ _ _))) (by decide) (noPart_f _ _ _ _ _) hT8)
  have HU8 := Lib.hid ((HU.out.below M5.drew.below).turnedB (M5.drew.has (.tail _ _ _ _ _ (Has.head _ _ _ _))) (by decide) (by decide) hT8)
  refine hK.out _ _ (⟨M18.cell (.tail _ _ _ _ _ (.tail _ _ _ _ _ (.tail _ _ _ _ _ (.tail _ _ _ _ _ (Has.head _ _ _ _))))) (i := 0) rfl, M18.cell (.tail _ _ _ _ _ (.tail _ _ _ _ _ (.tail _ _ _ _ _ (.tail _ _ _ _ _ (Has.head _ _ _ _))))) (i := 1) rfl, M18.cell (.tail _ _ _ _ _ (.tail _ _ _ _ _ (.tail _ _ _ _ _ (.tail _ _ _ _ _ (Has.head _ _ _ _))))) (i := 2) rfl, M18.cell (.tail _ _ _ _ _ (.tail _ _ _ _ _ (.tail _ _ _ _ _ (Has.head _ _ _ _)))) (i := 0) rfl, M18.cell (.tail _ _ _ _ _ (.tail _ _ _ _ _ (.tail _ _ _ _ _ (Has.head _ _ _ _)))) (i := 1) rfl, M18.cell (.tail _ _ _ _ _ (.tail _ _ _ _ _ (.tail _ _ _ _ _ (Has.head _ _ _ _)))) (i := 2) rfl⟩) (fun hHeld => ?_)
  clear hK K
  try simp only [Act.put, puts]
  refine wpAnyH_ready (rs := [3]) (by kernel_rfl) (by simp) ?_
  refine AllReadyH.cons rfl (fun K hK => ?_) AllReadyH.nil
  rw [if_pos (by rfl)]
  refine Grid.wp_stM (v := fv x y (.slice b n cb)) M18 rfl rfl rfl (wr_f _ _ _ _ _ _ _ _) (Upd.head _ _ _ _ _) ?_
  intro w9 M19 hT9
  have HV9 := Lib.hid (HV8.out.turnedB (M18.has (Has.head _ _ _ _)) (by decide) (noPart_f _ _ _ _ _) hT9)
  have HU9 := Lib.hid (HU8.out.turnedB (M18.has (Has.head _ _ _ _)) (by decide) (by decide) hT9)
  refine hK.out _ _ (⟨M19.cell (.tail _ _ _ _ _ (.tail _ _ _ _ _ (.tail _ _ _ _ _ (.tail _ _ _ _ _ (Has.head _ _ _ _))))) (i := 0) rfl, M19.cell (.tail _ _ _ _ _ (.tail _ _ _ _ _ (.tail _ _ _ _ _ (.tail _ _ _ _ _ (Has.head _ _ _ _))))) (i := 1) rfl, M19.cell (.tail _ _ _ _ _ (.tail _ _ _ _ _ (.tail _ _ _ _ _ (.tail _ _ _ _ _ (Has.head _ _ _ _))))) (i := 2) rfl, M19.cell (.tail _ _ _ _ _ (.tail _ _ _ _ _ (.tail _ _ _ _ _ (Has.head _ _ _ _)))) (i := 0) rfl, M19.cell (.tail _ _ _ _ _ (.tail _ _ _ _ _ (.tail _ _ _ _ _ (Has.head _ _ _ _)))) (i := 1) rfl, M19.cell (.tail _ _ _ _ _ (.tail _ _ _ _ _ (.tail _ _ _ _ _ (Has.head _ _ _ _)))) (i := 2) rfl⟩) (fun hHeld => ?_)
  clear hK K
  try simp only [Act.put, puts]
  refine wpAnyH_done (by kernel_rfl) ?_ _
  clear M5 M18 hT8 hT9 HV8 HU8
  go_wp2_with fail
  refine bodyPost_ret (res_cells rfl M19 rfl (.tail _ _ _ _ _ (Has.head _ _ _ _)) (rd_fx _ _ _) rfl (Has.head _ _ _ _) (rd_f _ _ _)) rfl ?_
  exact ⟨rfl, HV9.out, HU9.out, M19.below⟩

set_option maxRecDepth 20000 in
set_option maxHeartbeats 6400000 in
theorem do_same3 (o : OpV) (x y : Nat) (a b : Option Addr) (n ca cb : Nat) (fs us : List Nat) (hk : o.k % 5 = 4) (hk0 : 0 ≤ o.k ∧ o.k < 256) (hx : x % 2 = 1) (w : World) (hV : IsV w a n ca fs) (hU : IsU w b n cb us) :
    Calls Tryd.prog 12 #[fv x y (.slice a n ca), fv x y (.slice b n cb), opv o] w fun e w' => e = .returned (.tuple #[fv x y (.slice a n ca), fv x y (.slice b n cb)]) ∧ IsV w' a n ca fs ∧ IsU w' b n cb us ∧ Below w.heap.size w w' := by
  obtain ⟨ok, oq, oa, on, oc, zs, X, Y, W, H⟩ := o
  simp only at hk hk0
  have HV := Lib.hid hV
  have HU := Lib.hid hU
  have d1 : (x : Int) % 2 = 1 := by omega
  have e1 : (x : Int).tmod 2 = 1 := by rw [Int.tmod_eq_emod_of_nonneg (Int.natCast_nonneg x)]; exact d1
  have hkt : ok.tmod 5 = 4 := by rw [Int.tmod_eq_emod_of_nonneg hk0.1]; exact hk
  have M0 := Mem.start w
  clear hV hU
  show Calls Tryd.prog 12 #[fv x y (.slice a n ca), fv x y (.slice b n cb), .agg #[.int .u8 ok, .int .u8 oq, .slice oa on oc, .int .i8 X, .int .i8 Y, .int .u8 W, .int .u8 H]] w _
  go_enter Tryd.func12, Tryd.ntmps12
  go_upto_region 16 with (((with_reducible refine (?_ : Go.wpList _ _ _ (_ :: _) _ _)); (first | go_skip | (refine wpL_bx M0 rfl rfl rfl rfl ?_; clear M0; intro g1 w1 M1) | (refine wpL_alc M0 rfl rfl ?_; clear M0; intro g1 w1 M1) | (refine wpL_ldc M0 rfl rfl rfl ?_) | (refine wpL_lgc M0 rfl rfl rfl ?_) | (refine wpL_stc M0 rfl rfl rfl rfl ?_; clear M0; intro w' M0) | (refine wpL_sti M0 rfl rfl rfl rfl ?_; clear M0; intro w' M0) | (refine wpL_sth M0 rfl rfl rfl rfl (wr_minus _ _ _) ?_; clear M0; intro w' M0) | (refine wpL_bx M1 rfl rfl rfl rfl ?_; clear M1; intro g2 w2 M2) | (refine wpL_alc M1 rfl rfl ?_; clear M1; intro g2 w2 M2) | (refine wpL_ldc M1 rfl rfl rfl ?_) | (refine wpL_lgc M1 rfl rfl rfl ?_) | (refine wpL_stc M1 rfl rfl rfl rfl ?_; clear M1; intro w' M1) | (refine wpL_sti M1 rfl rfl rfl rfl ?_; clear M1; intro w' M1) | (refine wpL_sth M1 rfl rfl rfl rfl (wr_minus _ _ _) ?_; clear M1; intro w' M1) | (refine wpL_bx M2 rfl rfl rfl rfl ?_; clear M2; intro g3 w3 M3) | (refine wpL_alc M2 rfl rfl ?_; clear M2; intro g3 w3 M3) | (refine wpL_ldc M2 rfl rfl rfl ?_) | (refine wpL_lgc M2 rfl rfl rfl ?_) | (refine wpL_stc M2 rfl rfl rfl rfl ?_; clear M2; intro w' M2) | (refine wpL_sti M2 rfl rfl rfl rfl ?_; clear M2; intro w' M2) | (refine wpL_sth M2 rfl rfl rfl rfl (wr_minus _ _ _) ?_; clear M2; intro w' M2) | (refine wpL_bx M3 rfl rfl rfl rfl ?_; clear M3; intro g4 w4 M4) | (refine wpL_alc M3 rfl rfl ?_; clear M3; intro g4 w4 M4) | (refine wpL_ldc M3 rfl rfl rfl ?_) | (refine wpL_lgc M3 rfl rfl rfl ?_) | (refine wpL_stc M3 rfl rfl rfl rfl ?_; clear M3; intro w' M3) | (refine wpL_sti M3 rfl rfl rfl rfl ?_; clear M3; intro w' M3) | (refine wpL_sth M3 rfl rfl rfl rfl (wr_minus _ _ _) ?_; clear M3; intro w' M3) | (refine wpL_bx M4 rfl rfl rfl rfl ?_; clear M4; intro g5 w5 M5) | (refine wpL_alc M4 rfl rfl ?_; clear M4; intro g5 w5 M5) | (refine wpL_ldc M4 rfl rfl rfl ?_) | (refine wpL_lgc M4 rfl rfl rfl ?_) | (refine wpL_stc M4 rfl rfl rfl rfl ?_; clear M4; intro w' M4) | (refine wpL_sti M4 rfl rfl rfl rfl ?_; clear M4; intro w' M4) | (refine wpL_sth M4 rfl rfl rfl rfl (wr_minus _ _ _) ?_; clear M4; intro w' M4) | (refine wpL_ldc M5 rfl rfl rfl ?_) | (refine wpL_lgc M5 rfl rfl rfl ?_) | (refine wpL_stc M5 rfl rfl rfl rfl ?_; clear M5; intro w' M5) | (refine wpL_sti M5 rfl rfl rfl rfl ?_; clear M5; intro w' M5) | (refine wpL_sth M5 rfl rfl rfl rfl (wr_minus _ _ _) ?_; clear M5; intro w' M5))))
  clear d1 e1
  go_wp2_with fail
  refine wp_region_held_drew (S := (fun w' : World => w'.cell? ⟨g1, 0, none⟩ = some (.int .i64 x) ∧ w'.cell? ⟨g1, 1, none⟩ = some (.int .i64 y) ∧ w'.cell? ⟨g1, 2, none⟩ = some (.slice a n ca) ∧ w'.cell? ⟨g2, 0, none⟩ = some (.int .i64 x) ∧ w'.cell? ⟨g2, 1, none⟩ = some (.int .i64 y) ∧ w'.cell? ⟨g2, 2, none⟩ = some (.slice b n cb))) (by kernel_rfl) (⟨M5.cell (.tail _ _ _ _ _ (.tail _ _ _ _ _ (.tail _ _ _ _ _ (.tail _ _ _ _ _ (Has.head _ _ _ _))))) (i := 0) rfl, M5.cell (.tail _ _ _ _ _ (.tail _ _ _ _ _ (.tail _ _ _ _ _ (.tail _ _ _ _ _ (Has.head _ _ _ _))))) (i := 1) rfl, M5.cell (.tail _ _ _ _ _ (.tail _ _ _ _ _ (.tail _ _ _ _ _ (.tail _ _ _ _ _ (Has.head _ _ _ _))))) (i := 2) rfl, M5.cell (.tail _ _ _ _ _ (.tail _ _ _ _ _ (.tail _ _ _ _ _ (Has.head _ _ _ _)))) (i := 0) rfl, M5.cell (.tail _ _ _ _ _ (.tail _ _ _ _ _ (.tail _ _ _ _ _ (Has.head _ _ _ _)))) (i := 1) rfl, M5.cell (.tail _ _ _ _ _ (.tail _ _ _ _ _ (.tail _ _ _ _ _ (Has.head _ _ _ _)))) (i := 2) rfl⟩) (fun hHeld => ?_)
  refine tkT 0 ?v71 ?hy71 hHeld ?rest71
  case hy71 => (intro w' hSw; (try dsimp only at hSw); go_simp; (try with_reducible rfl))
  try simp only [Act.put, puts]
  refine tkT 1 ?v72 ?hy72 hHeld ?rest72
  case hy72 => (intro w' hSw; (try dsimp only at hSw); go_simp; (try with_reducible rfl))
  try simp only [Act.put, puts]
  refine wpAnyH_ready (rs := [2]) (by kernel_rfl) (by simp) ?_
  refine AllReadyH.cons rfl (fun K hK => ?_) AllReadyH.nil
  rw [if_pos (by rfl)]
  refine Grid.wp_stM (v := fv x y (.slice a n ca)) M5.drew rfl rfl rfl (wr_fx _ _ _ _ _ _ _ _) (.tail _ _ _ _ _ _ _ (Upd.head _ _ _ _ _)) ?_
  intro w8 M18 hT8
  have HV8 := Lib.hid ((HV.out.below M5.drew.below).turnedB (M5.drew.has (.tail _ _ _ _ _ (Has.head _ _ _ _))) (by decide) (noPart_f _ _ _ _ _) hT8)
  have HU8 := Lib.hid ((HU.out.below M5.drew.below).turnedB (M5.drew.has (.tail _ _ _ _ _ (Has.head _ _ _ _))) (by decide) (by decide) hT8)
  refine hK.out _ _ (⟨M18.cell (.tail _ _ _ _ _ (.tail _ _ _ _ _ (.tail _ _ _ _ _ (.tail _ _ _ _ _ (Has.head _ _ _ _))))) (i := 0) rfl, M18.cell (.tail _ _ _ _ _ (.tail _ _ _ _ _ (.tail _ _ _ _ _ (.tail _ _ _ _ _ (Has.head _ _ _ _))))) (i := 1) rfl, M18.cell (.tail _ _ _ _ _ (.tail _ _ _ _ _ (.tail _ _ _ _ _ (.tail _ _ _ _ _ (Has.head _ _ _ _))))) (i := 2) rfl, M18.cell (.tail _ _ _ _ _ (.tail _ _ _ _ _ (.tail _ _ _ _ _ (Has.head _ _ _ _)))) (i := 0) rfl, M18.cell (.tail _ _ _ _ _ (.tail _ _ _ _ _ (.tail _ _ _ _ _ (Has.head _ _ _ _)))) (i := 1) rfl, M18.cell (.tail _ _ _ _ _ (.tail _ _ _ _ _ (.tail _ _ _ _ _ (Has.head _ _ _ _)))) (i := 2) rfl⟩) (fun hHeld => ?_)
  clear hK K
  try simp only [Act.put, puts]
  refine wpAnyH_ready (rs := [3]) (by kernel_rfl) (by simp) ?_
  refine AllReadyH.cons rfl (fun K hK => ?_) AllReadyH.nil
  rw [if_pos (by rfl)]
  refine Grid.wp_stM (v := fv x y (.slice b n cb)) M18 rfl rfl rfl (wr_f _ _ _ _ _ _ _ _) (Upd.head _ _ _ _ _) ?_
  intro w9 M19 hT9
  have HV9 := Lib.hid (HV8.out.turnedB (M18.has (Has.head _ _ _ _)) (by decide) (noPart_f _ _ _ _ _) hT9)
  have HU9 := Lib.hid (HU8.out.turnedB (M18.has (Has.head _ _ _ _)) (by decide) (by decide) hT9)
  refine hK.out _ _ (⟨M19.cell (.tail _ _ _ _ _ (.tail _ _ _ _ _ (.tail _ _ _ _ _ (.tail _ _ _ _ _ (Has.head _ _ _ _))))) (i := 0) rfl, M19.cell (.tail _ _ _ _ _ (.tail _ _ _ _ _ (.tail _ _ _ _ _ (.tail _ _ _ _ _ (Has.head _ _ _ _))))) (i := 1) rfl, M19.cell (.tail _ _ _ _ _ (.tail _ _ _ _ _ (.tail _ _ _ _ _ (.tail _ _ _ _ _ (Has.head _ _ _ _))))) (i := 2) rfl, M19.cell (.tail _ _ _ _ _ (.tail _ _ _ _ _ (.tail _ _ _ _ _ (Has.head _ _ _ _)))) (i := 0) rfl, M19.cell (.tail _ _ _ _ _ (.tail _ _ _ _ _ (.tail _ _ _ _ _ (Has.head _ _ _ _)))) (i := 1) rfl, M19.cell (.tail _ _ _ _ _ (.tail _ _ _ _ _ (.tail _ _ _ _ _ (Has.head _ _ _ _)))) (i := 2) rfl⟩) (fun hHeld => ?_)
  clear hK K
  try simp only [Act.put, puts]
  refine wpAnyH_done (by kernel_rfl) ?_ _
  clear M5 M18 hT8 hT9 HV8 HU8
  go_wp2_with fail
  refine bodyPost_ret (res_cells rfl M19 rfl (.tail _ _ _ _ _ (Has.head _ _ _ _)) (rd_fx _ _ _) rfl (Has.head _ _ _ _) (rd_f _ _ _)) rfl ?_
  exact ⟨rfl, HV9.out, HU9.out, M19.below⟩

set_option maxRecDepth 20000 in
set_option maxHeartbeats 6400000 in
theorem do_same4 (o : OpV) (x y : Nat) (a b : Option Addr) (n ca cb : Nat) (fs us : List Nat) (hk : o.k % 5 = 4) (hk0 : 0 ≤ o.k ∧ o.k < 256) (hx : x % 2 = 0) (hy : y % 2 = 1) (w : World) (hV : IsV w a n ca fs) (hU : IsU w b n cb us) :
    Calls Tryd.prog 12 #[fv x y (.slice a n ca), fv x y (.slice b n cb), opv o] w fun e w' => e = .returned (.tuple #[fv x y (.slice a n ca), fv x y (.slice b n cb)]) ∧ IsV w' a n ca fs ∧ IsU w' b n cb us ∧ Below w.heap.size w w' := by
  obtain ⟨ok, oq, oa, on, oc, zs, X, Y, W, H⟩ := o
  simp only at hk hk0
  have HV := Lib.hid hV
  have HU := Lib.hid hU
  have d1 : (x : Int) % 2 = 0 := by omega
  have e1 : (x : Int).tmod 2 = 0 := by rw [Int.tmod_eq_emod_of_nonneg (Int.natCast_nonneg x)]; exact d1
  have d2 : (y : Int) % 2 = 1 := by omega
  have e2 : (y : Int).tmod 2 = 1 := by rw [Int.tmod_eq_emod_of_nonneg (Int.natCast_nonneg y)]; exact d2
  have hkt : ok.tmod 5 = 4 := by rw [Int.tmod_eq_emod_of_nonneg hk0.1]; exact hk
  have M0 := Mem.start w
  clear hV hU
  show Calls Tryd.prog 12 #[fv x y (.slice a n ca), fv x y (.slice b n cb), .agg #[.int .u8 ok, .int .u8 oq, .slice oa on oc, .int .i8 X, .int .i8 Y, .int .u8 W, .int .u8 H]] w _
  go_enter Tryd.func12, Tryd.ntmps12
  go_upto_region 16 with (((with_reducible refine (?_ : Go.wpList _ _ _ (_ :: _) _ _)); (first | go_skip | (refine wpL_bx M0 rfl rfl rfl rfl ?_; clear M0; intro g1 w1 M1) | (refine wpL_alc M0 rfl rfl ?_; clear M0; intro g1 w1 M1) | (refine wpL_ldc M0 rfl rfl rfl ?_) | (refine wpL_lgc M0 rfl rfl rfl ?_) | (refine wpL_stc M0 rfl rfl rfl rfl ?_; clear M0; intro w' M0) | (refine wpL_sti M0 rfl rfl rfl rfl ?_; clear M0; intro w' M0) | (refine wpL_sth M0 rfl rfl rfl rfl (wr_minus _ _ _) ?_; clear M0; intro w' M0) | (refine wpL_bx M1 rfl rfl rfl rfl ?_; clear M1; intro g2 w2 M2) | (refine wpL_alc M1 rfl rfl ?_; clear M1; intro g2 w2 M2) | (refine wpL_ldc M1 rfl rfl rfl ?_) | (refine wpL_lgc M1 rfl rfl rfl ?_) | (refine wpL_stc M1 rfl rfl rfl rfl ?_; clear M1; intro w' M1) | (refine wpL_sti M1 rfl rfl rfl rfl ?_; clear M1; intro w' M1) | (refine wpL_sth M1 rfl rfl rfl rfl (wr_minus _ _ _) ?_; clear M1; intro w' M1) | (refine wpL_bx M2 rfl rfl rfl rfl ?_; clear M2; intro g3 w3 M3) | (refine wpL_alc M2 rfl rfl ?_; clear M2; intro g3 w3 M3) | (refine wpL_ldc M2 rfl rfl rfl ?_) | (refine wpL_lgc M2 rfl rfl rfl ?_) | (refine wpL_stc M2 rfl rfl rfl rfl ?_; clear M2; intro w' M2) | (refine wpL_sti M2 rfl rfl rfl rfl ?_; clear M2; intro w' M2) | (refine wpL_sth M2 rfl rfl rfl rfl (wr_minus _ _ _) ?_; clear M2; intro w' M2) | (refine wpL_bx M3 rfl rfl rfl rfl ?_; clear M3; intro g4 w4 M4) | (refine wpL_alc M3 rfl rfl ?_; clear M3; intro g4 w4 M4) | (refine wpL_ldc M3 rfl rfl rfl ?_) | (refine wpL_lgc M3 rfl rfl rfl ?_) | (refine wpL_stc M3 rfl rfl rfl rfl ?_; clear M3; intro w' M3) | (refine wpL_sti M3 rfl rfl rfl rfl ?_; clear M3; intro w' M3) | (refine wpL_sth M3 rfl rfl rfl rfl (wr_minus _ _ _) ?_; clear M3; intro w' M3) | (refine wpL_bx M4 rfl rfl rfl rfl ?_; clear M4; intro g5 w5 M5) | (refine wpL_alc M4 rfl rfl ?_; clear M4; intro g5 w5 M5) | (refine wpL_ldc M4 rfl rfl rfl ?_) | (refine wpL_lgc M4 rfl rfl rfl ?_) | (refine wpL_stc M4 rfl rfl rfl rfl ?_; clear M4; intro w' M4) | (refine wpL_sti M4 rfl rfl rfl rfl ?_; clear M4; intro w' M4) | (refine wpL_sth M4 rfl rfl rfl rfl (wr_minus _ _ _) ?_; clear M4; intro w' M4) | (refine wpL_ldc M5 rfl rfl rfl ?_) | (refine wpL_lgc M5 rfl rfl rfl ?_) | (refine wpL_stc M5 rfl rfl rfl rfl ?_; clear M5; intro w' M5) | (refine wpL_sti M5 rfl rfl rfl rfl ?_; clear M5; intro w' M5) | (refine wpL_sth M5 rfl rfl rfl rfl (wr_minus _ _ _) ?_; clear M5; intro w' M5))))
  clear d1 e1 d2 e2
  go_wp2_with fail
  refine wp_region_held_drew (S := (fun w' : World => w'.cell? ⟨g1, 0, none⟩ = some (.int .i64 x) ∧ w'.cell? ⟨g1, 1, none⟩ = some (.int .i64 y) ∧ w'.cell? ⟨g1, 2, none⟩ = some (.slice a n ca) ∧ w'.cell? ⟨g2, 0, none⟩ = some (.int .i64 x) ∧ w'.cell? ⟨g2, 1, none⟩ = some (.int .i64 y) ∧ w'.cell? ⟨g2, 2, none⟩ = some (.slice b n cb))) (by kernel_rfl) (⟨M5.cell (.tail _ _ _ _ _ (.tail _ _ _ _ _ (.tail _ _ _ _ _ (.tail _ _ _ _ _ (Has.head _ _ _ _))))) (i := 0) rfl, M5.cell (.tail _ _ _ _ _ (.tail _ _ _ _ _ (.tail _ _ _ _ _ (.tail _ _ _ _ _ (Has.head _ _ _ _))))) (i := 1) rfl, M5.cell (.tail _ _ _ _ _ (.tail _ _ _ _ _ (.tail _ _ _ _ _ (.tail _ _ _ _ _ (Has.head _ _ _ _))))) (i := 2) rfl, M5.cell (.tail _ _ _ _ _ (.tail _ _ _ _ _ (.tail _ _ _ _ _ (Has.head _ _ _ _)))) (i := 0) rfl, M5.cell (.tail _ _ _ _ _ (.tail _ _ _ _ _ (.tail _ _ _ _ _ (Has.head _ _ _ _)))) (i := 1) rfl, M5.cell (.tail _ _ _ _ _ (.tail _ _ _ _ _ (.tail _ _ _ _ _ (Has.head _ _ _ _)))) (i := 2) rfl⟩) (fun hHeld => ?_)
  refine tkT 0 ?v75 ?hy75 hHeld ?rest75
  case hy75 => (intro w' hSw; (try dsimp only at hSw); go_simp; (try with_reducible rfl))
  try simp only [Act.put, puts]
  refine tkT 1 ?v76 ?hy76 hHeld ?rest76
  case hy76 => (intro w' hSw; (try dsimp only at hSw); go_simp; (try with_reducible rfl))
  try simp only [Act.put, puts]
  refine wpAnyH_ready (rs := [2]) (by kernel_rfl) (by simp) ?_
  refine AllReadyH.cons rfl (fun K hK => ?_) AllReadyH.nil
  rw [if_pos (by rfl)]
  refine Grid.wp_stM (v := fv x y (.slice a n ca)) M5.drew rfl rfl rfl (wr_fx _ _ _ _ _ _ _ _) (.tail _ _ _ _ _ _ _ (Upd.head _ _ _ _ _)) ?_
  intro w8 M18 hT8
  have HV8 := Lib.hid ((HV.out.below M5.drew.below).turnedB (M5.drew.has (.tail _ _ _ _ _ (Has.head _ _ _ _))) (by decide) (noPart_f _ _ _ _ _) hT8)
  have HU8 := Lib.hid ((HU.out.below M5.drew.below).turnedB (M5.drew.has (.tail _ _ _ _ _ (Has.head _ _ _ _))) (by decide) (by decide) hT8)
  refine hK.out _ _ (⟨M18.cell (.tail _ _ _ _ _ (.tail _ _ _ _ _ (.tail _ _ _ _ _ (.tail _ _ _ _ _ (Has.head _ _ _ _))))) (i := 0) rfl, M18.cell (.tail _ _ _ _ _ (.tail _ _ _ _ _ (.tail _ _ _ _ _ (.tail _ _ _ _ _ (Has.head _ _ _ _))))) (i := 1) rfl, M18.cell (.tail _ _ _ _ _ (.tail _ _ _ _ _ (.tail _ _ _ _ _ (.tail _ _ _ _ _ (Has.head _ _ _ _))))) (i := 2) rfl, M18.cell (.tail _ _ _ _ _ (.tail _ _ _ _ _ (.tail _ _ _ _ _ (Has.head _ _ _ _)))) (i := 0) rfl, M18.cell (.tail _ _ _ _ _ (.tail _ _ _ _ _ (.tail _ _ _ _ _ (Has.head _ _ _ _)))) (i := 1) rfl, M18.cell (.tail _ _ _ _ _ (.tail _ _ _ _ _ (.tail _ _ _ _ _ (Has.head _ _ _ _)))) (i := 2) rfl⟩) (fun hHeld => ?_)
  clear hK K
  try simp only [Act.put, puts]
  refine wpAnyH_ready (rs := [3]) (by kernel_rfl) (by simp) ?_
  refine AllReadyH.cons rfl (fun K hK => ?_) AllReadyH.nil
  rw [if_pos (by rfl)]
  refine Grid.wp_stM (v := fv x y (.slice b n cb)) M18 rfl rfl rfl (wr_f _ _ _ _ _ _ _ _) (Upd.head _ _ _ _ _) ?_
  intro w9 M19 hT9
  have HV9 := Lib.hid (HV8.out.turnedB (M18.has (Has.head _ _ _ _)) (by decide) (noPart_f _ _ _ _ _) hT9)
  have HU9 := Lib.hid (HU8.out.turnedB (M18.has (Has.head _ _ _ _)) (by decide) (by decide) hT9)
  refine hK.out _ _ (⟨M19.cell (.tail _ _ _ _ _ (.tail _ _ _ _ _ (.tail _ _ _ _ _ (.tail _ _ _ _ _ (Has.head _ _ _ _))))) (i := 0) rfl, M19.cell (.tail _ _ _ _ _ (.tail _ _ _ _ _ (.tail _ _ _ _ _ (.tail _ _ _ _ _ (Has.head _ _ _ _))))) (i := 1) rfl, M19.cell (.tail _ _ _ _ _ (.tail _ _ _ _ _ (.tail _ _ _ _ _ (.tail _ _ _ _ _ (Has.head _ _ _ _))))) (i := 2) rfl, M19.cell (.tail _ _ _ _ _ (.tail _ _ _ _ _ (.tail _ _ _ _ _ (Has.head _ _ _ _)))) (i := 0) rfl, M19.cell (.tail _ _ _ _ _ (.tail _ _ _ _ _ (.tail _ _ _ _ _ (Has.head _ _ _ _)))) (i := 1) rfl, M19.cell (.tail _ _ _ _ _ (.tail _ _ _ _ _ (.tail _ _ _ _ _ (Has.head _ _ _ _)))) (i := 2) rfl⟩) (fun hHeld => ?_)
  clear hK K
  try simp only [Act.put, puts]
  refine wpAnyH_done (by kernel_rfl) ?_ _
  clear M5 M18 hT8 hT9 HV8 HU8
  go_wp2_with fail
  refine bodyPost_ret (res_cells rfl M19 rfl (.tail _ _ _ _ _ (Has.head _ _ _ _)) (rd_fx _ _ _) rfl (Has.head _ _ _ _) (rd_f _ _ _)) rfl ?_
  exact ⟨rfl, HV9.out, HU9.out, M19.below⟩

end Go.Proofs.YtanblpfpkohghaaDoor
