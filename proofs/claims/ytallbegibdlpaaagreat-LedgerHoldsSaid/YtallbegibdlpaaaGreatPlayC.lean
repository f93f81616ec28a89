/-
  An act on all three: the law's, by what is called answers: split.
-/
import Derived.Test.YtallbegibdlpaaaGreatPlayA
set_option linter.unusedVariables false
set_option linter.unusedSimpArgs false
namespace Go.Proofs.YtallbegibdlpaaaGreat
open Go Go.RowKit Go.Th Go.Th.Dig Go.Th.Ex Go.Th.Grid Go.Th.Wide Go.Th.Up

set_option maxRecDepth 20000 in
set_option maxHeartbeats 12800000 in
theorem do18_split (x y X Y S B St ok oq cx cy ow oh sp : Int) (aG aF oa : Option Addr) (n cG cF on oc : Nat) (p : List Int) (us : List Nat) (x2 y2 X2 Y2 S2 B2 : Int) (m : Nat) (L1 L2 : List Int) (ws : List Nat)  (hk : ok.tmod 5 = 3) (w : World) (hS : Sl w 1 (.slice aG n cG) n (i64s p)) (hV : IsV w aF n cF us)
    (C0 : ∀ wx, Below w.heap.size w wx → Calls Tryz.prog 20 #[.slice aG n cG] wx fun e w' => e = .returned (.int .i64 sp) ∧ wx = w')
    (CG : ∀ wx, Below w.heap.size w wx → GOwn 32 #[gv x y X Y S (.slice aG n cG)] x2 y2 X2 Y2 S2 m L1 0 wx)
    (CN : ∀ wx a c, Sl wx 1 (.slice a m c) m (i64s L1) → GOwn 24 #[gv x2 y2 X2 Y2 S2 (.slice a m c)] x2 y2 X2 Y2 S2 m L2 0 wx)
    (CF : ∀ wx, Below w.heap.size w wx → LAns18 33 #[fv x y (.slice aF n cF)] x2 y2 m ws wx)
    (CK : ∀ wx, Below w.heap.size w wx → KAns 17 #[bk B St, .int .i64 m] B2 (St + 1) wx)
    (hx4 : decide ((4 : Int) < x) = false) (hy4 : decide ((4 : Int) < y) = false)
    : Calls Tryz.prog 8 #[pv x y X Y S (.slice aG n cG) x y (.slice aF n cF) B St, .agg #[.int .u8 ok, .int .u8 oq, .slice oa on oc, .int .i8 cx, .int .i8 cy, .int .u8 ow, .int .u8 oh]] w fun e w' => ∃ a1 c1 a2 c2, e = .returned (.tuple #[pv x2 y2 X2 Y2 S2 (.slice a1 m c1) x2 y2 (.slice a2 m c2) B2 (St + 1), .bool true]) ∧ (∃ base, w'.ownsRow base 2 1 (.slice a1 m c1) m (i64s L2)) ∧ IsV w' a2 m c2 ws ∧ Below w.heap.size w w' := by
  have HC0 := Lib.hid C0
  have HCG := Lib.hid CG
  have HCN := Lib.hid CN
  have HCF := Lib.hid CF
  have HCK := Lib.hid CK
  have HS := Lib.hid hS
  have HV := Lib.hid hV
  have M0 := Mem.start w
  clear hS hV C0 CG CN CF CK
  go_enter Tryz.func8, Tryz.ntmps8
  go_wp2_with (first | ((with_reducible refine (?_ : Go.wpList _ _ _ (_ :: _) _ _)); (first | go_skip | (refine wpL_bx M0 rfl rfl rfl rfl ?_; clear M0; intro g1 w1 M1) | (refine wpL_alc M0 rfl rfl ?_; clear M0; intro g1 w1 M1) | (refine wpL_ldc M0 rfl rfl rfl ?_) | (refine wpL_lgc M0 rfl rfl rfl ?_) | (refine wpL_stc M0 rfl rfl rfl rfl ?_; clear M0; intro w' M0) | (refine wpL_sti M0 rfl rfl rfl rfl ?_; clear M0; intro w' M0) | (refine wpL_sth M0 rfl rfl rfl rfl (wr_minus _ _ _) ?_; clear M0; intro w' M0) | (refine wpL_bx M1 rfl rfl rfl rfl ?_; clear M1; intro g2 w2 M2) | (refine wpL_alc M1 rfl rfl ?_; clear M1; intro g2 w2 M2) | (refine wpL_ldc M1 rfl rfl rfl ?_) | (refine wpL_lgc M1 rfl rfl rfl ?_) | (refine wpL_stc M1 rfl rfl rfl rfl ?_; clear M1; intro w' M1) | (refine wpL_sti M1 rfl rfl rfl rfl ?_; clear M1; intro w' M1) | (refine wpL_sth M1 rfl rfl rfl rfl (wr_minus _ _ _) ?_; clear M1; intro w' M1) | (refine wpL_bx M2 rfl rfl rfl rfl ?_; clear M2; intro g3 w3 M3) | (refine wpL_alc M2 rfl rfl ?_; clear M2; intro g3 w3 M3) | (refine wpL_ldc M2 rfl rfl rfl ?_) | (refine wpL_lgc M2 rfl rfl rfl ?_) | (refine wpL_stc M2 rfl rfl rfl rfl ?_; clear M2; intro w' M2) | (refine wpL_sti M2 rfl rfl rfl rfl ?_; clear M2; intro w' M2) | (refine wpL_sth M2 rfl rfl rfl rfl (wr_minus _ _ _) ?_; clear M2; intro w' M2) | (refine wpL_bx M3 rfl rfl rfl rfl ?_; clear M3; intro g4 w4 M4) | (refine wpL_alc M3 rfl rfl ?_; clear M3; intro g4 w4 M4) | (refine wpL_ldc M3 rfl rfl rfl ?_) | (refine wpL_lgc M3 rfl rfl rfl ?_) | (refine wpL_stc M3 rfl rfl rfl rfl ?_; clear M3; intro w' M3) | (refine wpL_sti M3 rfl rfl rfl rfl ?_; clear M3; intro w' M3) | (refine wpL_sth M3 rfl rfl rfl rfl (wr_minus _ _ _) ?_; clear M3; intro w' M3) | (refine wpL_ldc M4 rfl rfl rfl ?_) | (refine wpL_lgc M4 rfl rfl rfl ?_) | (refine wpL_stc M4 rfl rfl rfl rfl ?_; clear M4; intro w' M4) | (refine wpL_sti M4 rfl rfl rfl rfl ?_; clear M4; intro w' M4) | (refine wpL_sth M4 rfl rfl rfl rfl (wr_minus _ _ _) ?_; clear M4; intro w' M4))) | (refine Grid.wpL_stM M4 rfl rfl rfl rfl (wr_p _ rfl _ _ _ _ _ _ _ _ _ _ _ _ _ _ _) (Upd.head _ _ _ _ _) ?_; clear M4; intro wp4 M4 hT))
  try clear hT
  refine (HC0.out _ M4.below).mono ?_
  rintro e wz ⟨rfl, rfl⟩
  go_wp2_with ((with_reducible refine (?_ : Go.wpList _ _ _ (_ :: _) _ _)); (first | go_skip | (refine wpL_ldc M4 rfl rfl rfl ?_) | (refine wpL_lgc M4 rfl rfl rfl ?_) | (refine wpL_stc M4 rfl rfl rfl rfl ?_; clear M4; intro w' M4) | (refine wpL_sti M4 rfl rfl rfl rfl ?_; clear M4; intro w' M4) | (refine wpL_sth M4 rfl rfl rfl rfl (wr_minus _ _ _) ?_; clear M4; intro w' M4)))
  refine (HCG.out _ M4.below).mono ?_
  rintro e w5 ⟨aA, cA, rfl, hO, hA⟩
  have M5 := M4.call hA
  have HA := Lib.hid (Sl.of_own hO)
  clear hA hO M4
  have M30 := Mem.start w5
  go_upto_region 34 with ((with_reducible refine (?_ : Go.wpList _ _ _ (_ :: _) _ _)); (first | go_skip | (refine wpL_bx M30 rfl rfl rfl rfl ?_; clear M30; intro g31 w31 M31) | (refine wpL_alc M30 rfl rfl ?_; clear M30; intro g31 w31 M31) | (refine wpL_ldc M30 rfl rfl rfl ?_) | (refine wpL_lgc M30 rfl rfl rfl ?_) | (refine wpL_stc M30 rfl rfl rfl rfl ?_; clear M30; intro w' M30) | (refine wpL_sti M30 rfl rfl rfl rfl ?_; clear M30; intro w' M30) | (refine wpL_sth M30 rfl rfl rfl rfl (wr_minus _ _ _) ?_; clear M30; intro w' M30) | (refine wpL_ldc M31 rfl rfl rfl ?_) | (refine wpL_lgc M31 rfl rfl rfl ?_) | (refine wpL_stc M31 rfl rfl rfl rfl ?_; clear M31; intro w' M31) | (refine wpL_sti M31 rfl rfl rfl rfl ?_; clear M31; intro w' M31) | (refine wpL_sth M31 rfl rfl rfl rfl (wr_minus _ _ _) ?_; clear M31; intro w' M31)))
  obtain ⟨w6, hw6⟩ : ∃ w6, w6 = w' := ⟨_, rfl⟩
  rw [← hw6] at M31 ⊢
  have M6 : Mem w w6 [(g31, 28, gc x2 y2 X2 Y2 S2 (.slice aA m cA)), (g4, 37, pc x y X Y S (.slice aG n cG) x y (.slice aF n cF) B St), (g3, 37, pc 0 0 0 0 0 (.slice none 0 0) 0 0 (.slice none 0 0) 0 0), (g2, 42, [.int .u8 ok, .int .u8 oq, .slice oa on oc, .int .i8 cx, .int .i8 cy, .int .u8 ow, .int .u8 oh]), (g1, 37, pc x y X Y S (.slice aG n cG) x y (.slice aF n cF) B St)] := Mem.join M5 M31
  replace HA := Lib.hid (HA.out.below M31.below)
  clear hw6 M5 M31
  go_wp2_with ((with_reducible refine (?_ : Go.wpList _ _ _ (_ :: _) _ _)); (first | go_skip | (refine wpL_ldc M6 rfl rfl rfl ?_) | (refine wpL_lgc M6 rfl rfl rfl ?_) | (refine wpL_stc M6 rfl rfl rfl rfl ?_; clear M6; intro w' M6) | (refine wpL_sti M6 rfl rfl rfl rfl ?_; clear M6; intro w' M6) | (refine wpL_sth M6 rfl rfl rfl rfl (wr_minus _ _ _) ?_; clear M6; intro w' M6)))
  refine (HCN.out _ _ _ HA.out).mono ?_
  rintro e w7 ⟨aB, cB, rfl, hO, hA⟩
  have M7 := M6.call hA
  have HB := Lib.hid hO
  have K4 := M7.has (.tail _ _ _ _ _ (Has.head _ _ _ _))
  clear hA hO M6 HA
  go_upto_region 35 with (first | ((with_reducible refine (?_ : Go.wpList _ _ _ (_ :: _) _ _)); (first | go_skip | (refine wpL_ldc M7 rfl rfl rfl ?_) | (refine wpL_lgc M7 rfl rfl rfl ?_) | (refine wpL_stc M7 rfl rfl rfl rfl ?_; clear M7; intro w' M7) | (refine wpL_sti M7 rfl rfl rfl rfl ?_; clear M7; intro w' M7) | (refine wpL_sth M7 rfl rfl rfl rfl (wr_minus _ _ _) ?_; clear M7; intro w' M7))) | (refine Grid.wpL_stM M7 rfl rfl rfl rfl (wr_pG x y X Y S (.slice aG n cG) x y (.slice aF n cF) B St x2 y2 X2 Y2 S2 aB m cB) (.tail _ _ _ _ _ _ _ (Upd.head _ _ _ _ _)) ?_; clear M7; intro w8 M7 hT))
  replace HB := Lib.hid (ownsRow_below (Grid.gown_turned HB.out K4 (by decide) hT) ((Below.refl _ _).drew))
  replace M7 := M7.drew
  clear K4 hT HCN
  refine wp_region_held_drew (S := (fun w' : World => w'.cell? ⟨g1, 5, none⟩ = some (.slice aG n cG) ∧ w'.cell? ⟨g1, 6, none⟩ = some (.int .i64 x) ∧ w'.cell? ⟨g1, 7, none⟩ = some (.int .i64 y) ∧ w'.cell? ⟨g1, 8, none⟩ = some (.slice aF n cF) ∧ w'.cell? ⟨g1, 9, none⟩ = some (.int .i64 B) ∧ w'.cell? ⟨g1, 10, none⟩ = some (.int .i64 St) ∧ w'.cell? ⟨g31, 5, none⟩ = some (.slice aA m cA))) (by kernel_rfl) (⟨M7.cell (.tail _ _ _ _ _ (.tail _ _ _ _ _ (.tail _ _ _ _ _ (.tail _ _ _ _ _ (Has.head _ _ _ _))))) (i := 5) rfl, M7.cell (.tail _ _ _ _ _ (.tail _ _ _ _ _ (.tail _ _ _ _ _ (.tail _ _ _ _ _ (Has.head _ _ _ _))))) (i := 6) rfl, M7.cell (.tail _ _ _ _ _ (.tail _ _ _ _ _ (.tail _ _ _ _ _ (.tail _ _ _ _ _ (Has.head _ _ _ _))))) (i := 7) rfl, M7.cell (.tail _ _ _ _ _ (.tail _ _ _ _ _ (.tail _ _ _ _ _ (.tail _ _ _ _ _ (Has.head _ _ _ _))))) (i := 8) rfl, M7.cell (.tail _ _ _ _ _ (.tail _ _ _ _ _ (.tail _ _ _ _ _ (.tail _ _ _ _ _ (Has.head _ _ _ _))))) (i := 9) rfl, M7.cell (.tail _ _ _ _ _ (.tail _ _ _ _ _ (.tail _ _ _ _ _ (.tail _ _ _ _ _ (Has.head _ _ _ _))))) (i := 10) rfl, M7.cell (Has.head _ _ _ _) (i := 5) rfl⟩) (fun hHeld => ?_)
  refine tkT 0 ?v27 ?hy27 hHeld ?rest27
  case hy27 => (intro w' hSw; (try dsimp only at hSw); go_simp; (try with_reducible rfl))
  try simp only [Act.put, puts]
  refine tkT 1 ?v28 ?hy28 hHeld ?rest28
  case hy28 => (intro w' hSw; (try dsimp only at hSw); go_simp; (try with_reducible rfl))
  try simp only [Act.put, puts]
  refine tkT 3 ?v29 ?hy29 hHeld ?rest29
  case hy29 => (intro w' hSw; (try dsimp only at hSw); go_simp; (try with_reducible rfl))
  try simp only [Act.put, puts]
  refine tkT 4 ?v30 ?hy30 hHeld ?rest30
  case hy30 => (intro w' hSw; (try dsimp only at hSw); go_simp; (try with_reducible rfl))
  try simp only [Act.put, puts]
  refine tkT 5 ?v31 ?hy31 hHeld ?rest31
  case hy31 => (intro w' hSw; (try dsimp only at hSw); go_simp; (try with_reducible rfl))
  try simp only [Act.put, puts]
  refine tkT 6 ?v32 ?hy32 hHeld ?rest32
  case hy32 => (intro w' hSw; (try dsimp only at hSw); go_simp; (try with_reducible rfl))
  try simp only [Act.put, puts]
  refine tkT 7 ?v33 ?hy33 hHeld ?rest33
  case hy33 => (intro w' hSw; (try dsimp only at hSw); go_simp; (try with_reducible rfl))
  try simp only [Act.put, puts]
  refine wpAnyH_ready (rs := [2]) (by kernel_rfl) (by simp) ?_
  refine AllReadyH.cons rfl (fun K hK => ?_) AllReadyH.nil
  go_simp
  refine (HCF.out _ M7.below).mono ?_
  rintro e w9 ⟨aC, cC, rfl, hV2, hA⟩
  replace M7 := M7.call hA
  replace HB := Lib.hid (ownsRow_below HB.out hA)
  have HC := Lib.hid hV2
  clear hV2 hA hHeld
  try go_wp2_with fail
  refine hK.out _ _ (⟨M7.cell (.tail _ _ _ _ _ (.tail _ _ _ _ _ (.tail _ _ _ _ _ (.tail _ _ _ _ _ (Has.head _ _ _ _))))) (i := 5) rfl, M7.cell (.tail _ _ _ _ _ (.tail _ _ _ _ _ (.tail _ _ _ _ _ (.tail _ _ _ _ _ (Has.head _ _ _ _))))) (i := 6) rfl, M7.cell (.tail _ _ _ _ _ (.tail _ _ _ _ _ (.tail _ _ _ _ _ (.tail _ _ _ _ _ (Has.head _ _ _ _))))) (i := 7) rfl, M7.cell (.tail _ _ _ _ _ (.tail _ _ _ _ _ (.tail _ _ _ _ _ (.tail _ _ _ _ _ (Has.head _ _ _ _))))) (i := 8) rfl, M7.cell (.tail _ _ _ _ _ (.tail _ _ _ _ _ (.tail _ _ _ _ _ (.tail _ _ _ _ _ (Has.head _ _ _ _))))) (i := 9) rfl, M7.cell (.tail _ _ _ _ _ (.tail _ _ _ _ _ (.tail _ _ _ _ _ (.tail _ _ _ _ _ (Has.head _ _ _ _))))) (i := 10) rfl, M7.cell (Has.head _ _ _ _) (i := 5) rfl⟩) (fun hHeld => ?_)
  clear hK K
  try simp only [Act.put, puts]
  refine tkT 9 ?v35 ?hy35 hHeld ?rest35
  case hy35 => (intro w' hSw; (try dsimp only at hSw); go_simp; (try with_reducible rfl))
  try simp only [Act.put, puts]
  refine wpAnyH_ready (rs := [8]) (by kernel_rfl) (by simp) ?_
  refine AllReadyH.cons rfl (fun K hK => ?_) AllReadyH.nil
  go_simp
  refine (HCK.out _ M7.below).mono ?_
  rintro e w10 ⟨rfl, hA⟩
  replace M7 := M7.call hA
  replace HB := Lib.hid (ownsRow_below HB.out hA)
  replace HC := Lib.hid (HC.out.below hA)
  clear hA hHeld
  try go_wp2_with fail
  refine hK.out _ _ (⟨M7.cell (.tail _ _ _ _ _ (.tail _ _ _ _ _ (.tail _ _ _ _ _ (.tail _ _ _ _ _ (Has.head _ _ _ _))))) (i := 5) rfl, M7.cell (.tail _ _ _ _ _ (.tail _ _ _ _ _ (.tail _ _ _ _ _ (.tail _ _ _ _ _ (Has.head _ _ _ _))))) (i := 6) rfl, M7.cell (.tail _ _ _ _ _ (.tail _ _ _ _ _ (.tail _ _ _ _ _ (.tail _ _ _ _ _ (Has.head _ _ _ _))))) (i := 7) rfl, M7.cell (.tail _ _ _ _ _ (.tail _ _ _ _ _ (.tail _ _ _ _ _ (.tail _ _ _ _ _ (Has.head _ _ _ _))))) (i := 8) rfl, M7.cell (.tail _ _ _ _ _ (.tail _ _ _ _ _ (.tail _ _ _ _ _ (.tail _ _ _ _ _ (Has.head _ _ _ _))))) (i := 9) rfl, M7.cell (.tail _ _ _ _ _ (.tail _ _ _ _ _ (.tail _ _ _ _ _ (.tail _ _ _ _ _ (Has.head _ _ _ _))))) (i := 10) rfl, M7.cell (Has.head _ _ _ _) (i := 5) rfl⟩) (fun hHeld => ?_)
  clear hK K
  try simp only [Act.put, puts]
  refine wpAnyH_ready (rs := [10]) (by kernel_rfl) (by simp) ?_
  refine AllReadyH.cons rfl (fun K hK => ?_) AllReadyH.nil
  rw [if_pos (by rfl)]
  refine Grid.wp_stM M7 rfl rfl rfl (wr_pF _ _ _ _ _ _ _ _ _ _ _ x2 y2 aC m cC) (.tail _ _ _ _ _ _ _ (Upd.head _ _ _ _ _)) ?_
  intro w11 Mn hTn
  replace HB := Lib.hid (Grid.gown_turned HB.out (M7.has (.tail _ _ _ _ _ (Has.head _ _ _ _))) (by decide) hTn)
  replace HC := Lib.hid (HC.out.turnedB (M7.has (.tail _ _ _ _ _ (Has.head _ _ _ _))) (by decide) (noPart_p _ _ _ _ _ _ _ _ _ _ _ _ _ _ _) hTn)
  replace M7 := Mn
  clear hTn hHeld Mn
  refine hK.out _ _ (⟨M7.cell (.tail _ _ _ _ _ (.tail _ _ _ _ _ (.tail _ _ _ _ _ (.tail _ _ _ _ _ (Has.head _ _ _ _))))) (i := 5) rfl, M7.cell (.tail _ _ _ _ _ (.tail _ _ _ _ _ (.tail _ _ _ _ _ (.tail _ _ _ _ _ (Has.head _ _ _ _))))) (i := 6) rfl, M7.cell (.tail _ _ _ _ _ (.tail _ _ _ _ _ (.tail _ _ _ _ _ (.tail _ _ _ _ _ (Has.head _ _ _ _))))) (i := 7) rfl, M7.cell (.tail _ _ _ _ _ (.tail _ _ _ _ _ (.tail _ _ _ _ _ (.tail _ _ _ _ _ (Has.head _ _ _ _))))) (i := 8) rfl, M7.cell (.tail _ _ _ _ _ (.tail _ _ _ _ _ (.tail _ _ _ _ _ (.tail _ _ _ _ _ (Has.head _ _ _ _))))) (i := 9) rfl, M7.cell (.tail _ _ _ _ _ (.tail _ _ _ _ _ (.tail _ _ _ _ _ (.tail _ _ _ _ _ (Has.head _ _ _ _))))) (i := 10) rfl, M7.cell (Has.head _ _ _ _) (i := 5) rfl⟩) (fun hHeld => ?_)
  clear hK K
  try simp only [Act.put, puts]
  refine tkT 11 ?v38 ?hy38 hHeld ?rest38
  case hy38 => (intro w' hSw; (try dsimp only at hSw); go_simp; (try with_reducible rfl))
  try simp only [Act.put, puts]
  refine wpAnyH_ready (rs := [12]) (by kernel_rfl) (by simp) ?_
  refine AllReadyH.cons rfl (fun K hK => ?_) AllReadyH.nil
  rw [if_pos (by rfl)]
  refine Grid.wp_stM M7 rfl rfl rfl (wr_pK _ _ _ _ _ _ _ _ _ _ _ B2 (St + 1)) (.tail _ _ _ _ _ _ _ (Upd.head _ _ _ _ _)) ?_
  intro w12 Mn hTn
  replace HB := Lib.hid (Grid.gown_turned HB.out (M7.has (.tail _ _ _ _ _ (Has.head _ _ _ _))) (by decide) hTn)
  replace HC := Lib.hid (HC.out.turnedB (M7.has (.tail _ _ _ _ _ (Has.head _ _ _ _))) (by decide) (noPart_p _ _ _ _ _ _ _ _ _ _ _ _ _ _ _) hTn)
  replace M7 := Mn
  clear hTn hHeld Mn
  refine hK.out _ _ (⟨M7.cell (.tail _ _ _ _ _ (.tail _ _ _ _ _ (.tail _ _ _ _ _ (.tail _ _ _ _ _ (Has.head _ _ _ _))))) (i := 5) rfl, M7.cell (.tail _ _ _ _ _ (.tail _ _ _ _ _ (.tail _ _ _ _ _ (.tail _ _ _ _ _ (Has.head _ _ _ _))))) (i := 6) rfl, M7.cell (.tail _ _ _ _ _ (.tail _ _ _ _ _ (.tail _ _ _ _ _ (.tail _ _ _ _ _ (Has.head _ _ _ _))))) (i := 7) rfl, M7.cell (.tail _ _ _ _ _ (.tail _ _ _ _ _ (.tail _ _ _ _ _ (.tail _ _ _ _ _ (Has.head _ _ _ _))))) (i := 8) rfl, M7.cell (.tail _ _ _ _ _ (.tail _ _ _ _ _ (.tail _ _ _ _ _ (.tail _ _ _ _ _ (Has.head _ _ _ _))))) (i := 9) rfl, M7.cell (.tail _ _ _ _ _ (.tail _ _ _ _ _ (.tail _ _ _ _ _ (.tail _ _ _ _ _ (Has.head _ _ _ _))))) (i := 10) rfl, M7.cell (Has.head _ _ _ _) (i := 5) rfl⟩) (fun hHeld => ?_)
  clear hK K
  try simp only [Act.put, puts]
  refine wpAnyH_done (by kernel_rfl) ?_ _
  clear HCF HCK
  have K3 := M7.has (.tail _ _ _ _ _ (.tail _ _ _ _ _ (Has.head _ _ _ _)))
  go_wp2_with ((with_reducible refine (?_ : Go.wpList _ _ _ (_ :: _) _ _)); (first | go_skip | (refine Grid.wpL_stM M7 rfl rfl rfl rfl (wr_p _ rfl _ _ _ _ _ _ _ _ _ _ _ _ _ _ _) (.tail _ _ _ _ _ _ _ (.tail _ _ _ _ _ _ _ (Upd.head _ _ _ _ _))) ?_; clear M7; intro wr7 M7 hT) | (refine wpL_ldc M7 rfl rfl rfl ?_)))
  refine bodyPost_ret (res_cell_tmp rfl M7 rfl (.tail _ _ _ _ _ (.tail _ _ _ _ _ (Has.head _ _ _ _))) (rd_p _ _ _ _ _ _ _ _ _ _ _) rfl) rfl ?_
  exact ⟨aB, cB, aC, cC, rfl, ⟨_, Grid.gown_turned HB.out K3 (by decide) hT⟩, HC.out.turnedB K3 (by decide) (noPart_p _ _ _ _ _ _ _ _ _ _ _ _ _ _ _) hT, M7.below⟩


set_option maxRecDepth 20000 in
set_option maxHeartbeats 12800000 in
theorem do18_split_no (x y X Y S B St ok oq cx cy ow oh sp : Int) (aG aF oa : Option Addr) (n cG cF on oc : Nat) (p : List Int) (us : List Nat) (x2 y2 X2 Y2 S2 B2 : Int) (m : Nat) (L1 L2 : List Int) (ws : List Nat)  (hk : ok.tmod 5 = 3) (w : World) (hS : Sl w 1 (.slice aG n cG) n (i64s p)) (hV : IsV w aF n cF us)
    (C0 : ∀ wx, Below w.heap.size w wx → Calls Tryz.prog 20 #[.slice aG n cG] wx fun e w' => e = .returned (.int .i64 sp) ∧ wx = w')
    (CG : ∀ wx, Below w.heap.size w wx → GOwn 32 #[gv x y X Y S (.slice aG n cG)] x2 y2 X2 Y2 S2 m L1 0 wx)
    (CN : ∀ wx a c, Sl wx 1 (.slice a m c) m (i64s L1) → GOwn 24 #[gv x2 y2 X2 Y2 S2 (.slice a m c)] x2 y2 X2 Y2 S2 m L2 7 wx)
    (CF : ∀ wx, Below w.heap.size w wx → LAns18 33 #[fv x y (.slice aF n cF)] x2 y2 m ws wx)
    (CK : ∀ wx, Below w.heap.size w wx → KAns 17 #[bk B St, .int .i64 m] B2 (St + 1) wx)
    (hx4 : decide ((4 : Int) < x) = false) (hy4 : decide ((4 : Int) < y) = false)
    : Calls Tryz.prog 8 #[pv x y X Y S (.slice aG n cG) x y (.slice aF n cF) B St, .agg #[.int .u8 ok, .int .u8 oq, .slice oa on oc, .int .i8 cx, .int .i8 cy, .int .u8 ow, .int .u8 oh]] w fun e w' => e = .returned (.tuple #[pv x y X Y S (.slice aG n cG) x y (.slice aF n cF) B St, .bool false]) ∧ Below w.heap.size w w' := by
  have HC0 := Lib.hid C0
  have HCG := Lib.hid CG
  have HCN := Lib.hid CN
  have HCF := Lib.hid CF
  have HCK := Lib.hid CK
  have HS := Lib.hid hS
  have HV := Lib.hid hV
  have M0 := Mem.start w
  clear hS hV C0 CG CN CF CK
  go_enter Tryz.func8, Tryz.ntmps8
  go_wp2_with (first | ((with_reducible refine (?_ : Go.wpList _ _ _ (_ :: _) _ _)); (first | go_skip | (refine wpL_bx M0 rfl rfl rfl rfl ?_; clear M0; intro g1 w1 M1) | (refine wpL_alc M0 rfl rfl ?_; clear M0; intro g1 w1 M1) | (refine wpL_ldc M0 rfl rfl rfl ?_) | (refine wpL_lgc M0 rfl rfl rfl ?_) | (refine wpL_stc M0 rfl rfl rfl rfl ?_; clear M0; intro w' M0) | (refine wpL_sti M0 rfl rfl rfl rfl ?_; clear M0; intro w' M0) | (refine wpL_sth M0 rfl rfl rfl rfl (wr_minus _ _ _) ?_; clear M0; intro w' M0) | (refine wpL_bx M1 rfl rfl rfl rfl ?_; clear M1; intro g2 w2 M2) | (refine wpL_alc M1 rfl rfl ?_; clear M1; intro g2 w2 M2) | (refine wpL_ldc M1 rfl rfl rfl ?_) | (refine wpL_lgc M1 rfl rfl rfl ?_) | (refine wpL_stc M1 rfl rfl rfl rfl ?_; clear M1; intro w' M1) | (refine wpL_sti M1 rfl rfl rfl rfl ?_; clear M1; intro w' M1) | (refine wpL_sth M1 rfl rfl rfl rfl (wr_minus _ _ _) ?_; clear M1; intro w' M1) | (refine wpL_bx M2 rfl rfl rfl rfl ?_; clear M2; intro g3 w3 M3) | (refine wpL_alc M2 rfl rfl ?_; clear M2; intro g3 w3 M3) | (refine wpL_ldc M2 rfl rfl rfl ?_) | (refine wpL_lgc M2 rfl rfl rfl ?_) | (refine wpL_stc M2 rfl rfl rfl rfl ?_; clear M2; intro w' M2) | (refine wpL_sti M2 rfl rfl rfl rfl ?_; clear M2; intro w' M2) | (refine wpL_sth M2 rfl rfl rfl rfl (wr_minus _ _ _) ?_; clear M2; intro w' M2) | (refine wpL_bx M3 rfl rfl rfl rfl ?_; clear M3; intro g4 w4 M4) | (refine wpL_alc M3 rfl rfl ?_; clear M3; intro g4 w4 M4) | (refine wpL_ldc M3 rfl rfl rfl ?_) | (refine wpL_lgc M3 rfl rfl rfl ?_) | (refine wpL_stc M3 rfl rfl rfl rfl ?_; clear M3; intro w' M3) | (refine wpL_sti M3 rfl rfl rfl rfl ?_; clear M3; intro w' M3) | (refine wpL_sth M3 rfl rfl rfl rfl (wr_minus _ _ _) ?_; clear M3; intro w' M3) | (refine wpL_ldc M4 rfl rfl rfl ?_) | (refine wpL_lgc M4 rfl rfl rfl ?_) | (refine wpL_stc M4 rfl rfl rfl rfl ?_; clear M4; intro w' M4) | (refine wpL_sti M4 rfl rfl rfl rfl ?_; clear M4; intro w' M4) | (refine wpL_sth M4 rfl rfl rfl rfl (wr_minus _ _ _) ?_; clear M4; intro w' M4))) | (refine Grid.wpL_stM M4 rfl rfl rfl rfl (wr_p _ rfl _ _ _ _ _ _ _ _ _ _ _ _ _ _ _) (Upd.head _ _ _ _ _) ?_; clear M4; intro wp4 M4 hT))
  try clear hT
  refine (HC0.out _ M4.below).mono ?_
  rintro e wz ⟨rfl, rfl⟩
  go_wp2_with ((with_reducible refine (?_ : Go.wpList _ _ _ (_ :: _) _ _)); (first | go_skip | (refine wpL_ldc M4 rfl rfl rfl ?_) | (refine wpL_lgc M4 rfl rfl rfl ?_) | (refine wpL_stc M4 rfl rfl rfl rfl ?_; clear M4; intro w' M4) | (refine wpL_sti M4 rfl rfl rfl rfl ?_; clear M4; intro w' M4) | (refine wpL_sth M4 rfl rfl rfl rfl (wr_minus _ _ _) ?_; clear M4; intro w' M4)))
  refine (HCG.out _ M4.below).mono ?_
  rintro e w5 ⟨aA, cA, rfl, hO, hA⟩
  have M5 := M4.call hA
  have HA := Lib.hid (Sl.of_own hO)
  clear hA hO M4
  have M30 := Mem.start w5
  go_upto_region 34 with ((with_reducible refine (?_ : Go.wpList _ _ _ (_ :: _) _ _)); (first | go_skip | (refine wpL_bx M30 rfl rfl rfl rfl ?_; clear M30; intro g31 w31 M31) | (refine wpL_alc M30 rfl rfl ?_; clear M30; intro g31 w31 M31) | (refine wpL_ldc M30 rfl rfl rfl ?_) | (refine wpL_lgc M30 rfl rfl rfl ?_) | (refine wpL_stc M30 rfl rfl rfl rfl ?_; clear M30; intro w' M30) | (refine wpL_sti M30 rfl rfl rfl rfl ?_; clear M30; intro w' M30) | (refine wpL_sth M30 rfl rfl rfl rfl (wr_minus _ _ _) ?_; clear M30; intro w' M30) | (refine wpL_ldc M31 rfl rfl rfl ?_) | (refine wpL_lgc M31 rfl rfl rfl ?_) | (refine wpL_stc M31 rfl rfl rfl rfl ?_; clear M31; intro w' M31) | (refine wpL_sti M31 rfl rfl rfl rfl ?_; clear M31; intro w' M31) | (refine wpL_sth M31 rfl rfl rfl rfl (wr_minus _ _ _) ?_; clear M31; intro w' M31)))
  obtain ⟨w6, hw6⟩ : ∃ w6, w6 = w' := ⟨_, rfl⟩
  rw [← hw6] at M31 ⊢
  have M6 : Mem w w6 [(g31, 28, gc x2 y2 X2 Y2 S2 (.slice aA m cA)), (g4, 37, pc x y X Y S (.slice aG n cG) x y (.slice aF n cF) B St), (g3, 37, pc 0 0 0 0 0 (.slice none 0 0) 0 0 (.slice none 0 0) 0 0), (g2, 42, [.int .u8 ok, .int .u8 oq, .slice oa on oc, .int .i8 cx, .int .i8 cy, .int .u8 ow, .int .u8 oh]), (g1, 37, pc x y X Y S (.slice aG n cG) x y (.slice aF n cF) B St)] := Mem.join M5 M31
  replace HA := Lib.hid (HA.out.below M31.below)
  clear hw6 M5 M31
  go_wp2_with ((with_reducible refine (?_ : Go.wpList _ _ _ (_ :: _) _ _)); (first | go_skip | (refine wpL_ldc M6 rfl rfl rfl ?_) | (refine wpL_lgc M6 rfl rfl rfl ?_) | (refine wpL_stc M6 rfl rfl rfl rfl ?_; clear M6; intro w' M6) | (refine wpL_sti M6 rfl rfl rfl rfl ?_; clear M6; intro w' M6) | (refine wpL_sth M6 rfl rfl rfl rfl (wr_minus _ _ _) ?_; clear M6; intro w' M6)))
  refine (HCN.out _ _ _ HA.out).mono ?_
  rintro e w7 ⟨aB, cB, rfl, hO, hA⟩
  have M7 := M6.call hA
  have HB := Lib.hid hO
  have K4 := M7.has (.tail _ _ _ _ _ (Has.head _ _ _ _))
  clear hA hO M6 HA
  go_upto_region 35 with (first | ((with_reducible refine (?_ : Go.wpList _ _ _ (_ :: _) _ _)); (first | go_skip | (refine wpL_ldc M7 rfl rfl rfl ?_) | (refine wpL_lgc M7 rfl rfl rfl ?_) | (refine wpL_stc M7 rfl rfl rfl rfl ?_; clear M7; intro w' M7) | (refine wpL_sti M7 rfl rfl rfl rfl ?_; clear M7; intro w' M7) | (refine wpL_sth M7 rfl rfl rfl rfl (wr_minus _ _ _) ?_; clear M7; intro w' M7))) | (refine Grid.wpL_stM M7 rfl rfl rfl rfl (wr_pG x y X Y S (.slice aG n cG) x y (.slice aF n cF) B St x2 y2 X2 Y2 S2 aB m cB) (.tail _ _ _ _ _ _ _ (Upd.head _ _ _ _ _)) ?_; clear M7; intro w8 M7 hT))
  replace HB := Lib.hid (ownsRow_below (Grid.gown_turned HB.out K4 (by decide) hT) ((Below.refl _ _).drew))
  replace M7 := M7.drew
  clear K4 hT HCN
  refine wp_region_held_drew (S := (fun w' : World => w'.cell? ⟨g1, 5, none⟩ = some (.slice aG n cG) ∧ w'.cell? ⟨g1, 6, none⟩ = some (.int .i64 x) ∧ w'.cell? ⟨g1, 7, none⟩ = some (.int .i64 y) ∧ w'.cell? ⟨g1, 8, none⟩ = some (.slice aF n cF) ∧ w'.cell? ⟨g1, 9, none⟩ = some (.int .i64 B) ∧ w'.cell? ⟨g1, 10, none⟩ = some (.int .i64 St) ∧ w'.cell? ⟨g31, 5, none⟩ = some (.slice aA m cA))) (by kernel_rfl) (⟨M7.cell (.tail _ _ _ _ _ (.tail _ _ _ _ _ (.tail _ _ _ _ _ (.tail _ _ _ _ _ (Has.head _ _ _ _))))) (i := 5) rfl, M7.cell (.tail _ _ _ _ _ (.tail _ _ _ _ _ (.tail _ _ _ _ _ (.tail _ _ _ _ _ (Has.head _ _ _ _))))) (i := 6) rfl, M7.cell (.tail _ _ _ _ _ (.tail _ _ _ _ _ (.tail _ _ _ _ _ (.tail _ _ _ _ _ (Has.head _ _ _ _))))) (i := 7) rfl, M7.cell (.tail _ _ _ _ _ (.tail _ _ _ _ _ (.tail _ _ _ _ _ (.tail _ _ _ _ _ (Has.head _ _ _ _))))) (i := 8) rfl, M7.cell (.tail _ _ _ _ _ (.tail _ _ _ _ _ (.tail _ _ _ _ _ (.tail _ _ _ _ _ (Has.head _ _ _ _))))) (i := 9) rfl, M7.cell (.tail _ _ _ _ _ (.tail _ _ _ _ _ (.tail _ _ _ _ _ (.tail _ _ _ _ _ (Has.head _ _ _ _))))) (i := 10) rfl, M7.cell (Has.head _ _ _ _) (i := 5) rfl⟩) (fun hHeld => ?_)
  refine tkT 0 ?v40 ?hy40 hHeld ?rest40
  case hy40 => (intro w' hSw; (try dsimp only at hSw); go_simp; (try with_reducible rfl))
  try simp only [Act.put, puts]
  refine tkT 1 ?v41 ?hy41 hHeld ?rest41
  case hy41 => (intro w' hSw; (try dsimp only at hSw); go_simp; (try with_reducible rfl))
  try simp only [Act.put, puts]
  refine tkT 3 ?v42 ?hy42 hHeld ?rest42
  case hy42 => (intro w' hSw; (try dsimp only at hSw); go_simp; (try with_reducible rfl))
  try simp only [Act.put, puts]
  refine tkT 4 ?v43 ?hy43 hHeld ?rest43
  case hy43 => (intro w' hSw; (try dsimp only at hSw); go_simp; (try with_reducible rfl))
  try simp only [Act.put, puts]
  refine tkT 5 ?v44 ?hy44 hHeld ?rest44
  case hy44 => (intro w' hSw; (try dsimp only at hSw); go_simp; (try with_reducible rfl))
  try simp only [Act.put, puts]
  refine tkT 6 ?v45 ?hy45 hHeld ?rest45
  case hy45 => (intro w' hSw; (try dsimp only at hSw); go_simp; (try with_reducible rfl))
  try simp only [Act.put, puts]
  refine tkT 7 ?v46 ?hy46 hHeld ?rest46
  case hy46 => (intro w' hSw; (try dsimp only at hSw); go_simp; (try with_reducible rfl))
  try simp only [Act.put, puts]
  refine wpAnyH_ready (rs := [2]) (by kernel_rfl) (by simp) ?_
  refine AllReadyH.cons rfl (fun K hK => ?_) AllReadyH.nil
  go_simp
  refine (HCF.out _ M7.below).mono ?_
  rintro e w9 ⟨aC, cC, rfl, hV2, hA⟩
  replace M7 := M7.call hA
  replace HB := Lib.hid (ownsRow_below HB.out hA)
  have HC := Lib.hid hV2
  clear hV2 hA hHeld
  try go_wp2_with fail
  refine hK.out _ _ (⟨M7.cell (.tail _ _ _ _ _ (.tail _ _ _ _ _ (.tail _ _ _ _ _ (.tail _ _ _ _ _ (Has.head _ _ _ _))))) (i := 5) rfl, M7.cell (.tail _ _ _ _ _ (.tail _ _ _ _ _ (.tail _ _ _ _ _ (.tail _ _ _ _ _ (Has.head _ _ _ _))))) (i := 6) rfl, M7.cell (.tail _ _ _ _ _ (.tail _ _ _ _ _ (.tail _ _ _ _ _ (.tail _ _ _ _ _ (Has.head _ _ _ _))))) (i := 7) rfl, M7.cell (.tail _ _ _ _ _ (.tail _ _ _ _ _ (.tail _ _ _ _ _ (.tail _ _ _ _ _ (Has.head _ _ _ _))))) (i := 8) rfl, M7.cell (.tail _ _ _ _ _ (.tail _ _ _ _ _ (.tail _ _ _ _ _ (.tail _ _ _ _ _ (Has.head _ _ _ _))))) (i := 9) rfl, M7.cell (.tail _ _ _ _ _ (.tail _ _ _ _ _ (.tail _ _ _ _ _ (.tail _ _ _ _ _ (Has.head _ _ _ _))))) (i := 10) rfl, M7.cell (Has.head _ _ _ _) (i := 5) rfl⟩) (fun hHeld => ?_)
  clear hK K
  try simp only [Act.put, puts]
  refine tkT 9 ?v48 ?hy48 hHeld ?rest48
  case hy48 => (intro w' hSw; (try dsimp only at hSw); go_simp; (try with_reducible rfl))
  try simp only [Act.put, puts]
  refine wpAnyH_ready (rs := [8]) (by kernel_rfl) (by simp) ?_
  refine AllReadyH.cons rfl (fun K hK => ?_) AllReadyH.nil
  go_simp
  refine (HCK.out _ M7.below).mono ?_
  rintro e w10 ⟨rfl, hA⟩
  replace M7 := M7.call hA
  replace HB := Lib.hid (ownsRow_below HB.out hA)
  replace HC := Lib.hid (HC.out.below hA)
  clear hA hHeld
  try go_wp2_with fail
  refine hK.out _ _ (⟨M7.cell (.tail _ _ _ _ _ (.tail _ _ _ _ _ (.tail _ _ _ _ _ (.tail _ _ _ _ _ (Has.head _ _ _ _))))) (i := 5) rfl, M7.cell (.tail _ _ _ _ _ (.tail _ _ _ _ _ (.tail _ _ _ _ _ (.tail _ _ _ _ _ (Has.head _ _ _ _))))) (i := 6) rfl, M7.cell (.tail _ _ _ _ _ (.tail _ _ _ _ _ (.tail _ _ _ _ _ (.tail _ _ _ _ _ (Has.head _ _ _ _))))) (i := 7) rfl, M7.cell (.tail _ _ _ _ _ (.tail _ _ _ _ _ (.tail _ _ _ _ _ (.tail _ _ _ _ _ (Has.head _ _ _ _))))) (i := 8) rfl, M7.cell (.tail _ _ _ _ _ (.tail _ _ _ _ _ (.tail _ _ _ _ _ (.tail _ _ _ _ _ (Has.head _ _ _ _))))) (i := 9) rfl, M7.cell (.tail _ _ _ _ _ (.tail _ _ _ _ _ (.tail _ _ _ _ _ (.tail _ _ _ _ _ (Has.head _ _ _ _))))) (i := 10) rfl, M7.cell (Has.head _ _ _ _) (i := 5) rfl⟩) (fun hHeld => ?_)
  clear hK K
  try simp only [Act.put, puts]
  refine wpAnyH_ready (rs := [10]) (by kernel_rfl) (by simp) ?_
  refine AllReadyH.cons rfl (fun K hK => ?_) AllReadyH.nil
  rw [if_pos (by rfl)]
  refine Grid.wp_stM M7 rfl rfl rfl (wr_pF _ _ _ _ _ _ _ _ _ _ _ x2 y2 aC m cC) (.tail _ _ _ _ _ _ _ (Upd.head _ _ _ _ _)) ?_
  intro w11 Mn hTn
  replace HB := Lib.hid (Grid.gown_turned HB.out (M7.has (.tail _ _ _ _ _ (Has.head _ _ _ _))) (by decide) hTn)
  replace HC := Lib.hid (HC.out.turnedB (M7.has (.tail _ _ _ _ _ (Has.head _ _ _ _))) (by decide) (noPart_p _ _ _ _ _ _ _ _ _ _ _ _ _ _ _) hTn)
  replace M7 := Mn
  clear hTn hHeld Mn
  refine hK.out _ _ (⟨M7.cell (.tail _ _ _ _ _ (.tail _ _ _ _ _ (.tail _ _ _ _ _ (.tail _ _ _ _ _ (Has.head _ _ _ _))))) (i := 5) rfl, M7.cell (.tail _ _ _ _ _ (.tail _ _ _ _ _ (.tail _ _ _ _ _ (.tail _ _ _ _ _ (Has.head _ _ _ _))))) (i := 6) rfl, M7.cell (.tail _ _ _ _ _ (.tail _ _ _ _ _ (.tail _ _ _ _ _ (.tail _ _ _ _ _ (Has.head _ _ _ _))))) (i := 7) rfl, M7.cell (.tail _ _ _ _ _ (.tail _ _ _ _ _ (.tail _ _ _ _ _ (.tail _ _ _ _ _ (Has.head _ _ _ _))))) (i := 8) rfl, M7.cell (.tail _ _ _ _ _ (.tail _ _ _ _ _ (.tail _ _ _ _ _ (.tail _ _ _ _ _ (Has.head _ _ _ _))))) (i := 9) rfl, M7.cell (.tail _ _ _ _ _ (.tail _ _ _ _ _ (.tail _ _ _ _ _ (.tail _ _ _ _ _ (Has.head _ _ _ _))))) (i := 10) rfl, M7.cell (Has.head _ _ _ _) (i := 5) rfl⟩) (fun hHeld => ?_)
  clear hK K
  try simp only [Act.put, puts]
  refine tkT 11 ?v51 ?hy51 hHeld ?rest51
  case hy51 => (intro w' hSw; (try dsimp only at hSw); go_simp; (try with_reducible rfl))
  try simp only [Act.put, puts]
  refine wpAnyH_ready (rs := [12]) (by kernel_rfl) (by simp) ?_
  refine AllReadyH.cons rfl (fun K hK => ?_) AllReadyH.nil
  rw [if_pos (by rfl)]
  refine Grid.wp_stM M7 rfl rfl rfl (wr_pK _ _ _ _ _ _ _ _ _ _ _ B2 (St + 1)) (.tail _ _ _ _ _ _ _ (Upd.head _ _ _ _ _)) ?_
  intro w12 Mn hTn
  replace HB := Lib.hid (Grid.gown_turned HB.out (M7.has (.tail _ _ _ _ _ (Has.head _ _ _ _))) (by decide) hTn)
  replace HC := Lib.hid (HC.out.turnedB (M7.has (.tail _ _ _ _ _ (Has.head _ _ _ _))) (by decide) (noPart_p _ _ _ _ _ _ _ _ _ _ _ _ _ _ _) hTn)
  replace M7 := Mn
  clear hTn hHeld Mn
  refine hK.out _ _ (⟨M7.cell (.tail _ _ _ _ _ (.tail _ _ _ _ _ (.tail _ _ _ _ _ (.tail _ _ _ _ _ (Has.head _ _ _ _))))) (i := 5) rfl, M7.cell (.tail _ _ _ _ _ (.tail _ _ _ _ _ (.tail _ _ _ _ _ (.tail _ _ _ _ _ (Has.head _ _ _ _))))) (i := 6) rfl, M7.cell (.tail _ _ _ _ _ (.tail _ _ _ _ _ (.tail _ _ _ _ _ (.tail _ _ _ _ _ (Has.head _ _ _ _))))) (i := 7) rfl, M7.cell (.tail _ _ _ _ _ (.tail _ _ _ _ _ (.tail _ _ _ _ _ (.tail _ _ _ _ _ (Has.head _ _ _ _))))) (i := 8) rfl, M7.cell (.tail _ _ _ _ _ (.tail _ _ _ _ _ (.tail _ _ _ _ _ (.tail _ _ _ _ _ (Has.head _ _ _ _))))) (i := 9) rfl, M7.cell (.tail _ _ _ _ _ (.tail _ _ _ _ _ (.tail _ _ _ _ _ (.tail _ _ _ _ _ (Has.head _ _ _ _))))) (i := 10) rfl, M7.cell (Has.head _ _ _ _) (i := 5) rfl⟩) (fun hHeld => ?_)
  clear hK K
  try simp only [Act.put, puts]
  refine wpAnyH_done (by kernel_rfl) ?_ _
  clear HCF HCK
  go_wp2_with (first | ((with_reducible refine (?_ : Go.wpList _ _ _ (_ :: _) _ _)); (first | go_skip | (refine wpL_ldc M7 rfl rfl rfl ?_) | (refine wpL_lgc M7 rfl rfl rfl ?_) | (refine wpL_stc M7 rfl rfl rfl rfl ?_; clear M7; intro w' M7) | (refine wpL_sti M7 rfl rfl rfl rfl ?_; clear M7; intro w' M7) | (refine wpL_sth M7 rfl rfl rfl rfl (wr_minus _ _ _) ?_; clear M7; intro w' M7))) | (refine wpL_sth M7 rfl rfl rfl rfl (wr_p _ rfl _ _ _ _ _ _ _ _ _ _ _ _ _ _ _) ?_; clear M7; intro wr7 M7))
  refine bodyPost_ret (res_cell_tmp rfl M7 rfl (.tail _ _ _ _ _ (.tail _ _ _ _ _ (Has.head _ _ _ _))) (rd_p _ _ _ _ _ _ _ _ _ _ _) rfl) rfl ?_
  exact ⟨rfl, M7.below⟩


set_option maxRecDepth 20000 in
set_option maxHeartbeats 12800000 in
theorem do18_split_early (x y X Y S B St ok oq cx cy ow oh sp : Int) (aG aF oa : Option Addr) (n cG cF on oc : Nat) (p : List Int) (us : List Nat) (x2 y2 X2 Y2 S2 : Int) (m : Nat) (L1 : List Int) (cd : Int) (hcd : decide (cd = 0) = false) (hcd2 : (cd == 0) = false)  (hk : ok.tmod 5 = 3) (w : World) (hS : Sl w 1 (.slice aG n cG) n (i64s p)) (hV : IsV w aF n cF us)
    (C0 : ∀ wx, Below w.heap.size w wx → Calls Tryz.prog 20 #[.slice aG n cG] wx fun e w' => e = .returned (.int .i64 sp) ∧ wx = w')
    (CG : ∀ wx, Below w.heap.size w wx → GOwn 32 #[gv x y X Y S (.slice aG n cG)] x2 y2 X2 Y2 S2 m L1 cd wx)
    (hx4 : decide ((4 : Int) < x) = false) (hy4 : decide ((4 : Int) < y) = false)
    : Calls Tryz.prog 8 #[pv x y X Y S (.slice aG n cG) x y (.slice aF n cF) B St, .agg #[.int .u8 ok, .int .u8 oq, .slice oa on oc, .int .i8 cx, .int .i8 cy, .int .u8 ow, .int .u8 oh]] w fun e w' => e = .returned (.tuple #[pv x y X Y S (.slice aG n cG) x y (.slice aF n cF) B St, .bool false]) ∧ Below w.heap.size w w' := by
  have HC0 := Lib.hid C0
  have HCG := Lib.hid CG
  have HS := Lib.hid hS
  have HV := Lib.hid hV
  have M0 := Mem.start w
  clear hS hV C0 CG
  go_enter Tryz.func8, Tryz.ntmps8
  go_wp2_with (first | ((with_reducible refine (?_ : Go.wpList _ _ _ (_ :: _) _ _)); (first | go_skip | (refine wpL_bx M0 rfl rfl rfl rfl ?_; clear M0; intro g1 w1 M1) | (refine wpL_alc M0 rfl rfl ?_; clear M0; intro g1 w1 M1) | (refine wpL_ldc M0 rfl rfl rfl ?_) | (refine wpL_lgc M0 rfl rfl rfl ?_) | (refine wpL_stc M0 rfl rfl rfl rfl ?_; clear M0; intro w' M0) | (refine wpL_sti M0 rfl rfl rfl rfl ?_; clear M0; intro w' M0) | (refine wpL_sth M0 rfl rfl rfl rfl (wr_minus _ _ _) ?_; clear M0; intro w' M0) | (refine wpL_bx M1 rfl rfl rfl rfl ?_; clear M1; intro g2 w2 M2) | (refine wpL_alc M1 rfl rfl ?_; clear M1; intro g2 w2 M2) | (refine wpL_ldc M1 rfl rfl rfl ?_) | (refine wpL_lgc M1 rfl rfl rfl ?_) | (refine wpL_stc M1 rfl rfl rfl rfl ?_; clear M1; intro w' M1) | (refine wpL_sti M1 rfl rfl rfl rfl ?_; clear M1; intro w' M1) | (refine wpL_sth M1 rfl rfl rfl rfl (wr_minus _ _ _) ?_; clear M1; intro w' M1) | (refine wpL_bx M2 rfl rfl rfl rfl ?_; clear M2; intro g3 w3 M3) | (refine wpL_alc M2 rfl rfl ?_; clear M2; intro g3 w3 M3) | (refine wpL_ldc M2 rfl rfl rfl ?_) | (refine wpL_lgc M2 rfl rfl rfl ?_) | (refine wpL_stc M2 rfl rfl rfl rfl ?_; clear M2; intro w' M2) | (refine wpL_sti M2 rfl rfl rfl rfl ?_; clear M2; intro w' M2) | (refine wpL_sth M2 rfl rfl rfl rfl (wr_minus _ _ _) ?_; clear M2; intro w' M2) | (refine wpL_bx M3 rfl rfl rfl rfl ?_; clear M3; intro g4 w4 M4) | (refine wpL_alc M3 rfl rfl ?_; clear M3; intro g4 w4 M4) | (refine wpL_ldc M3 rfl rfl rfl ?_) | (refine wpL_lgc M3 rfl rfl rfl ?_) | (refine wpL_stc M3 rfl rfl rfl rfl ?_; clear M3; intro w' M3) | (refine wpL_sti M3 rfl rfl rfl rfl ?_; clear M3; intro w' M3) | (refine wpL_sth M3 rfl rfl rfl rfl (wr_minus _ _ _) ?_; clear M3; intro w' M3) | (refine wpL_ldc M4 rfl rfl rfl ?_) | (refine wpL_lgc M4 rfl rfl rfl ?_) | (refine wpL_stc M4 rfl rfl rfl rfl ?_; clear M4; intro w' M4) | (refine wpL_sti M4 rfl rfl rfl rfl ?_; clear M4; intro w' M4) | (refine wpL_sth M4 rfl rfl rfl rfl (wr_minus _ _ _) ?_; clear M4; intro w' M4))) | (refine Grid.wpL_stM M4 rfl rfl rfl rfl (wr_p _ rfl _ _ _ _ _ _ _ _ _ _ _ _ _ _ _) (Upd.head _ _ _ _ _) ?_; clear M4; intro wp4 M4 hT))
  try clear hT
  refine (HC0.out _ M4.below).mono ?_
  rintro e wz ⟨rfl, rfl⟩
  go_wp2_with ((with_reducible refine (?_ : Go.wpList _ _ _ (_ :: _) _ _)); (first | go_skip | (refine wpL_ldc M4 rfl rfl rfl ?_) | (refine wpL_lgc M4 rfl rfl rfl ?_) | (refine wpL_stc M4 rfl rfl rfl rfl ?_; clear M4; intro w' M4) | (refine wpL_sti M4 rfl rfl rfl rfl ?_; clear M4; intro w' M4) | (refine wpL_sth M4 rfl rfl rfl rfl (wr_minus _ _ _) ?_; clear M4; intro w' M4)))
  refine (HCG.out _ M4.below).mono ?_
  rintro e w5 ⟨aA, cA, rfl, hO, hA⟩
  have M5 := M4.call hA
  clear hA hO M4
  go_wp2_with (first | ((with_reducible refine (?_ : Go.wpList _ _ _ (_ :: _) _ _)); (first | go_skip | (refine wpL_bx M5 rfl rfl rfl rfl ?_; clear M5; intro g6 w6 M6) | (refine wpL_alc M5 rfl rfl ?_; clear M5; intro g6 w6 M6) | (refine wpL_ldc M5 rfl rfl rfl ?_) | (refine wpL_lgc M5 rfl rfl rfl ?_) | (refine wpL_stc M5 rfl rfl rfl rfl ?_; clear M5; intro w' M5) | (refine wpL_sti M5 rfl rfl rfl rfl ?_; clear M5; intro w' M5) | (refine wpL_sth M5 rfl rfl rfl rfl (wr_minus _ _ _) ?_; clear M5; intro w' M5) | (refine wpL_ldc M6 rfl rfl rfl ?_) | (refine wpL_lgc M6 rfl rfl rfl ?_) | (refine wpL_stc M6 rfl rfl rfl rfl ?_; clear M6; intro w' M6) | (refine wpL_sti M6 rfl rfl rfl rfl ?_; clear M6; intro w' M6) | (refine wpL_sth M6 rfl rfl rfl rfl (wr_minus _ _ _) ?_; clear M6; intro w' M6))) | (refine wpL_sth M6 rfl rfl rfl rfl (wr_p _ rfl _ _ _ _ _ _ _ _ _ _ _ _ _ _ _) ?_; clear M6; intro wr7 M6))
  refine bodyPost_ret (res_cell_tmp rfl M6 rfl (.tail _ _ _ _ _ (.tail _ _ _ _ _ (Has.head _ _ _ _))) (rd_p _ _ _ _ _ _ _ _ _ _ _) rfl) rfl ?_
  exact ⟨rfl, M6.below⟩


set_option maxRecDepth 20000 in
set_option maxHeartbeats 12800000 in
theorem do18_split_w (x y X Y S B St ok oq cx cy ow oh sp : Int) (aG aF oa : Option Addr) (n cG cF on oc : Nat) (p : List Int) (us : List Nat)  (hk : ok.tmod 5 = 3) (w : World) (hS : Sl w 1 (.slice aG n cG) n (i64s p)) (hV : IsV w aF n cF us)
    (C0 : ∀ wx, Below w.heap.size w wx → Calls Tryz.prog 20 #[.slice aG n cG] wx fun e w' => e = .returned (.int .i64 sp) ∧ wx = w')
    (hx4 : decide ((4 : Int) < x) = true)
    : Calls Tryz.prog 8 #[pv x y X Y S (.slice aG n cG) x y (.slice aF n cF) B St, .agg #[.int .u8 ok, .int .u8 oq, .slice oa on oc, .int .i8 cx, .int .i8 cy, .int .u8 ow, .int .u8 oh]] w fun e w' => e = .returned (.tuple #[pv x y X Y S (.slice aG n cG) x y (.slice aF n cF) B St, .bool false]) ∧ Below w.heap.size w w' := by
  have HC0 := Lib.hid C0
  have HS := Lib.hid hS
  have HV := Lib.hid hV
  have M0 := Mem.start w
  clear hS hV C0
  go_enter Tryz.func8, Tryz.ntmps8
  go_wp2_with (first | ((with_reducible refine (?_ : Go.wpList _ _ _ (_ :: _) _ _)); (first | go_skip | (refine wpL_bx M0 rfl rfl rfl rfl ?_; clear M0; intro g1 w1 M1) | (refine wpL_alc M0 rfl rfl ?_; clear M0; intro g1 w1 M1) | (refine wpL_ldc M0 rfl rfl rfl ?_) | (refine wpL_lgc M0 rfl rfl rfl ?_) | (refine wpL_stc M0 rfl rfl rfl rfl ?_; clear M0; intro w' M0) | (refine wpL_sti M0 rfl rfl rfl rfl ?_; clear M0; intro w' M0) | (refine wpL_sth M0 rfl rfl rfl rfl (wr_minus _ _ _) ?_; clear M0; intro w' M0) | (refine wpL_bx M1 rfl rfl rfl rfl ?_; clear M1; intro g2 w2 M2) | (refine wpL_alc M1 rfl rfl ?_; clear M1; intro g2 w2 M2) | (refine wpL_ldc M1 rfl rfl rfl ?_) | (refine wpL_lgc M1 rfl rfl rfl ?_) | (refine wpL_stc M1 rfl rfl rfl rfl ?_; clear M1; intro w' M1) | (refine wpL_sti M1 rfl rfl rfl rfl ?_; clear M1; intro w' M1) | (refine wpL_sth M1 rfl rfl rfl rfl (wr_minus _ _ _) ?_; clear M1; intro w' M1) | (refine wpL_bx M2 rfl rfl rfl rfl ?_; clear M2; intro g3 w3 M3) | (refine wpL_alc M2 rfl rfl ?_; clear M2; intro g3 w3 M3) | (refine wpL_ldc M2 rfl rfl rfl ?_) | (refine wpL_lgc M2 rfl rfl rfl ?_) | (refine wpL_stc M2 rfl rfl rfl rfl ?_; clear M2; intro w' M2) | (refine wpL_sti M2 rfl rfl rfl rfl ?_; clear M2; intro w' M2) | (refine wpL_sth M2 rfl rfl rfl rfl (wr_minus _ _ _) ?_; clear M2; intro w' M2) | (refine wpL_bx M3 rfl rfl rfl rfl ?_; clear M3; intro g4 w4 M4) | (refine wpL_alc M3 rfl rfl ?_; clear M3; intro g4 w4 M4) | (refine wpL_ldc M3 rfl rfl rfl ?_) | (refine wpL_lgc M3 rfl rfl rfl ?_) | (refine wpL_stc M3 rfl rfl rfl rfl ?_; clear M3; intro w' M3) | (refine wpL_sti M3 rfl rfl rfl rfl ?_; clear M3; intro w' M3) | (refine wpL_sth M3 rfl rfl rfl rfl (wr_minus _ _ _) ?_; clear M3; intro w' M3) | (refine wpL_ldc M4 rfl rfl rfl ?_) | (refine wpL_lgc M4 rfl rfl rfl ?_) | (refine wpL_stc M4 rfl rfl rfl rfl ?_; clear M4; intro w' M4) | (refine wpL_sti M4 rfl rfl rfl rfl ?_; clear M4; intro w' M4) | (refine wpL_sth M4 rfl rfl rfl rfl (wr_minus _ _ _) ?_; clear M4; intro w' M4))) | (refine Grid.wpL_stM M4 rfl rfl rfl rfl (wr_p _ rfl _ _ _ _ _ _ _ _ _ _ _ _ _ _ _) (Upd.head _ _ _ _ _) ?_; clear M4; intro wp4 M4 hT))
  try clear hT
  refine (HC0.out _ M4.below).mono ?_
  rintro e wz ⟨rfl, rfl⟩
  go_wp2_with (first | ((with_reducible refine (?_ : Go.wpList _ _ _ (_ :: _) _ _)); (first | go_skip | (refine wpL_ldc M4 rfl rfl rfl ?_) | (refine wpL_lgc M4 rfl rfl rfl ?_) | (refine wpL_stc M4 rfl rfl rfl rfl ?_; clear M4; intro w' M4) | (refine wpL_sti M4 rfl rfl rfl rfl ?_; clear M4; intro w' M4) | (refine wpL_sth M4 rfl rfl rfl rfl (wr_minus _ _ _) ?_; clear M4; intro w' M4))) | (refine wpL_sth M4 rfl rfl rfl rfl (wr_p _ rfl _ _ _ _ _ _ _ _ _ _ _ _ _ _ _) ?_; clear M4; intro wr7 M4))
  refine bodyPost_ret (res_cell_tmp rfl M4 rfl (.tail _ _ _ _ _ (Has.head _ _ _ _)) (rd_p _ _ _ _ _ _ _ _ _ _ _) rfl) rfl ?_
  exact ⟨rfl, M4.below⟩


set_option maxRecDepth 20000 in
set_option maxHeartbeats 12800000 in
theorem do18_split_h (x y X Y S B St ok oq cx cy ow oh sp : Int) (aG aF oa : Option Addr) (n cG cF on oc : Nat) (p : List Int) (us : List Nat)  (hk : ok.tmod 5 = 3) (w : World) (hS : Sl w 1 (.slice aG n cG) n (i64s p)) (hV : IsV w aF n cF us)
    (C0 : ∀ wx, Below w.heap.size w wx → Calls Tryz.prog 20 #[.slice aG n cG] wx fun e w' => e = .returned (.int .i64 sp) ∧ wx = w')
    (hx4 : decide ((4 : Int) < x) = false) (hy4 : decide ((4 : Int) < y) = true)
    : Calls Tryz.prog 8 #[pv x y X Y S (.slice aG n cG) x y (.slice aF n cF) B St, .agg #[.int .u8 ok, .int .u8 oq, .slice oa on oc, .int .i8 cx, .int .i8 cy, .int .u8 ow, .int .u8 oh]] w fun e w' => e = .returned (.tuple #[pv x y X Y S (.slice aG n cG) x y (.slice aF n cF) B St, .bool false]) ∧ Below w.heap.size w w' := by
  have HC0 := Lib.hid C0
  have HS := Lib.hid hS
  have HV := Lib.hid hV
  have M0 := Mem.start w
  clear hS hV C0
  go_enter Tryz.func8, Tryz.ntmps8
  go_wp2_with (first | ((with_reducible refine (?_ : Go.wpList _ _ _ (_ :: _) _ _)); (first | go_skip | (refine wpL_bx M0 rfl rfl rfl rfl ?_; clear M0; intro g1 w1 M1) | (refine wpL_alc M0 rfl rfl ?_; clear M0; intro g1 w1 M1) | (refine wpL_ldc M0 rfl rfl rfl ?_) | (refine wpL_lgc M0 rfl rfl rfl ?_) | (refine wpL_stc M0 rfl rfl rfl rfl ?_; clear M0; intro w' M0) | (refine wpL_sti M0 rfl rfl rfl rfl ?_; clear M0; intro w' M0) | (refine wpL_sth M0 rfl rfl rfl rfl (wr_minus _ _ _) ?_; clear M0; intro w' M0) | (refine wpL_bx M1 rfl rfl rfl rfl ?_; clear M1; intro g2 w2 M2) | (refine wpL_alc M1 rfl rfl ?_; clear M1; intro g2 w2 M2) | (refine wpL_ldc M1 rfl rfl rfl ?_) | (refine wpL_lgc M1 rfl rfl rfl ?_) | (refine wpL_stc M1 rfl rfl rfl rfl ?_; clear M1; intro w' M1) | (refine wpL_sti M1 rfl rfl rfl rfl ?_; clear M1; intro w' M1) | (refine wpL_sth M1 rfl rfl rfl rfl (wr_minus _ _ _) ?_; clear M1; intro w' M1) | (refine wpL_bx M2 rfl rfl rfl rfl ?_; clear M2; intro g3 w3 M3) | (refine wpL_alc M2 rfl rfl ?_; clear M2; intro g3 w3 M3) | (refine wpL_ldc M2 rfl rfl rfl ?_) | (refine wpL_lgc M2 rfl rfl rfl ?_) | (refine wpL_stc M2 rfl rfl rfl rfl ?_; clear M2; intro w' M2) | (refine wpL_sti M2 rfl rfl rfl rfl ?_; clear M2; intro w' M2) | (refine wpL_sth M2 rfl rfl rfl rfl (wr_minus _ _ _) ?_; clear M2; intro w' M2) | (refine wpL_bx M3 rfl rfl rfl rfl ?_; clear M3; intro g4 w4 M4) | (refine wpL_alc M3 rfl rfl ?_; clear M3; intro g4 w4 M4) | (refine wpL_ldc M3 rfl rfl rfl ?_) | (refine wpL_lgc M3 rfl rfl rfl ?_) | (refine wpL_stc M3 rfl rfl rfl rfl ?_; clear M3; intro w' M3) | (refine wpL_sti M3 rfl rfl rfl rfl ?_; clear M3; intro w' M3) | (refine wpL_sth M3 rfl rfl rfl rfl (wr_minus _ _ _) ?_; clear M3; intro w' M3) | (refine wpL_ldc M4 rfl rfl rfl ?_) | (refine wpL_lgc M4 rfl rfl rfl ?_) | (refine wpL_stc M4 rfl rfl rfl rfl ?_; clear M4; intro w' M4) | (refine wpL_sti M4 rfl rfl rfl rfl ?_; clear M4; intro w' M4) | (refine wpL_sth M4 rfl rfl rfl rfl (wr_minus _ _ _) ?_; clear M4; intro w' M4))) | (refine Grid.wpL_stM M4 rfl rfl rfl rfl (wr_p _ rfl _ _ _ _ _ _ _ _ _ _ _ _ _ _ _) (Upd.head _ _ _ _ _) ?_; clear M4; intro wp4 M4 hT))
  try clear hT
  refine (HC0.out _ M4.below).mono ?_
  rintro e wz ⟨rfl, rfl⟩
  go_wp2_with (first | ((with_reducible refine (?_ : Go.wpList _ _ _ (_ :: _) _ _)); (first | go_skip | (refine wpL_ldc M4 rfl rfl rfl ?_) | (refine wpL_lgc M4 rfl rfl rfl ?_) | (refine wpL_stc M4 rfl rfl rfl rfl ?_; clear M4; intro w' M4) | (refine wpL_sti M4 rfl rfl rfl rfl ?_; clear M4; intro w' M4) | (refine wpL_sth M4 rfl rfl rfl rfl (wr_minus _ _ _) ?_; clear M4; intro w' M4))) | (refine wpL_sth M4 rfl rfl rfl rfl (wr_p _ rfl _ _ _ _ _ _ _ _ _ _ _ _ _ _ _) ?_; clear M4; intro wr7 M4))
  refine bodyPost_ret (res_cell_tmp rfl M4 rfl (.tail _ _ _ _ _ (Has.head _ _ _ _)) (rd_p _ _ _ _ _ _ _ _ _ _ _) rfl) rfl ?_
  exact ⟨rfl, M4.below⟩
end Go.Proofs.YtallbegibdlpaaaGreat
