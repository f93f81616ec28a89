/-
  An act on all three: the law's, by what is called answers: weighed.
-/
import Derived.Test.YtallbegibdlpaaaGreatPlayA
set_option linter.unusedVariables false
set_option linter.unusedSimpArgs false
namespace Go.Proofs.YtallbegibdlpaaaGreat
open Go Go.RowKit Go.Th Go.Th.Dig Go.Th.Ex Go.Th.Grid Go.Th.Wide Go.Th.Up

set_option maxRecDepth 20000 in
set_option maxHeartbeats 12800000 in
theorem do18_weigh (x y X Y S B St ok oq cx cy ow oh sp : Int) (aG aF oa : Option Addr) (n cG cF on oc : Nat) (p : List Int) (us : List Nat) (x2 y2 X2 Y2 S2 B2 most : Int) (m T : Nat) (ls L2 : List Int) (ws : List Nat)  (hk : ok.tmod 5 = 1) (w : World) (hS : Sl w 1 (.slice aG n cG) n (i64s p)) (hV : IsV w aF n cF us)
    (C0 : ∀ wx, Below w.heap.size w wx → Calls Tryz.prog 20 #[.slice aG n cG] wx fun e w' => e = .returned (.int .i64 sp) ∧ wx = w')
    (CW : ∀ wx, Below w.heap.size w wx → Calls Tryz.prog 26 #[gv x y X Y S (.slice aG n cG), .slice oa on oc] wx fun e w' => ∃ v, e = .returned v ∧ w'.ownsRow wx.heap.size 2 1 v n (i64s ls) ∧ Below wx.heap.size wx w')
    (CG : ∀ wx a c, Below w.heap.size w wx → Sl wx 1 (.slice a n c) n (i64s ls) → Calls Tryz.prog 27 #[gv x y X Y S (.slice aG n cG), .slice a n c] wx (WRes x2 y2 X2 Y2 S2 m L2 (T : Int) most 0 wx))
    (CF : ∀ wx a c, Below w.heap.size w wx → Sl wx 1 (.slice a n c) n (i64s ls) → LAns18 28 #[fv x y (.slice aF n cF), .slice a n c] x2 y2 m ws wx)
    (CK : ∀ wx, Below w.heap.size w wx → KAns 12 #[bk B St, .int .i64 n, .int .i64 most, .int .i64 sp, wv (hiZ (T : Int)) (loZ (T : Int))] B2 (St + 1) wx)
    : Calls Tryz.prog 8 #[pv x y X Y S (.slice aG n cG) x y (.slice aF n cF) B St, .agg #[.int .u8 ok, .int .u8 oq, .slice oa on oc, .int .i8 cx, .int .i8 cy, .int .u8 ow, .int .u8 oh]] w fun e w' => ∃ a1 c1 a2 c2, e = .returned (.tuple #[pv x2 y2 X2 Y2 S2 (.slice a1 m c1) x2 y2 (.slice a2 m c2) B2 (St + 1), .bool true]) ∧ (∃ base, w'.ownsRow base 2 1 (.slice a1 m c1) m (i64s L2)) ∧ IsV w' a2 m c2 ws ∧ Below w.heap.size w w' := by
  have HC0 := Lib.hid C0
  have HCW := Lib.hid CW
  have HCG := Lib.hid CG
  have HCF := Lib.hid CF
  have HCK := Lib.hid CK
  have HS := Lib.hid hS
  have HV := Lib.hid hV
  have M0 := Mem.start w
  clear hS hV C0 CW CG CF CK
  go_enter Tryz.func8, Tryz.ntmps8
  go_wp2_with (first | ((with_reducible refine (?_ : Go.wpList _ _ _ (_ :: _) _ _)); (first | go_skip | (refine wpL_bx M0 rfl rfl rfl rfl ?_; clear M0; intro g1 w1 M1) | (refine wpL_alc M0 rfl rfl ?_; clear M0; intro g1 w1 M1) | (refine wpL_ldc M0 rfl rfl rfl ?_) | (refine wpL_lgc M0 rfl rfl rfl ?_) | (refine wpL_stc M0 rfl rfl rfl rfl ?_; clear M0; intro w' M0) | (refine wpL_sti M0 rfl rfl rfl rfl ?_; clear M0; intro w' M0) | (refine wpL_sth M0 rfl rfl rfl rfl (wr_minus _ _ _) ?_; clear M0; intro w' M0) | (refine wpL_bx M1 rfl rfl rfl rfl ?_; clear M1; intro g2 w2 M2) | (refine wpL_alc M1 rfl rfl ?_; clear M1; intro g2 w2 M2) | (refine wpL_ldc M1 rfl rfl rfl ?_) | (refine wpL_lgc M1 rfl rfl rfl ?_) | (refine wpL_stc M1 rfl rfl rfl rfl ?_; clear M1; intro w' M1) | (refine wpL_sti M1 rfl rfl rfl rfl ?_; clear M1; intro w' M1) | (refine wpL_sth M1 rfl rfl rfl rfl (wr_minus _ _ _) ?_; clear M1; intro w' M1) | (refine wpL_bx M2 rfl rfl rfl rfl ?_; clear M2; intro g3 w3 M3) | (refine wpL_alc M2 rfl rfl ?_; clear M2; intro g3 w3 M3) | (refine wpL_ldc M2 rfl rfl rfl ?_) | (refine wpL_lgc M2 rfl rfl rfl ?_) | (refine wpL_stc M2 rfl rfl rfl rfl ?_; clear M2; intro w' M2) | (refine wpL_sti M2 rfl rfl rfl rfl ?_; clear M2; intro w' M2) | (refine wpL_sth M2 rfl rfl rfl rfl (wr_minus _ _ _) ?_; clear M2; intro w' M2) | (refine wpL_bx M3 rfl rfl rfl rfl ?_; clear M3; intro g4 w4 M4) | (refine wpL_alc M3 rfl rfl ?_; clear M3; intro g4 w4 M4) | (refine wpL_ldc M3 rfl rfl rfl ?_) | (refine wpL_lgc M3 rfl rfl rfl ?_) | (refine wpL_stc M3 rfl rfl rfl rfl ?_; clear M3; intro w' M3) | (refine wpL_sti M3 rfl rfl rfl rfl ?_; clear M3; intro w' M3) | (refine wpL_sth M3 rfl rfl rfl rfl (wr_minus _ _ _) ?_; clear M3; intro w' M3) | (refine wpL_ldc M4 rfl rfl rfl ?_) | (refine wpL_lgc M4 rfl rfl rfl ?_) | (refine wpL_stc M4 rfl rfl rfl rfl ?_; clear M4; intro w' M4) | (refine wpL_sti M4 rfl rfl rfl rfl ?_; clear M4; intro w' M4) | (refine wpL_sth M4 rfl rfl rfl rfl (wr_minus _ _ _) ?_; clear M4; intro w' M4))) | (refine Grid.wpL_stM M4 rfl rfl rfl rfl (wr_p _ rfl _ _ _ _ _ _ _ _ _ _ _ _ _ _ _) (Upd.head _ _ _ _ _) ?_; clear M4; intro wp4 M4 hT))
  try clear hT
  refine (HC0.out _ M4.below).mono ?_
  rintro e wz ⟨rfl, rfl⟩
  go_wp2_with ((with_reducible refine (?_ : Go.wpList _ _ _ (_ :: _) _ _)); (first | go_skip | (refine wpL_ldc M4 rfl rfl rfl ?_) | (refine wpL_lgc M4 rfl rfl rfl ?_) | (refine wpL_stc M4 rfl rfl rfl rfl ?_; clear M4; intro w' M4) | (refine wpL_sti M4 rfl rfl rfl rfl ?_; clear M4; intro w' M4) | (refine wpL_sth M4 rfl rfl rfl rfl (wr_minus _ _ _) ?_; clear M4; intro w' M4)))
  refine (HCW.out _ M4.below).mono ?_
  rintro e w5 ⟨vl, rfl, hO, hA⟩
  obtain ⟨al, cl, rfl, _⟩ := id (Sl.of_own hO)
  have M5 := M4.call hA
  have HL := Lib.hid hO
  clear hA hO M4
  have M30 := Mem.start w5
  go_upto_region 18 with ((with_reducible refine (?_ : Go.wpList _ _ _ (_ :: _) _ _)); (first | go_skip | (refine wpL_bx M30 rfl rfl rfl rfl ?_; clear M30; intro g31 w31 M31) | (refine wpL_alc M30 rfl rfl ?_; clear M30; intro g31 w31 M31) | (refine wpL_ldc M30 rfl rfl rfl ?_) | (refine wpL_lgc M30 rfl rfl rfl ?_) | (refine wpL_stc M30 rfl rfl rfl rfl ?_; clear M30; intro w' M30) | (refine wpL_sti M30 rfl rfl rfl rfl ?_; clear M30; intro w' M30) | (refine wpL_sth M30 rfl rfl rfl rfl (wr_minus _ _ _) ?_; clear M30; intro w' M30) | (refine wpL_ldc M31 rfl rfl rfl ?_) | (refine wpL_lgc M31 rfl rfl rfl ?_) | (refine wpL_stc M31 rfl rfl rfl rfl ?_; clear M31; intro w' M31) | (refine wpL_sti M31 rfl rfl rfl rfl ?_; clear M31; intro w' M31) | (refine wpL_sth M31 rfl rfl rfl rfl (wr_minus _ _ _) ?_; clear M31; intro w' M31)))
  obtain ⟨w6, hw6⟩ : ∃ w6, w6 = w' := ⟨_, rfl⟩
  rw [← hw6] at M31 ⊢
  have M6 : Mem w w6 [(g31, 51, [.int .i64 0, .int .u64 0]), (g4, 37, pc x y X Y S (.slice aG n cG) x y (.slice aF n cF) B St), (g3, 37, pc 0 0 0 0 0 (.slice none 0 0) 0 0 (.slice none 0 0) 0 0), (g2, 42, [.int .u8 ok, .int .u8 oq, .slice oa on oc, .int .i8 cx, .int .i8 cy, .int .u8 ow, .int .u8 oh]), (g1, 37, pc x y X Y S (.slice aG n cG) x y (.slice aF n cF) B St)] := Mem.join M5 M31
  replace HL := Lib.hid (ownsRow_below HL.out M31.below)
  clear hw6 M5 M31
  go_wp2_with ((with_reducible refine (?_ : Go.wpList _ _ _ (_ :: _) _ _)); (first | go_skip | (refine wpL_ldc M6 rfl rfl rfl ?_) | (refine wpL_lgc M6 rfl rfl rfl ?_) | (refine wpL_stc M6 rfl rfl rfl rfl ?_; clear M6; intro w' M6) | (refine wpL_sti M6 rfl rfl rfl rfl ?_; clear M6; intro w' M6) | (refine wpL_sth M6 rfl rfl rfl rfl (wr_minus _ _ _) ?_; clear M6; intro w' M6)))
  refine (HCG.out _ _ _ M6.below (Sl.of_own HL.out)).mono ?_
  rintro e w7 ⟨aB, cB, rfl, hO, hA⟩
  have M7 := M6.call hA
  have HB := Lib.hid hO
  replace HL := Lib.hid (ownsRow_below HL.out hA)
  have K4 := M7.has (.tail _ _ _ _ _ (Has.head _ _ _ _))
  clear hA hO M6
  go_upto_region 19 with (first | ((with_reducible refine (?_ : Go.wpList _ _ _ (_ :: _) _ _)); (first | go_skip | (refine Grid.wpL_stM M7 rfl rfl rfl rfl (wr_pG x y X Y S (.slice aG n cG) x y (.slice aF n cF) B St x2 y2 X2 Y2 S2 aB m cB) (.tail _ _ _ _ _ _ _ (Upd.head _ _ _ _ _)) ?_; clear M7; intro w8 M7 hT) | (have K31 := M7.has (Has.head _ _ _ _); refine Grid.wpL_stM M7 rfl rfl rfl rfl (wr_w _ rfl _ _) (Upd.head _ _ _ _ _) ?_; clear M7; intro w8b M7 hT2))) | ((with_reducible refine (?_ : Go.wpList _ _ _ (_ :: _) _ _)); (first | go_skip | (refine wpL_ldc M7 rfl rfl rfl ?_) | (refine wpL_lgc M7 rfl rfl rfl ?_) | (refine wpL_stc M7 rfl rfl rfl rfl ?_; clear M7; intro w' M7) | (refine wpL_sti M7 rfl rfl rfl rfl ?_; clear M7; intro w' M7) | (refine wpL_sth M7 rfl rfl rfl rfl (wr_minus _ _ _) ?_; clear M7; intro w' M7))))
  replace HB := Lib.hid (ownsRow_below (Grid.gown_turned (Grid.gown_turned HB.out K4 (by decide) hT) K31 (by decide) hT2) ((Below.refl _ _).drew))
  replace HL := Lib.hid (ownsRow_below (Grid.gown_turned (Grid.gown_turned HL.out K4 (by decide) hT) K31 (by decide) hT2) ((Below.refl _ _).drew))
  replace M7 := M7.drew
  clear K4 K31 hT hT2
  refine wp_region_held_drew (S := (fun w' : World => w'.cell? ⟨g1, 5, none⟩ = some (.slice aG n cG) ∧ w'.cell? ⟨g1, 6, none⟩ = some (.int .i64 x) ∧ w'.cell? ⟨g1, 7, none⟩ = some (.int .i64 y) ∧ w'.cell? ⟨g1, 8, none⟩ = some (.slice aF n cF) ∧ w'.cell? ⟨g1, 9, none⟩ = some (.int .i64 B) ∧ w'.cell? ⟨g1, 10, none⟩ = some (.int .i64 St) ∧ w'.cell? ⟨g31, 0, none⟩ = some (.int .i64 (hiZ (T : Int))) ∧ w'.cell? ⟨g31, 1, none⟩ = some (.int .u64 (loZ (T : Int))))) (by kernel_rfl) (⟨M7.cell (.tail _ _ _ _ _ (.tail _ _ _ _ _ (.tail _ _ _ _ _ (.tail _ _ _ _ _ (Has.head _ _ _ _))))) (i := 5) rfl, M7.cell (.tail _ _ _ _ _ (.tail _ _ _ _ _ (.tail _ _ _ _ _ (.tail _ _ _ _ _ (Has.head _ _ _ _))))) (i := 6) rfl, M7.cell (.tail _ _ _ _ _ (.tail _ _ _ _ _ (.tail _ _ _ _ _ (.tail _ _ _ _ _ (Has.head _ _ _ _))))) (i := 7) rfl, M7.cell (.tail _ _ _ _ _ (.tail _ _ _ _ _ (.tail _ _ _ _ _ (.tail _ _ _ _ _ (Has.head _ _ _ _))))) (i := 8) rfl, M7.cell (.tail _ _ _ _ _ (.tail _ _ _ _ _ (.tail _ _ _ _ _ (.tail _ _ _ _ _ (Has.head _ _ _ _))))) (i := 9) rfl, M7.cell (.tail _ _ _ _ _ (.tail _ _ _ _ _ (.tail _ _ _ _ _ (.tail _ _ _ _ _ (Has.head _ _ _ _))))) (i := 10) rfl, M7.cell (Has.head _ _ _ _) (i := 0) rfl, M7.cell (Has.head _ _ _ _) (i := 1) rfl⟩) (fun hHeld => ?_)
  refine tkT 0 ?v85 ?hy85 hHeld ?rest85
  case hy85 => (intro w' hSw; (try dsimp only at hSw); go_simp; (try with_reducible rfl))
  try simp only [Act.put, puts]
  refine tkT 1 ?v86 ?hy86 hHeld ?rest86
  case hy86 => (intro w' hSw; (try dsimp only at hSw); go_simp; (try with_reducible rfl))
  try simp only [Act.put, puts]
  refine tkT 2 ?v87 ?hy87 hHeld ?rest87
  case hy87 => (intro w' hSw; (try dsimp only at hSw); go_simp; (try with_reducible rfl))
  try simp only [Act.put, puts]
  refine tkT 4 ?v88 ?hy88 hHeld ?rest88
  case hy88 => (intro w' hSw; (try dsimp only at hSw); go_simp; (try with_reducible rfl))
  try simp only [Act.put, puts]
  refine tkT 5 ?v89 ?hy89 hHeld ?rest89
  case hy89 => (intro w' hSw; (try dsimp only at hSw); go_simp; (try with_reducible rfl))
  try simp only [Act.put, puts]
  refine tkT 6 ?v90 ?hy90 hHeld ?rest90
  case hy90 => (intro w' hSw; (try dsimp only at hSw); go_simp; (try with_reducible rfl))
  try simp only [Act.put, puts]
  refine tkT 7 ?v91 ?hy91 hHeld ?rest91
  case hy91 => (intro w' hSw; (try dsimp only at hSw); go_simp; (try with_reducible rfl))
  try simp only [Act.put, puts]
  refine tkT 8 ?v92 ?hy92 hHeld ?rest92
  case hy92 => (intro w' hSw; (try dsimp only at hSw); go_simp; (try with_reducible rfl))
  try simp only [Act.put, puts]
  refine tkT 9 ?v93 ?hy93 hHeld ?rest93
  case hy93 => (intro w' hSw; (try dsimp only at hSw); go_simp; (try with_reducible rfl))
  try simp only [Act.put, puts]
  refine tkT 10 ?v94 ?hy94 hHeld ?rest94
  case hy94 => (intro w' hSw; (try dsimp only at hSw); go_simp; (try with_reducible rfl))
  try simp only [Act.put, puts]
  refine tkT 11 ?v95 ?hy95 hHeld ?rest95
  case hy95 => (intro w' hSw; (try dsimp only at hSw); go_simp; (try with_reducible rfl))
  try simp only [Act.put, puts]
  refine tkT 12 ?v96 ?hy96 hHeld ?rest96
  case hy96 => (intro w' hSw; (try dsimp only at hSw); go_simp; (try with_reducible rfl))
  try simp only [Act.put, puts]
  refine wpAnyH_ready (rs := [3]) (by kernel_rfl) (by simp) ?_
  refine AllReadyH.cons rfl (fun K hK => ?_) AllReadyH.nil
  go_simp
  refine (HCF.out _ _ _ M7.below (Sl.of_own HL.out)).mono ?_
  rintro e w9 ⟨aC, cC, rfl, hV2, hA⟩
  replace M7 := M7.call hA
  replace HB := Lib.hid (ownsRow_below HB.out hA)
  have HC := Lib.hid hV2
  clear hV2 hA hHeld
  try go_wp2_with fail
  refine hK.out _ _ (⟨M7.cell (.tail _ _ _ _ _ (.tail _ _ _ _ _ (.tail _ _ _ _ _ (.tail _ _ _ _ _ (Has.head _ _ _ _))))) (i := 5) rfl, M7.cell (.tail _ _ _ _ _ (.tail _ _ _ _ _ (.tail _ _ _ _ _ (.tail _ _ _ _ _ (Has.head _ _ _ _))))) (i := 6) rfl, M7.cell (.tail _ _ _ _ _ (.tail _ _ _ _ _ (.tail _ _ _ _ _ (.tail _ _ _ _ _ (Has.head _ _ _ _))))) (i := 7) rfl, M7.cell (.tail _ _ _ _ _ (.tail _ _ _ _ _ (.tail _ _ _ _ _ (.tail _ _ _ _ _ (Has.head _ _ _ _))))) (i := 8) rfl, M7.cell (.tail _ _ _ _ _ (.tail _ _ _ _ _ (.tail _ _ _ _ _ (.tail _ _ _ _ _ (Has.head _ _ _ _))))) (i := 9) rfl, M7.cell (.tail _ _ _ _ _ (.tail _ _ _ _ _ (.tail _ _ _ _ _ (.tail _ _ _ _ _ (Has.head _ _ _ _))))) (i := 10) rfl, M7.cell (Has.head _ _ _ _) (i := 0) rfl, M7.cell (Has.head _ _ _ _) (i := 1) rfl⟩) (fun hHeld => ?_)
  clear hK K
  try simp only [Act.put, puts]
  refine tkT 14 ?v98 ?hy98 hHeld ?rest98
  case hy98 => (intro w' hSw; (try dsimp only at hSw); go_simp; (try with_reducible rfl))
  try simp only [Act.put, puts]
  refine wpAnyH_ready (rs := [13]) (by kernel_rfl) (by simp) ?_
  refine AllReadyH.cons rfl (fun K hK => ?_) AllReadyH.nil
  go_simp
  refine (HCK.out _ M7.below).mono ?_
  rintro e w10 ⟨rfl, hA⟩
  replace M7 := M7.call hA
  replace HB := Lib.hid (ownsRow_below HB.out hA)
  replace HC := Lib.hid (HC.out.below hA)
  clear hA hHeld
  try go_wp2_with fail
  refine hK.out _ _ (⟨M7.cell (.tail _ _ _ _ _ (.tail _ _ _ _ _ (.tail _ _ _ _ _ (.tail _ _ _ _ _ (Has.head _ _ _ _))))) (i := 5) rfl, M7.cell (.tail _ _ _ _ _ (.tail _ _ _ _ _ (.tail _ _ _ _ _ (.tail _ _ _ _ _ (Has.head _ _ _ _))))) (i := 6) rfl, M7.cell (.tail _ _ _ _ _ (.tail _ _ _ _ _ (.tail _ _ _ _ _ (.tail _ _ _ _ _ (Has.head _ _ _ _))))) (i := 7) rfl, M7.cell (.tail _ _ _ _ _ (.tail _ _ _ _ _ (.tail _ _ _ _ _ (.tail _ _ _ _ _ (Has.head _ _ _ _))))) (i := 8) rfl, M7.cell (.tail _ _ _ _ _ (.tail _ _ _ _ _ (.tail _ _ _ _ _ (.tail _ _ _ _ _ (Has.head _ _ _ _))))) (i := 9) rfl, M7.cell (.tail _ _ _ _ _ (.tail _ _ _ _ _ (.tail _ _ _ _ _ (.tail _ _ _ _ _ (Has.head _ _ _ _))))) (i := 10) rfl, M7.cell (Has.head _ _ _ _) (i := 0) rfl, M7.cell (Has.head _ _ _ _) (i := 1) rfl⟩) (fun hHeld => ?_)
  clear hK K
  try simp only [Act.put, puts]
  refine wpAnyH_ready (rs := [15]) (by kernel_rfl) (by simp) ?_
  refine AllReadyH.cons rfl (fun K hK => ?_) AllReadyH.nil
  rw [if_pos (by rfl)]
  refine Grid.wp_stM M7 rfl rfl rfl (wr_pF _ _ _ _ _ _ _ _ _ _ _ x2 y2 aC m cC) (.tail _ _ _ _ _ _ _ (Upd.head _ _ _ _ _)) ?_
  intro w11 Mn hTn
  replace HB := Lib.hid (Grid.gown_turned HB.out (M7.has (.tail _ _ _ _ _ (Has.head _ _ _ _))) (by decide) hTn)
  replace HC := Lib.hid (HC.out.turnedB (M7.has (.tail _ _ _ _ _ (Has.head _ _ _ _))) (by decide) (noPart_p _ _ _ _ _ _ _ _ _ _ _ _ _ _ _) hTn)
  replace M7 := Mn
  clear hTn hHeld Mn
  refine hK.out _ _ (⟨M7.cell (.tail _ _ _ _ _ (.tail _ _ _ _ _ (.tail _ _ _ _ _ (.tail _ _ _ _ _ (Has.head _ _ _ _))))) (i := 5) rfl, M7.cell (.tail _ _ _ _ _ (.tail _ _ _ _ _ (.tail _ _ _ _ _ (.tail _ _ _ _ _ (Has.head _ _ _ _))))) (i := 6) rfl, M7.cell (.tail _ _ _ _ _ (.tail _ _ _ _ _ (.tail _ _ _ _ _ (.tail _ _ _ _ _ (Has.head _ _ _ _))))) (i := 7) rfl, M7.cell (.tail _ _ _ _ _ (.tail _ _ _ _ _ (.tail _ _ _ _ _ (.tail _ _ _ _ _ (Has.head _ _ _ _))))) (i := 8) rfl, M7.cell (.tail _ _ _ _ _ (.tail _ _ _ _ _ (.tail _ _ _ _ _ (.tail _ _ _ _ _ (Has.head _ _ _ _))))) (i := 9) rfl, M7.cell (.tail _ _ _ _ _ (.tail _ _ _ _ _ (.tail _ _ _ _ _ (.tail _ _ _ _ _ (Has.head _ _ _ _))))) (i := 10) rfl, M7.cell (Has.head _ _ _ _) (i := 0) rfl, M7.cell (Has.head _ _ _ _) (i := 1) rfl⟩) (fun hHeld => ?_)
  clear hK K
  try simp only [Act.put, puts]
  refine tkT 16 ?v101 ?hy101 hHeld ?rest101
  case hy101 => (intro w' hSw; (try dsimp only at hSw); go_simp; (try with_reducible rfl))
  try simp only [Act.put, puts]
  refine wpAnyH_ready (rs := [17]) (by kernel_rfl) (by simp) ?_
  refine AllReadyH.cons rfl (fun K hK => ?_) AllReadyH.nil
  rw [if_pos (by rfl)]
  refine Grid.wp_stM M7 rfl rfl rfl (wr_pK _ _ _ _ _ _ _ _ _ _ _ B2 (St + 1)) (.tail _ _ _ _ _ _ _ (Upd.head _ _ _ _ _)) ?_
  intro w12 Mn hTn
  replace HB := Lib.hid (Grid.gown_turned HB.out (M7.has (.tail _ _ _ _ _ (Has.head _ _ _ _))) (by decide) hTn)
  replace HC := Lib.hid (HC.out.turnedB (M7.has (.tail _ _ _ _ _ (Has.head _ _ _ _))) (by decide) (noPart_p _ _ _ _ _ _ _ _ _ _ _ _ _ _ _) hTn)
  replace M7 := Mn
  clear hTn hHeld Mn
  refine hK.out _ _ (⟨M7.cell (.tail _ _ _ _ _ (.tail _ _ _ _ _ (.tail _ _ _ _ _ (.tail _ _ _ _ _ (Has.head _ _ _ _))))) (i := 5) rfl, M7.cell (.tail _ _ _ _ _ (.tail _ _ _ _ _ (.tail _ _ _ _ _ (.tail _ _ _ _ _ (Has.head _ _ _ _))))) (i := 6) rfl, M7.cell (.tail _ _ _ _ _ (.tail _ _ _ _ _ (.tail _ _ _ _ _ (.tail _ _ _ _ _ (Has.head _ _ _ _))))) (i := 7) rfl, M7.cell (.tail _ _ _ _ _ (.tail _ _ _ _ _ (.tail _ _ _ _ _ (.tail _ _ _ _ _ (Has.head _ _ _ _))))) (i := 8) rfl, M7.cell (.tail _ _ _ _ _ (.tail _ _ _ _ _ (.tail _ _ _ _ _ (.tail _ _ _ _ _ (Has.head _ _ _ _))))) (i := 9) rfl, M7.cell (.tail _ _ _ _ _ (.tail _ _ _ _ _ (.tail _ _ _ _ _ (.tail _ _ _ _ _ (Has.head _ _ _ _))))) (i := 10) rfl, M7.cell (Has.head _ _ _ _) (i := 0) rfl, M7.cell (Has.head _ _ _ _) (i := 1) rfl⟩) (fun hHeld => ?_)
  clear hK K
  try simp only [Act.put, puts]
  refine wpAnyH_done (by kernel_rfl) ?_ _
  clear HCF HCK
  have K3 := M7.has (.tail _ _ _ _ _ (.tail _ _ _ _ _ (Has.head _ _ _ _)))
  go_wp2_with ((with_reducible refine (?_ : Go.wpList _ _ _ (_ :: _) _ _)); (first | go_skip | (refine Grid.wpL_stM M7 rfl rfl rfl rfl (wr_p _ rfl _ _ _ _ _ _ _ _ _ _ _ _ _ _ _) (.tail _ _ _ _ _ _ _ (.tail _ _ _ _ _ _ _ (Upd.head _ _ _ _ _))) ?_; clear M7; intro wr7 M7 hT) | (refine wpL_ldc M7 rfl rfl rfl ?_)))
  refine bodyPost_ret (res_cell_tmp rfl M7 rfl (.tail _ _ _ _ _ (.tail _ _ _ _ _ (Has.head _ _ _ _))) (rd_p _ _ _ _ _ _ _ _ _ _ _) rfl) rfl ?_
  exact ⟨aB, cB, aC, cC, rfl, ⟨_, Grid.gown_turned HB.out K3 (by decide) hT⟩, HC.out.turnedB K3 (by decide) (noPart_p _ _ _ _ _ _ _ _ _ _ _ _ _ _ _) hT, M7.below⟩


set_option maxRecDepth 20000 in
set_option maxHeartbeats 12800000 in
theorem do18_weigh_no (x y X Y S B St ok oq cx cy ow oh sp : Int) (aG aF oa : Option Addr) (n cG cF on oc : Nat) (p : List Int) (us : List Nat) (x2 y2 X2 Y2 S2 B2 most : Int) (m T : Nat) (ls L2 : List Int) (ws : List Nat)  (hk : ok.tmod 5 = 1) (w : World) (hS : Sl w 1 (.slice aG n cG) n (i64s p)) (hV : IsV w aF n cF us)
    (C0 : ∀ wx, Below w.heap.size w wx → Calls Tryz.prog 20 #[.slice aG n cG] wx fun e w' => e = .returned (.int .i64 sp) ∧ wx = w')
    (CW : ∀ wx, Below w.heap.size w wx → Calls Tryz.prog 26 #[gv x y X Y S (.slice aG n cG), .slice oa on oc] wx fun e w' => ∃ v, e = .returned v ∧ w'.ownsRow wx.heap.size 2 1 v n (i64s ls) ∧ Below wx.heap.size wx w')
    (CG : ∀ wx a c, Below w.heap.size w wx → Sl wx 1 (.slice a n c) n (i64s ls) → Calls Tryz.prog 27 #[gv x y X Y S (.slice aG n cG), .slice a n c] wx (WRes x2 y2 X2 Y2 S2 m L2 (T : Int) most 7 wx))
    (CF : ∀ wx a c, Below w.heap.size w wx → Sl wx 1 (.slice a n c) n (i64s ls) → LAns18 28 #[fv x y (.slice aF n cF), .slice a n c] x2 y2 m ws wx)
    (CK : ∀ wx, Below w.heap.size w wx → KAns 12 #[bk B St, .int .i64 n, .int .i64 most, .int .i64 sp, wv (hiZ (T : Int)) (loZ (T : Int))] B2 (St + 1) wx)
    : Calls Tryz.prog 8 #[pv x y X Y S (.slice aG n cG) x y (.slice aF n cF) B St, .agg #[.int .u8 ok, .int .u8 oq, .slice oa on oc, .int .i8 cx, .int .i8 cy, .int .u8 ow, .int .u8 oh]] w fun e w' => e = .returned (.tuple #[pv x y X Y S (.slice aG n cG) x y (.slice aF n cF) B St, .bool false]) ∧ Below w.heap.size w w' := by
  have HC0 := Lib.hid C0
  have HCW := Lib.hid CW
  have HCG := Lib.hid CG
  have HCF := Lib.hid CF
  have HCK := Lib.hid CK
  have HS := Lib.hid hS
  have HV := Lib.hid hV
  have M0 := Mem.start w
  clear hS hV C0 CW CG CF CK
  go_enter Tryz.func8, Tryz.ntmps8
  go_wp2_with (first | ((with_reducible refine (?_ : Go.wpList _ _ _ (_ :: _) _ _)); (first | go_skip | (refine wpL_bx M0 rfl rfl rfl rfl ?_; clear M0; intro g1 w1 M1) | (refine wpL_alc M0 rfl rfl ?_; clear M0; intro g1 w1 M1) | (refine wpL_ldc M0 rfl rfl rfl ?_) | (refine wpL_lgc M0 rfl rfl rfl ?_) | (refine wpL_stc M0 rfl rfl rfl rfl ?_; clear M0; intro w' M0) | (refine wpL_sti M0 rfl rfl rfl rfl ?_; clear M0; intro w' M0) | (refine wpL_sth M0 rfl rfl rfl rfl (wr_minus _ _ _) ?_; clear M0; intro w' M0) | (refine wpL_bx M1 rfl rfl rfl rfl ?_; clear M1; intro g2 w2 M2) | (refine wpL_alc M1 rfl rfl ?_; clear M1; intro g2 w2 M2) | (refine wpL_ldc M1 rfl rfl rfl ?_) | (refine wpL_lgc M1 rfl rfl rfl ?_) | (refine wpL_stc M1 rfl rfl rfl rfl ?_; clear M1; intro w' M1) | (refine wpL_sti M1 rfl rfl rfl rfl ?_; clear M1; intro w' M1) | (refine wpL_sth M1 rfl rfl rfl rfl (wr_minus _ _ _) ?_; clear M1; intro w' M1) | (refine wpL_bx M2 rfl rfl rfl rfl ?_; clear M2; intro g3 w3 M3) | (refine wpL_alc M2 rfl rfl ?_; clear M2; intro g3 w3 M3) | (refine wpL_ldc M2 rfl rfl rfl ?_) | (refine wpL_lgc M2 rfl rfl rfl ?_) | (refine wpL_stc M2 rfl rfl rfl rfl ?_; clear M2; intro w' M2) | (refine wpL_sti M2 rfl rfl rfl rfl ?_; clear M2; intro w' M2) | (refine wpL_sth M2 rfl rfl rfl rfl (wr_minus _ _ _) ?_; clear M2; intro w' M2) | (refine wpL_bx M3 rfl rfl rfl rfl ?_; clear M3; intro g4 w4 M4) | (refine wpL_alc M3 rfl rfl ?_; clear M3; intro g4 w4 M4) | (refine wpL_ldc M3 rfl rfl rfl ?_) | (refine wpL_lgc M3 rfl rfl rfl ?_) | (refine wpL_stc M3 rfl rfl rfl rfl ?_; clear M3; intro w' M3) | (refine wpL_sti M3 rfl rfl rfl rfl ?_; clear M3; intro w' M3) | (refine wpL_sth M3 rfl rfl rfl rfl (wr_minus _ _ _) ?_; clear M3; intro w' M3) | (refine wpL_ldc M4 rfl rfl rfl ?_) | (refine wpL_lgc M4 rfl rfl rfl ?_) | (refine wpL_stc M4 rfl rfl rfl rfl ?_; clear M4; intro w' M4) | (refine wpL_sti M4 rfl rfl rfl rfl ?_; clear M4; intro w' M4) | (refine wpL_sth M4 rfl rfl rfl rfl (wr_minus _ _ _) ?_; clear M4; intro w' M4))) | (refine Grid.wpL_stM M4 rfl rfl rfl rfl (wr_p _ rfl _ _ _ _ _ _ _ _ _ _ _ _ _ _ _) (Upd.head _ _ _ _ _) ?_; clear M4; intro wp4 M4 hT))
  try clear hT
  refine (HC0.out _ M4.below).mono ?_
  rintro e wz ⟨rfl, rfl⟩
  go_wp2_with ((with_reducible refine (?_ : Go.wpList _ _ _ (_ :: _) _ _)); (first | go_skip | (refine wpL_ldc M4 rfl rfl rfl ?_) | (refine wpL_lgc M4 rfl rfl rfl ?_) | (refine wpL_stc M4 rfl rfl rfl rfl ?_; clear M4; intro w' M4) | (refine wpL_sti M4 rfl rfl rfl rfl ?_; clear M4; intro w' M4) | (refine wpL_sth M4 rfl rfl rfl rfl (wr_minus _ _ _) ?_; clear M4; intro w' M4)))
  refine (HCW.out _ M4.below).mono ?_
  rintro e w5 ⟨vl, rfl, hO, hA⟩
  obtain ⟨al, cl, rfl, _⟩ := id (Sl.of_own hO)
  have M5 := M4.call hA
  have HL := Lib.hid hO
  clear hA hO M4
  have M30 := Mem.start w5
  go_upto_region 18 with ((with_reducible refine (?_ : Go.wpList _ _ _ (_ :: _) _ _)); (first | go_skip | (refine wpL_bx M30 rfl rfl rfl rfl ?_; clear M30; intro g31 w31 M31) | (refine wpL_alc M30 rfl rfl ?_; clear M30; intro g31 w31 M31) | (refine wpL_ldc M30 rfl rfl rfl ?_) | (refine wpL_lgc M30 rfl rfl rfl ?_) | (refine wpL_stc M30 rfl rfl rfl rfl ?_; clear M30; intro w' M30) | (refine wpL_sti M30 rfl rfl rfl rfl ?_; clear M30; intro w' M30) | (refine wpL_sth M30 rfl rfl rfl rfl (wr_minus _ _ _) ?_; clear M30; intro w' M30) | (refine wpL_ldc M31 rfl rfl rfl ?_) | (refine wpL_lgc M31 rfl rfl rfl ?_) | (refine wpL_stc M31 rfl rfl rfl rfl ?_; clear M31; intro w' M31) | (refine wpL_sti M31 rfl rfl rfl rfl ?_; clear M31; intro w' M31) | (refine wpL_sth M31 rfl rfl rfl rfl (wr_minus _ _ _) ?_; clear M31; intro w' M31)))
  obtain ⟨w6, hw6⟩ : ∃ w6, w6 = w' := ⟨_, rfl⟩
  rw [← hw6] at M31 ⊢
  have M6 : Mem w w6 [(g31, 51, [.int .i64 0, .int .u64 0]), (g4, 37, pc x y X Y S (.slice aG n cG) x y (.slice aF n cF) B St), (g3, 37, pc 0 0 0 0 0 (.slice none 0 0) 0 0 (.slice none 0 0) 0 0), (g2, 42, [.int .u8 ok, .int .u8 oq, .slice oa on oc, .int .i8 cx, .int .i8 cy, .int .u8 ow, .int .u8 oh]), (g1, 37, pc x y X Y S (.slice aG n cG) x y (.slice aF n cF) B St)] := Mem.join M5 M31
  replace HL := Lib.hid (ownsRow_below HL.out M31.below)
  clear hw6 M5 M31
  go_wp2_with ((with_reducible refine (?_ : Go.wpList _ _ _ (_ :: _) _ _)); (first | go_skip | (refine wpL_ldc M6 rfl rfl rfl ?_) | (refine wpL_lgc M6 rfl rfl rfl ?_) | (refine wpL_stc M6 rfl rfl rfl rfl ?_; clear M6; intro w' M6) | (refine wpL_sti M6 rfl rfl rfl rfl ?_; clear M6; intro w' M6) | (refine wpL_sth M6 rfl rfl rfl rfl (wr_minus _ _ _) ?_; clear M6; intro w' M6)))
  refine (HCG.out _ _ _ M6.below (Sl.of_own HL.out)).mono ?_
  rintro e w7 ⟨aB, cB, rfl, hO, hA⟩
  have M7 := M6.call hA
  have HB := Lib.hid hO
  replace HL := Lib.hid (ownsRow_below HL.out hA)
  have K4 := M7.has (.tail _ _ _ _ _ (Has.head _ _ _ _))
  clear hA hO M6
  go_upto_region 19 with (first | ((with_reducible refine (?_ : Go.wpList _ _ _ (_ :: _) _ _)); (first | go_skip | (refine Grid.wpL_stM M7 rfl rfl rfl rfl (wr_pG x y X Y S (.slice aG n cG) x y (.slice aF n cF) B St x2 y2 X2 Y2 S2 aB m cB) (.tail _ _ _ _ _ _ _ (Upd.head _ _ _ _ _)) ?_; clear M7; intro w8 M7 hT) | (have K31 := M7.has (Has.head _ _ _ _); refine Grid.wpL_stM M7 rfl rfl rfl rfl (wr_w _ rfl _ _) (Upd.head _ _ _ _ _) ?_; clear M7; intro w8b M7 hT2))) | ((with_reducible refine (?_ : Go.wpList _ _ _ (_ :: _) _ _)); (first | go_skip | (refine wpL_ldc M7 rfl rfl rfl ?_) | (refine wpL_lgc M7 rfl rfl rfl ?_) | (refine wpL_stc M7 rfl rfl rfl rfl ?_; clear M7; intro w' M7) | (refine wpL_sti M7 rfl rfl rfl rfl ?_; clear M7; intro w' M7) | (refine wpL_sth M7 rfl rfl rfl rfl (wr_minus _ _ _) ?_; clear M7; intro w' M7))))
  replace HB := Lib.hid (ownsRow_below (Grid.gown_turned (Grid.gown_turned HB.out K4 (by decide) hT) K31 (by decide) hT2) ((Below.refl _ _).drew))
  replace HL := Lib.hid (ownsRow_below (Grid.gown_turned (Grid.gown_turned HL.out K4 (by decide) hT) K31 (by decide) hT2) ((Below.refl _ _).drew))
  replace M7 := M7.drew
  clear K4 K31 hT hT2
  refine wp_region_held_drew (S := (fun w' : World => w'.cell? ⟨g1, 5, none⟩ = some (.slice aG n cG) ∧ w'.cell? ⟨g1, 6, none⟩ = some (.int .i64 x) ∧ w'.cell? ⟨g1, 7, none⟩ = some (.int .i64 y) ∧ w'.cell? ⟨g1, 8, none⟩ = some (.slice aF n cF) ∧ w'.cell? ⟨g1, 9, none⟩ = some (.int .i64 B) ∧ w'.cell? ⟨g1, 10, none⟩ = some (.int .i64 St) ∧ w'.cell? ⟨g31, 0, none⟩ = some (.int .i64 (hiZ (T : Int))) ∧ w'.cell? ⟨g31, 1, none⟩ = some (.int .u64 (loZ (T : Int))))) (by kernel_rfl) (⟨M7.cell (.tail _ _ _ _ _ (.tail _ _ _ _ _ (.tail _ _ _ _ _ (.tail _ _ _ _ _ (Has.head _ _ _ _))))) (i := 5) rfl, M7.cell (.tail _ _ _ _ _ (.tail _ _ _ _ _ (.tail _ _ _ _ _ (.tail _ _ _ _ _ (Has.head _ _ _ _))))) (i := 6) rfl, M7.cell (.tail _ _ _ _ _ (.tail _ _ _ _ _ (.tail _ _ _ _ _ (.tail _ _ _ _ _ (Has.head _ _ _ _))))) (i := 7) rfl, M7.cell (.tail _ _ _ _ _ (.tail _ _ _ _ _ (.tail _ _ _ _ _ (.tail _ _ _ _ _ (Has.head _ _ _ _))))) (i := 8) rfl, M7.cell (.tail _ _ _ _ _ (.tail _ _ _ _ _ (.tail _ _ _ _ _ (.tail _ _ _ _ _ (Has.head _ _ _ _))))) (i := 9) rfl, M7.cell (.tail _ _ _ _ _ (.tail _ _ _ _ _ (.tail _ _ _ _ _ (.tail _ _ _ _ _ (Has.head _ _ _ _))))) (i := 10) rfl, M7.cell (Has.head _ _ _ _) (i := 0) rfl, M7.cell (Has.head _ _ _ _) (i := 1) rfl⟩) (fun hHeld => ?_)
  refine tkT 0 ?v103 ?hy103 hHeld ?rest103
  case hy103 => (intro w' hSw; (try dsimp only at hSw); go_simp; (try with_reducible rfl))
  try simp only [Act.put, puts]
  refine tkT 1 ?v104 ?hy104 hHeld ?rest104
  case hy104 => (intro w' hSw; (try dsimp only at hSw); go_simp; (try with_reducible rfl))
  try simp only [Act.put, puts]
  refine tkT 2 ?v105 ?hy105 hHeld ?rest105
  case hy105 => (intro w' hSw; (try dsimp only at hSw); go_simp; (try with_reducible rfl))
  try simp only [Act.put, puts]
  refine tkT 4 ?v106 ?hy106 hHeld ?rest106
  case hy106 => (intro w' hSw; (try dsimp only at hSw); go_simp; (try with_reducible rfl))
  try simp only [Act.put, puts]
  refine tkT 5 ?v107 ?hy107 hHeld ?rest107
  case hy107 => (intro w' hSw; (try dsimp only at hSw); go_simp; (try with_reducible rfl))
  try simp only [Act.put, puts]
  refine tkT 6 ?v108 ?hy108 hHeld ?rest108
  case hy108 => (intro w' hSw; (try dsimp only at hSw); go_simp; (try with_reducible rfl))
  try simp only [Act.put, puts]
  refine tkT 7 ?v109 ?hy109 hHeld ?rest109
  case hy109 => (intro w' hSw; (try dsimp only at hSw); go_simp; (try with_reducible rfl))
  try simp only [Act.put, puts]
  refine tkT 8 ?v110 ?hy110 hHeld ?rest110
  case hy110 => (intro w' hSw; (try dsimp only at hSw); go_simp; (try with_reducible rfl))
  try simp only [Act.put, puts]
  refine tkT 9 ?v111 ?hy111 hHeld ?rest111
  case hy111 => (intro w' hSw; (try dsimp only at hSw); go_simp; (try with_reducible rfl))
  try simp only [Act.put, puts]
  refine tkT 10 ?v112 ?hy112 hHeld ?rest112
  case hy112 => (intro w' hSw; (try dsimp only at hSw); go_simp; (try with_reducible rfl))
  try simp only [Act.put, puts]
  refine tkT 11 ?v113 ?hy113 hHeld ?rest113
  case hy113 => (intro w' hSw; (try dsimp only at hSw); go_simp; (try with_reducible rfl))
  try simp only [Act.put, puts]
  refine tkT 12 ?v114 ?hy114 hHeld ?rest114
  case hy114 => (intro w' hSw; (try dsimp only at hSw); go_simp; (try with_reducible rfl))
  try simp only [Act.put, puts]
  refine wpAnyH_ready (rs := [3]) (by kernel_rfl) (by simp) ?_
  refine AllReadyH.cons rfl (fun K hK => ?_) AllReadyH.nil
  go_simp
  refine (HCF.out _ _ _ M7.below (Sl.of_own HL.out)).mono ?_
  rintro e w9 ⟨aC, cC, rfl, hV2, hA⟩
  replace M7 := M7.call hA
  replace HB := Lib.hid (ownsRow_below HB.out hA)
  have HC := Lib.hid hV2
  clear hV2 hA hHeld
  try go_wp2_with fail
  refine hK.out _ _ (⟨M7.cell (.tail _ _ _ _ _ (.tail _ _ _ _ _ (.tail _ _ _ _ _ (.tail _ _ _ _ _ (Has.head _ _ _ _))))) (i := 5) rfl, M7.cell (.tail _ _ _ _ _ (.tail _ _ _ _ _ (.tail _ _ _ _ _ (.tail _ _ _ _ _ (Has.head _ _ _ _))))) (i := 6) rfl, M7.cell (.tail _ _ _ _ _ (.tail _ _ _ _ _ (.tail _ _ _ _ _ (.tail _ _ _ _ _ (Has.head _ _ _ _))))) (i := 7) rfl, M7.cell (.tail _ _ _ _ _ (.tail _ _ _ _ _ (.tail _ _ _ _ _ (.tail _ _ _ _ _ (Has.head _ _ _ _))))) (i := 8) rfl, M7.cell (.tail _ _ _ _ _ (.tail _ _ _ _ _ (.tail _ _ _ _ _ (.tail _ _ _ _ _ (Has.head _ _ _ _))))) (i := 9) rfl, M7.cell (.tail _ _ _ _ _ (.tail _ _ _ _ _ (.tail _ _ _ _ _ (.tail _ _ _ _ _ (Has.head _ _ _ _))))) (i := 10) rfl, M7.cell (Has.head _ _ _ _) (i := 0) rfl, M7.cell (Has.head _ _ _ _) (i := 1) rfl⟩) (fun hHeld => ?_)
  clear hK K
  try simp only [Act.put, puts]
  refine tkT 14 ?v116 ?hy116 hHeld ?rest116
  case hy116 => (intro w' hSw; (try dsimp only at hSw); go_simp; (try with_reducible rfl))
  try simp only [Act.put, puts]
  refine wpAnyH_ready (rs := [13]) (by kernel_rfl) (by simp) ?_
  refine AllReadyH.cons rfl (fun K hK => ?_) AllReadyH.nil
  go_simp
  refine (HCK.out _ M7.below).mono ?_
  rintro e w10 ⟨rfl, hA⟩
  replace M7 := M7.call hA
  replace HB := Lib.hid (ownsRow_below HB.out hA)
  replace HC := Lib.hid (HC.out.below hA)
  clear hA hHeld
  try go_wp2_with fail
  refine hK.out _ _ (⟨M7.cell (.tail _ _ _ _ _ (.tail _ _ _ _ _ (.tail _ _ _ _ _ (.tail _ _ _ _ _ (Has.head _ _ _ _))))) (i := 5) rfl, M7.cell (.tail _ _ _ _ _ (.tail _ _ _ _ _ (.tail _ _ _ _ _ (.tail _ _ _ _ _ (Has.head _ _ _ _))))) (i := 6) rfl, M7.cell (.tail _ _ _ _ _ (.tail _ _ _ _ _ (.tail _ _ _ _ _ (.tail _ _ _ _ _ (Has.head _ _ _ _))))) (i := 7) rfl, M7.cell (.tail _ _ _ _ _ (.tail _ _ _ _ _ (.tail _ _ _ _ _ (.tail _ _ _ _ _ (Has.head _ _ _ _))))) (i := 8) rfl, M7.cell (.tail _ _ _ _ _ (.tail _ _ _ _ _ (.tail _ _ _ _ _ (.tail _ _ _ _ _ (Has.head _ _ _ _))))) (i := 9) rfl, M7.cell (.tail _ _ _ _ _ (.tail _ _ _ _ _ (.tail _ _ _ _ _ (.tail _ _ _ _ _ (Has.head _ _ _ _))))) (i := 10) rfl, M7.cell (Has.head _ _ _ _) (i := 0) rfl, M7.cell (Has.head _ _ _ _) (i := 1) rfl⟩) (fun hHeld => ?_)
  clear hK K
  try simp only [Act.put, puts]
  refine wpAnyH_ready (rs := [15]) (by kernel_rfl) (by simp) ?_
  refine AllReadyH.cons rfl (fun K hK => ?_) AllReadyH.nil
  rw [if_pos (by rfl)]
  refine Grid.wp_stM M7 rfl rfl rfl (wr_pF _ _ _ _ _ _ _ _ _ _ _ x2 y2 aC m cC) (.tail _ _ _ _ _ _ _ (Upd.head _ _ _ _ _)) ?_
  intro w11 Mn hTn
  replace HB := Lib.hid (Grid.gown_turned HB.out (M7.has (.tail _ _ _ _ _ (Has.head _ _ _ _))) (by decide) hTn)
  replace HC := Lib.hid (HC.out.turnedB (M7.has (.tail _ _ _ _ _ (Has.head _ _ _ _))) (by decide) (noPart_p _ _ _ _ _ _ _ _ _ _ _ _ _ _ _) hTn)
  replace M7 := Mn
  clear hTn hHeld Mn
  refine hK.out _ _ (⟨M7.cell (.tail _ _ _ _ _ (.tail _ _ _ _ _ (.tail _ _ _ _ _ (.tail _ _ _ _ _ (Has.head _ _ _ _))))) (i := 5) rfl, M7.cell (.tail _ _ _ _ _ (.tail _ _ _ _ _ (.tail _ _ _ _ _ (.tail _ _ _ _ _ (Has.head _ _ _ _))))) (i := 6) rfl, M7.cell (.tail _ _ _ _ _ (.tail _ _ _ _ _ (.tail _ _ _ _ _ (.tail _ _ _ _ _ (Has.head _ _ _ _))))) (i := 7) rfl, M7.cell (.tail _ _ _ _ _ (.tail _ _ _ _ _ (.tail _ _ _ _ _ (.tail _ _ _ _ _ (Has.head _ _ _ _))))) (i := 8) rfl, M7.cell (.tail _ _ _ _ _ (.tail _ _ _ _ _ (.tail _ _ _ _ _ (.tail _ _ _ _ _ (Has.head _ _ _ _))))) (i := 9) rfl, M7.cell (.tail _ _ _ _ _ (.tail _ _ _ _ _ (.tail _ _ _ _ _ (.tail _ _ _ _ _ (Has.head _ _ _ _))))) (i := 10) rfl, M7.cell (Has.head _ _ _ _) (i := 0) rfl, M7.cell (Has.head _ _ _ _) (i := 1) rfl⟩) (fun hHeld => ?_)
  clear hK K
  try simp only [Act.put, puts]
  refine tkT 16 ?v119 ?hy119 hHeld ?rest119
  case hy119 => (intro w' hSw; (try dsimp only at hSw); go_simp; (try with_reducible rfl))
  try simp only [Act.put, puts]
  refine wpAnyH_ready (rs := [17]) (by kernel_rfl) (by simp) ?_
  refine AllReadyH.cons rfl (fun K hK => ?_) AllReadyH.nil
  rw [if_pos (by rfl)]
  refine Grid.wp_stM M7 rfl rfl rfl (wr_pK _ _ _ _ _ _ _ _ _ _ _ B2 (St + 1)) (.tail _ _ _ _ _ _ _ (Upd.head _ _ _ _ _)) ?_
  intro w12 Mn hTn
  replace HB := Lib.hid (Grid.gown_turned HB.out (M7.has (.tail _ _ _ _ _ (Has.head _ _ _ _))) (by decide) hTn)
  replace HC := Lib.hid (HC.out.turnedB (M7.has (.tail _ _ _ _ _ (Has.head _ _ _ _))) (by decide) (noPart_p _ _ _ _ _ _ _ _ _ _ _ _ _ _ _) hTn)
  replace M7 := Mn
  clear hTn hHeld Mn
  refine hK.out _ _ (⟨M7.cell (.tail _ _ _ _ _ (.tail _ _ _ _ _ (.tail _ _ _ _ _ (.tail _ _ _ _ _ (Has.head _ _ _ _))))) (i := 5) rfl, M7.cell (.tail _ _ _ _ _ (.tail _ _ _ _ _ (.tail _ _ _ _ _ (.tail _ _ _ _ _ (Has.head _ _ _ _))))) (i := 6) rfl, M7.cell (.tail _ _ _ _ _ (.tail _ _ _ _ _ (.tail _ _ _ _ _ (.tail _ _ _ _ _ (Has.head _ _ _ _))))) (i := 7) rfl, M7.cell (.tail _ _ _ _ _ (.tail _ _ _ _ _ (.tail _ _ _ _ _ (.tail _ _ _ _ _ (Has.head _ _ _ _))))) (i := 8) rfl, M7.cell (.tail _ _ _ _ _ (.tail _ _ _ _ _ (.tail _ _ _ _ _ (.tail _ _ _ _ _ (Has.head _ _ _ _))))) (i := 9) rfl, M7.cell (.tail _ _ _ _ _ (.tail _ _ _ _ _ (.tail _ _ _ _ _ (.tail _ _ _ _ _ (Has.head _ _ _ _))))) (i := 10) rfl, M7.cell (Has.head _ _ _ _) (i := 0) rfl, M7.cell (Has.head _ _ _ _) (i := 1) rfl⟩) (fun hHeld => ?_)
  clear hK K
  try simp only [Act.put, puts]
  refine wpAnyH_done (by kernel_rfl) ?_ _
  clear HCF HCK
  go_wp2_with (first | ((with_reducible refine (?_ : Go.wpList _ _ _ (_ :: _) _ _)); (first | go_skip | (refine wpL_ldc M7 rfl rfl rfl ?_) | (refine wpL_lgc M7 rfl rfl rfl ?_) | (refine wpL_stc M7 rfl rfl rfl rfl ?_; clear M7; intro w' M7) | (refine wpL_sti M7 rfl rfl rfl rfl ?_; clear M7; intro w' M7) | (refine wpL_sth M7 rfl rfl rfl rfl (wr_minus _ _ _) ?_; clear M7; intro w' M7))) | (refine wpL_sth M7 rfl rfl rfl rfl (wr_p _ rfl _ _ _ _ _ _ _ _ _ _ _ _ _ _ _) ?_; clear M7; intro wr7 M7))
  refine bodyPost_ret (res_cell_tmp rfl M7 rfl (.tail _ _ _ _ _ (.tail _ _ _ _ _ (Has.head _ _ _ _))) (rd_p _ _ _ _ _ _ _ _ _ _ _) rfl) rfl ?_
  exact ⟨rfl, M7.below⟩
end Go.Proofs.YtallbegibdlpaaaGreat
