/-
  ExactTriangle: the walk.
-/
import Derived.Test.YtanblpfpkohghaaDoorLaw17c
set_option linter.unusedVariables false
set_option linter.unusedSimpArgs false
namespace Go.Proofs.YtanblpfpkohghaaDoor
open Go Go.RowKit Go.Th Go.Th.Dig Go.Th.Ex Go.Th.Grid

set_option maxRecDepth 20000 in
set_option maxHeartbeats 12800000 in
theorem triangle_go (p q kl ca km cm kn cn x y n : Nat) (S b c bc : Int) (a am an : Option Addr) (ux uy uz : List Nat) (Lx Ly Lz : List Int) (B1 B2 : Bool) (hkl : decide (100 < (kl : Int)) = false) (hkm : decide (100 < (km : Int)) = false) (hkn : decide (100 < (kn : Int)) = false)
    (hb0 : decide (b < 0) = false) (hc0 : decide (c < 0) = false) (hb1 : decide (1099511627776 < b) = false) (hc1 : decide (1099511627776 < c) = false) (hbc : IntKind.i64.wrap (b + c) = bc) (w : World)
    (CMx : ∀ wx, Below w.heap.size w wx → Calls Tryd.prog 8 #[.int .u8 p, .int .u8 q, .slice a kl ca, .int .u8 2] wx fun e w' => ∃ a' cap', e = .returned (gv x y 1000 (-1000) S (.slice a' n cap')) ∧ Sl w' 1 (.slice a' n cap') n (i64s Lx) ∧ Below wx.heap.size wx w')
    (CMy : ∀ wx, Below w.heap.size w wx → Calls Tryd.prog 8 #[.int .u8 p, .int .u8 q, .slice am km cm, .int .u8 2] wx fun e w' => ∃ a' cap', e = .returned (gv x y 1000 (-1000) S (.slice a' n cap')) ∧ Sl w' 1 (.slice a' n cap') n (i64s Ly) ∧ Below wx.heap.size wx w')
    (CMz : ∀ wx, Below w.heap.size w wx → Calls Tryd.prog 8 #[.int .u8 p, .int .u8 q, .slice an kn cn, .int .u8 2] wx fun e w' => ∃ a' cap', e = .returned (gv x y 1000 (-1000) S (.slice a' n cap')) ∧ Sl w' 1 (.slice a' n cap') n (i64s Lz) ∧ Below wx.heap.size wx w')
    (CFx : ∀ wx a cap, Sl wx 1 (.slice a n cap) n (i64s Lx) → LAns 9 #[gv x y 1000 (-1000) S (.slice a n cap)] x y n ux wx)
    (CFy : ∀ wx a cap, Sl wx 1 (.slice a n cap) n (i64s Ly) → LAns 9 #[gv x y 1000 (-1000) S (.slice a n cap)] x y n uy wx)
    (CFz : ∀ wx a cap, Sl wx 1 (.slice a n cap) n (i64s Lz) → LAns 9 #[gv x y 1000 (-1000) S (.slice a n cap)] x y n uz wx)
    (C1 : ∀ wx aG cG a1 c1, Sl wx 1 (.slice aG n cG) n (i64s Lx) → IsV wx a1 n c1 uy → Calls Tryd.prog 13 #[gv x y 1000 (-1000) S (.slice aG n cG), fv x y (.slice a1 n c1), .int .i64 b] wx fun e w' => e = .returned (.bool B1) ∧ Below wx.heap.size wx w')
    (C2 : ∀ wx aG cG a1 c1, Sl wx 1 (.slice aG n cG) n (i64s Ly) → IsV wx a1 n c1 ux → Calls Tryd.prog 13 #[gv x y 1000 (-1000) S (.slice aG n cG), fv x y (.slice a1 n c1), .int .i64 b] wx fun e w' => e = .returned (.bool B1) ∧ Below wx.heap.size wx w')
    (C3 : ∀ wx aG cG a1 c1, Sl wx 1 (.slice aG n cG) n (i64s Ly) → IsV wx a1 n c1 uz → Calls Tryd.prog 13 #[gv x y 1000 (-1000) S (.slice aG n cG), fv x y (.slice a1 n c1), .int .i64 c] wx fun e w' => e = .returned (.bool B2) ∧ Below wx.heap.size wx w')
    (C4 : B1 = false → B2 = false → ∀ wx aG cG a1 c1, Sl wx 1 (.slice aG n cG) n (i64s Lx) → IsV wx a1 n c1 uz → Calls Tryd.prog 13 #[gv x y 1000 (-1000) S (.slice aG n cG), fv x y (.slice a1 n c1), .int .i64 bc] wx fun e w' => e = .returned (.bool false) ∧ Below wx.heap.size wx w')
    (CW : ∀ wx, Below w.heap.size w wx → Calls Tryd.prog 7 #[] wx fun e w' => e = .returned (.bool true) ∧ Below wx.heap.size wx w') :
    Calls Tryd.prog 5 #[.int .u8 p, .int .u8 q, .slice a kl ca, .slice am km cm, .slice an kn cn, .int .i64 b, .int .i64 c] w fun e w' => e = .returned (.bool true) ∧ Below w.heap.size w w' := by
  have HCMx := Lib.hid CMx
  have HCMy := Lib.hid CMy
  have HCMz := Lib.hid CMz
  have HFx := Lib.hid CFx
  have HFy := Lib.hid CFy
  have HFz := Lib.hid CFz
  have HC1 := Lib.hid C1
  have HC2 := Lib.hid C2
  have HC3 := Lib.hid C3
  have HC4r := Lib.hid C4
  have HCW := Lib.hid CW
  have hne : (B1 != B1) = false := by cases B1 <;> rfl
  have M0 := Mem.start w
  clear CMx CMy CMz CFx CFy CFz C1 C2 C3 C4 CW
  go_enter Tryd.func5, Tryd.ntmps5
  go_wp2_with fail
  refine (HCMx.out _ M0.below).mono ?_
  rintro e w1 ⟨aX, cX, rfl, hX, hA⟩
  have M1 := M0.call hA
  have RX1 := Lib.hid hX
  clear hA hX M0
  go_wp2_with fail
  refine (HCMy.out _ M1.below).mono ?_
  rintro e w2 ⟨aY, cY, rfl, hY, hA⟩
  have M2 := M1.call hA
  have RX2 := Lib.hid (RX1.out.below hA)
  have RY2 := Lib.hid hY
  clear hA hY M1 RX1
  go_wp2_with fail
  refine (HCMz.out _ M2.below).mono ?_
  rintro e w3 ⟨aZ, cZ, rfl, hZ, hA⟩
  have MC := M2.call hA
  have RX3 := Lib.hid (RX2.out.below hA)
  have RY3 := Lib.hid (RY2.out.below hA)
  have RZ3 := Lib.hid hZ
  have M20 := Mem.start w3
  clear hA hZ M2 RX2 RY2 hkl hkm hkn hb0 hc0 hb1 hc1
  go_upto_region 4 with (((with_reducible refine (?_ : Go.wpList _ _ _ (_ :: _) _ _)); (first | go_skip | (refine wpL_bx M20 rfl rfl rfl rfl ?_; clear M20; intro g21 w21 M21) | (refine wpL_alc M20 rfl rfl ?_; clear M20; intro g21 w21 M21) | (refine wpL_ldc M20 rfl rfl rfl ?_) | (refine wpL_lgc M20 rfl rfl rfl ?_) | (refine wpL_stc M20 rfl rfl rfl rfl ?_; clear M20; intro w' M20) | (refine wpL_sti M20 rfl rfl rfl rfl ?_; clear M20; intro w' M20) | (refine wpL_sth M20 rfl rfl rfl rfl (wr_minus _ _ _) ?_; clear M20; intro w' M20) | (refine wpL_bx M21 rfl rfl rfl rfl ?_; clear M21; intro g22 w22 M22) | (refine wpL_alc M21 rfl rfl ?_; clear M21; intro g22 w22 M22) | (refine wpL_ldc M21 rfl rfl rfl ?_) | (refine wpL_lgc M21 rfl rfl rfl ?_) | (refine wpL_stc M21 rfl rfl rfl rfl ?_; clear M21; intro w' M21) | (refine wpL_sti M21 rfl rfl rfl rfl ?_; clear M21; intro w' M21) | (refine wpL_sth M21 rfl rfl rfl rfl (wr_minus _ _ _) ?_; clear M21; intro w' M21) | (refine wpL_bx M22 rfl rfl rfl rfl ?_; clear M22; intro g23 w23 M23) | (refine wpL_alc M22 rfl rfl ?_; clear M22; intro g23 w23 M23) | (refine wpL_ldc M22 rfl rfl rfl ?_) | (refine wpL_lgc M22 rfl rfl rfl ?_) | (refine wpL_stc M22 rfl rfl rfl rfl ?_; clear M22; intro w' M22) | (refine wpL_sti M22 rfl rfl rfl rfl ?_; clear M22; intro w' M22) | (refine wpL_sth M22 rfl rfl rfl rfl (wr_minus _ _ _) ?_; clear M22; intro w' M22) | (refine wpL_ldc M23 rfl rfl rfl ?_) | (refine wpL_lgc M23 rfl rfl rfl ?_) | (refine wpL_stc M23 rfl rfl rfl rfl ?_; clear M23; intro w' M23) | (refine wpL_sti M23 rfl rfl rfl rfl ?_; clear M23; intro w' M23) | (refine wpL_sth M23 rfl rfl rfl rfl (wr_minus _ _ _) ?_; clear M23; intro w' M23))))
  obtain ⟨wA, hwA⟩ : ∃ wA, wA = w' := ⟨_, rfl⟩
  rw [← hwA] at M23 ⊢
  have K21 := Lib.hid (M23.has (.tail _ _ _ _ _ (.tail _ _ _ _ _ (Has.head _ _ _ _))))
  have K22 := Lib.hid (M23.has (.tail _ _ _ _ _ (Has.head _ _ _ _)))
  have K23 := Lib.hid (M23.has (Has.head _ _ _ _))
  have RX := Lib.hid (RX3.out.below M23.below)
  have RY := Lib.hid (RY3.out.below M23.below)
  have RZ := Lib.hid (RZ3.out.below M23.below)
  have HBA := Lib.hid (MC.below.trans (M23.below.mono MC.below.size))
  have HBW := Lib.hid (fun (wx : World) (h : Below wA.heap.size wA wx) => HBA.out.trans (h.mono HBA.out.size))
  have M3 := Mem.start wA
  clear hwA M23 MC RX3 RY3 RZ3 HCMx HCMy HCMz
  refine wp_region_held_drew (S := (fun w' : World => (w'.cell? ⟨g21, 0, none⟩ = some (.int .i64 x) ∧ w'.cell? ⟨g21, 1, none⟩ = some (.int .i64 y) ∧ w'.cell? ⟨g21, 2, none⟩ = some (.int .i64 1000) ∧ w'.cell? ⟨g21, 3, none⟩ = some (.int .i64 (-1000)) ∧ w'.cell? ⟨g21, 4, none⟩ = some (.int .i64 S) ∧ w'.cell? ⟨g21, 5, none⟩ = some (.slice aX n cX)) ∧ (w'.cell? ⟨g22, 0, none⟩ = some (.int .i64 x) ∧ w'.cell? ⟨g22, 1, none⟩ = some (.int .i64 y) ∧ w'.cell? ⟨g22, 2, none⟩ = some (.int .i64 1000) ∧ w'.cell? ⟨g22, 3, none⟩ = some (.int .i64 (-1000)) ∧ w'.cell? ⟨g22, 4, none⟩ = some (.int .i64 S) ∧ w'.cell? ⟨g22, 5, none⟩ = some (.slice aY n cY)) ∧ (w'.cell? ⟨g23, 0, none⟩ = some (.int .i64 x) ∧ w'.cell? ⟨g23, 1, none⟩ = some (.int .i64 y) ∧ w'.cell? ⟨g23, 2, none⟩ = some (.int .i64 1000) ∧ w'.cell? ⟨g23, 3, none⟩ = some (.int .i64 (-1000)) ∧ w'.cell? ⟨g23, 4, none⟩ = some (.int .i64 S) ∧ w'.cell? ⟨g23, 5, none⟩ = some (.slice aZ n cZ)))) (by kernel_rfl) (⟨gcells (K21.out.below M3.drew.below K21.out.lt), gcells (K22.out.below M3.drew.below K22.out.lt), gcells (K23.out.below M3.drew.below K23.out.lt)⟩) (fun hHeld => ?_)
  refine tkT 0 ?v1 ?hy1 hHeld ?rest1
  case hy1 => (intro w' hSw; (try dsimp only at hSw); go_simp; (try with_reducible rfl))
  try simp only [Act.put, puts]
  refine tkT 1 ?v2 ?hy2 hHeld ?rest2
  case hy2 => (intro w' hSw; (try dsimp only at hSw); go_simp; (try with_reducible rfl))
  try simp only [Act.put, puts]
  refine tkT 3 ?v3 ?hy3 hHeld ?rest3
  case hy3 => (intro w' hSw; (try dsimp only at hSw); go_simp; (try with_reducible rfl))
  try simp only [Act.put, puts]
  refine tkT 5 ?v4 ?hy4 hHeld ?rest4
  case hy4 => (intro w' hSw; (try dsimp only at hSw); go_simp; (try with_reducible rfl))
  try simp only [Act.put, puts]
  refine tkT 6 ?v5 ?hy5 hHeld ?rest5
  case hy5 => (intro w' hSw; (try dsimp only at hSw); go_simp; (try with_reducible rfl))
  try simp only [Act.put, puts]
  refine tkT 8 ?v6 ?hy6 hHeld ?rest6
  case hy6 => (intro w' hSw; (try dsimp only at hSw); go_simp; (try with_reducible rfl))
  try simp only [Act.put, puts]
  refine wpAnyH_ready (rs := [2]) (by kernel_rfl) (by simp) ?_
  refine AllReadyH.cons rfl (fun K hK => ?_) AllReadyH.nil
  go_simp
  refine (HFy.out _ _ _ (RY.out.below M3.drew.below)).mono ?_
  rintro e w101 ⟨aq, cq, rfl, hV, hA⟩
  have M101 := M3.drew.call hA
  have Vq := Lib.hid hV
  clear hA hV
  try go_wp2_with fail
  refine hK.out _ _ (⟨gcells (K21.out.below M101.below K21.out.lt), gcells (K22.out.below M101.below K22.out.lt), gcells (K23.out.below M101.below K23.out.lt)⟩) (fun hHeld => ?_)
  clear hK K
  try simp only [Act.put, puts]
  refine wpAnyH_ready (rs := [4]) (by kernel_rfl) (by simp) ?_
  refine AllReadyH.cons rfl (fun K hK => ?_) AllReadyH.nil
  go_simp
  refine (HC1.out _ _ _ _ _ (RX.out.below M101.below) Vq.out).mono ?_
  rintro e w102 ⟨rfl, hA⟩
  have M102 := M101.call hA
  clear hA Vq
  try go_wp2_with fail
  refine hK.out _ _ (⟨gcells (K21.out.below M102.below K21.out.lt), gcells (K22.out.below M102.below K22.out.lt), gcells (K23.out.below M102.below K23.out.lt)⟩) (fun hHeld => ?_)
  clear hK K
  try simp only [Act.put, puts]
  refine wpAnyH_ready (rs := [7]) (by kernel_rfl) (by simp) ?_
  refine AllReadyH.cons rfl (fun K hK => ?_) AllReadyH.nil
  go_simp
  refine (HFx.out _ _ _ (RX.out.below M102.below)).mono ?_
  rintro e w103 ⟨aq, cq, rfl, hV, hA⟩
  have M103 := M102.call hA
  have Vq := Lib.hid hV
  clear hA hV
  try go_wp2_with fail
  refine hK.out _ _ (⟨gcells (K21.out.below M103.below K21.out.lt), gcells (K22.out.below M103.below K22.out.lt), gcells (K23.out.below M103.below K23.out.lt)⟩) (fun hHeld => ?_)
  clear hK K
  try simp only [Act.put, puts]
  refine wpAnyH_ready (rs := [9]) (by kernel_rfl) (by simp) ?_
  refine AllReadyH.cons rfl (fun K hK => ?_) AllReadyH.nil
  go_simp
  refine (HC2.out _ _ _ _ _ (RY.out.below M103.below) Vq.out).mono ?_
  rintro e w104 ⟨rfl, hA⟩
  have M104 := M103.call hA
  clear hA Vq
  try go_wp2_with fail
  refine hK.out _ _ (⟨gcells (K21.out.below M104.below K21.out.lt), gcells (K22.out.below M104.below K22.out.lt), gcells (K23.out.below M104.below K23.out.lt)⟩) (fun hHeld => ?_)
  clear hK K
  try simp only [Act.put, puts]
  refine tkT 10 ?v11 ?hy11 hHeld ?rest11
  case hy11 => (intro w' hSw; (try dsimp only at hSw); go_simp; (try with_reducible rfl))
  try simp only [Act.put, puts]
  refine wpAnyH_done (by kernel_rfl) ?_ _
  clear M3
  cases B1
  · try simp only [Exit.then, Exit.inBlock]
    go_wp2_with fail
    refine wp_region_held_drew (S := (fun w' : World => (w'.cell? ⟨g21, 0, none⟩ = some (.int .i64 x) ∧ w'.cell? ⟨g21, 1, none⟩ = some (.int .i64 y) ∧ w'.cell? ⟨g21, 2, none⟩ = some (.int .i64 1000) ∧ w'.cell? ⟨g21, 3, none⟩ = some (.int .i64 (-1000)) ∧ w'.cell? ⟨g21, 4, none⟩ = some (.int .i64 S) ∧ w'.cell? ⟨g21, 5, none⟩ = some (.slice aX n cX)) ∧ (w'.cell? ⟨g22, 0, none⟩ = some (.int .i64 x) ∧ w'.cell? ⟨g22, 1, none⟩ = some (.int .i64 y) ∧ w'.cell? ⟨g22, 2, none⟩ = some (.int .i64 1000) ∧ w'.cell? ⟨g22, 3, none⟩ = some (.int .i64 (-1000)) ∧ w'.cell? ⟨g22, 4, none⟩ = some (.int .i64 S) ∧ w'.cell? ⟨g22, 5, none⟩ = some (.slice aY n cY)) ∧ (w'.cell? ⟨g23, 0, none⟩ = some (.int .i64 x) ∧ w'.cell? ⟨g23, 1, none⟩ = some (.int .i64 y) ∧ w'.cell? ⟨g23, 2, none⟩ = some (.int .i64 1000) ∧ w'.cell? ⟨g23, 3, none⟩ = some (.int .i64 (-1000)) ∧ w'.cell? ⟨g23, 4, none⟩ = some (.int .i64 S) ∧ w'.cell? ⟨g23, 5, none⟩ = some (.slice aZ n cZ)))) (by kernel_rfl) (⟨gcells (K21.out.below M104.drew.below K21.out.lt), gcells (K22.out.below M104.drew.below K22.out.lt), gcells (K23.out.below M104.drew.below K23.out.lt)⟩) (fun hHeld => ?_)
    refine tkT 0 ?v12 ?hy12 hHeld ?rest12
    case hy12 => (intro w' hSw; (try dsimp only at hSw); go_simp; (try with_reducible rfl))
    try simp only [Act.put, puts]
    refine tkT 1 ?v13 ?hy13 hHeld ?rest13
    case hy13 => (intro w' hSw; (try dsimp only at hSw); go_simp; (try with_reducible rfl))
    try simp only [Act.put, puts]
    refine tkT 3 ?v14 ?hy14 hHeld ?rest14
    case hy14 => (intro w' hSw; (try dsimp only at hSw); go_simp; (try with_reducible rfl))
    try simp only [Act.put, puts]
    refine wpAnyH_ready (rs := [2]) (by kernel_rfl) (by simp) ?_
    refine AllReadyH.cons rfl (fun K hK => ?_) AllReadyH.nil
    go_simp
    refine (HFy.out _ _ _ (RY.out.below M104.drew.below)).mono ?_
    rintro e w105 ⟨aq, cq, rfl, hV, hA⟩
    have M105 := M104.drew.call hA
    have Vq := Lib.hid hV
    clear hA hV
    try go_wp2_with fail
    refine hK.out _ _ (⟨gcells (K21.out.below M105.below K21.out.lt), gcells (K22.out.below M105.below K22.out.lt), gcells (K23.out.below M105.below K23.out.lt)⟩) (fun hHeld => ?_)
    clear hK K
    try simp only [Act.put, puts]
    refine wpAnyH_ready (rs := [4]) (by kernel_rfl) (by simp) ?_
    refine AllReadyH.cons rfl (fun K hK => ?_) AllReadyH.nil
    go_simp
    refine (HC1.out _ _ _ _ _ (RX.out.below M105.below) Vq.out).mono ?_
    rintro e w106 ⟨rfl, hA⟩
    have M106 := M105.call hA
    clear hA Vq
    try go_wp2_with fail
    refine hK.out _ _ (⟨gcells (K21.out.below M106.below K21.out.lt), gcells (K22.out.below M106.below K22.out.lt), gcells (K23.out.below M106.below K23.out.lt)⟩) (fun hHeld => ?_)
    clear hK K
    try simp only [Act.put, puts]
    refine tkT 5 ?v17 ?hy17 hHeld ?rest17
    case hy17 => (intro w' hSw; (try dsimp only at hSw); go_simp; (try with_reducible rfl))
    try simp only [Act.put, puts]
    refine tkT 6 ?v18 ?hy18 hHeld ?rest18
    case hy18 => (intro w' hSw; (try dsimp only at hSw); go_simp; (try with_reducible rfl))
    try simp only [Act.put, puts]
    refine tkT 7 ?v19 ?hy19 hHeld ?rest19
    case hy19 => (intro w' hSw; (try dsimp only at hSw); go_simp; (try with_reducible rfl))
    try simp only [Act.put, puts]
    refine tkT 9 ?v20 ?hy20 hHeld ?rest20
    case hy20 => (intro w' hSw; (try dsimp only at hSw); go_simp; (try with_reducible rfl))
    try simp only [Act.put, puts]
    refine wpAnyH_ready (rs := [8]) (by kernel_rfl) (by simp) ?_
    refine AllReadyH.cons rfl (fun K hK => ?_) AllReadyH.nil
    go_simp
    refine (HFz.out _ _ _ (RZ.out.below M106.below)).mono ?_
    rintro e w107 ⟨aq, cq, rfl, hV, hA⟩
    have M107 := M106.call hA
    have Vq := Lib.hid hV
    clear hA hV
    try go_wp2_with fail
    refine hK.out _ _ (⟨gcells (K21.out.below M107.below K21.out.lt), gcells (K22.out.below M107.below K22.out.lt), gcells (K23.out.below M107.below K23.out.lt)⟩) (fun hHeld => ?_)
    clear hK K
    try simp only [Act.put, puts]
    refine wpAnyH_ready (rs := [10]) (by kernel_rfl) (by simp) ?_
    refine AllReadyH.cons rfl (fun K hK => ?_) AllReadyH.nil
    go_simp
    refine (HC3.out _ _ _ _ _ (RY.out.below M107.below) Vq.out).mono ?_
    rintro e w108 ⟨rfl, hA⟩
    have M108 := M107.call hA
    clear hA Vq
    try go_wp2_with fail
    refine hK.out _ _ (⟨gcells (K21.out.below M108.below K21.out.lt), gcells (K22.out.below M108.below K22.out.lt), gcells (K23.out.below M108.below K23.out.lt)⟩) (fun hHeld => ?_)
    clear hK K
    try simp only [Act.put, puts]
    refine tkT 11 ?v23 ?hy23 hHeld ?rest23
    case hy23 => (intro w' hSw; (try dsimp only at hSw); go_simp; (try with_reducible rfl))
    try simp only [Act.put, puts]
    refine wpAnyH_done (by kernel_rfl) ?_ _
    cases B2
    · have HC4 := Lib.hid (HC4r.out (by simp) (by simp))
      go_wp2_with fail
      refine wp_region_held_drew (S := (fun w' : World => (w'.cell? ⟨g21, 0, none⟩ = some (.int .i64 x) ∧ w'.cell? ⟨g21, 1, none⟩ = some (.int .i64 y) ∧ w'.cell? ⟨g21, 2, none⟩ = some (.int .i64 1000) ∧ w'.cell? ⟨g21, 3, none⟩ = some (.int .i64 (-1000)) ∧ w'.cell? ⟨g21, 4, none⟩ = some (.int .i64 S) ∧ w'.cell? ⟨g21, 5, none⟩ = some (.slice aX n cX)) ∧ (w'.cell? ⟨g22, 0, none⟩ = some (.int .i64 x) ∧ w'.cell? ⟨g22, 1, none⟩ = some (.int .i64 y) ∧ w'.cell? ⟨g22, 2, none⟩ = some (.int .i64 1000) ∧ w'.cell? ⟨g22, 3, none⟩ = some (.int .i64 (-1000)) ∧ w'.cell? ⟨g22, 4, none⟩ = some (.int .i64 S) ∧ w'.cell? ⟨g22, 5, none⟩ = some (.slice aY n cY)) ∧ (w'.cell? ⟨g23, 0, none⟩ = some (.int .i64 x) ∧ w'.cell? ⟨g23, 1, none⟩ = some (.int .i64 y) ∧ w'.cell? ⟨g23, 2, none⟩ = some (.int .i64 1000) ∧ w'.cell? ⟨g23, 3, none⟩ = some (.int .i64 (-1000)) ∧ w'.cell? ⟨g23, 4, none⟩ = some (.int .i64 S) ∧ w'.cell? ⟨g23, 5, none⟩ = some (.slice aZ n cZ)))) (by kernel_rfl) (⟨gcells (K21.out.below M108.drew.below K21.out.lt), gcells (K22.out.below M108.drew.below K22.out.lt), gcells (K23.out.below M108.drew.below K23.out.lt)⟩) (fun hHeld => ?_)
      refine tkT 0 ?v24 ?hy24 hHeld ?rest24
      case hy24 => (intro w' hSw; (try dsimp only at hSw); go_simp; (try with_reducible rfl))
      try simp only [Act.put, puts]
      refine tkT 1 ?v25 ?hy25 hHeld ?rest25
      case hy25 => (intro w' hSw; (try dsimp only at hSw); go_simp; (try with_reducible rfl))
      try simp only [Act.put, puts]
      refine tkT 3 ?v26 ?hy26 hHeld ?rest26
      case hy26 => (intro w' hSw; (try dsimp only at hSw); go_simp; (try with_reducible rfl))
      try simp only [Act.put, puts]
      refine tkT 4 ?v27 ?hy27 hHeld ?rest27
      case hy27 => (intro w' hSw; (try dsimp only at hSw); go_simp; (try with_reducible rfl))
      try simp only [Act.put, puts]
      refine tkT 5 ?v28 ?hy28 hHeld ?rest28
      case hy28 => (intro w' hSw; (try dsimp only at hSw); go_simp; (try with_reducible rfl))
      try simp only [Act.put, puts]
      refine wpAnyH_ready (rs := [2]) (by kernel_rfl) (by simp) ?_
      refine AllReadyH.cons rfl (fun K hK => ?_) AllReadyH.nil
      go_simp
      refine (HFz.out _ _ _ (RZ.out.below M108.drew.below)).mono ?_
      rintro e w109 ⟨aq, cq, rfl, hV, hA⟩
      have M109 := M108.drew.call hA
      have Vq := Lib.hid hV
      clear hA hV
      try go_wp2_with fail
      refine hK.out _ _ (⟨gcells (K21.out.below M109.below K21.out.lt), gcells (K22.out.below M109.below K22.out.lt), gcells (K23.out.below M109.below K23.out.lt)⟩) (fun hHeld => ?_)
      clear hK K
      try simp only [Act.put, puts]
      refine wpAnyH_ready (rs := [6]) (by kernel_rfl) (by simp) ?_
      refine AllReadyH.cons rfl (fun K hK => ?_) AllReadyH.nil
      go_simp
      refine (HC4.out _ _ _ _ _ (RX.out.below M109.below) Vq.out).mono ?_
      rintro e w110 ⟨rfl, hA⟩
      have M110 := M109.call hA
      clear hA Vq
      try go_wp2_with fail
      refine hK.out _ _ (⟨gcells (K21.out.below M110.below K21.out.lt), gcells (K22.out.below M110.below K22.out.lt), gcells (K23.out.below M110.below K23.out.lt)⟩) (fun hHeld => ?_)
      clear hK K
      try simp only [Act.put, puts]
      refine tkT 7 ?v31 ?hy31 hHeld ?rest31
      case hy31 => (intro w' hSw; (try dsimp only at hSw); go_simp; (try with_reducible rfl))
      try simp only [Act.put, puts]
      refine tkT 8 ?v32 ?hy32 hHeld ?rest32
      case hy32 => (intro w' hSw; (try dsimp only at hSw); go_simp; (try with_reducible rfl))
      try simp only [Act.put, puts]
      refine wpAnyH_ready (rs := [9]) (by kernel_rfl) (by simp) ?_
      refine AllReadyH.cons rfl (fun K hK => ?_) AllReadyH.nil
      go_simp
      refine (HCW.out _ (HBW.out _ M110.below)).mono ?_
      rintro e w111 ⟨rfl, hA⟩
      have M111 := M110.call hA
      clear hA
      try go_wp2_with fail
      refine hK.out _ _ (⟨gcells (K21.out.below M111.below K21.out.lt), gcells (K22.out.below M111.below K22.out.lt), gcells (K23.out.below M111.below K23.out.lt)⟩) (fun hHeld => ?_)
      clear hK K
      try simp only [Act.put, puts]
      refine tkT 10 ?v34 ?hy34 hHeld ?rest34
      case hy34 => (intro w' hSw; (try dsimp only at hSw); go_simp; (try with_reducible rfl))
      try simp only [Act.put, puts]
      refine tkT 11 ?v35 ?hy35 hHeld ?rest35
      case hy35 => (intro w' hSw; (try dsimp only at hSw); go_simp; (try with_reducible rfl))
      try simp only [Act.put, puts]
      refine wpAnyH_done (by kernel_rfl) ?_ _
      go_simp
      go_wp2_with fail
      go_ret
      exact ⟨rfl, HBW.out _ M111.below⟩
    · go_wp2_with fail
      refine (HCW.out _ (HBW.out _ M108.below)).mono ?_
      rintro e w112 ⟨rfl, hA⟩
      have M112 := M108.call hA
      go_wp2_with fail
      go_ret
      exact ⟨rfl, HBW.out _ M112.below⟩
  · try simp only [Exit.then, Exit.inBlock]
    go_wp2_with fail
    refine wp_region_held_drew (S := (fun w' : World => (w'.cell? ⟨g21, 0, none⟩ = some (.int .i64 x) ∧ w'.cell? ⟨g21, 1, none⟩ = some (.int .i64 y) ∧ w'.cell? ⟨g21, 2, none⟩ = some (.int .i64 1000) ∧ w'.cell? ⟨g21, 3, none⟩ = some (.int .i64 (-1000)) ∧ w'.cell? ⟨g21, 4, none⟩ = some (.int .i64 S) ∧ w'.cell? ⟨g21, 5, none⟩ = some (.slice aX n cX)) ∧ (w'.cell? ⟨g22, 0, none⟩ = some (.int .i64 x) ∧ w'.cell? ⟨g22, 1, none⟩ = some (.int .i64 y) ∧ w'.cell? ⟨g22, 2, none⟩ = some (.int .i64 1000) ∧ w'.cell? ⟨g22, 3, none⟩ = some (.int .i64 (-1000)) ∧ w'.cell? ⟨g22, 4, none⟩ = some (.int .i64 S) ∧ w'.cell? ⟨g22, 5, none⟩ = some (.slice aY n cY)) ∧ (w'.cell? ⟨g23, 0, none⟩ = some (.int .i64 x) ∧ w'.cell? ⟨g23, 1, none⟩ = some (.int .i64 y) ∧ w'.cell? ⟨g23, 2, none⟩ = some (.int .i64 1000) ∧ w'.cell? ⟨g23, 3, none⟩ = some (.int .i64 (-1000)) ∧ w'.cell? ⟨g23, 4, none⟩ = some (.int .i64 S) ∧ w'.cell? ⟨g23, 5, none⟩ = some (.slice aZ n cZ)))) (by kernel_rfl) (⟨gcells (K21.out.below M104.drew.below K21.out.lt), gcells (K22.out.below M104.drew.below K22.out.lt), gcells (K23.out.below M104.drew.below K23.out.lt)⟩) (fun hHeld => ?_)
    refine tkT 0 ?v36 ?hy36 hHeld ?rest36
    case hy36 => (intro w' hSw; (try dsimp only at hSw); go_simp; (try with_reducible rfl))
    try simp only [Act.put, puts]
    refine tkT 1 ?v37 ?hy37 hHeld ?rest37
    case hy37 => (intro w' hSw; (try dsimp only at hSw); go_simp; (try with_reducible rfl))
    try simp only [Act.put, puts]
    refine tkT 3 ?v38 ?hy38 hHeld ?rest38
    case hy38 => (intro w' hSw; (try dsimp only at hSw); go_simp; (try with_reducible rfl))
    try simp only [Act.put, puts]
    refine wpAnyH_ready (rs := [2]) (by kernel_rfl) (by simp) ?_
    refine AllReadyH.cons rfl (fun K hK => ?_) AllReadyH.nil
    go_simp
    refine (HFy.out _ _ _ (RY.out.below M104.drew.below)).mono ?_
    rintro e w113 ⟨aq, cq, rfl, hV, hA⟩
    have M113 := M104.drew.call hA
    have Vq := Lib.hid hV
    clear hA hV
    try go_wp2_with fail
    refine hK.out _ _ (⟨gcells (K21.out.below M113.below K21.out.lt), gcells (K22.out.below M113.below K22.out.lt), gcells (K23.out.below M113.below K23.out.lt)⟩) (fun hHeld => ?_)
    clear hK K
    try simp only [Act.put, puts]
    refine wpAnyH_ready (rs := [4]) (by kernel_rfl) (by simp) ?_
    refine AllReadyH.cons rfl (fun K hK => ?_) AllReadyH.nil
    go_simp
    refine (HC1.out _ _ _ _ _ (RX.out.below M113.below) Vq.out).mono ?_
    rintro e w114 ⟨rfl, hA⟩
    have M114 := M113.call hA
    clear hA Vq
    try go_wp2_with fail
    refine hK.out _ _ (⟨gcells (K21.out.below M114.below K21.out.lt), gcells (K22.out.below M114.below K22.out.lt), gcells (K23.out.below M114.below K23.out.lt)⟩) (fun hHeld => ?_)
    clear hK K
    try simp only [Act.put, puts]
    refine tkT 5 ?v41 ?hy41 hHeld ?rest41
    case hy41 => (intro w' hSw; (try dsimp only at hSw); go_simp; (try with_reducible rfl))
    try simp only [Act.put, puts]
    refine tkS 6 hHeld ?_
    try simp only [Act.put, puts]
    refine tkS 7 hHeld ?_
    try simp only [Act.put, puts]
    refine tkS 8 hHeld ?_
    try simp only [Act.put, puts]
    refine tkS 9 hHeld ?_
    try simp only [Act.put, puts]
    refine tkS 10 hHeld ?_
    try simp only [Act.put, puts]
    refine tkT 11 ?v47 ?hy47 hHeld ?rest47
    case hy47 => (intro w' hSw; (try dsimp only at hSw); go_simp; (try with_reducible rfl))
    try simp only [Act.put, puts]
    refine wpAnyH_done (by kernel_rfl) ?_ _
    go_wp2_with fail
    refine (HCW.out _ (HBW.out _ M114.below)).mono ?_
    rintro e w115 ⟨rfl, hA⟩
    have M115 := M114.call hA
    go_wp2_with fail
    go_ret
    exact ⟨rfl, HBW.out _ M115.below⟩
end Go.Proofs.YtanblpfpkohghaaDoor
