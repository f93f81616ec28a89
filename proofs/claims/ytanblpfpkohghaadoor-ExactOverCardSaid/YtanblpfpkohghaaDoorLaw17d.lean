/-
  ExactOver: the walk.
-/
import Derived.Test.YtanblpfpkohghaaDoorLaw17c
set_option linter.unusedVariables false
set_option linter.unusedSimpArgs false
namespace Go.Proofs.YtanblpfpkohghaaDoor
open Go Go.RowKit Go.Th Go.Th.Dig Go.Th.Ex Go.Th.Grid

theorem doF_low {o : OpV} (h : o.k % 5 < 2) (h0 : 0 ≤ o.k) (x y : Nat) (vs : List Nat) : (doF ⟨x, y, vs⟩ o).x = x ∧ (doF ⟨x, y, vs⟩ o).y = y ∧ (doF ⟨x, y, vs⟩ o).us.length = vs.length := by
  unfold doF
  by_cases h1 : o.k % 5 = 0
  · rw [if_pos h1]; exact ⟨rfl, rfl, spreadU_length _ _ _ _⟩
  · rw [if_neg h1, if_pos (by omega)]; exact ⟨rfl, rfl, weighU_length _ _⟩
/-- An act that is done where only spreads and weights are. -/
theorem act_low {w : World} {l : List OpV} (hA : Acts w l) {i : Nat} {o : OpV} (hi : l[i]? = some o) (hk : o.k % 5 < 2) (h0 : 0 ≤ o.k) {k x y n : Nat} {gs us : List Nat} {a1 a2 : Option Addr} {c1 c2 : Nat} {wx : World} (hw : Below w.heap.size w wx) (hk2 : k ≤ 1000) (hf : FilOk k ⟨x, y, us⟩) (hg : Lt k gs) (hp : Prp gs us) (hn : us.length = n) (hV : IsV wx a1 n c1 gs) (hU : IsU wx a2 n c2 us) :
    ∃ vs, FilOk (k + 24) ⟨x, y, vs⟩ ∧ vs.length = n ∧ Calls Tryd.prog 12 #[fv x y (.slice a1 n c1), fv x y (.slice a2 n c2), opv o] wx fun e w' => ∃ (b1 : Option Addr) (e1 : Nat) (b2 : Option Addr) (e2 : Nat) (gs : List Nat), e = .returned (.tuple #[fv x y (.slice b1 n e1), fv x y (.slice b2 n e2)]) ∧ IsV w' b1 n e1 gs ∧ Prp gs vs ∧ Lt (k + 24) gs ∧ IsU w' b2 n e2 vs ∧ Below wx.heap.size wx w' := by
  obtain ⟨C, hF⟩ := hA i o hi k x y n gs us a1 a2 c1 c2 wx hw hk2 hf hg hp hn hV hU
  obtain ⟨e1, e2, e3⟩ := doF_low hk h0 x y us
  obtain ⟨f, hfe⟩ : ∃ f, f = doF ⟨x, y, us⟩ o := ⟨_, rfl⟩
  rw [← hfe] at C hF e1 e2 e3
  obtain ⟨x', y', vs⟩ := f
  simp only at e1 e2 e3
  subst e1 e2
  rw [hn] at e3
  refine ⟨vs, hF, e3, C.mono ?_⟩
  rintro e w' ⟨b1, d1, b2, d2, gs', r1, r2, r3, r4, r5, r6⟩
  simp only [e3] at r1 r2 r5
  exact ⟨b1, d1, b2, d2, gs', r1, r2, r3, r4, r5, r6⟩

set_option maxRecDepth 20000 in
set_option maxHeartbeats 12800000 in
theorem over_law (p q kl ca km cm no co x y n : Nat) (S b : Int) (a am ao : Option Addr) (ul um : List Nat) (LL LM : List Int) (l : List OpV) (B : Bool) (hno : l.length = no) (hno8 : no ≤ 8) (hkl : decide (100 < (kl : Int)) = false) (hkm : decide (100 < (km : Int)) = false) (hul : ul.length = n) (hf : FilOk 31 ⟨x, y, ul⟩) (hop : ∀ o ∈ l, 0 ≤ o.k ∧ o.k < 256) (w : World)
    (CL : ∀ wx, Below w.heap.size w wx → Calls Tryd.prog 6 #[.slice ao no co] wx fun e w' => e = .returned (.int .i64 0) ∧ wx = w')
    (CMm : ∀ wx, Below w.heap.size w wx → Calls Tryd.prog 8 #[.int .u8 p, .int .u8 q, .slice am km cm, .int .u8 2] wx fun e w' => ∃ a' cap', e = .returned (gv x y 1000 (-1000) S (.slice a' n cap')) ∧ Sl w' 1 (.slice a' n cap') n (i64s LM) ∧ Below wx.heap.size wx w')
    (CMl : ∀ wx, Below w.heap.size w wx → Calls Tryd.prog 8 #[.int .u8 p, .int .u8 q, .slice a kl ca, .int .u8 2] wx fun e w' => ∃ a' cap', e = .returned (gv x y 1000 (-1000) S (.slice a' n cap')) ∧ Sl w' 1 (.slice a' n cap') n (i64s LL) ∧ Below wx.heap.size wx w')
    (CFl : ∀ wx a cap, Sl wx 1 (.slice a n cap) n (i64s LL) → LAns 9 #[gv x y 1000 (-1000) S (.slice a n cap)] x y n ul wx)
    (CFm : ∀ wx a cap, Sl wx 1 (.slice a n cap) n (i64s LM) → LAns 9 #[gv x y 1000 (-1000) S (.slice a n cap)] x y n um wx)
    (CR : ∀ wx a cap, Sl wx 1 (.slice a n cap) n (i64s LL) → LAnsU 10 #[gv x y 1000 (-1000) S (.slice a n cap)] x y n ul wx)
    (CW : ∀ wx, Below w.heap.size w wx → Calls Tryd.prog 7 #[] wx fun e w' => e = .returned (.bool true) ∧ Below wx.heap.size wx w')
    (CA : Acts w l) (hS : Sl w 7 (.slice ao no co) no (opcs l))
    (CO : ∀ (k : Nat) (gs vs : List Nat), k ≤ 1000 → Lt k gs → Lt k vs → Prp gs vs → vs.length = n → ∃ R : Bool, (∀ wx aG cG a1 c1, Sl wx 1 (.slice aG n cG) n (i64s LM) → IsV wx a1 n c1 gs → Calls Tryd.prog 13 #[gv x y 1000 (-1000) S (.slice aG n cG), fv x y (.slice a1 n c1), .int .i64 b] wx fun e w' => e = .returned (.bool R) ∧ Below wx.heap.size wx w') ∧
      (∀ wx aG cG a2 c2, Sl wx 1 (.slice aG n cG) n (i64s LM) → IsU wx a2 n c2 vs → Calls Tryd.prog 14 #[gv x y 1000 (-1000) S (.slice aG n cG), fv x y (.slice a2 n c2), .int .i64 b] wx fun e w' => e = .returned (.bool R) ∧ Below wx.heap.size wx w') ∧
      (∀ wx aG cG a1 c1, Sl wx 1 (.slice aG n cG) n (i64s LM) → IsV wx a1 n c1 gs → Calls Tryd.prog 13 #[gv x y 1000 (-1000) S (.slice aG n cG), fv x y (.slice a1 n c1), .int .i64 1099511627776] wx fun e w' => e = .returned (.bool false) ∧ Below wx.heap.size wx w'))
    (CZ : ∀ wx aG cG a1 c1, Sl wx 1 (.slice aG n cG) n (i64s LM) → IsV wx a1 n c1 um → Calls Tryd.prog 13 #[gv x y 1000 (-1000) S (.slice aG n cG), fv x y (.slice a1 n c1), .int .i64 0] wx fun e w' => e = .returned (.bool false) ∧ Below wx.heap.size wx w') :
    Calls Tryd.prog 4 #[.int .u8 p, .int .u8 q, .slice a kl ca, .slice am km cm, .slice ao no co, .int .i64 b] w fun e w' => e = .returned (.bool true) ∧ Below w.heap.size w w' := by
  have HCL := Lib.hid CL
  have HCMm := Lib.hid CMm
  have HCMl := Lib.hid CMl
  have HCFl := Lib.hid CFl
  have HCFm := Lib.hid CFm
  have HCR := Lib.hid CR
  have HCW := Lib.hid CW
  have HCA := Lib.hid CA
  have HCO := Lib.hid CO
  have HCZ := Lib.hid CZ
  have HS := Lib.hid hS
  have HNO := Lib.hid hno
  have HUL := Lib.hid hul
  have HF := Lib.hid hf
  have HOP := Lib.hid hop
  have hmx := hS.max
  have M0 := Mem.start w
  clear CL CMm CMl CFl CFm CR CW CA CO CZ hS hno hul hf hop
  go_enter Tryd.func4, Tryd.ntmps4
  go_wp2_with fail
  refine (HCL.out _ M0.below).mono ?_
  rintro e wz ⟨rfl, rfl⟩
  go_wp2_with fail
  refine (HCMm.out _ M0.below).mono ?_
  rintro e w1 ⟨aG, cG, rfl, hG, hA⟩
  have M1 := M0.call hA
  have M20 := Mem.start w1
  have RG0 := Lib.hid hG
  clear hA hG M0 HCMm HCL
  go_upto_region 4 with (((with_reducible refine (?_ : Go.wpList _ _ _ (_ :: _) _ _)); (first | go_skip | (refine wpL_bx M20 rfl rfl rfl rfl ?_; clear M20; intro g21 w21 M21) | (refine wpL_alc M20 rfl rfl ?_; clear M20; intro g21 w21 M21) | (refine wpL_ldc M20 rfl rfl rfl ?_) | (refine wpL_lgc M20 rfl rfl rfl ?_) | (refine wpL_stc M20 rfl rfl rfl rfl ?_; clear M20; intro w' M20) | (refine wpL_sti M20 rfl rfl rfl rfl ?_; clear M20; intro w' M20) | (refine wpL_sth M20 rfl rfl rfl rfl (wr_minus _ _ _) ?_; clear M20; intro w' M20) | (refine wpL_ldc M21 rfl rfl rfl ?_) | (refine wpL_lgc M21 rfl rfl rfl ?_) | (refine wpL_stc M21 rfl rfl rfl rfl ?_; clear M21; intro w' M21) | (refine wpL_sti M21 rfl rfl rfl rfl ?_; clear M21; intro w' M21) | (refine wpL_sth M21 rfl rfl rfl rfl (wr_minus _ _ _) ?_; clear M21; intro w' M21))))
  obtain ⟨wA, hwA⟩ : ∃ wA, wA = w' := ⟨_, rfl⟩
  rw [← hwA] at M21 ⊢
  obtain ⟨g13, hg13⟩ : ∃ g13, g13 = g21 := ⟨_, rfl⟩
  rw [← hg13] at M21 ⊢
  have K13 := Lib.hid (M21.has (Has.head _ _ _ _))
  have RG := Lib.hid (RG0.out.below M21.below)
  have HBA := Lib.hid (M1.below.trans (M21.below.mono M1.below.size))
  have M3 := Mem.start wA
  clear hwA hg13 M1 M21 RG0
  have HBW := Lib.hid (fun (wx : World) (h : Below wA.heap.size wA wx) => HBA.out.trans (h.mono HBA.out.size))
  go_wp2_with fail
  refine (HCMl.out _ HBA.out).mono ?_
  rintro e w4 ⟨aL, cL, rfl, hL, hA⟩
  have M4 := M3.call hA
  go_wp2_with fail
  refine (HCFl.out _ _ _ hL).mono ?_
  rintro e w5 ⟨a1, c1, rfl, hV, hA⟩
  have M5 := M4.call hA
  have M40 := Mem.start w5
  have HV0 := Lib.hid hV
  clear hA hL hV M3 M4
  go_upto_region 5 with (((with_reducible refine (?_ : Go.wpList _ _ _ (_ :: _) _ _)); (first | go_skip | (refine wpL_bx M40 rfl rfl rfl rfl ?_; clear M40; intro g41 w41 M41) | (refine wpL_alc M40 rfl rfl ?_; clear M40; intro g41 w41 M41) | (refine wpL_ldc M40 rfl rfl rfl ?_) | (refine wpL_lgc M40 rfl rfl rfl ?_) | (refine wpL_stc M40 rfl rfl rfl rfl ?_; clear M40; intro w' M40) | (refine wpL_sti M40 rfl rfl rfl rfl ?_; clear M40; intro w' M40) | (refine wpL_sth M40 rfl rfl rfl rfl (wr_minus _ _ _) ?_; clear M40; intro w' M40) | (refine wpL_ldc M41 rfl rfl rfl ?_) | (refine wpL_lgc M41 rfl rfl rfl ?_) | (refine wpL_stc M41 rfl rfl rfl rfl ?_; clear M41; intro w' M41) | (refine wpL_sti M41 rfl rfl rfl rfl ?_; clear M41; intro w' M41) | (refine wpL_sth M41 rfl rfl rfl rfl (wr_minus _ _ _) ?_; clear M41; intro w' M41))))
  obtain ⟨w6, hw6⟩ : ∃ w6, w6 = w' := ⟨_, rfl⟩
  rw [← hw6] at M41 ⊢
  obtain ⟨g14, hg14⟩ : ∃ g14, g14 = g41 := ⟨_, rfl⟩
  rw [← hg14] at M41 ⊢
  have M6 : Mem wA w6 [(g14, 32, fc x y (.slice a1 n c1))] := Mem.join M5 M41
  have HV6 := Lib.hid (HV0.out.below M41.below)
  clear hw6 hg14 M5 M41 HV0
  go_wp2_with fail
  refine (HCMl.out _ (HBW.out _ M6.below)).mono ?_
  rintro e w7 ⟨aL, cL, rfl, hL, hA⟩
  have M7 := M6.call hA
  have HV7 := Lib.hid (HV6.out.below hA)
  go_wp2_with fail
  refine (HCR.out _ _ _ hL).mono ?_
  rintro e w8 ⟨a2, c2, rfl, hU, hA⟩
  have M8 := M7.call hA
  have HV8 := Lib.hid (HV7.out.below hA)
  have M50 := Mem.start w8
  have HU0 := Lib.hid hU
  clear hA hL hU M6 M7 HV6 HV7
  go_upto_region 6 with (((with_reducible refine (?_ : Go.wpList _ _ _ (_ :: _) _ _)); (first | go_skip | (refine wpL_bx M50 rfl rfl rfl rfl ?_; clear M50; intro g51 w51 M51) | (refine wpL_alc M50 rfl rfl ?_; clear M50; intro g51 w51 M51) | (refine wpL_ldc M50 rfl rfl rfl ?_) | (refine wpL_lgc M50 rfl rfl rfl ?_) | (refine wpL_stc M50 rfl rfl rfl rfl ?_; clear M50; intro w' M50) | (refine wpL_sti M50 rfl rfl rfl rfl ?_; clear M50; intro w' M50) | (refine wpL_sth M50 rfl rfl rfl rfl (wr_minus _ _ _) ?_; clear M50; intro w' M50) | (refine wpL_ldc M51 rfl rfl rfl ?_) | (refine wpL_lgc M51 rfl rfl rfl ?_) | (refine wpL_stc M51 rfl rfl rfl rfl ?_; clear M51; intro w' M51) | (refine wpL_sti M51 rfl rfl rfl rfl ?_; clear M51; intro w' M51) | (refine wpL_sth M51 rfl rfl rfl rfl (wr_minus _ _ _) ?_; clear M51; intro w' M51))))
  obtain ⟨w9, hw9⟩ : ∃ w9, w9 = w' := ⟨_, rfl⟩
  rw [← hw9] at M51 ⊢
  obtain ⟨g15, hg15⟩ : ∃ g15, g15 = g51 := ⟨_, rfl⟩
  rw [← hg15] at M51 ⊢
  have M9 : Mem wA w9 [(g15, 36, fc x y (.slice a2 n c2)), (g14, 32, fc x y (.slice a1 n c1))] := Mem.join M8 M51
  have HV9 := Lib.hid (HV8.out.below M51.below)
  have HU9 := Lib.hid (HU0.out.below M51.below)
  clear hw9 hg15 M8 M51 HV8 HU0
  have M19 := M9
  go_wp2_with ((with_reducible refine (?_ : Go.wpList _ _ _ (_ :: _) _ _)); (first | go_skip | (refine wpL_ldc M19 rfl rfl rfl ?_) | (refine wpL_lgc M19 rfl rfl rfl ?_) | (refine wpL_stc M19 rfl rfl rfl rfl ?_; clear M19; intro w' M19) | (refine wpL_sti M19 rfl rfl rfl rfl ?_; clear M19; intro w' M19) | (refine wpL_sth M19 rfl rfl rfl rfl (wr_minus _ _ _) ?_; clear M19; intro w' M19)))
  have HI : Hid (∃ (a1 : Option Addr) (c1 : Nat) (a2 : Option Addr) (c2 : Nat) (gs vs : List Nat), FilOk (31 + 24 * 0) ⟨x, y, vs⟩ ∧ Lt (31 + 24 * 0) gs ∧ Prp gs vs ∧ vs.length = n ∧ IsV w9 a1 n c1 gs ∧ IsU w9 a2 n c2 vs ∧ Mem wA w9 [(g15, 36, fc x y (.slice a2 n c2)), (g14, 32, fc x y (.slice a1 n c1))]) := Lib.hid ⟨a1, c1, a2, c2, ul, ul, HF.out, HF.out.lt, Prp.refl _, HUL.out, HV9.out, HU9.out, M9⟩
  clear M9 M19 HV9 HU9
  go_loopw [16] (fun i wr => ∃ (k : Nat), k ≤ no ∧ i = .int .i64 k ∧ Hid (∃ (a1 : Option Addr) (c1 : Nat) (a2 : Option Addr) (c2 : Nat) (gs vs : List Nat), FilOk (31 + 24 * k) ⟨x, y, vs⟩ ∧ Lt (31 + 24 * k) gs ∧ Prp gs vs ∧ vs.length = n ∧ IsV wr a1 n c1 gs ∧ IsU wr a2 n c2 vs ∧ Mem wA wr [(g15, 36, fc x y (.slice a2 n c2)), (g14, 32, fc x y (.slice a1 n c1))])) (fun i _ => no - (intOf i).toNat)
  case atStart => exact ⟨0, Nat.zero_le _, rfl, HI⟩
  case round =>
    clear HI
    obtain ⟨i, hi, rfl, HI⟩ := hrel
    by_cases hlt : i < no
    · obtain ⟨o, ho⟩ : ∃ o, l[i]? = some o := ⟨_, List.getElem?_eq_getElem (by rw [HNO.out]; exact hlt)⟩
      have hk0 := HOP.out o (List.mem_of_getElem? ho)
      obtain ⟨b0, p0, rfl, hb, hco⟩ := cell_ops HS.out i o ho
      by_cases hkind : o.k % 5 < 2
      · obtain ⟨a1, c1, a2, c2, gs, vs, hF, hG, hP, hm, hV, hU, M⟩ := HI.out
        obtain ⟨vs2, hF2, hm2, C⟩ := act_low HCA.out ho hkind hk0.1 (wx := wr.drew) (HBW.out _ M.drew.below) (by omega) hF hG hP hm (hV.below ((Below.refl wr.heap.size wr).drew)) (hU.below ((Below.refl wr.heap.size wr).drew))
        obtain ⟨ok, oq, oa, on, oc, zs, X, Y, W, H⟩ := o
        have q0 := hco 0 _ rfl
        have q1 := hco 1 _ rfl
        have q2 := hco 2 _ rfl
        have q3 := hco 3 _ rfl
        have q4 := hco 4 _ rfl
        have q5 := hco 5 _ rfl
        have q6 := hco 6 _ rfl
        simp only [Nat.add_zero] at q0
        have HQ := Lib.hid (And.intro q0 (And.intro q1 (And.intro q2 (And.intro q3 (And.intro q4 (And.intro q5 q6))))))
        have HQW : ∀ wx, Below w.heap.size w wx → _ := fun wx hx => HQ.out.imp (fun h => (hx.cell (p := ⟨b0, p0 + i * 7, none⟩) hb).trans h) (fun h => h.imp (fun h => (hx.cell (p := ⟨b0, p0 + i * 7 + 1, none⟩) hb).trans h) (fun h => h.imp (fun h => (hx.cell (p := ⟨b0, p0 + i * 7 + 2, none⟩) hb).trans h) (fun h => h.imp (fun h => (hx.cell (p := ⟨b0, p0 + i * 7 + 3, none⟩) hb).trans h) (fun h => h.imp (fun h => (hx.cell (p := ⟨b0, p0 + i * 7 + 4, none⟩) hb).trans h) (fun h => h.imp (fun h => (hx.cell (p := ⟨b0, p0 + i * 7 + 5, none⟩) hb).trans h) (fun h => (hx.cell (p := ⟨b0, p0 + i * 7 + 6, none⟩) hb).trans h))))))
        have r0 := (HBW.out _ M.below).cell (p := ⟨b0, p0 + i * 7, none⟩) hb |>.trans q0
        have HQW := Lib.hid HQW
        simp only at hk0 hkind
        have ht5 : ok.tmod 5 = ok % 5 := Int.tmod_eq_emod_of_nonneg hk0.1
        obtain ⟨kd, hkd⟩ : ∃ kd : Int, kd = ok % 5 := ⟨_, rfl⟩
        have hkd2 : kd < 2 := by omega
        have hkd0 : 0 ≤ kd := by omega
        have ht5' : ok.tmod 5 = kd := by rw [ht5, hkd]
        have ht6' : ok % 5 = kd := hkd.symm
        have HC := Lib.hid C
        have HF2 := Lib.hid hF2
        have HM2 := Lib.hid hm2
        clear q0 q1 q2 q3 q4 q5 q6 hco HQ C hF2 hm2 hF hG hP hm hV hU HI ho ht5 hkd hkind
        go_wp2_with fail
        refine wp_region_N_drew (S := (fun w' : World => (w'.cell? ⟨g14, 0, none⟩ = some (.int .i64 x) ∧ w'.cell? ⟨g14, 1, none⟩ = some (.int .i64 y) ∧ w'.cell? ⟨g14, 2, none⟩ = some (.slice a1 n c1)) ∧ (w'.cell? ⟨g15, 0, none⟩ = some (.int .i64 x) ∧ w'.cell? ⟨g15, 1, none⟩ = some (.int .i64 y) ∧ w'.cell? ⟨g15, 2, none⟩ = some (.slice a2 n c2)) ∧ w'.cell? ⟨b0, p0 + i * 7, none⟩ = some (.int .u8 ok) ∧ w'.cell? ⟨b0, p0 + i * 7 + 1, none⟩ = some (.int .u8 oq) ∧ w'.cell? ⟨b0, p0 + i * 7 + 2, none⟩ = some (.slice oa on oc) ∧ w'.cell? ⟨b0, p0 + i * 7 + 3, none⟩ = some (.int .i8 X) ∧ w'.cell? ⟨b0, p0 + i * 7 + 4, none⟩ = some (.int .i8 Y) ∧ w'.cell? ⟨b0, p0 + i * 7 + 5, none⟩ = some (.int .u8 W) ∧ w'.cell? ⟨b0, p0 + i * 7 + 6, none⟩ = some (.int .u8 H))) 10 (by kernel_rfl) ?_
        have hHeld : (fun w' : World => (w'.cell? ⟨g14, 0, none⟩ = some (.int .i64 x) ∧ w'.cell? ⟨g14, 1, none⟩ = some (.int .i64 y) ∧ w'.cell? ⟨g14, 2, none⟩ = some (.slice a1 n c1)) ∧ (w'.cell? ⟨g15, 0, none⟩ = some (.int .i64 x) ∧ w'.cell? ⟨g15, 1, none⟩ = some (.int .i64 y) ∧ w'.cell? ⟨g15, 2, none⟩ = some (.slice a2 n c2)) ∧ w'.cell? ⟨b0, p0 + i * 7, none⟩ = some (.int .u8 ok) ∧ w'.cell? ⟨b0, p0 + i * 7 + 1, none⟩ = some (.int .u8 oq) ∧ w'.cell? ⟨b0, p0 + i * 7 + 2, none⟩ = some (.slice oa on oc) ∧ w'.cell? ⟨b0, p0 + i * 7 + 3, none⟩ = some (.int .i8 X) ∧ w'.cell? ⟨b0, p0 + i * 7 + 4, none⟩ = some (.int .i8 Y) ∧ w'.cell? ⟨b0, p0 + i * 7 + 5, none⟩ = some (.int .u8 W) ∧ w'.cell? ⟨b0, p0 + i * 7 + 6, none⟩ = some (.int .u8 H)) wr.drew := ⟨fcells (M.drew.has (.tail _ _ _ _ _ (Has.head _ _ _ _))), rcells17 (M.drew.has (Has.head _ _ _ _)), HQW.out _ (HBW.out _ M.drew.below)⟩
        refine wpAnyN_takeY (i := 2) (v := ?v1) rfl (by kernel_rfl) (by kernel_rfl) (by kernel_rfl) (fun _ _ _ h => h) rfl (Or.inl ⟨by rfl, ?hy1⟩) (fun _ => hHeld) ?rest1
        case hy1 => (intro w' _; go_simp; (try with_reducible rfl))
        try simp only [Act.put, puts]
        refine wpAnyN_takeY (i := 3) (v := ?v2) rfl (by kernel_rfl) (by kernel_rfl) (by kernel_rfl) (fun _ _ _ h => h) rfl (Or.inl ⟨by rfl, ?hy2⟩) (fun _ => hHeld) ?rest2
        case hy2 => (intro w' _; go_simp; (try with_reducible rfl))
        try simp only [Act.put, puts]
        refine wpAnyN_take (i := 0) (v := ?v3) rfl (by kernel_rfl) (by kernel_rfl) (by kernel_rfl) (fun _ _ _ h => h) rfl (by kernel_rfl) (by kernel_rfl) (Or.inl ⟨by rfl, ?hy3⟩) hHeld ?rest3
        case hy3 => (intro w' hSw; (try dsimp only at hSw); go_simp; (try with_reducible rfl))
        try simp only [Act.put, puts]
        refine wpAnyN_take (i := 1) (v := ?v4) rfl (by kernel_rfl) (by kernel_rfl) (by kernel_rfl) (fun _ _ _ h => h) rfl (by kernel_rfl) (by kernel_rfl) (Or.inl ⟨by rfl, ?hy4⟩) hHeld ?rest4
        case hy4 => (intro w' hSw; (try dsimp only at hSw); go_simp; (try with_reducible rfl))
        try simp only [Act.put, puts]
        refine wpAnyN_takeY (i := 4) (v := ?v5) rfl (by kernel_rfl) (by kernel_rfl) (by kernel_rfl) (fun _ _ _ h => h) rfl (Or.inl ⟨by rfl, ?hy5⟩) (fun _ => hHeld) ?rest5
        case hy5 => (intro w' _; go_simp; (try with_reducible rfl))
        try simp only [Act.put, puts]
        refine wpAnyN_take (i := 5) (v := ?v6) rfl (by kernel_rfl) (by kernel_rfl) (by kernel_rfl) (fun _ _ _ h => h) rfl (by kernel_rfl) (by kernel_rfl) (Or.inl ⟨by rfl, ?hy6⟩) hHeld ?rest6
        case hy6 => (intro w' hSw; (try dsimp only at hSw); go_simp; (try with_reducible rfl))
        try simp only [Act.put, puts]
        refine wpAnyN_ready (rs := [6]) (by kernel_rfl) (by simp) ?_
        refine AllReadyN.cons rfl (fun K hK => ?_) AllReadyN.nil
        go_simp
        refine HC.out.mono ?_
        rintro e w6 ⟨b1, e1, b2, e2, gs2, rfl, hV, hP, hG, hU, hA⟩
        have M6 := M.drew.call hA
        have HV := Lib.hid hV
        have HU := Lib.hid hU
        have HP := Lib.hid hP
        have HG := Lib.hid hG
        clear hV hU hP hG hA
        try go_wp2_with fail
        replace hHeld : (fun w' : World => (w'.cell? ⟨g14, 0, none⟩ = some (.int .i64 x) ∧ w'.cell? ⟨g14, 1, none⟩ = some (.int .i64 y) ∧ w'.cell? ⟨g14, 2, none⟩ = some (.slice a1 n c1)) ∧ (w'.cell? ⟨g15, 0, none⟩ = some (.int .i64 x) ∧ w'.cell? ⟨g15, 1, none⟩ = some (.int .i64 y) ∧ w'.cell? ⟨g15, 2, none⟩ = some (.slice a2 n c2)) ∧ w'.cell? ⟨b0, p0 + i * 7, none⟩ = some (.int .u8 ok) ∧ w'.cell? ⟨b0, p0 + i * 7 + 1, none⟩ = some (.int .u8 oq) ∧ w'.cell? ⟨b0, p0 + i * 7 + 2, none⟩ = some (.slice oa on oc) ∧ w'.cell? ⟨b0, p0 + i * 7 + 3, none⟩ = some (.int .i8 X) ∧ w'.cell? ⟨b0, p0 + i * 7 + 4, none⟩ = some (.int .i8 Y) ∧ w'.cell? ⟨b0, p0 + i * 7 + 5, none⟩ = some (.int .u8 W) ∧ w'.cell? ⟨b0, p0 + i * 7 + 6, none⟩ = some (.int .u8 H)) _ := ⟨fcells (M6.has (.tail _ _ _ _ _ (Has.head _ _ _ _))), rcells17 (M6.has (Has.head _ _ _ _)), HQW.out _ (HBW.out _ M6.below)⟩
        refine hK.out _ _ (fun _ => hHeld) ?_
        clear hK K
        try simp only [Act.put, puts]
        refine wpAnyN_takeY (i := 7) (v := ?v8) rfl (by kernel_rfl) (by kernel_rfl) (by kernel_rfl) (fun _ _ _ h => h) rfl (Or.inl ⟨by rfl, ?hy8⟩) (fun _ => hHeld) ?rest8
        case hy8 => (intro w' _; go_simp; (try with_reducible rfl))
        try simp only [Act.put, puts]
        refine wpAnyN_takeY (i := 8) (v := ?v9) rfl (by kernel_rfl) (by kernel_rfl) (by kernel_rfl) (fun _ _ _ h => h) rfl (Or.inl ⟨by rfl, ?hy9⟩) (fun _ => hHeld) ?rest9
        case hy9 => (intro w' _; go_simp; (try with_reducible rfl))
        try simp only [Act.put, puts]
        refine wpAnyN_takeY (i := 9) (v := ?v10) rfl (by kernel_rfl) (by kernel_rfl) (by kernel_rfl) (fun _ _ _ h => h) rfl (Or.inl ⟨by rfl, ?hy10⟩) (fun _ => hHeld) ?rest10
        case hy10 => (intro w' _; go_simp; (try with_reducible rfl))
        try simp only [Act.put, puts]
        refine wpAnyN_ready (rs := [10]) (by kernel_rfl) (by simp) ?_
        refine AllReadyN.cons rfl (fun K hK => ?_) AllReadyN.nil
        rw [if_pos (by rfl)]
        refine Grid.wp_stM (v := fv x y (.slice b1 n e1)) M6 rfl rfl rfl (wr_fx _ _ _ _ _ _ _ _) (.tail _ _ _ _ _ _ _ (Upd.head _ _ _ _ _)) ?_
        intro w7 M7 hT7
        have HV7 := Lib.hid (HV.out.turnedB (M6.has (.tail _ _ _ _ _ (Has.head _ _ _ _))) (by decide) (noPart_f _ _ _ _ _) hT7)
        have HU7 := Lib.hid (HU.out.turnedB (M6.has (.tail _ _ _ _ _ (Has.head _ _ _ _))) (by decide) (by decide) hT7)
        refine hK.out _ _ (fun h => by have h' : (true : Bool) = false := h; cases h') ?_
        clear hK K
        try simp only [Act.put, puts]
        refine wpAnyN_ready (rs := [11]) (by kernel_rfl) (by simp) ?_
        refine AllReadyN.cons rfl (fun K hK => ?_) AllReadyN.nil
        rw [if_pos (by rfl)]
        refine Grid.wp_stM (v := fv x y (.slice b2 n e2)) M7 rfl rfl rfl (wr_f _ _ _ _ _ _ _ _) (Upd.head _ _ _ _ _) ?_
        intro w8 M8 hT8
        have HV8 := Lib.hid (HV7.out.turnedB (M7.has (Has.head _ _ _ _)) (by decide) (noPart_f _ _ _ _ _) hT8)
        have HU8 := Lib.hid (HU7.out.turnedB (M7.has (Has.head _ _ _ _)) (by decide) (by decide) hT8)
        refine hK.out _ _ (fun h => by have h' : (true : Bool) = false := h; cases h') ?_
        clear hK K
        try simp only [Act.put, puts]
        refine wpAnyN_done (by kernel_rfl) ?_ _
        have HI : Hid (∃ (a1 : Option Addr) (c1 : Nat) (a2 : Option Addr) (c2 : Nat) (gs vs : List Nat), FilOk (31 + 24 * (i + 1)) ⟨x, y, vs⟩ ∧ Lt (31 + 24 * (i + 1)) gs ∧ Prp gs vs ∧ vs.length = n ∧ IsV w8 a1 n c1 gs ∧ IsU w8 a2 n c2 vs ∧ Mem wA w8 [(g15, 36, fc x y (.slice a2 n c2)), (g14, 32, fc x y (.slice a1 n c1))]) := Lib.hid ⟨b1, e1, b2, e2, gs2, vs2, by rw [show 31 + 24 * (i + 1) = 31 + 24 * i + 24 by omega]; exact HF2.out, by rw [show 31 + 24 * (i + 1) = 31 + 24 * i + 24 by omega]; exact HG.out, HP.out, HM2.out, HV8.out, HU8.out, M8⟩
        clear M M6 M7 M8 hT7 hT8 HV HV7 HV8 HU HU7 HU8 HC HF2 HM2 HP HG r0
        go_wp2_with fail
        go_roundw
        case rel => exact ⟨i + 1, by omega, by go_num, HI⟩
        case measure => simp [intOf]; omega
      · obtain ⟨_, _, _, _, _, _, _, _, _, _, _, _, M⟩ := HI.out
        have r0 := ((HBW.out _ M.below).cell (p := ⟨b0, p0 + i * 7, none⟩) hb).trans (by simpa using hco 0 _ rfl)
        have ht5 : o.k.tmod 5 = o.k % 5 := Int.tmod_eq_emod_of_nonneg hk0.1
        obtain ⟨ok, hok⟩ : ∃ ok, ok = o.k := ⟨_, rfl⟩
        rw [← hok] at r0 ht5 hkind
        obtain ⟨kd, hkd⟩ : ∃ kd : Int, kd = ok % 5 := ⟨_, rfl⟩
        have hkd2 : ¬ kd < 2 := by omega
        have hkd0 : 0 ≤ kd ∧ kd < 5 := by omega
        have ht5' : ok.tmod 5 = kd := by rw [ht5, hkd]
        have ht6' : ok % 5 = kd := hkd.symm
        have HI : Hid (∃ (a1 : Option Addr) (c1 : Nat) (a2 : Option Addr) (c2 : Nat) (gs vs : List Nat), FilOk (31 + 24 * (i + 1)) ⟨x, y, vs⟩ ∧ Lt (31 + 24 * (i + 1)) gs ∧ Prp gs vs ∧ vs.length = n ∧ IsV wr a1 n c1 gs ∧ IsU wr a2 n c2 vs ∧ Mem wA wr [(g15, 36, fc x y (.slice a2 n c2)), (g14, 32, fc x y (.slice a1 n c1))]) := Lib.hid (by
          obtain ⟨a1, c1, a2, c2, gs, vs, hF, hG, hP, hm, hV, hU, M⟩ := HI.out
          refine ⟨a1, c1, a2, c2, gs, vs, ⟨hF.x1, hF.x8, hF.y1, hF.y8, hF.len, hF.lt.mono (by omega)⟩, hG.mono (by omega), hP, hm, hV, hU, M⟩)
        clear hco ht5 hkd hok hkind M ho hk0
        go_wp2_with fail
        go_roundw
        case rel => exact ⟨i + 1, by omega, by go_num, HI⟩
        case measure => simp [intOf]; omega
    · obtain rfl : i = no := by omega
      obtain ⟨a1, c1, a2, c2, gs, vs, hF, hG, hP, hm, hV, hU, M⟩ := HI.out
      obtain ⟨R, O1, O2, O3⟩ := HCO.out (31 + 24 * i) gs vs (by omega) hG hF.lt hP hm
      have HO1 := Lib.hid O1
      have HO2 := Lib.hid O2
      have HO3 := Lib.hid O3
      have HV := Lib.hid (hV.below (Below.refl wr.heap.size wr).drew)
      have HU := Lib.hid (hU.below (Below.refl wr.heap.size wr).drew)
      have hRR : (R == R) = true := by cases R <;> rfl
      clear hF hG hP hm hV hU O1 O2 O3 HI
      go_wp2_with fail
      refine wp_region_held_drew (S := (fun w' : World => (w'.cell? ⟨g13, 0, none⟩ = some (.int .i64 x) ∧ w'.cell? ⟨g13, 1, none⟩ = some (.int .i64 y) ∧ w'.cell? ⟨g13, 2, none⟩ = some (.int .i64 1000) ∧ w'.cell? ⟨g13, 3, none⟩ = some (.int .i64 (-1000)) ∧ w'.cell? ⟨g13, 4, none⟩ = some (.int .i64 S) ∧ w'.cell? ⟨g13, 5, none⟩ = some (.slice aG n cG)) ∧ (w'.cell? ⟨g14, 0, none⟩ = some (.int .i64 x) ∧ w'.cell? ⟨g14, 1, none⟩ = some (.int .i64 y) ∧ w'.cell? ⟨g14, 2, none⟩ = some (.slice a1 n c1)) ∧ (w'.cell? ⟨g15, 0, none⟩ = some (.int .i64 x) ∧ w'.cell? ⟨g15, 1, none⟩ = some (.int .i64 y) ∧ w'.cell? ⟨g15, 2, none⟩ = some (.slice a2 n c2)))) (by kernel_rfl) (⟨gcells (K13.out.below M.drew.below K13.out.lt), fcells (M.drew.has (.tail _ _ _ _ _ (Has.head _ _ _ _))), rcells17 (M.drew.has (Has.head _ _ _ _))⟩) (fun hHeld => ?_)
      refine tkT 0 ?v13 ?hy13 hHeld ?rest13
      case hy13 => (intro w' hSw; (try dsimp only at hSw); go_simp; (try with_reducible rfl))
      try simp only [Act.put, puts]
      refine tkT 1 ?v14 ?hy14 hHeld ?rest14
      case hy14 => (intro w' hSw; (try dsimp only at hSw); go_simp; (try with_reducible rfl))
      try simp only [Act.put, puts]
      refine tkT 2 ?v15 ?hy15 hHeld ?rest15
      case hy15 => (intro w' hSw; (try dsimp only at hSw); go_simp; (try with_reducible rfl))
      try simp only [Act.put, puts]
      refine tkT 4 ?v16 ?hy16 hHeld ?rest16
      case hy16 => (intro w' hSw; (try dsimp only at hSw); go_simp; (try with_reducible rfl))
      try simp only [Act.put, puts]
      refine tkT 5 ?v17 ?hy17 hHeld ?rest17
      case hy17 => (intro w' hSw; (try dsimp only at hSw); go_simp; (try with_reducible rfl))
      try simp only [Act.put, puts]
      refine tkT 6 ?v18 ?hy18 hHeld ?rest18
      case hy18 => (intro w' hSw; (try dsimp only at hSw); go_simp; (try with_reducible rfl))
      try simp only [Act.put, puts]
      refine wpAnyH_ready (rs := [3]) (by kernel_rfl) (by simp) ?_
      refine AllReadyH.cons rfl (fun K hK => ?_) AllReadyH.nil
      go_simp
      refine (HO1.out _ _ _ _ _ (RG.out.below M.drew.below) HV.out).mono ?_
      rintro e w3 ⟨rfl, hA⟩
      have M3 := M.drew.call hA
      have HV3 := Lib.hid (HV.out.below hA)
      have HU3 := Lib.hid (HU.out.below hA)
      clear hA HV HU
      try go_wp2_with fail
      refine hK.out _ _ (⟨gcells (K13.out.below M3.below K13.out.lt), fcells (M3.has (.tail _ _ _ _ _ (Has.head _ _ _ _))), rcells17 (M3.has (Has.head _ _ _ _))⟩) (fun hHeld => ?_)
      clear hK K
      try simp only [Act.put, puts]
      refine wpAnyH_ready (rs := [7]) (by kernel_rfl) (by simp) ?_
      refine AllReadyH.cons rfl (fun K hK => ?_) AllReadyH.nil
      go_simp
      refine (HO2.out _ _ _ _ _ (RG.out.below M3.below) HU3.out).mono ?_
      rintro e w7 ⟨rfl, hA⟩
      have M7 := M3.call hA
      have HV7 := Lib.hid (HV3.out.below hA)
      clear hA HV3 HU3
      try go_wp2_with fail
      refine hK.out _ _ (⟨gcells (K13.out.below M7.below K13.out.lt), fcells (M7.has (.tail _ _ _ _ _ (Has.head _ _ _ _))), rcells17 (M7.has (Has.head _ _ _ _))⟩) (fun hHeld => ?_)
      clear hK K
      try simp only [Act.put, puts]
      refine tkT 8 ?v21 ?hy21 hHeld ?rest21
      case hy21 => (intro w' hSw; (try dsimp only at hSw); go_simp; (try with_reducible rfl))
      try simp only [Act.put, puts]
      refine tkT 9 ?v22 ?hy22 hHeld ?rest22
      case hy22 => (intro w' hSw; (try dsimp only at hSw); go_simp; (try with_reducible rfl))
      try simp only [Act.put, puts]
      refine tkT 10 ?v23 ?hy23 hHeld ?rest23
      case hy23 => (intro w' hSw; (try dsimp only at hSw); go_simp; (try with_reducible rfl))
      try simp only [Act.put, puts]
      refine tkT 11 ?v24 ?hy24 hHeld ?rest24
      case hy24 => (intro w' hSw; (try dsimp only at hSw); go_simp; (try with_reducible rfl))
      try simp only [Act.put, puts]
      refine wpAnyH_ready (rs := [12]) (by kernel_rfl) (by simp) ?_
      refine AllReadyH.cons rfl (fun K hK => ?_) AllReadyH.nil
      go_simp
      refine (HCFm.out _ _ _ (RG.out.below M7.below)).mono ?_
      rintro e w12 ⟨a3, c3, rfl, hV3, hA⟩
      have M12 := M7.call hA
      have HV12 := Lib.hid (HV7.out.below hA)
      have HZ := Lib.hid hV3
      clear hA HV7 hV3
      try go_wp2_with fail
      refine hK.out _ _ (⟨gcells (K13.out.below M12.below K13.out.lt), fcells (M12.has (.tail _ _ _ _ _ (Has.head _ _ _ _))), rcells17 (M12.has (Has.head _ _ _ _))⟩) (fun hHeld => ?_)
      clear hK K
      try simp only [Act.put, puts]
      refine wpAnyH_ready (rs := [13]) (by kernel_rfl) (by simp) ?_
      refine AllReadyH.cons rfl (fun K hK => ?_) AllReadyH.nil
      go_simp
      refine (HCZ.out _ _ _ _ _ (RG.out.below M12.below) HZ.out).mono ?_
      rintro e w13 ⟨rfl, hA⟩
      have M13 := M12.call hA
      have HV13 := Lib.hid (HV12.out.below hA)
      clear hA HV12 HZ
      try go_wp2_with fail
      refine hK.out _ _ (⟨gcells (K13.out.below M13.below K13.out.lt), fcells (M13.has (.tail _ _ _ _ _ (Has.head _ _ _ _))), rcells17 (M13.has (Has.head _ _ _ _))⟩) (fun hHeld => ?_)
      clear hK K
      try simp only [Act.put, puts]
      refine tkT 14 ?v27 ?hy27 hHeld ?rest27
      case hy27 => (intro w' hSw; (try dsimp only at hSw); go_simp; (try with_reducible rfl))
      try simp only [Act.put, puts]
      refine tkT 15 ?v28 ?hy28 hHeld ?rest28
      case hy28 => (intro w' hSw; (try dsimp only at hSw); go_simp; (try with_reducible rfl))
      try simp only [Act.put, puts]
      refine tkT 16 ?v29 ?hy29 hHeld ?rest29
      case hy29 => (intro w' hSw; (try dsimp only at hSw); go_simp; (try with_reducible rfl))
      try simp only [Act.put, puts]
      refine tkT 17 ?v30 ?hy30 hHeld ?rest30
      case hy30 => (intro w' hSw; (try dsimp only at hSw); go_simp; (try with_reducible rfl))
      try simp only [Act.put, puts]
      refine tkT 18 ?v31 ?hy31 hHeld ?rest31
      case hy31 => (intro w' hSw; (try dsimp only at hSw); go_simp; (try with_reducible rfl))
      try simp only [Act.put, puts]
      refine wpAnyH_ready (rs := [19]) (by kernel_rfl) (by simp) ?_
      refine AllReadyH.cons rfl (fun K hK => ?_) AllReadyH.nil
      go_simp
      refine (HO3.out _ _ _ _ _ (RG.out.below M13.below) HV13.out).mono ?_
      rintro e w19 ⟨rfl, hA⟩
      have M19 := M13.call hA
      clear hA HV13
      try go_wp2_with fail
      refine hK.out _ _ (⟨gcells (K13.out.below M19.below K13.out.lt), fcells (M19.has (.tail _ _ _ _ _ (Has.head _ _ _ _))), rcells17 (M19.has (Has.head _ _ _ _))⟩) (fun hHeld => ?_)
      clear hK K
      try simp only [Act.put, puts]
      refine tkT 20 ?v33 ?hy33 hHeld ?rest33
      case hy33 => (intro w' hSw; (try dsimp only at hSw); go_simp; (try with_reducible rfl))
      try simp only [Act.put, puts]
      refine tkT 21 ?v34 ?hy34 hHeld ?rest34
      case hy34 => (intro w' hSw; (try dsimp only at hSw); go_simp; (try with_reducible rfl))
      try simp only [Act.put, puts]
      refine tkT 22 ?v35 ?hy35 hHeld ?rest35
      case hy35 => (intro w' hSw; (try dsimp only at hSw); go_simp; (try with_reducible rfl))
      try simp only [Act.put, puts]
      refine wpAnyH_ready (rs := [23]) (by kernel_rfl) (by simp) ?_
      refine AllReadyH.cons rfl (fun K hK => ?_) AllReadyH.nil
      go_simp
      refine (HCW.out _ (HBW.out _ M19.below)).mono ?_
      rintro e w23 ⟨rfl, hA⟩
      have M23 := M19.call hA
      clear hA
      try go_wp2_with fail
      refine hK.out _ _ (⟨gcells (K13.out.below M23.below K13.out.lt), fcells (M23.has (.tail _ _ _ _ _ (Has.head _ _ _ _))), rcells17 (M23.has (Has.head _ _ _ _))⟩) (fun hHeld => ?_)
      clear hK K
      try simp only [Act.put, puts]
      refine tkT 24 ?v37 ?hy37 hHeld ?rest37
      case hy37 => (intro w' hSw; (try dsimp only at hSw); go_simp; (try with_reducible rfl))
      try simp only [Act.put, puts]
      refine tkT 25 ?v38 ?hy38 hHeld ?rest38
      case hy38 => (intro w' hSw; (try dsimp only at hSw); go_simp; (try with_reducible rfl))
      try simp only [Act.put, puts]
      refine wpAnyH_done (by kernel_rfl) ?_ _
      go_simp
      go_wp2_with fail
      go_ret
      exact ⟨rfl, HBW.out _ M23.below⟩
end Go.Proofs.YtanblpfpkohghaaDoor
