/-
  LedgerHolds: the walk.
-/
import Derived.Test.YtallbegibdlpaaaGreatPlayH
import Derived.Test.YtallbegibdlpaaaGreatLaw18w
import Derived.Test.YtallbegibdlpaaaGreatExactN
set_option linter.unusedVariables false
set_option linter.unusedSimpArgs false
namespace Go.Proofs.YtallbegibdlpaaaGreat
open Go Go.RowKit Go.Th Go.Th.Dig Go.Th.Ex Go.Th.Grid Go.Th.Wide Go.Th.Up Go.Th.Led

theorem OpOk.below18 {w w' : World} {o : OpV} (h : OpOk w o) (hB : Below w.heap.size w w') : OpOk w' o := ⟨h.k, h.q, h.X, h.Y, h.W, h.H, h.len, h.row.below hB, h.rng⟩
theorem zeroP18 : (Tryz.prog.info? 37).map (·.zero) = some (some (pv 0 0 0 0 0 (.slice none 0 0) 0 0 (.slice none 0 0) 0 0)) := by kernel_rfl
theorem gcells18 {w : World} {g : Nat} {x y X Y S : Int} {v : Value} (K : Blk w g 28 (gc x y X Y S v)) : w.cell? ⟨g, 0, none⟩ = some (.int .i64 x) ∧ w.cell? ⟨g, 1, none⟩ = some (.int .i64 y) ∧ w.cell? ⟨g, 2, none⟩ = some (.int .i64 X) ∧ w.cell? ⟨g, 3, none⟩ = some (.int .i64 Y) ∧ w.cell? ⟨g, 4, none⟩ = some (.int .i64 S) ∧ w.cell? ⟨g, 5, none⟩ = some v :=
  ⟨K.cell (i := 0) rfl, K.cell (i := 1) rfl, K.cell (i := 2) rfl, K.cell (i := 3) rfl, K.cell (i := 4) rfl, K.cell (i := 5) rfl⟩
theorem pcells18 {w : World} {g : Nat} {x y X Y S : Int} {v : Value} {fx fy : Int} {f : Value} {B St : Int} (K : Blk w g 37 (pc x y X Y S v fx fy f B St)) : w.cell? ⟨g, 0, none⟩ = some (.int .i64 x) ∧ w.cell? ⟨g, 1, none⟩ = some (.int .i64 y) ∧ w.cell? ⟨g, 2, none⟩ = some (.int .i64 X) ∧ w.cell? ⟨g, 3, none⟩ = some (.int .i64 Y) ∧ w.cell? ⟨g, 4, none⟩ = some (.int .i64 S) ∧ w.cell? ⟨g, 5, none⟩ = some v ∧ w.cell? ⟨g, 6, none⟩ = some (.int .i64 fx) ∧ w.cell? ⟨g, 7, none⟩ = some (.int .i64 fy) ∧ w.cell? ⟨g, 8, none⟩ = some f ∧ w.cell? ⟨g, 9, none⟩ = some (.int .i64 B) ∧ w.cell? ⟨g, 10, none⟩ = some (.int .i64 St) :=
  ⟨K.cell (i := 0) rfl, K.cell (i := 1) rfl, K.cell (i := 2) rfl, K.cell (i := 3) rfl, K.cell (i := 4) rfl, K.cell (i := 5) rfl, K.cell (i := 6) rfl, K.cell (i := 7) rfl, K.cell (i := 8) rfl, K.cell (i := 9) rfl, K.cell (i := 10) rfl⟩
theorem check18 {j x y n : Nat} {X Y S B St : Int} {p : List Int} {us : List Nat} (H : PlayOk j x y n X Y S B St p us) (wx : World) (a : Option Addr) (c : Nat) (hS : Sl wx 1 (.slice a n c) n (i64s p)) :
    Calls Tryz.prog 9 #[gv x y X Y S (.slice a n c)] wx fun e w' => e = .returned (.int .i64 0) ∧ Below wx.heap.size wx w' := by
  have hn := H.n64
  have hx8 := H.x8
  have hy8 := H.y8
  obtain ⟨e, he, hSe⟩ := H.S
  have hse := step_rng18 he
  have hc : chk x y S p = 0 := chk_of (sidesG_iff.2 ⟨⟨by omega, by omega⟩, ⟨by omega, by omega⟩, by omega, by omega⟩) (by rw [H.led.pl, H.hn]; simp) (led_rng H.led) ⟨by rw [H.led.pl]; exact H.led.lo, H.led.hi⟩
  have r := gcheck_any x y X Y S a n c p H.led.pl (by omega) wx hS
  rw [hc] at r
  exact r
theorem over18p {j x y n : Nat} {X Y S B St : Int} {p : List Int} {us : List Nat} (H : PlayOk j x y n X Y S B St p us) (hj : j ≤ 8) (wx : World) (a a2 : Option Addr) (c c2 : Nat) (hS : Sl wx 1 (.slice a n c) n (i64s p)) (hV : IsV wx a2 n c2 us) :
    Calls Tryz.prog 10 #[gv x y X Y S (.slice a n c), fv x y (.slice a2 n c2), .int .i64 B] wx fun e w' => e = .returned (.bool false) ∧ Below wx.heap.size wx w' := by
  have hn := H.n64
  have hB1 := H.B1
  have hr := led_rng H.led
  have hul : (p.map Int.toNat).length = n := by rw [List.length_map]; exact H.led.pl
  have hget : ∀ i, i < n → p.getD i 0 = (((p.map Int.toNat).getD i 0 : Nat) : Int) := fun i hi => by
    have hi2 : i < p.length := by rw [H.led.pl]; exact hi
    rw [List.getD_eq_getElem?_getD, List.getD_eq_getElem?_getD, List.getElem?_map, List.getElem?_eq_getElem hi2]
    have := hr _ (List.getElem_mem hi2)
    simp
    omega
  have hlt : Lt 63 (p.map Int.toNat) := by
    intro i
    rw [List.getD_eq_getElem?_getD, List.getElem?_map]
    cases hq : p[i]? with
    | none => exact Nat.pow_pos (by decide)
    | some u =>
      have := hr u (List.mem_of_getElem? hq)
      show u.toNat < 2 ^ 63
      have e : (2 : Nat) ^ 63 = 9223372036854775808 := by decide
      omega
  have r := over_any17 x y X Y S x y B a a2 n c c2 (31 + 24 * j) p (p.map Int.toNat) us H.led.pl hul hget hlt H.lt (by omega) (by omega) (by omega) wx hS hV
  rw [H.led.over hul hget] at r
  exact r
/-- A row of numbers that lies where it was, or in a block of its own kind. -/
def RowG (wA wx : World) (a : Option Addr) (m c : Nat) (p : List Int) : Prop := Sl wA 1 (.slice a m c) m (i64s p) ∨ ∃ base, wx.ownsRow base 2 1 (.slice a m c) m (i64s p)
theorem RowG.sl {wA wx : World} {a : Option Addr} {m c : Nat} {p : List Int} (h : RowG wA wx a m c p) (hB : Below wA.heap.size wA wx) : Sl wx 1 (.slice a m c) m (i64s p) := by
  rcases h with h | ⟨_, h⟩
  · exact h.below hB
  · exact Sl.of_own h
theorem RowG.below {wA wx w' : World} {a : Option Addr} {m c : Nat} {p : List Int} (h : RowG wA wx a m c p) (hB : Below wx.heap.size wx w') : RowG wA w' a m c p := by
  rcases h with h | ⟨_, h⟩
  · exact .inl h
  · exact .inr ⟨_, ownsRow_below h hB⟩
theorem RowG.turned {wA wx w' : World} {a : Option Addr} {m c : Nat} {p : List Int} {g : Nat} {cs : List Value} (h : RowG wA wx a m c p) (K : Blk wx g 37 cs) (hT : Turned (fun k => k = g) wx w') : RowG wA w' a m c p := by
  rcases h with h | ⟨_, h⟩
  · exact .inl h
  · exact .inr ⟨_, Grid.gown_turned h K (by decide) hT⟩
/-- Grid, filter and book, behind so many acts. -/
def Is18 (wA wx : World) (g12 k : Nat) : Prop :=
  ∃ (x y n : Nat) (X Y S B St : Int) (p : List Int) (us : List Nat) (aG aF : Option Addr) (cG cF : Nat), PlayOk k x y n X Y S B St p us ∧ RowG wA wx aG n cG p ∧ IsV wx aF n cF us ∧ Mem wA wx [(g12, 37, pc x y X Y S (.slice aG n cG) x y (.slice aF n cF) B St)]
/-- What an act has left, if it was done. -/
def Nx (wA wx : World) (j x y n : Nat) (X Y S B St : Int) (aG aF : Option Addr) (cG cF : Nat) (b : Bool) : Prop := b = true → ∃ p us, PlayOk j x y n X Y S B St p us ∧ RowG wA wx aG n cG p ∧ IsV wx aF n cF us
theorem Nx.of {wA wx : World} {j x y n : Nat} {X Y S B St : Int} {aG aF : Option Addr} {cG cF : Nat} {b : Bool} (h : b = true → ∃ p us, PlayOk j x y n X Y S B St p us ∧ (∃ base, wx.ownsRow base 2 1 (.slice aG n cG) n (i64s p)) ∧ IsV wx aF n cF us) : Nx wA wx j x y n X Y S B St aG aF cG cF b := fun hb => by
  obtain ⟨p, us, h1, h2, h3⟩ := h hb
  exact ⟨p, us, h1, .inr h2, h3⟩
theorem Nx.below {wA wx w' : World} {j x y n : Nat} {X Y S B St : Int} {aG aF : Option Addr} {cG cF : Nat} {b : Bool} (h : Nx wA wx j x y n X Y S B St aG aF cG cF b) (hB : Below wx.heap.size wx w') : Nx wA w' j x y n X Y S B St aG aF cG cF b := fun hb => by
  obtain ⟨p, us, h1, h2, h3⟩ := h hb
  exact ⟨p, us, h1, h2.below hB, h3.below hB⟩
theorem Nx.turned {wA wx w' : World} {j x y n : Nat} {X Y S B St : Int} {aG aF : Option Addr} {cG cF : Nat} {b : Bool} {g : Nat} {cs : List Value} (h : Nx wA wx j x y n X Y S B St aG aF cG cF b) (K : Blk wx g 37 cs) (hno : NoPart cs) (hT : Turned (fun k => k = g) wx w') : Nx wA w' j x y n X Y S B St aG aF cG cF b := fun hb => by
  obtain ⟨p, us, h1, h2, h3⟩ := h hb
  exact ⟨p, us, h1, h2.turned K hT, h3.turnedB K (by decide) hno hT⟩

set_option maxRecDepth 20000 in
set_option maxHeartbeats 12800000 in
theorem holds_go (p q st k ca no co x y n : Nat) (S : Int) (a ao : Option Addr) (us : List Nat) (L : List Int) (l : List OpV) (hno : l.length = no) (hno8 : no ≤ 8) (hk100 : decide (100 < (k : Int)) = false) (hP : PlayOk 0 x y n 1000 (-1000) S 0 0 L us) (w : World)
    (CL : ∀ wx, Below w.heap.size w wx → Calls Tryz.prog 4 #[.slice ao no co] wx fun e w' => e = .returned (.int .i64 0) ∧ wx = w')
    (CM : ∀ wx, Below w.heap.size w wx → Calls Tryz.prog 6 #[.int .u8 p, .int .u8 q, .slice a k ca, .int .u8 st] wx fun e w' => ∃ a' cap', e = .returned (gv x y 1000 (-1000) S (.slice a' n cap')) ∧ Sl w' 1 (.slice a' n cap') n (i64s L) ∧ Below wx.heap.size wx w')
    (CF : ∀ wx a cap, Sl wx 1 (.slice a n cap) n (i64s L) → LAns18 7 #[gv x y 1000 (-1000) S (.slice a n cap)] x y n us wx)
    (hop : ∀ o ∈ l, OpOk w o ∧ o.n ≤ 300) (hS : Sl w 7 (.slice ao no co) no (opcs l)) :
    Calls Tryz.prog 3 #[.int .u8 p, .int .u8 q, .slice a k ca, .int .u8 st, .slice ao no co] w fun e w' => e = .returned (.bool true) ∧ Below w.heap.size w w' := by
  have HCL := Lib.hid CL
  have HCM := Lib.hid CM
  have HCF := Lib.hid CF
  have HS := Lib.hid hS
  have HNO := Lib.hid hno
  have HP := Lib.hid hP
  have HOP := Lib.hid hop
  have hmx := hS.max
  have M0 := Mem.start w
  clear CL CM CF hS hno hP hop
  go_enter Tryz.func3, Tryz.ntmps3
  go_wp2_with fail
  refine (HCL.out _ M0.below).mono ?_
  rintro e wz ⟨rfl, rfl⟩
  go_wp2_with fail
  refine (HCM.out _ M0.below).mono ?_
  rintro e w1 ⟨aG, cG, rfl, hG, hA⟩
  have M1 := M0.call hA
  have M20 := Mem.start w1
  have RG0 := Lib.hid hG
  clear hA hG M0 HCM HCL
  go_upto_region 4 with (((with_reducible refine (?_ : Go.wpList _ _ _ (_ :: _) _ _)); (first | go_skip | (refine wpL_bx M20 rfl rfl rfl rfl ?_; clear M20; intro g21 w21 M21) | (refine wpL_alc M20 rfl rfl ?_; clear M20; intro g21 w21 M21) | (refine wpL_ldc M20 rfl rfl rfl ?_) | (refine wpL_lgc M20 rfl rfl rfl ?_) | (refine wpL_stc M20 rfl rfl rfl rfl ?_; clear M20; intro w' M20) | (refine wpL_sti M20 rfl rfl rfl rfl ?_; clear M20; intro w' M20) | (refine wpL_sth M20 rfl rfl rfl rfl (wr_minus _ _ _) ?_; clear M20; intro w' M20) | (refine wpL_ldc M21 rfl rfl rfl ?_) | (refine wpL_lgc M21 rfl rfl rfl ?_) | (refine wpL_stc M21 rfl rfl rfl rfl ?_; clear M21; intro w' M21) | (refine wpL_sti M21 rfl rfl rfl rfl ?_; clear M21; intro w' M21) | (refine wpL_sth M21 rfl rfl rfl rfl (wr_minus _ _ _) ?_; clear M21; intro w' M21))))
  obtain ⟨wA, hwA⟩ : ∃ wA, wA = w' := ⟨_, rfl⟩
  rw [← hwA] at M21 ⊢
  obtain ⟨g11, hg11⟩ : ∃ g11, g11 = g21 := ⟨_, rfl⟩
  rw [← hg11] at M21 ⊢
  have K11 := Lib.hid (M21.has (Has.head _ _ _ _))
  have RG := Lib.hid (RG0.out.below M21.below)
  have RGA := RG
  have HBA := Lib.hid (M1.below.trans (M21.below.mono M1.below.size))
  have M := Mem.start wA
  clear hwA hg11 M1 M21 RG0
  try simp only [Act.put, puts]
  go_cut [12] from 16 (fun s12 wx => ∃ (g12 : Nat) (a1 : Option Addr) (c1 : Nat), s12 = .pointer (some ⟨g12, 0, none⟩) ∧ Mem wA wx [(g12, 37, pc x y 1000 (-1000) S (.slice aG n cG) x y (.slice a1 n c1) 0 0)] ∧ IsV wx a1 n c1 us)
  case first =>
    have M := M.drew
    replace RG := Lib.hid (RG.out.below ((Below.refl wA.heap.size wA).drew))
    refine wp_region_held_drew (S := (fun w' : World => w'.cell? ⟨g11, 0, none⟩ = some (.int .i64 x) ∧ w'.cell? ⟨g11, 1, none⟩ = some (.int .i64 y) ∧ w'.cell? ⟨g11, 2, none⟩ = some (.int .i64 1000) ∧ w'.cell? ⟨g11, 3, none⟩ = some (.int .i64 (-1000)) ∧ w'.cell? ⟨g11, 4, none⟩ = some (.int .i64 S) ∧ w'.cell? ⟨g11, 5, none⟩ = some (.slice aG n cG))) (by kernel_rfl) (gcells18 (K11.out.below M.below K11.out.lt)) (fun hHeld => ?_)
    refine tkT 0 ?v8801 ?hy8801 hHeld ?rest8801
    case hy8801 => (intro w' hSw; (try dsimp only at hSw); go_simp; (try with_reducible rfl))
    try simp only [Act.put, puts]
    refine tkT 1 ?v8802 ?hy8802 hHeld ?rest8802
    case hy8802 => (intro w' hSw; (try dsimp only at hSw); go_simp; (try with_reducible rfl))
    try simp only [Act.put, puts]
    refine wpAnyH_ready (rs := [2, 4]) (by kernel_rfl) (by simp) ?_
    refine AllReadyH.cons rfl (fun K hK => ?_) (AllReadyH.cons rfl (fun K hK => ?_) AllReadyH.nil)
    · go_simp
      refine (HCF.out _ _ _ RG.out).mono ?_
      rintro e wc ⟨a1, c1, rfl, hV, hA⟩
      replace M := M.call hA
      replace RG := Lib.hid (RG.out.below hA)
      have V1 := Lib.hid hV
      clear hV hA
      try go_wp2_with fail
      clear hHeld
      refine hK.out _ _ (gcells18 (K11.out.below M.below K11.out.lt)) (fun hHeld => ?_)
      clear hK K
      try simp only [Act.put, puts]
      refine tkT 3 ?v8803 ?hy8803 hHeld ?rest8803
      case hy8803 => (intro w' hSw; (try dsimp only at hSw); go_simp; (try with_reducible rfl))
      try simp only [Act.put, puts]
      refine wpAnyH_ready (rs := [4]) (by kernel_rfl) (by simp) ?_
      refine AllReadyH.cons rfl (fun K hK => ?_) AllReadyH.nil
      rw [if_pos (by rfl)]
      refine wp_al (Mem.start _) rfl zeroP18 rfl ?_
      intro g12 wn M9
      have hA := M9.below
      replace RG := Lib.hid (RG.out.below hA)
      try replace V1 := Lib.hid (V1.out.below hA)
      replace M : Mem wA wn [(g12, 37, pc 0 0 0 0 0 (.slice none 0 0) 0 0 (.slice none 0 0) 0 0)] := Mem.join M M9
      clear hA M9
      clear hHeld
      refine hK.out _ _ (gcells18 (K11.out.below M.below K11.out.lt)) (fun hHeld => ?_)
      clear hK K
      try simp only [Act.put, puts]
      refine wpAnyH_ready (rs := [5]) (by kernel_rfl) (by simp) ?_
      refine AllReadyH.cons rfl (fun K hK => ?_) AllReadyH.nil
      rw [if_pos (by rfl)]
      refine Grid.wp_stM M rfl rfl rfl (wr_p _ rfl x y 1000 (-1000) S x y 0 0 aG a1 n cG n c1) (Upd.head _ _ _ _ _) ?_
      intro wz Mn hTn
      replace V1 := Lib.hid (V1.out.turnedB (M.has (Has.head _ _ _ _)) (by decide) (noPart_p _ _ _ _ _ _ _ _ _ _ _ _ _ _ _) hTn)
      replace M := Mn
      clear hTn Mn
      clear hHeld
      refine hK.out _ _ (gcells18 (K11.out.below M.below K11.out.lt)) (fun hHeld => ?_)
      clear hK K
      try simp only [Act.put, puts]
      refine wpAnyH_done (by kernel_rfl) ?_ _
      go_wp2_with fail
      go_meet
      exact ⟨g12, a1, c1, rfl, M, V1.out⟩
    · rw [if_pos (by rfl)]
      refine wp_al (Mem.start _) rfl zeroP18 rfl ?_
      intro g12 wn M9
      have hA := M9.below
      replace RG := Lib.hid (RG.out.below hA)
      try replace V1 := Lib.hid (V1.out.below hA)
      replace M : Mem wA wn [(g12, 37, pc 0 0 0 0 0 (.slice none 0 0) 0 0 (.slice none 0 0) 0 0)] := Mem.join M M9
      clear hA M9
      clear hHeld
      refine hK.out _ _ (gcells18 (K11.out.below M.below K11.out.lt)) (fun hHeld => ?_)
      clear hK K
      try simp only [Act.put, puts]
      refine wpAnyH_ready (rs := [2]) (by kernel_rfl) (by simp) ?_
      refine AllReadyH.cons rfl (fun K hK => ?_) AllReadyH.nil
      go_simp
      refine (HCF.out _ _ _ RG.out).mono ?_
      rintro e wc ⟨a1, c1, rfl, hV, hA⟩
      replace M := M.call hA
      replace RG := Lib.hid (RG.out.below hA)
      have V1 := Lib.hid hV
      clear hV hA
      try go_wp2_with fail
      clear hHeld
      refine hK.out _ _ (gcells18 (K11.out.below M.below K11.out.lt)) (fun hHeld => ?_)
      clear hK K
      try simp only [Act.put, puts]
      refine tkT 3 ?v8804 ?hy8804 hHeld ?rest8804
      case hy8804 => (intro w' hSw; (try dsimp only at hSw); go_simp; (try with_reducible rfl))
      try simp only [Act.put, puts]
      refine wpAnyH_ready (rs := [5]) (by kernel_rfl) (by simp) ?_
      refine AllReadyH.cons rfl (fun K hK => ?_) AllReadyH.nil
      rw [if_pos (by rfl)]
      refine Grid.wp_stM M rfl rfl rfl (wr_p _ rfl x y 1000 (-1000) S x y 0 0 aG a1 n cG n c1) (Upd.head _ _ _ _ _) ?_
      intro wz Mn hTn
      replace V1 := Lib.hid (V1.out.turnedB (M.has (Has.head _ _ _ _)) (by decide) (noPart_p _ _ _ _ _ _ _ _ _ _ _ _ _ _ _) hTn)
      replace M := Mn
      clear hTn Mn
      clear hHeld
      refine hK.out _ _ (gcells18 (K11.out.below M.below K11.out.lt)) (fun hHeld => ?_)
      clear hK K
      try simp only [Act.put, puts]
      refine wpAnyH_done (by kernel_rfl) ?_ _
      go_wp2_with fail
      go_meet
      exact ⟨g12, a1, c1, rfl, M, V1.out⟩
  clear M
  obtain ⟨g12, a1, c1, rfl, M30, hV⟩ := hcut
  have k11 := (K11.out.below M30.below K11.out.lt).cell (i := 5) rfl
  have HI := Lib.hid (show Is18 wA _ g12 0 from ⟨x, y, n, _, _, _, _, _, L, us, aG, a1, cG, c1, HP.out, .inl RGA.out, hV, M30⟩)
  have e0 : ((n : Int) == (n : Int)) = true := by simp
  have e1 : ((n : Int) != (n : Int)) = false := by simp
  clear hV RG HCF RGA
  try simp only [Exit.then, Exit.inBlock]
  go_wp2_with ((with_reducible refine (?_ : Go.wpList _ _ _ (_ :: _) _ _)); (first | go_skip | (refine wpL_ldc M30 rfl rfl rfl ?_) | (refine wpL_lgc M30 rfl rfl rfl ?_) | (refine wpL_stc M30 rfl rfl rfl rfl ?_; clear M30; intro w' M30) | (refine wpL_sti M30 rfl rfl rfl rfl ?_; clear M30; intro w' M30) | (refine wpL_sth M30 rfl rfl rfl rfl (wr_minus _ _ _) ?_; clear M30; intro w' M30)))
  go_loopw [13] (fun i wr => ∃ (k : Nat), k ≤ no ∧ i = .int .i64 k ∧ Hid (Is18 wA wr g12 k)) (fun i _ => no - (intOf i).toNat)
  case atStart => exact ⟨0, Nat.zero_le _, rfl, HI⟩
  case round =>
    clear HI M30 k11 e0 e1
    obtain ⟨i, hi, rfl, HI⟩ := hrel
    by_cases hlt : i < no
    · obtain ⟨x2, y2, m, X2, Y2, S2, B2, St2, p2, us2, aG2, aF2, cG2, cF2, hP2, hR, hV, M⟩ := HI.out
      obtain ⟨o, ho⟩ : ∃ o, l[i]? = some o := ⟨_, List.getElem?_eq_getElem (by rw [HNO.out]; exact hlt)⟩
      have hoo := HOP.out o (List.mem_of_getElem? ho)
      have HC := Lib.hid (fun (wx : World) (hx : Below wA.heap.size wA wx) (hv : IsV wx aF2 m cF2 us2) (hs : Sl wx 1 (.slice aG2 m cG2) m (i64s p2)) => do_any18 o i x2 y2 m X2 Y2 S2 B2 St2 p2 us2 aG2 aF2 cG2 cF2 hP2 wx (hoo.1.below18 (HBA.out.trans (hx.mono HBA.out.size))) hs hv (by omega) hoo.2)
      obtain ⟨b, p0, rfl, hb, hco⟩ := cell_ops HS.out i o ho
      obtain ⟨ok, oq, oa, on, oc, zs, oX, oY, oW, oH⟩ := o
      have q0 := hco 0 _ rfl
      have q1 := hco 1 _ rfl
      have q2 := hco 2 _ rfl
      have q3 := hco 3 _ rfl
      have q4 := hco 4 _ rfl
      have q5 := hco 5 _ rfl
      have q6 := hco 6 _ rfl
      simp only [Nat.add_zero] at q0
      have HQ := Lib.hid (And.intro q0 (And.intro q1 (And.intro q2 (And.intro q3 (And.intro q4 (And.intro q5 q6))))))
      have HQW : ∀ wx, Below w.heap.size w wx → _ := fun wx hx => HQ.out.imp (fun h => (hx.cell (p := ⟨b, p0 + i * 7, none⟩) hb).trans h) (fun h => h.imp (fun h => (hx.cell (p := ⟨b, p0 + i * 7 + 1, none⟩) hb).trans h) (fun h => h.imp (fun h => (hx.cell (p := ⟨b, p0 + i * 7 + 2, none⟩) hb).trans h) (fun h => h.imp (fun h => (hx.cell (p := ⟨b, p0 + i * 7 + 3, none⟩) hb).trans h) (fun h => h.imp (fun h => (hx.cell (p := ⟨b, p0 + i * 7 + 4, none⟩) hb).trans h) (fun h => h.imp (fun h => (hx.cell (p := ⟨b, p0 + i * 7 + 5, none⟩) hb).trans h) (fun h => (hx.cell (p := ⟨b, p0 + i * 7 + 6, none⟩) hb).trans h))))))
      have HQW := Lib.hid HQW
      have HP2 := Lib.hid hP2
      have RR := Lib.hid hR
      have V9 := Lib.hid hV
      clear q0 q1 q2 q3 q4 q5 q6 hco HQ hP2 hR hV HI ho hoo
      go_upto_region 10 with fail
      go_cut [14, 15] from 42 to 96 (fun s14 s15 wx => ∃ (g14 x3 y3 m3 : Nat) (X3 Y3 S3 B3 St3 : Int) (a1 a2 : Option Addr) (c1 c2 : Nat) (bb : Bool), s14 = .pointer (some ⟨g14, 0, none⟩) ∧ s15 = .bool bb ∧ Mem wA wx [(g14, 37, pc x3 y3 X3 Y3 S3 (.slice a1 m3 c1) x3 y3 (.slice a2 m3 c2) B3 St3), (g12, 37, pc x2 y2 X2 Y2 S2 (.slice aG2 m cG2) x2 y2 (.slice aF2 m cF2) B2 St2)] ∧ Hid (RowG wA wx aG2 m cG2 p2) ∧ Hid (IsV wx aF2 m cF2 us2) ∧ Hid (Nx wA wx (i + 1) x3 y3 m3 X3 Y3 S3 B3 St3 a1 a2 c1 c2 bb))
      case first =>
        have M := M.drew
        replace RR := Lib.hid (RR.out.below ((Below.refl wr.heap.size wr).drew))
        replace V9 := Lib.hid (IsV.below (w := wr) V9.out ((Below.refl wr.heap.size wr).drew))
        try dsimp only [Act.put]
        refine wp_region_held_drew (S := (fun w' : World => (w'.cell? ⟨g12, 0, none⟩ = some (.int .i64 x2) ∧ w'.cell? ⟨g12, 1, none⟩ = some (.int .i64 y2) ∧ w'.cell? ⟨g12, 2, none⟩ = some (.int .i64 X2) ∧ w'.cell? ⟨g12, 3, none⟩ = some (.int .i64 Y2) ∧ w'.cell? ⟨g12, 4, none⟩ = some (.int .i64 S2) ∧ w'.cell? ⟨g12, 5, none⟩ = some (.slice aG2 m cG2) ∧ w'.cell? ⟨g12, 6, none⟩ = some (.int .i64 x2) ∧ w'.cell? ⟨g12, 7, none⟩ = some (.int .i64 y2) ∧ w'.cell? ⟨g12, 8, none⟩ = some (.slice aF2 m cF2) ∧ w'.cell? ⟨g12, 9, none⟩ = some (.int .i64 B2) ∧ w'.cell? ⟨g12, 10, none⟩ = some (.int .i64 St2)) ∧ w'.cell? ⟨b, p0 + i * 7, none⟩ = some (.int .u8 ok) ∧ w'.cell? ⟨b, p0 + i * 7 + 1, none⟩ = some (.int .u8 oq) ∧ w'.cell? ⟨b, p0 + i * 7 + 2, none⟩ = some (.slice oa on oc) ∧ w'.cell? ⟨b, p0 + i * 7 + 3, none⟩ = some (.int .i8 oX) ∧ w'.cell? ⟨b, p0 + i * 7 + 4, none⟩ = some (.int .i8 oY) ∧ w'.cell? ⟨b, p0 + i * 7 + 5, none⟩ = some (.int .u8 oW) ∧ w'.cell? ⟨b, p0 + i * 7 + 6, none⟩ = some (.int .u8 oH))) (by kernel_rfl) (⟨pcells18 (M.has (Has.head _ _ _ _)), HQW.out _ (HBA.out.trans (M.below.mono HBA.out.size))⟩) (fun hHeld => ?_)
        refine tkT 0 ?v8805 ?hy8805 hHeld ?rest8805
        case hy8805 => (intro w' hSw; (try dsimp only at hSw); go_simp; (try with_reducible rfl))
        try simp only [Act.put, puts]
        refine tkT 1 ?v8806 ?hy8806 hHeld ?rest8806
        case hy8806 => (intro w' hSw; (try dsimp only at hSw); go_simp; (try with_reducible rfl))
        try simp only [Act.put, puts]
        refine tkT 2 ?v8807 ?hy8807 hHeld ?rest8807
        case hy8807 => (intro w' hSw; (try dsimp only at hSw); go_simp; (try with_reducible rfl))
        try simp only [Act.put, puts]
        refine tkT 3 ?v8808 ?hy8808 hHeld ?rest8808
        case hy8808 => (intro w' hSw; (try dsimp only at hSw); go_simp; (try with_reducible rfl))
        try simp only [Act.put, puts]
        refine tkT 4 ?v8809 ?hy8809 hHeld ?rest8809
        case hy8809 => (intro w' hSw; (try dsimp only at hSw); go_simp; (try with_reducible rfl))
        try simp only [Act.put, puts]
        refine wpAnyH_ready (rs := [5, 9]) (by kernel_rfl) (by simp) ?_
        refine AllReadyH.cons rfl (fun K hK => ?_) (AllReadyH.cons rfl (fun K hK => ?_) AllReadyH.nil)
        · go_simp
          refine (HC.out _ M.below V9.out (RR.out.sl M.below)).mono ?_
          rintro e wc hR
          obtain ⟨x3, y3, m3, X3, Y3, S3, B3, St3, a1, a2, c1, c2, bb, rfl, hA, hR⟩ := hR.one
          replace M := M.call hA
          replace RR := Lib.hid (RR.out.below hA)
          replace V9 := Lib.hid (V9.out.below hA)
          have HN := Lib.hid (Nx.of (wA := wA) hR)
          clear hR hA
          try go_wp2_with fail
          clear hHeld
          refine hK.out _ _ (⟨pcells18 (M.has (Has.head _ _ _ _)), HQW.out _ (HBA.out.trans (M.below.mono HBA.out.size))⟩) (fun hHeld => ?_)
          clear hK K
          try simp only [Act.put, puts]
          refine tkT 6 ?v8810 ?hy8810 hHeld ?rest8810
          case hy8810 => (intro w' hSw; (try dsimp only at hSw); go_simp; (try with_reducible rfl))
          try simp only [Act.put, puts]
          refine tkT 7 ?v8811 ?hy8811 hHeld ?rest8811
          case hy8811 => (intro w' hSw; (try dsimp only at hSw); go_simp; (try with_reducible rfl))
          try simp only [Act.put, puts]
          refine tkT 8 ?v8812 ?hy8812 hHeld ?rest8812
          case hy8812 => (intro w' hSw; (try dsimp only at hSw); go_simp; (try with_reducible rfl))
          try simp only [Act.put, puts]
          refine wpAnyH_ready (rs := [9]) (by kernel_rfl) (by simp) ?_
          refine AllReadyH.cons rfl (fun K hK => ?_) AllReadyH.nil
          rw [if_pos (by rfl)]
          refine wp_al (Mem.start _) rfl zeroP18 rfl ?_
          intro g14 wn M9
          have hA := M9.below
          replace RR := Lib.hid (RR.out.below hA)
          replace V9 := Lib.hid (V9.out.below hA)
          try replace HN := Lib.hid (HN.out.below hA)
          replace M : Mem wA wn [(g14, 37, pc 0 0 0 0 0 (.slice none 0 0) 0 0 (.slice none 0 0) 0 0), (g12, 37, pc x2 y2 X2 Y2 S2 (.slice aG2 m cG2) x2 y2 (.slice aF2 m cF2) B2 St2)] := Mem.join M M9
          clear hA M9
          clear hHeld
          refine hK.out _ _ (⟨pcells18 (M.has (.tail _ _ _ _ _ (Has.head _ _ _ _))), HQW.out _ (HBA.out.trans (M.below.mono HBA.out.size))⟩) (fun hHeld => ?_)
          clear hK K
          try simp only [Act.put, puts]
          refine wpAnyH_ready (rs := [10]) (by kernel_rfl) (by simp) ?_
          refine AllReadyH.cons rfl (fun K hK => ?_) AllReadyH.nil
          rw [if_pos (by rfl)]
          refine Grid.wp_stM M rfl rfl rfl (wr_p _ rfl x3 y3 X3 Y3 S3 x3 y3 B3 St3 a1 a2 m3 c1 m3 c2) (Upd.head _ _ _ _ _) ?_
          intro wz Mn hTn
          replace RR := Lib.hid (RR.out.turned (M.has (Has.head _ _ _ _)) hTn)
          replace V9 := Lib.hid (V9.out.turnedB (M.has (Has.head _ _ _ _)) (by decide) (noPart_p _ _ _ _ _ _ _ _ _ _ _ _ _ _ _) hTn)
          replace HN := Lib.hid (HN.out.turned (M.has (Has.head _ _ _ _)) (noPart_p _ _ _ _ _ _ _ _ _ _ _ _ _ _ _) hTn)
          replace M := Mn
          clear hTn Mn
          clear hHeld
          refine hK.out _ _ (⟨pcells18 (M.has (.tail _ _ _ _ _ (Has.head _ _ _ _))), HQW.out _ (HBA.out.trans (M.below.mono HBA.out.size))⟩) (fun hHeld => ?_)
          clear hK K
          try simp only [Act.put, puts]
          refine tkT 11 ?v8813 ?hy8813 hHeld ?rest8813
          case hy8813 => (intro w' hSw; (try dsimp only at hSw); go_simp; (try with_reducible rfl))
          try simp only [Act.put, puts]
          refine wpAnyH_done (by kernel_rfl) ?_ _
          go_wp2_with fail
          go_meet
          exact ⟨g14, x3, y3, m3, X3, Y3, S3, B3, St3, a1, a2, c1, c2, bb, rfl, rfl, M, RR, V9, HN⟩
        · rw [if_pos (by rfl)]
          refine wp_al (Mem.start _) rfl zeroP18 rfl ?_
          intro g14 wn M9
          have hA := M9.below
          replace RR := Lib.hid (RR.out.below hA)
          replace V9 := Lib.hid (V9.out.below hA)
          try replace HN := Lib.hid (HN.out.below hA)
          replace M : Mem wA wn [(g14, 37, pc 0 0 0 0 0 (.slice none 0 0) 0 0 (.slice none 0 0) 0 0), (g12, 37, pc x2 y2 X2 Y2 S2 (.slice aG2 m cG2) x2 y2 (.slice aF2 m cF2) B2 St2)] := Mem.join M M9
          clear hA M9
          clear hHeld
          refine hK.out _ _ (⟨pcells18 (M.has (.tail _ _ _ _ _ (Has.head _ _ _ _))), HQW.out _ (HBA.out.trans (M.below.mono HBA.out.size))⟩) (fun hHeld => ?_)
          clear hK K
          try simp only [Act.put, puts]
          refine wpAnyH_ready (rs := [5]) (by kernel_rfl) (by simp) ?_
          refine AllReadyH.cons rfl (fun K hK => ?_) AllReadyH.nil
          go_simp
          refine (HC.out _ M.below V9.out (RR.out.sl M.below)).mono ?_
          rintro e wc hR
          obtain ⟨x3, y3, m3, X3, Y3, S3, B3, St3, a1, a2, c1, c2, bb, rfl, hA, hR⟩ := hR.one
          replace M := M.call hA
          replace RR := Lib.hid (RR.out.below hA)
          replace V9 := Lib.hid (V9.out.below hA)
          have HN := Lib.hid (Nx.of (wA := wA) hR)
          clear hR hA
          try go_wp2_with fail
          clear hHeld
          refine hK.out _ _ (⟨pcells18 (M.has (.tail _ _ _ _ _ (Has.head _ _ _ _))), HQW.out _ (HBA.out.trans (M.below.mono HBA.out.size))⟩) (fun hHeld => ?_)
          clear hK K
          try simp only [Act.put, puts]
          refine tkT 6 ?v8814 ?hy8814 hHeld ?rest8814
          case hy8814 => (intro w' hSw; (try dsimp only at hSw); go_simp; (try with_reducible rfl))
          try simp only [Act.put, puts]
          refine tkT 7 ?v8815 ?hy8815 hHeld ?rest8815
          case hy8815 => (intro w' hSw; (try dsimp only at hSw); go_simp; (try with_reducible rfl))
          try simp only [Act.put, puts]
          refine tkT 8 ?v8816 ?hy8816 hHeld ?rest8816
          case hy8816 => (intro w' hSw; (try dsimp only at hSw); go_simp; (try with_reducible rfl))
          try simp only [Act.put, puts]
          refine wpAnyH_ready (rs := [10]) (by kernel_rfl) (by simp) ?_
          refine AllReadyH.cons rfl (fun K hK => ?_) AllReadyH.nil
          rw [if_pos (by rfl)]
          refine Grid.wp_stM M rfl rfl rfl (wr_p _ rfl x3 y3 X3 Y3 S3 x3 y3 B3 St3 a1 a2 m3 c1 m3 c2) (Upd.head _ _ _ _ _) ?_
          intro wz Mn hTn
          replace RR := Lib.hid (RR.out.turned (M.has (Has.head _ _ _ _)) hTn)
          replace V9 := Lib.hid (V9.out.turnedB (M.has (Has.head _ _ _ _)) (by decide) (noPart_p _ _ _ _ _ _ _ _ _ _ _ _ _ _ _) hTn)
          replace HN := Lib.hid (HN.out.turned (M.has (Has.head _ _ _ _)) (noPart_p _ _ _ _ _ _ _ _ _ _ _ _ _ _ _) hTn)
          replace M := Mn
          clear hTn Mn
          clear hHeld
          refine hK.out _ _ (⟨pcells18 (M.has (.tail _ _ _ _ _ (Has.head _ _ _ _))), HQW.out _ (HBA.out.trans (M.below.mono HBA.out.size))⟩) (fun hHeld => ?_)
          clear hK K
          try simp only [Act.put, puts]
          refine tkT 11 ?v8817 ?hy8817 hHeld ?rest8817
          case hy8817 => (intro w' hSw; (try dsimp only at hSw); go_simp; (try with_reducible rfl))
          try simp only [Act.put, puts]
          refine wpAnyH_done (by kernel_rfl) ?_ _
          go_wp2_with fail
          go_meet
          exact ⟨g14, x3, y3, m3, X3, Y3, S3, B3, St3, a1, a2, c1, c2, bb, rfl, rfl, M, RR, V9, HN⟩
      clear M RR V9 HC HQW
      obtain ⟨g14, x3, y3, m3, X3, Y3, S3, B3, St3, a1, a2, c1, c2, bb, rfl, rfl, M40, RR, V9, HN⟩ := hcut
      cases bb with
      | false =>
        have HI := Lib.hid (show Is18 wA wc g12 (i + 1) from ⟨x2, y2, m, _, _, _, _, _, p2, us2, aG2, aF2, cG2, cF2, HP2.out.mono, RR.out, V9.out, M40.pick (by repeat (first | exact List.nil_sublist _ | apply List.Sublist.cons_cons | apply List.Sublist.cons))⟩)
        clear RR V9 HN M40
        go_wp2_with fail
        go_roundw
        case rel => exact ⟨i + 1, by omega, by go_num, HI⟩
        case measure => simp [intOf]; omega
      | true =>
        obtain ⟨p3, us3, hP3, hR3, hV3⟩ := HN.out rfl
        have HP3 := Lib.hid hP3
        have HR3 := Lib.hid hR3
        have HV3 := Lib.hid hV3
        have hb0 := hP3.led.b0
        have hb1 := hP3.B1
        have d1 : decide (B3 < 0) = false := decide_eq_false (by omega)
        have d2 : decide (1099511627776 < B3) = false := decide_eq_false (by omega)
        have d3 : ((m3 : Int) == (m3 : Int)) = true := by simp
        have d4 : ((m3 : Int) != (m3 : Int)) = false := by simp
        clear hP3 hR3 hV3 RR V9 HN hb0 hb1
        go_wp2_with ((with_reducible refine (?_ : Go.wpList _ _ _ (_ :: _) _ _)); (first | go_skip | (have K12 := M40.has (.tail _ _ _ _ _ (Has.head _ _ _ _)); refine Grid.wpL_stM M40 rfl rfl rfl rfl (wr_p _ rfl _ _ _ _ _ _ _ _ _ _ _ _ _ _ _) (.tail _ _ _ _ _ _ _ (Upd.head _ _ _ _ _)) ?_; clear M40; intro w41 M40 hT) | (refine wpL_ldc M40 rfl rfl rfl ?_) | (refine wpL_lgc M40 rfl rfl rfl ?_)))
        replace HR3 := Lib.hid (HR3.out.turned K12 hT)
        replace HV3 := Lib.hid (HV3.out.turnedB K12 (by decide) (noPart_p _ _ _ _ _ _ _ _ _ _ _ _ _ _ _) hT)
        clear hT K12
        refine (check18 HP3.out _ a1 c1 (HR3.out.sl M40.below)).mono ?_
        rintro e w42 ⟨rfl, hA⟩
        replace M40 := M40.call hA
        replace HR3 := Lib.hid (HR3.out.below hA)
        replace HV3 := Lib.hid (HV3.out.below hA)
        clear hA
        go_wp2_with ((with_reducible refine (?_ : Go.wpList _ _ _ (_ :: _) _ _)); (first | go_skip | (refine wpL_ldc M40 rfl rfl rfl ?_) | (refine wpL_lgc M40 rfl rfl rfl ?_) | (refine wpL_stc M40 rfl rfl rfl rfl ?_; clear M40; intro w' M40) | (refine wpL_sti M40 rfl rfl rfl rfl ?_; clear M40; intro w' M40) | (refine wpL_sth M40 rfl rfl rfl rfl (wr_minus _ _ _) ?_; clear M40; intro w' M40)))
        refine (over18p HP3.out (by omega) _ a1 a2 c1 c2 (HR3.out.sl M40.below) HV3.out).mono ?_
        rintro e w43 ⟨rfl, hA⟩
        replace M40 := M40.call hA
        replace HR3 := Lib.hid (HR3.out.below hA)
        replace HV3 := Lib.hid (HV3.out.below hA)
        clear hA
        go_wp2_with ((with_reducible refine (?_ : Go.wpList _ _ _ (_ :: _) _ _)); (first | go_skip | (refine wpL_ldc M40 rfl rfl rfl ?_) | (refine wpL_lgc M40 rfl rfl rfl ?_) | (refine wpL_stc M40 rfl rfl rfl rfl ?_; clear M40; intro w' M40) | (refine wpL_sti M40 rfl rfl rfl rfl ?_; clear M40; intro w' M40) | (refine wpL_sth M40 rfl rfl rfl rfl (wr_minus _ _ _) ?_; clear M40; intro w' M40)))
        have HI := Lib.hid (show Is18 wA w43 g12 (i + 1) from ⟨x3, y3, m3, _, _, _, _, _, p3, us3, a1, a2, c1, c2, HP3.out, HR3.out, HV3.out, M40.pick (by repeat (first | exact List.nil_sublist _ | apply List.Sublist.cons_cons | apply List.Sublist.cons))⟩)
        clear M40 HR3 HV3
        go_roundw
        case rel => exact ⟨i + 1, by omega, by go_num, HI⟩
        case measure => simp [intOf]; omega
    · obtain rfl : i = no := by omega
      obtain ⟨x2, y2, m, X2, Y2, S2, B2, St2, p2, us2, aG2, aF2, cG2, cF2, hP2, hR, hV, M⟩ := HI.out
      clear HI
      go_wp2_with fail
      refine (works_any18 _).mono ?_
      rintro e w9 ⟨rfl, hA⟩
      have M9 := M.call hA
      go_wp2_with fail
      go_ret
      exact ⟨rfl, HBA.out.trans (M9.below.mono HBA.out.size)⟩

set_option maxRecDepth 20000 in
theorem holds_long (p q st k ca no co : Nat) (a ao : Option Addr) (hk100 : decide (100 < (k : Int)) = true) (hk : k ≤ 9223372036854775807) (w : World) :
    Calls Tryz.prog 3 #[.int .u8 p, .int .u8 q, .slice a k ca, .int .u8 st, .slice ao no co] w fun e w' => e = .returned (.bool true) ∧ Below w.heap.size w w' := by
  have M0 := Mem.start w
  go_enter Tryz.func3, Tryz.ntmps3
  go_wp2_with fail
  refine (works_any18 _).mono ?_
  rintro e w4 ⟨rfl, hA⟩
  replace M0 := M0.call hA
  clear hA
  go_wp2_with fail
  go_ret
  exact ⟨rfl, M0.below⟩
set_option maxRecDepth 20000 in
theorem holds_heavy (p q st k ca no co : Nat) (a ao : Option Addr) (hk100 : decide (100 < (k : Int)) = false) (hk : k ≤ 9223372036854775807) (w : World)
    (CL : ∀ wx, Below w.heap.size w wx → Calls Tryz.prog 4 #[.slice ao no co] wx fun e w' => e = .returned (.int .i64 1) ∧ wx = w') :
    Calls Tryz.prog 3 #[.int .u8 p, .int .u8 q, .slice a k ca, .int .u8 st, .slice ao no co] w fun e w' => e = .returned (.bool true) ∧ Below w.heap.size w w' := by
  have HCL := Lib.hid CL
  have M0 := Mem.start w
  clear CL
  go_enter Tryz.func3, Tryz.ntmps3
  go_wp2_with fail
  refine (HCL.out _ M0.below).mono ?_
  rintro e wz ⟨rfl, rfl⟩
  go_wp2_with fail
  refine (works_any18 _).mono ?_
  rintro e w4 ⟨rfl, hA⟩
  replace M0 := M0.call hA
  clear hA
  go_wp2_with fail
  go_ret
  exact ⟨rfl, M0.below⟩
/-- A grid that the laws make, as numbers. -/
def gU18 (z : List Int) (n : Nat) : List Nat := (norm (madeL z n)).map Int.toNat
theorem made_ok {z : List Int} (hz : ∀ u ∈ z, 0 ≤ u ∧ u ≤ 65535) (p q st x y n : Nat) (hx : x = 1 + p % 8) (hy : y = 1 + q % 8) (hn : n = x * y) : PlayOk 0 x y n 1000 (-1000) ((stepN st : Nat) : Int) 0 0 (norm (madeL z n)) (gU18 z n) ∧ (∀ i, i < n → (norm (madeL z n)).getD i 0 = (((gU18 z n).getD i 0 : Nat) : Int)) := by
  have hx8 : 1 ≤ x ∧ x ≤ 8 := by omega
  have hy8 : 1 ≤ y ∧ y ≤ 8 := by omega
  have hpos : 0 < x * y := Nat.mul_pos (by omega) (by omega)
  have hle : x * y ≤ 8 * 8 := Nat.mul_le_mul hx8.2 hy8.2
  rw [← hn] at hpos hle
  have hl : (norm (madeL z n)).length = n := by rw [norm_length, madeL_length]
  have hs := madeL_sm hz (n := n) (by omega)
  have hc : chk x y 64 (norm (madeL z n)) = 0 := chk_norm (sidesG_iff.2 ⟨by omega, by omega, by omega⟩) (by rw [madeL_length, hn]; simp) (fun u hu => (madeL_rng hz n u hu).1) (by omega)
  obtain ⟨_, _, h3, h4, h5⟩ := chk_ok hc
  rw [hl] at h4
  have hul : (gU18 z n).length = n := by unfold gU18; rw [List.length_map, hl]
  have hget : ∀ i, i < n → (norm (madeL z n)).getD i 0 = (((gU18 z n).getD i 0 : Nat) : Int) := fun i hi => by
    have hi2 : i < (norm (madeL z n)).length := by rw [hl]; exact hi
    unfold gU18
    rw [List.getD_eq_getElem?_getD, List.getD_eq_getElem?_getD, List.getElem?_map, List.getElem?_eq_getElem hi2]
    have := h3 _ (List.getElem_mem hi2)
    simp
    omega
  have hlt : Lt (31 + 24 * 0) (gU18 z n) := by
    intro i
    unfold gU18
    rw [List.getD_eq_getElem?_getD, List.getElem?_map]
    cases hq : (norm (madeL z n))[i]? with
    | none => exact Nat.pow_pos (by decide)
    | some u =>
      have := h3 u (List.mem_of_getElem? hq)
      show u.toNat < 2 ^ 31
      have e : (2 : Nat) ^ 31 = 2147483648 := by decide
      omega
  exact ⟨⟨hn, hx8, hy8, Led.start hl hul hget h4 h5 (by omega), hlt, by omega, by omega, ⟨st % 9, by omega, rfl⟩, by omega, by omega⟩, hget⟩
theorem holds_any (p q st k ca no co : Nat) (a ao : Option Addr) (z : List Int) (l : List OpV) (hp : p < 256) (hq : q < 256) (hst : st < 256) (hz : z.length = k) (hz0 : ∀ u ∈ z, 0 ≤ u ∧ u ≤ 65535) (hl : l.length = no) (w : World) (hT : Sl w 1 (.slice a k ca) k (u16s z)) (hop : ∀ o ∈ l, OpOk w o) (hS : Sl w 7 (.slice ao no co) no (opcs l)) :
    Calls Tryz.prog 3 #[.int .u8 p, .int .u8 q, .slice a k ca, .int .u8 st, .slice ao no co] w fun e w' => e = .returned (.bool true) ∧ Below w.heap.size w w' := by
  have hkm := hT.max
  by_cases hk : 100 < k
  · exact holds_long p q st k ca no co a ao (decide_eq_true (by omega)) (by omega) w
  have dk : decide (100 < (k : Int)) = false := decide_eq_false (by omega)
  have CL := fun (wx : World) (hx : Below w.heap.size w wx) => light17_any ao no co l hl wx (hS.below hx)
  cases hh : light17 l with
  | false =>
    simp only [hh] at CL
    exact holds_heavy p q st k ca no co a ao dk (by omega) w CL
  | true =>
    simp only [hh] at CL
    have h8 := hh
    unfold light17 at h8
    rw [Bool.and_eq_true] at h8
    have hno8 : no ≤ 8 := by rw [← hl]; exact of_decide_eq_true h8.1
    obtain ⟨hP, hget⟩ := made_ok (z := z) hz0 p q st _ _ _ rfl rfl rfl
    exact holds_go p q st k ca no co _ _ _ _ a ao _ _ l hl hno8 dk hP w CL (fun wx hx => made14_any p q st _ _ _ _ k ca a z hp hq hst rfl rfl rfl rfl hz (by omega) hz0 wx (hT.below hx))
      (fun wx a cap hs => ResX.ans (from_any17 _ _ _ _ _ a _ cap _ _ hP.led.pl hP.led.ul hget (hP.lt.mono (by omega)) (by have := hP.n64; omega) wx hs) hP.led.ul) (fun o ho => ⟨hop o ho, of_decide_eq_true (List.all_eq_true.1 h8.2 o ho)⟩) hS
end Go.Proofs.YtallbegibdlpaaaGreat
