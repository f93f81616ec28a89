/-
  TerrainHeights: the walk.
-/
import Derived.Test.YtlkjcamjgaecgaaGreatLaw11a
import Derived.Test.YtlkjcamjgaecgaaGreatRef11D
import Derived.Test.YtlkjcamjgaecgaaGreatSpots
set_option linter.unusedVariables false
set_option linter.unusedSimpArgs false
namespace Go.Proofs.YtlkjcamjgaecgaaGreat
open Go Go.RowKit Go.Th Go.Th.Crc

/-- What the laws keep: a cache of the map, the map, and its heights. -/
structure SpI (w wx : World) (B g : Nat) (F : List Int) (W H gC B6 m : Nat) (av : Option Addr) (cw rm k : Nat) : Prop where
  J : CN wx B g F W H 31 0 0 rm k
  K : Blk wx gC 28 [.int .i64 W, .int .i64 H, .slice av m cw, .int .i64 31, .int .i32 0, .int .i32 0]
  ho : wx.ownsRow B6 51 1 (.slice av m cw) m (i16s F)
  B : Below w.heap.size w wx
  le : w.heap.size ≤ g
section
variable {w wx w' : World} {B g : Nat} {F : List Int} {W H gC B6 m : Nat} {av : Option Addr} {cw rm k k' : Nat}
theorem SpI.below (h : SpI w wx B g F W H gC B6 m av cw rm k) (hb : Below wx.heap.size wx w') : SpI w w' B g F W H gC B6 m av cw rm k :=
  ⟨h.J.below hb, h.K.below hb h.K.lt, ownsRow_below h.ho hb, h.B.trans (hb.mono h.B.size), h.le⟩
theorem SpI.drew (h : SpI w wx B g F W H gC B6 m av cw rm k) : SpI w wx.drew B g F W H gC B6 m av cw rm k := h.below (Below.refl _ _).drew
theorem SpI.turn (h : SpI w wx B g F W H gC B6 m av cw rm k) (J : CN w' B g F W H 31 0 0 rm k') (ht : Turned (fun b => b = g) wx w') : SpI w w' B g F W H gC B6 m av cw rm k' :=
  ⟨J, h.J.blk ht h.K (by decide), h.J.own ht h.ho (by decide), ht.old h.B h.B.size (by have := h.le; rintro k hk rfl; omega), h.le⟩
theorem SpI.cell_old (h : SpI w wx B g F W H gC B6 m av cw rm k) (ht : Turned (fun b => b = g) wx w') {b o : Nat} {u : Value} (hb : b < w.heap.size) (hc : wx.cell? ⟨b, o, none⟩ = some u) : w'.cell? ⟨b, o, none⟩ = some u :=
  (ht.cell (p := ⟨b, o, none⟩) (Nat.lt_of_lt_of_le hb h.B.size) (fun e => by have e' : b = g := e; have := h.le; omega)).trans hc
end

theorem heights_big (p q r : Nat) (a al : Option Addr) (n cap nl cl : Nat) (w : World) (hbig : 2000 < n ∨ 60 < nl) (hn : n ≤ 9223372036854775807) (hnl : nl ≤ 9223372036854775807) :
    Calls Tryz.prog 3 #[.int .u8 p, .int .u8 q, .slice a n cap, .int .u8 r, .slice al nl cl] w fun e w' => e = .returned (.bool true) ∧ Below w.heap.size w w' := by
  by_cases h1 : 2000 < n
  · have hb' : (2000 : Int) < (n : Int) := by omega
    clear hbig
    go_enter Tryz.func3, Tryz.ntmps3
    go_wp2_with fail
    refine (works11_any w).mono ?_
    rintro e w1 ⟨rfl, hB⟩
    go_wp2_with fail
    go_ret
    exact ⟨rfl, hB⟩
  · have hb' : ¬ ((2000 : Int) < (n : Int)) := by omega
    have hb2 : (60 : Int) < (nl : Int) := by omega
    clear hbig
    go_enter Tryz.func3, Tryz.ntmps3
    go_wp2_with fail
    refine (works11_any w).mono ?_
    rintro e w1 ⟨rfl, hB⟩
    go_wp2_with fail
    go_ret
    exact ⟨rfl, hB⟩

set_option maxRecDepth 20000 in
set_option maxHeartbeats 6400000 in
theorem heights_go (p q r : Nat) (a al : Option Addr) (n cap nl cl : Nat) (z : List Int) (l : List (Int × Int)) (hp : p < 256) (hq : q < 256) (hr : r < 256) (hz : z.length = n) (h16 : ∀ u ∈ z, In16 u) (hn : n ≤ 2000) (hl : l.length = nl) (hnl : nl ≤ 60)
    (h64 : ∀ s ∈ l, (-9223372036854775808 ≤ s.1 ∧ s.1 ≤ 9223372036854775807) ∧ -9223372036854775808 ≤ s.2 ∧ s.2 ≤ 9223372036854775807) (w : World) (hS : Sl w 1 (.slice a n cap) n (i16s z)) (hSl : Sl w 2 (.slice al nl cl) nl (spts l)) :
    Calls Tryz.prog 3 #[.int .u8 p, .int .u8 q, .slice a n cap, .int .u8 r, .slice al nl cl] w fun e w' => e = .returned (.bool true) ∧ Below w.heap.size w w' := by
  have hb' : ¬ ((2000 : Int) < (n : Int)) := by omega
  have hb2 : ¬ ((60 : Int) < (nl : Int)) := by omega
  have C1 := Lib.hid (made9_any p q n 30 31 0 0 a cap z hp hq (by omega) (by omega) hz hn h16 w hS)
  obtain ⟨rm, hrm⟩ : ∃ rm, rm = 4 + r % 29 := ⟨_, rfl⟩
  have HRM : Hid (wrap64 (4 + (wrap64 (r : Int)).tmod 29) = (rm : Int)) := Lib.hid (by rw [IntWalk.wrap64_in (r : Int) (by omega), Int.tmod_eq_emod_of_nonneg (by omega)]; rw [IntWalk.wrap64_in _ (by omega)]; omega)
  have hrm1 : 4 ≤ rm := by omega
  have hrm2 : rm ≤ 32 := by omega
  have HSL := Lib.hid hSl
  have HL := Lib.hid hl
  have H64 := Lib.hid h64
  clear hz h16 hS hp hq hr hrm hSl hl h64
  go_enter Tryz.func3, Tryz.ntmps3
  go_wp2_with fail
  refine C1.out.mono ?_
  rintro e w2 ⟨x, y, v, F, rfl, hF, hx, hy, hfl, hf16, hof, hA⟩
  obtain ⟨av, cw, rfl, _, _⟩ := ownsRow_slice hof
  have hB := hA
  have hO : MapOk F x y 31 0 0 := ⟨hF, by decide, hfl, hf16, ⟨by decide, by decide⟩, ⟨by decide, by decide⟩⟩
  have HO := Lib.hid hO
  obtain ⟨w3, hw3⟩ : ∃ w3, w2.alloc (.cells #[.int .i64 x, .int .i64 y, .slice av (x * y) cw, .int .i64 31, .int .i32 0, .int .i32 0] 28) = w3 := ⟨_, rfl⟩
  have hA3 : Below w2.heap.size w2 w3 := by rw [← hw3]; exact (Below.refl _ _).alloc (Nat.le_refl _) _
  have KC : Blk w3 w2.heap.size 28 [.int .i64 x, .int .i64 y, .slice av (x * y) cw, .int .i64 31, .int .i32 0, .int .i32 0] := by rw [← hw3]; exact Blk.new w2 _ _
  replace hof := ownsRow_below hof hA3
  replace hB := hB.trans (hA3.mono hB.size)
  obtain ⟨gC, hgC⟩ : ∃ g, w2.heap.size = g := ⟨_, rfl⟩
  have HGC := Lib.hid hgC
  rw [hgC] at KC
  have hW := hO.fld.W1
  have hH := hO.fld.H1
  obtain ⟨m, hm⟩ : ∃ m, m = x * y := ⟨_, rfl⟩
  have C2 := fun wx hs => open10_any F x y 31 0 0 hO rm hrm1 hrm2 (x * y) rfl av cw wx hs
  have C4 := fun u v => refHgt_any hO.fld u v av cw
  rw [← hm] at C2 C4 hof KC hw3 ⊢
  have C5 := fun u v => rinside_any x y u v av m cw (by omega) (by omega)
  have C6 := fun u v (hu : -9223372036854775808 ≤ u ∧ u ≤ 9223372036854775807) (hv : -9223372036854775808 ≤ v ∧ v ≤ 9223372036854775807) => inside_any x y av m cw 31 0 0 u v (by omega) (by omega) hu hv
  replace C2 := Lib.hid C2
  replace C4 := Lib.hid C4
  replace C5 := Lib.hid C5
  replace C6 := Lib.hid C6
  have HW3 := Lib.hid hw3
  clear C1 hA hA3 hF hfl hf16 hm hw3 hO hgC hW hH
  go_upto_region 4 with fail
  rw [HW3.out, HGC.out]
  clear HW3 HGC
  have c0 := KC.cell (i := 0) rfl
  have c1 := KC.cell (i := 1) rfl
  have c2 := KC.cell (i := 2) rfl
  have c3 := KC.cell (i := 3) rfl
  have c4 := KC.cell (i := 4) rfl
  have c5 := KC.cell (i := 5) rfl
  go_wp2_with fail
  rw [HRM.out]
  refine (C2.out w3 (Sl.of_own hof)).mono ?_
  rintro e w5 ⟨g, rfl, J, hA⟩
  obtain ⟨B5, hB5⟩ : ∃ q, q = w3.heap.size := ⟨_, rfl⟩
  obtain ⟨B6, hB6⟩ : ∃ q, q = w.heap.size := ⟨_, rfl⟩
  rw [← hB6] at hof
  have HS : Hid (SpI w w5 B5 g F x y gC B6 m av cw rm 0) := Lib.hid ⟨⟨[], 0, 0, by omega, by omega, by rw [hB5]; exact J⟩, KC.below hA KC.lt, ownsRow_below hof hA, hB.trans (hA.mono hB.size), Nat.le_trans hB.size J.le⟩
  have hmx := HSL.out.max
  clear C2 hA J KC hof hB hB5 hB6 c0 c1 c2 c3 c4 c5 HRM
  go_wp2_with fail
  go_loopw [13] (fun q wx => ∃ i : Nat, i ≤ nl ∧ q = .int .i64 i ∧ Hid (SpI w wx B5 g F x y gC B6 m av cw rm (4 * i))) (fun q _ => nl - (intOf q).toNat)
  case atStart => exact ⟨0, Nat.zero_le _, rfl, HS⟩
  case round =>
    clear HS
    obtain ⟨i, hi, rfl, HS⟩ := hrel
    by_cases hlt : i < nl
    · obtain ⟨u, v, huv⟩ : ∃ u v, l[i]? = some (u, v) := ⟨_, _, List.getElem?_eq_getElem (by rw [HL.out]; exact hlt)⟩
      obtain ⟨hu64, hv64⟩ := H64.out (u, v) (List.mem_of_getElem? huv)
      obtain ⟨b, o, rfl, hb0, _, _⟩ := cell_spts HSL.out i u v huv
      obtain ⟨b', o', he, hb, hcu, hcv⟩ := cell_spts (HSL.out.below HS.out.B) i u v huv
      cases he
      have D1 := Lib.hid (thgt_any HO.out g B5 rm (4 * i) (by omega) u v hu64 hv64 wr HS.out.J)
      have D2 := C4.out u v
      have D3 := C6.out u v hu64 hv64
      have D4 := C5.out u v
      obtain ⟨t1, ht1⟩ : ∃ t, t = (gnd F x y u v).1 := ⟨_, rfl⟩
      obtain ⟨t2, ht2⟩ : ∃ t, t = (gnd F x y u v).2 := ⟨_, rfl⟩
      obtain ⟨bb, hbb⟩ : ∃ t, t = decide (inS x y u v) := ⟨_, rfl⟩
      rw [← ht1, ← ht2] at D1 D2
      rw [← hbb] at D3 D4
      have HD2 := Lib.hid D2
      have HD3 := Lib.hid D3
      have HD4 := Lib.hid D4
      clear huv ht1 ht2 hbb D2 D3 D4 hu64 hv64
      go_wp2_with fail
      refine D1.out.mono ?_
      rintro e w6 ⟨rfl, J6, hT⟩
      have HS6 := Lib.hid (HS.out.turn J6 hT)
      have hcu6 := HS.out.cell_old hT hb0 hcu
      have hcv6 := HS.out.cell_old hT hb0 hcv
      have hb6 : b < w6.heap.size := Nat.lt_of_lt_of_le hb hT.size
      have K6 := HS6.out.K
      have c0 := K6.cell (i := 0) rfl
      have c1 := K6.cell (i := 1) rfl
      have c2 := K6.cell (i := 2) rfl
      have E2 := Lib.hid (HD2.out w6.drew (Sl.of_own HS6.out.drew.ho))
      clear D1 J6 hT hcu hcv HS HD2
      go_wp2_with fail
      refine wp_region_held_drew (S := (fun w' : World => w'.cell? ⟨gC, 0, none⟩ = some (.int .i64 x) ∧ w'.cell? ⟨gC, 1, none⟩ = some (.int .i64 y) ∧ w'.cell? ⟨gC, 2, none⟩ = some (.slice av m cw) ∧ w'.cell? ⟨b, o + i * 2, none⟩ = some (.int .i64 u) ∧ w'.cell? ⟨b, o + i * 2 + 1, none⟩ = some (.int .i64 v))) (by kernel_rfl) (⟨c0, c1, c2, hcu6, hcv6⟩) (fun hHeld => ?_)
      refine wpAnyH_take (i := 0) (v := ?v1) rfl (by kernel_rfl) (by kernel_rfl) (by kernel_rfl) (fun _ _ _ h => h) (Or.inl ⟨by rfl, ?hy1⟩) hHeld ?rest1
      case hy1 => (intro w' hSw; (try dsimp only at hSw); go_simp; (try with_reducible rfl))
      try simp only [Act.put, List.setIfInBounds_toArray, List.set_cons_zero, List.set_cons_succ, List.getElem_toArray, List.getElem_cons_zero, List.getElem_cons_succ]
      refine wpAnyH_take (i := 1) (v := ?v2) rfl (by kernel_rfl) (by kernel_rfl) (by kernel_rfl) (fun _ _ _ h => h) (Or.inl ⟨by rfl, ?hy2⟩) hHeld ?rest2
      case hy2 => (intro w' hSw; (try dsimp only at hSw); go_simp; (try with_reducible rfl))
      try simp only [Act.put, List.setIfInBounds_toArray, List.set_cons_zero, List.set_cons_succ, List.getElem_toArray, List.getElem_cons_zero, List.getElem_cons_succ]
      refine wpAnyH_take (i := 2) (v := ?v3) rfl (by kernel_rfl) (by kernel_rfl) (by kernel_rfl) (fun _ _ _ h => h) (Or.inl ⟨by rfl, ?hy3⟩) hHeld ?rest3
      case hy3 => (intro w' hSw; (try dsimp only at hSw); go_simp; (try with_reducible rfl))
      try simp only [Act.put, List.setIfInBounds_toArray, List.set_cons_zero, List.set_cons_succ, List.getElem_toArray, List.getElem_cons_zero, List.getElem_cons_succ]
      refine wpAnyH_take (i := 3) (v := ?v4) rfl (by kernel_rfl) (by kernel_rfl) (by kernel_rfl) (fun _ _ _ h => h) (Or.inl ⟨by rfl, ?hy4⟩) hHeld ?rest4
      case hy4 => (intro w' hSw; (try dsimp only at hSw); go_simp; (try with_reducible rfl))
      try simp only [Act.put, List.setIfInBounds_toArray, List.set_cons_zero, List.set_cons_succ, List.getElem_toArray, List.getElem_cons_zero, List.getElem_cons_succ]
      refine wpAnyH_take (i := 4) (v := ?v5) rfl (by kernel_rfl) (by kernel_rfl) (by kernel_rfl) (fun _ _ _ h => h) (Or.inl ⟨by rfl, ?hy5⟩) hHeld ?rest5
      case hy5 => (intro w' hSw; (try dsimp only at hSw); go_simp; (try with_reducible rfl))
      try simp only [Act.put, List.setIfInBounds_toArray, List.set_cons_zero, List.set_cons_succ, List.getElem_toArray, List.getElem_cons_zero, List.getElem_cons_succ]
      refine wpAnyH_take (i := 5) (v := ?v6) rfl (by kernel_rfl) (by kernel_rfl) (by kernel_rfl) (fun _ _ _ h => h) (Or.inl ⟨by rfl, ?hy6⟩) hHeld ?rest6
      case hy6 => (intro w' hSw; (try dsimp only at hSw); go_simp; (try with_reducible rfl))
      try simp only [Act.put, List.setIfInBounds_toArray, List.set_cons_zero, List.set_cons_succ, List.getElem_toArray, List.getElem_cons_zero, List.getElem_cons_succ]
      refine wpAnyH_take (i := 6) (v := ?v7) rfl (by kernel_rfl) (by kernel_rfl) (by kernel_rfl) (fun _ _ _ h => h) (Or.inl ⟨by rfl, ?hy7⟩) hHeld ?rest7
      case hy7 => (intro w' hSw; (try dsimp only at hSw); go_simp; (try with_reducible rfl))
      try simp only [Act.put, List.setIfInBounds_toArray, List.set_cons_zero, List.set_cons_succ, List.getElem_toArray, List.getElem_cons_zero, List.getElem_cons_succ]
      refine wpAnyH_take (i := 7) (v := ?v8) rfl (by kernel_rfl) (by kernel_rfl) (by kernel_rfl) (fun _ _ _ h => h) (Or.inl ⟨by rfl, ?hy8⟩) hHeld ?rest8
      case hy8 => (intro w' hSw; (try dsimp only at hSw); go_simp; (try with_reducible rfl))
      try simp only [Act.put, List.setIfInBounds_toArray, List.set_cons_zero, List.set_cons_succ, List.getElem_toArray, List.getElem_cons_zero, List.getElem_cons_succ]
      refine wpAnyH_take (i := 8) (v := ?v9) rfl (by kernel_rfl) (by kernel_rfl) (by kernel_rfl) (fun _ _ _ h => h) (Or.inl ⟨by rfl, ?hy9⟩) hHeld ?rest9
      case hy9 => (intro w' hSw; (try dsimp only at hSw); go_simp; (try with_reducible rfl))
      try simp only [Act.put, List.setIfInBounds_toArray, List.set_cons_zero, List.set_cons_succ, List.getElem_toArray, List.getElem_cons_zero, List.getElem_cons_succ]
      refine wpAnyH_take (i := 9) (v := ?v10) rfl (by kernel_rfl) (by kernel_rfl) (by kernel_rfl) (fun _ _ _ h => h) (Or.inl ⟨by rfl, ?hy10⟩) hHeld ?rest10
      case hy10 => (intro w' hSw; (try dsimp only at hSw); go_simp; (try with_reducible rfl))
      try simp only [Act.put, List.setIfInBounds_toArray, List.set_cons_zero, List.set_cons_succ, List.getElem_toArray, List.getElem_cons_zero, List.getElem_cons_succ]
      refine wpAnyH_take (i := 10) (v := ?v11) rfl (by kernel_rfl) (by kernel_rfl) (by kernel_rfl) (fun _ _ _ h => h) (Or.inl ⟨by rfl, ?hy11⟩) hHeld ?rest11
      case hy11 => (intro w' hSw; (try dsimp only at hSw); go_simp; (try with_reducible rfl))
      try simp only [Act.put, List.setIfInBounds_toArray, List.set_cons_zero, List.set_cons_succ, List.getElem_toArray, List.getElem_cons_zero, List.getElem_cons_succ]
      refine wpAnyH_take (i := 11) (v := ?v12) rfl (by kernel_rfl) (by kernel_rfl) (by kernel_rfl) (fun _ _ _ h => h) (Or.inl ⟨by rfl, ?hy12⟩) hHeld ?rest12
      case hy12 => (intro w' hSw; (try dsimp only at hSw); go_simp; (try with_reducible rfl))
      try simp only [Act.put, List.setIfInBounds_toArray, List.set_cons_zero, List.set_cons_succ, List.getElem_toArray, List.getElem_cons_zero, List.getElem_cons_succ]
      refine wpAnyH_ready (rs := [12]) (by kernel_rfl) (by simp) ?_
      refine AllReadyH.cons rfl (fun K hK => ?_) AllReadyH.nil
      go_simp
      refine E2.out.mono ?_
      rintro e w7 ⟨rfl, hA⟩
      clear E2
      try go_wp2_with fail
      refine hK.out _ _ (⟨(hA.cell (p := ⟨gC, 0, none⟩) K6.lt).trans c0, (hA.cell (p := ⟨gC, 1, none⟩) K6.lt).trans c1, (hA.cell (p := ⟨gC, 2, none⟩) K6.lt).trans c2, (hA.cell (p := ⟨b, o + i * 2, none⟩) hb6).trans hcu6, (hA.cell (p := ⟨b, o + i * 2 + 1, none⟩) hb6).trans hcv6⟩) (fun hHeld => ?_)
      clear hK K
      try simp only [Act.put, List.setIfInBounds_toArray, List.set_cons_zero, List.set_cons_succ, List.getElem_toArray, List.getElem_cons_zero, List.getElem_cons_succ]
      refine wpAnyH_take (i := 13) (v := ?v14) rfl (by kernel_rfl) (by kernel_rfl) (by kernel_rfl) (fun _ _ _ h => h) (Or.inl ⟨by rfl, ?hy14⟩) hHeld ?rest14
      case hy14 => (intro w' hSw; (try dsimp only at hSw); go_simp; (try with_reducible rfl))
      try simp only [Act.put, List.setIfInBounds_toArray, List.set_cons_zero, List.set_cons_succ, List.getElem_toArray, List.getElem_cons_zero, List.getElem_cons_succ]
      refine wpAnyH_take (i := 14) (v := ?v15) rfl (by kernel_rfl) (by kernel_rfl) (by kernel_rfl) (fun _ _ _ h => h) (Or.inl ⟨by rfl, ?hy15⟩) hHeld ?rest15
      case hy15 => (intro w' hSw; (try dsimp only at hSw); go_simp; (try with_reducible rfl))
      try simp only [Act.put, List.setIfInBounds_toArray, List.set_cons_zero, List.set_cons_succ, List.getElem_toArray, List.getElem_cons_zero, List.getElem_cons_succ]
      refine wpAnyH_take (i := 15) (v := ?v16) rfl (by kernel_rfl) (by kernel_rfl) (by kernel_rfl) (fun _ _ _ h => h) (Or.inl ⟨by rfl, ?hy16⟩) hHeld ?rest16
      case hy16 => (intro w' hSw; (try dsimp only at hSw); go_simp; (try with_reducible rfl))
      try simp only [Act.put, List.setIfInBounds_toArray, List.set_cons_zero, List.set_cons_succ, List.getElem_toArray, List.getElem_cons_zero, List.getElem_cons_succ]
      refine wpAnyH_take (i := 16) (v := ?v17) rfl (by kernel_rfl) (by kernel_rfl) (by kernel_rfl) (fun _ _ _ h => h) (Or.inl ⟨by rfl, ?hy17⟩) hHeld ?rest17
      case hy17 => (intro w' hSw; (try dsimp only at hSw); go_simp; (try with_reducible rfl))
      try simp only [Act.put, List.setIfInBounds_toArray, List.set_cons_zero, List.set_cons_succ, List.getElem_toArray, List.getElem_cons_zero, List.getElem_cons_succ]
      refine wpAnyH_take (i := 17) (v := ?v18) rfl (by kernel_rfl) (by kernel_rfl) (by kernel_rfl) (fun _ _ _ h => h) (Or.inl ⟨by rfl, ?hy18⟩) hHeld ?rest18
      case hy18 => (intro w' hSw; (try dsimp only at hSw); go_simp; (try with_reducible rfl))
      try simp only [Act.put, List.setIfInBounds_toArray, List.set_cons_zero, List.set_cons_succ, List.getElem_toArray, List.getElem_cons_zero, List.getElem_cons_succ]
      refine wpAnyH_done (by kernel_rfl) ?_ _
      have hcu7 := (hA.cell (p := ⟨b, o + i * 2, none⟩) hb6).trans hcu6
      have hcv7 := (hA.cell (p := ⟨b, o + i * 2 + 1, none⟩) hb6).trans hcv6
      have hb7 : b < w7.heap.size := Nat.lt_of_lt_of_le hb6 hA.size
      have HS7 := Lib.hid (HS6.out.drew.below hA)
      have K7 := HS7.out.K
      clear c0 c1 c2 hcu6 hcv6 hA K6 HS6
      have c0 := K7.cell (i := 0) rfl
      have c1 := K7.cell (i := 1) rfl
      have c2 := K7.cell (i := 2) rfl
      have c3 := K7.cell (i := 3) rfl
      have c4 := K7.cell (i := 4) rfl
      have c5 := K7.cell (i := 5) rfl
      have e1 : (t1 == t1) = true := by simp
      have e2 : (t2 == t2) = true := by simp
      have e3 : (bb == bb) = true := by simp
      go_wp2_with fail
      refine wp_region_held_drew (S := (fun w' : World => w'.cell? ⟨gC, 0, none⟩ = some (.int .i64 x) ∧ w'.cell? ⟨gC, 1, none⟩ = some (.int .i64 y) ∧ w'.cell? ⟨gC, 2, none⟩ = some (.slice av m cw) ∧ w'.cell? ⟨gC, 3, none⟩ = some (.int .i64 31) ∧ w'.cell? ⟨gC, 4, none⟩ = some (.int .i32 0) ∧ w'.cell? ⟨gC, 5, none⟩ = some (.int .i32 0) ∧ w'.cell? ⟨b, o + i * 2, none⟩ = some (.int .i64 u) ∧ w'.cell? ⟨b, o + i * 2 + 1, none⟩ = some (.int .i64 v))) (by kernel_rfl) (⟨c0, c1, c2, c3, c4, c5, hcu7, hcv7⟩) (fun hHeld => ?_)
      refine wpAnyH_take (i := 0) (v := ?v19) rfl (by kernel_rfl) (by kernel_rfl) (by kernel_rfl) (fun _ _ _ h => h) (Or.inl ⟨by rfl, ?hy19⟩) hHeld ?rest19
      case hy19 => (intro w' hSw; (try dsimp only at hSw); go_simp; (try with_reducible rfl))
      try simp only [Act.put, List.setIfInBounds_toArray, List.set_cons_zero, List.set_cons_succ, List.getElem_toArray, List.getElem_cons_zero, List.getElem_cons_succ]
      refine wpAnyH_take (i := 1) (v := ?v20) rfl (by kernel_rfl) (by kernel_rfl) (by kernel_rfl) (fun _ _ _ h => h) (Or.inl ⟨by rfl, ?hy20⟩) hHeld ?rest20
      case hy20 => (intro w' hSw; (try dsimp only at hSw); go_simp; (try with_reducible rfl))
      try simp only [Act.put, List.setIfInBounds_toArray, List.set_cons_zero, List.set_cons_succ, List.getElem_toArray, List.getElem_cons_zero, List.getElem_cons_succ]
      refine wpAnyH_take (i := 2) (v := ?v21) rfl (by kernel_rfl) (by kernel_rfl) (by kernel_rfl) (fun _ _ _ h => h) (Or.inl ⟨by rfl, ?hy21⟩) hHeld ?rest21
      case hy21 => (intro w' hSw; (try dsimp only at hSw); go_simp; (try with_reducible rfl))
      try simp only [Act.put, List.setIfInBounds_toArray, List.set_cons_zero, List.set_cons_succ, List.getElem_toArray, List.getElem_cons_zero, List.getElem_cons_succ]
      refine wpAnyH_take (i := 3) (v := ?v22) rfl (by kernel_rfl) (by kernel_rfl) (by kernel_rfl) (fun _ _ _ h => h) (Or.inl ⟨by rfl, ?hy22⟩) hHeld ?rest22
      case hy22 => (intro w' hSw; (try dsimp only at hSw); go_simp; (try with_reducible rfl))
      try simp only [Act.put, List.setIfInBounds_toArray, List.set_cons_zero, List.set_cons_succ, List.getElem_toArray, List.getElem_cons_zero, List.getElem_cons_succ]
      refine wpAnyH_take (i := 4) (v := ?v23) rfl (by kernel_rfl) (by kernel_rfl) (by kernel_rfl) (fun _ _ _ h => h) (Or.inl ⟨by rfl, ?hy23⟩) hHeld ?rest23
      case hy23 => (intro w' hSw; (try dsimp only at hSw); go_simp; (try with_reducible rfl))
      try simp only [Act.put, List.setIfInBounds_toArray, List.set_cons_zero, List.set_cons_succ, List.getElem_toArray, List.getElem_cons_zero, List.getElem_cons_succ]
      refine wpAnyH_take (i := 5) (v := ?v24) rfl (by kernel_rfl) (by kernel_rfl) (by kernel_rfl) (fun _ _ _ h => h) (Or.inl ⟨by rfl, ?hy24⟩) hHeld ?rest24
      case hy24 => (intro w' hSw; (try dsimp only at hSw); go_simp; (try with_reducible rfl))
      try simp only [Act.put, List.setIfInBounds_toArray, List.set_cons_zero, List.set_cons_succ, List.getElem_toArray, List.getElem_cons_zero, List.getElem_cons_succ]
      refine wpAnyH_take (i := 6) (v := ?v25) rfl (by kernel_rfl) (by kernel_rfl) (by kernel_rfl) (fun _ _ _ h => h) (Or.inl ⟨by rfl, ?hy25⟩) hHeld ?rest25
      case hy25 => (intro w' hSw; (try dsimp only at hSw); go_simp; (try with_reducible rfl))
      try simp only [Act.put, List.setIfInBounds_toArray, List.set_cons_zero, List.set_cons_succ, List.getElem_toArray, List.getElem_cons_zero, List.getElem_cons_succ]
      refine wpAnyH_take (i := 7) (v := ?v26) rfl (by kernel_rfl) (by kernel_rfl) (by kernel_rfl) (fun _ _ _ h => h) (Or.inl ⟨by rfl, ?hy26⟩) hHeld ?rest26
      case hy26 => (intro w' hSw; (try dsimp only at hSw); go_simp; (try with_reducible rfl))
      try simp only [Act.put, List.setIfInBounds_toArray, List.set_cons_zero, List.set_cons_succ, List.getElem_toArray, List.getElem_cons_zero, List.getElem_cons_succ]
      refine wpAnyH_take (i := 8) (v := ?v27) rfl (by kernel_rfl) (by kernel_rfl) (by kernel_rfl) (fun _ _ _ h => h) (Or.inl ⟨by rfl, ?hy27⟩) hHeld ?rest27
      case hy27 => (intro w' hSw; (try dsimp only at hSw); go_simp; (try with_reducible rfl))
      try simp only [Act.put, List.setIfInBounds_toArray, List.set_cons_zero, List.set_cons_succ, List.getElem_toArray, List.getElem_cons_zero, List.getElem_cons_succ]
      refine wpAnyH_take (i := 9) (v := ?v28) rfl (by kernel_rfl) (by kernel_rfl) (by kernel_rfl) (fun _ _ _ h => h) (Or.inl ⟨by rfl, ?hy28⟩) hHeld ?rest28
      case hy28 => (intro w' hSw; (try dsimp only at hSw); go_simp; (try with_reducible rfl))
      try simp only [Act.put, List.setIfInBounds_toArray, List.set_cons_zero, List.set_cons_succ, List.getElem_toArray, List.getElem_cons_zero, List.getElem_cons_succ]
      refine wpAnyH_take (i := 10) (v := ?v29) rfl (by kernel_rfl) (by kernel_rfl) (by kernel_rfl) (fun _ _ _ h => h) (Or.inl ⟨by rfl, ?hy29⟩) hHeld ?rest29
      case hy29 => (intro w' hSw; (try dsimp only at hSw); go_simp; (try with_reducible rfl))
      try simp only [Act.put, List.setIfInBounds_toArray, List.set_cons_zero, List.set_cons_succ, List.getElem_toArray, List.getElem_cons_zero, List.getElem_cons_succ]
      refine wpAnyH_take (i := 11) (v := ?v30) rfl (by kernel_rfl) (by kernel_rfl) (by kernel_rfl) (fun _ _ _ h => h) (Or.inl ⟨by rfl, ?hy30⟩) hHeld ?rest30
      case hy30 => (intro w' hSw; (try dsimp only at hSw); go_simp; (try with_reducible rfl))
      try simp only [Act.put, List.setIfInBounds_toArray, List.set_cons_zero, List.set_cons_succ, List.getElem_toArray, List.getElem_cons_zero, List.getElem_cons_succ]
      refine wpAnyH_take (i := 12) (v := ?v31) rfl (by kernel_rfl) (by kernel_rfl) (by kernel_rfl) (fun _ _ _ h => h) (Or.inl ⟨by rfl, ?hy31⟩) hHeld ?rest31
      case hy31 => (intro w' hSw; (try dsimp only at hSw); go_simp; (try with_reducible rfl))
      try simp only [Act.put, List.setIfInBounds_toArray, List.set_cons_zero, List.set_cons_succ, List.getElem_toArray, List.getElem_cons_zero, List.getElem_cons_succ]
      refine wpAnyH_take (i := 13) (v := ?v32) rfl (by kernel_rfl) (by kernel_rfl) (by kernel_rfl) (fun _ _ _ h => h) (Or.inl ⟨by rfl, ?hy32⟩) hHeld ?rest32
      case hy32 => (intro w' hSw; (try dsimp only at hSw); go_simp; (try with_reducible rfl))
      try simp only [Act.put, List.setIfInBounds_toArray, List.set_cons_zero, List.set_cons_succ, List.getElem_toArray, List.getElem_cons_zero, List.getElem_cons_succ]
      refine wpAnyH_take (i := 15) (v := ?v33) rfl (by kernel_rfl) (by kernel_rfl) (by kernel_rfl) (fun _ _ _ h => h) (Or.inl ⟨by rfl, ?hy33⟩) hHeld ?rest33
      case hy33 => (intro w' hSw; (try dsimp only at hSw); go_simp; (try with_reducible rfl))
      try simp only [Act.put, List.setIfInBounds_toArray, List.set_cons_zero, List.set_cons_succ, List.getElem_toArray, List.getElem_cons_zero, List.getElem_cons_succ]
      refine wpAnyH_take (i := 16) (v := ?v34) rfl (by kernel_rfl) (by kernel_rfl) (by kernel_rfl) (fun _ _ _ h => h) (Or.inl ⟨by rfl, ?hy34⟩) hHeld ?rest34
      case hy34 => (intro w' hSw; (try dsimp only at hSw); go_simp; (try with_reducible rfl))
      try simp only [Act.put, List.setIfInBounds_toArray, List.set_cons_zero, List.set_cons_succ, List.getElem_toArray, List.getElem_cons_zero, List.getElem_cons_succ]
      refine wpAnyH_take (i := 17) (v := ?v35) rfl (by kernel_rfl) (by kernel_rfl) (by kernel_rfl) (fun _ _ _ h => h) (Or.inl ⟨by rfl, ?hy35⟩) hHeld ?rest35
      case hy35 => (intro w' hSw; (try dsimp only at hSw); go_simp; (try with_reducible rfl))
      try simp only [Act.put, List.setIfInBounds_toArray, List.set_cons_zero, List.set_cons_succ, List.getElem_toArray, List.getElem_cons_zero, List.getElem_cons_succ]
      refine wpAnyH_take (i := 18) (v := ?v36) rfl (by kernel_rfl) (by kernel_rfl) (by kernel_rfl) (fun _ _ _ h => h) (Or.inl ⟨by rfl, ?hy36⟩) hHeld ?rest36
      case hy36 => (intro w' hSw; (try dsimp only at hSw); go_simp; (try with_reducible rfl))
      try simp only [Act.put, List.setIfInBounds_toArray, List.set_cons_zero, List.set_cons_succ, List.getElem_toArray, List.getElem_cons_zero, List.getElem_cons_succ]
      refine wpAnyH_take (i := 19) (v := ?v37) rfl (by kernel_rfl) (by kernel_rfl) (by kernel_rfl) (fun _ _ _ h => h) (Or.inl ⟨by rfl, ?hy37⟩) hHeld ?rest37
      case hy37 => (intro w' hSw; (try dsimp only at hSw); go_simp; (try with_reducible rfl))
      try simp only [Act.put, List.setIfInBounds_toArray, List.set_cons_zero, List.set_cons_succ, List.getElem_toArray, List.getElem_cons_zero, List.getElem_cons_succ]
      refine wpAnyH_take (i := 20) (v := ?v38) rfl (by kernel_rfl) (by kernel_rfl) (by kernel_rfl) (fun _ _ _ h => h) (Or.inl ⟨by rfl, ?hy38⟩) hHeld ?rest38
      case hy38 => (intro w' hSw; (try dsimp only at hSw); go_simp; (try with_reducible rfl))
      try simp only [Act.put, List.setIfInBounds_toArray, List.set_cons_zero, List.set_cons_succ, List.getElem_toArray, List.getElem_cons_zero, List.getElem_cons_succ]
      refine wpAnyH_take (i := 21) (v := ?v39) rfl (by kernel_rfl) (by kernel_rfl) (by kernel_rfl) (fun _ _ _ h => h) (Or.inl ⟨by rfl, ?hy39⟩) hHeld ?rest39
      case hy39 => (intro w' hSw; (try dsimp only at hSw); go_simp; (try with_reducible rfl))
      try simp only [Act.put, List.setIfInBounds_toArray, List.set_cons_zero, List.set_cons_succ, List.getElem_toArray, List.getElem_cons_zero, List.getElem_cons_succ]
      refine wpAnyH_take (i := 22) (v := ?v40) rfl (by kernel_rfl) (by kernel_rfl) (by kernel_rfl) (fun _ _ _ h => h) (Or.inl ⟨by rfl, ?hy40⟩) hHeld ?rest40
      case hy40 => (intro w' hSw; (try dsimp only at hSw); go_simp; (try with_reducible rfl))
      try simp only [Act.put, List.setIfInBounds_toArray, List.set_cons_zero, List.set_cons_succ, List.getElem_toArray, List.getElem_cons_zero, List.getElem_cons_succ]
      refine wpAnyH_take (i := 23) (v := ?v41) rfl (by kernel_rfl) (by kernel_rfl) (by kernel_rfl) (fun _ _ _ h => h) (Or.inl ⟨by rfl, ?hy41⟩) hHeld ?rest41
      case hy41 => (intro w' hSw; (try dsimp only at hSw); go_simp; (try with_reducible rfl))
      try simp only [Act.put, List.setIfInBounds_toArray, List.set_cons_zero, List.set_cons_succ, List.getElem_toArray, List.getElem_cons_zero, List.getElem_cons_succ]
      refine wpAnyH_take (i := 24) (v := ?v42) rfl (by kernel_rfl) (by kernel_rfl) (by kernel_rfl) (fun _ _ _ h => h) (Or.inl ⟨by rfl, ?hy42⟩) hHeld ?rest42
      case hy42 => (intro w' hSw; (try dsimp only at hSw); go_simp; (try with_reducible rfl))
      try simp only [Act.put, List.setIfInBounds_toArray, List.set_cons_zero, List.set_cons_succ, List.getElem_toArray, List.getElem_cons_zero, List.getElem_cons_succ]
      refine wpAnyH_take (i := 25) (v := ?v43) rfl (by kernel_rfl) (by kernel_rfl) (by kernel_rfl) (fun _ _ _ h => h) (Or.inl ⟨by rfl, ?hy43⟩) hHeld ?rest43
      case hy43 => (intro w' hSw; (try dsimp only at hSw); go_simp; (try with_reducible rfl))
      try simp only [Act.put, List.setIfInBounds_toArray, List.set_cons_zero, List.set_cons_succ, List.getElem_toArray, List.getElem_cons_zero, List.getElem_cons_succ]
      refine wpAnyH_take (i := 26) (v := ?v44) rfl (by kernel_rfl) (by kernel_rfl) (by kernel_rfl) (fun _ _ _ h => h) (Or.inl ⟨by rfl, ?hy44⟩) hHeld ?rest44
      case hy44 => (intro w' hSw; (try dsimp only at hSw); go_simp; (try with_reducible rfl))
      try simp only [Act.put, List.setIfInBounds_toArray, List.set_cons_zero, List.set_cons_succ, List.getElem_toArray, List.getElem_cons_zero, List.getElem_cons_succ]
      refine wpAnyH_ready (rs := [14]) (by kernel_rfl) (by simp) ?_
      refine AllReadyH.cons rfl (fun K hK => ?_) AllReadyH.nil
      go_simp
      refine (HD3.out _).mono ?_
      rintro e w8 ⟨rfl, hA⟩
      have HS8 := Lib.hid (HS7.out.drew.below hA)
      clear HD3
      try go_wp2_with fail
      refine hK.out _ _ (⟨(hA.cell (p := ⟨gC, 0, none⟩) K7.lt).trans c0, (hA.cell (p := ⟨gC, 1, none⟩) K7.lt).trans c1, (hA.cell (p := ⟨gC, 2, none⟩) K7.lt).trans c2, (hA.cell (p := ⟨gC, 3, none⟩) K7.lt).trans c3, (hA.cell (p := ⟨gC, 4, none⟩) K7.lt).trans c4, (hA.cell (p := ⟨gC, 5, none⟩) K7.lt).trans c5, (hA.cell (p := ⟨b, o + i * 2, none⟩) hb7).trans hcu7, (hA.cell (p := ⟨b, o + i * 2 + 1, none⟩) hb7).trans hcv7⟩) (fun hHeld => ?_)
      clear hK K
      try simp only [Act.put, List.setIfInBounds_toArray, List.set_cons_zero, List.set_cons_succ, List.getElem_toArray, List.getElem_cons_zero, List.getElem_cons_succ]
      refine wpAnyH_ready (rs := [27]) (by kernel_rfl) (by simp) ?_
      refine AllReadyH.cons rfl (fun K hK => ?_) AllReadyH.nil
      go_simp
      refine (HD4.out _).mono ?_
      rintro e w9 ⟨rfl, hA9⟩
      clear HD4
      try go_wp2_with fail
      refine hK.out _ _ (⟨(hA9.cell (p := ⟨gC, 0, none⟩) HS8.out.K.lt).trans (HS8.out.K.cell (i := 0) rfl), (hA9.cell (p := ⟨gC, 1, none⟩) HS8.out.K.lt).trans (HS8.out.K.cell (i := 1) rfl), (hA9.cell (p := ⟨gC, 2, none⟩) HS8.out.K.lt).trans (HS8.out.K.cell (i := 2) rfl), (hA9.cell (p := ⟨gC, 3, none⟩) HS8.out.K.lt).trans (HS8.out.K.cell (i := 3) rfl), (hA9.cell (p := ⟨gC, 4, none⟩) HS8.out.K.lt).trans (HS8.out.K.cell (i := 4) rfl), (hA9.cell (p := ⟨gC, 5, none⟩) HS8.out.K.lt).trans (HS8.out.K.cell (i := 5) rfl), (hA9.cell (p := ⟨b, o + i * 2, none⟩) (Nat.lt_of_lt_of_le hb7 hA.size)).trans ((hA.cell (p := ⟨b, o + i * 2, none⟩) hb7).trans hcu7), (hA9.cell (p := ⟨b, o + i * 2 + 1, none⟩) (Nat.lt_of_lt_of_le hb7 hA.size)).trans ((hA.cell (p := ⟨b, o + i * 2 + 1, none⟩) hb7).trans hcv7)⟩) (fun hHeld => ?_)
      clear hK K
      try simp only [Act.put, List.setIfInBounds_toArray, List.set_cons_zero, List.set_cons_succ, List.getElem_toArray, List.getElem_cons_zero, List.getElem_cons_succ]
      refine wpAnyH_take (i := 28) (v := ?v47) rfl (by kernel_rfl) (by kernel_rfl) (by kernel_rfl) (fun _ _ _ h => h) (Or.inl ⟨by rfl, ?hy47⟩) hHeld ?rest47
      case hy47 => (intro w' hSw; (try dsimp only at hSw); go_simp; (try with_reducible rfl))
      try simp only [Act.put, List.setIfInBounds_toArray, List.set_cons_zero, List.set_cons_succ, List.getElem_toArray, List.getElem_cons_zero, List.getElem_cons_succ]
      refine wpAnyH_take (i := 29) (v := ?v48) rfl (by kernel_rfl) (by kernel_rfl) (by kernel_rfl) (fun _ _ _ h => h) (Or.inl ⟨by rfl, ?hy48⟩) hHeld ?rest48
      case hy48 => (intro w' hSw; (try dsimp only at hSw); go_simp; (try with_reducible rfl))
      try simp only [Act.put, List.setIfInBounds_toArray, List.set_cons_zero, List.set_cons_succ, List.getElem_toArray, List.getElem_cons_zero, List.getElem_cons_succ]
      refine wpAnyH_done (by kernel_rfl) ?_ _
      have HS9 := Lib.hid (HS8.out.below hA9)
      clear c0 c1 c2 c3 c4 c5 hcu7 hcv7 hA hA9 K7 HS7 HS8
      go_wp2_with fail
      go_roundw
      case rel => exact ⟨i + 1, by omega, by go_num, Lib.hid (by have := HS9.out; exact ⟨this.J.mono (by omega), this.K, this.ho, this.B, this.le⟩)⟩
      case measure => simp [intOf]; omega
    · obtain rfl : i = nl := by omega
      go_wp2_with fail
      refine (works11_any wr).mono ?_
      rintro e w8 ⟨rfl, hA⟩
      go_wp2_with fail
      go_ret
      exact ⟨rfl, (HS.out.below hA).B⟩

theorem heights_any (p q r : Nat) (a al : Option Addr) (n cap nl cl : Nat) (z : List Int) (l : List (Int × Int)) (hp : p < 256) (hq : q < 256) (hr : r < 256) (hz : z.length = n) (h16 : ∀ u ∈ z, In16 u) (hl : l.length = nl)
    (h64 : ∀ s ∈ l, (-9223372036854775808 ≤ s.1 ∧ s.1 ≤ 9223372036854775807) ∧ -9223372036854775808 ≤ s.2 ∧ s.2 ≤ 9223372036854775807) (w : World) (hS : Sl w 1 (.slice a n cap) n (i16s z)) (hSl : Sl w 2 (.slice al nl cl) nl (spts l)) :
    Calls Tryz.prog 3 #[.int .u8 p, .int .u8 q, .slice a n cap, .int .u8 r, .slice al nl cl] w fun e w' => e = .returned (.bool true) ∧ Below w.heap.size w w' := by
  have m1 := hS.max
  have m2 := hSl.max
  by_cases hbig : 2000 < n ∨ 60 < nl
  · exact heights_big p q r a al n cap nl cl w hbig (by omega) (by omega)
  · exact heights_go p q r a al n cap nl cl z l hp hq hr hz h16 (by omega) hl (by omega) h64 w hS hSl
end Go.Proofs.YtlkjcamjgaecgaaGreat
