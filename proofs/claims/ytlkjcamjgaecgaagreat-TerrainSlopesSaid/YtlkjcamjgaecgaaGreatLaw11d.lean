/-
  TerrainSlopes: the walk.
-/
import Derived.Test.YtlkjcamjgaecgaaGreatLaw11c
import Derived.Test.YtlkjcamjgaecgaaGreatRef11E
set_option linter.unusedVariables false
set_option linter.unusedSimpArgs false
namespace Go.Proofs.YtlkjcamjgaecgaaGreat
open Go Go.RowKit Go.Th Go.Th.Crc

theorem slopes_big (p q : Nat) (a al : Option Addr) (n cap nl cl : Nat) (w : World) (hbig : 2000 < n ∨ 60 < nl) (hn : n ≤ 9223372036854775807) (hnl : nl ≤ 9223372036854775807) :
    Calls Tryz.prog 5 #[.int .u8 p, .int .u8 q, .slice a n cap, .slice al nl cl] w fun e w' => e = .returned (.bool true) ∧ Below w.heap.size w w' := by
  by_cases h1 : 2000 < n
  · have hb' : (2000 : Int) < (n : Int) := by omega
    clear hbig
    go_enter Tryz.func5, Tryz.ntmps5
    go_wp2_with fail
    refine (works11_any w).mono ?_
    rintro e w1 ⟨rfl, hB⟩
    go_wp2_with fail
    go_ret
    exact ⟨rfl, hB⟩
  · have hb' : ¬ ((2000 : Int) < (n : Int)) := by omega
    have hb2 : (60 : Int) < (nl : Int) := by omega
    clear hbig
    go_enter Tryz.func5, Tryz.ntmps5
    go_wp2_with fail
    refine (works11_any w).mono ?_
    rintro e w1 ⟨rfl, hB⟩
    go_wp2_with fail
    go_ret
    exact ⟨rfl, hB⟩

set_option maxRecDepth 20000 in
set_option maxHeartbeats 6400000 in
theorem slopes_go (p q : Nat) (a al : Option Addr) (n cap nl cl : Nat) (z : List Int) (l : List (Int × Int)) (hp : p < 256) (hq : q < 256) (hz : z.length = n) (h16 : ∀ u ∈ z, In16 u) (hn : n ≤ 2000) (hl : l.length = nl) (hnl : nl ≤ 60)
    (h64 : ∀ s ∈ l, (-9223372036854775808 ≤ s.1 ∧ s.1 ≤ 9223372036854775807) ∧ -9223372036854775808 ≤ s.2 ∧ s.2 ≤ 9223372036854775807) (w : World) (hS : Sl w 1 (.slice a n cap) n (i16s z)) (hSl : Sl w 2 (.slice al nl cl) nl (spts l)) :
    Calls Tryz.prog 5 #[.int .u8 p, .int .u8 q, .slice a n cap, .slice al nl cl] w fun e w' => e = .returned (.bool true) ∧ Below w.heap.size w w' := by
  have hb' : ¬ ((2000 : Int) < (n : Int)) := by omega
  have hb2 : ¬ ((60 : Int) < (nl : Int)) := by omega
  have C1 := Lib.hid (made9_any p q n 30 31 0 0 a cap z hp hq (by omega) (by omega) hz hn h16 w hS)
  have HSL := Lib.hid hSl
  have HL := Lib.hid hl
  have H64 := Lib.hid h64
  clear hz h16 hS hp hq hSl hl h64
  go_enter Tryz.func5, Tryz.ntmps5
  go_wp2_with fail
  refine C1.out.mono ?_
  rintro e w2 ⟨x, y, v, F, rfl, hF, hx, hy, hfl, hf16, hof, hA⟩
  obtain ⟨av, cw, rfl, _, _⟩ := ownsRow_slice hof
  have hB := hA
  have hO : MapOk F x y 31 0 0 := ⟨hF, by decide, hfl, hf16, ⟨by decide, by decide⟩, ⟨by decide, by decide⟩⟩
  have HO := Lib.hid hO
  obtain ⟨w3, hw3⟩ : ∃ w3, w2.alloc (.cells #[.int .i64 x, .int .i64 y, .slice av (x * y) cw, .int .i64 31, .int .i32 0, .int .i32 0] 28) = w3 := ⟨_, rfl⟩
  have hA3 : Below w2.heap.size w2 w3 := by rw [← hw3]; exact (Below.refl _ _).alloc (Nat.le_refl _) _
  have KC : Blk w3 w2.heap.size 28 [.int .i64 x, .int .i64 y, .slice av (x * y) cw, .int .i64 31, .int .i32 0, .int .i32 0] := by rw [← hw3]; exact Blk.new w2 _ _
  replace hof := ownsRow_below hof hA3
  replace hB := hB.trans (hA3.mono hB.size)
  obtain ⟨gC, hgC⟩ : ∃ g, w2.heap.size = g := ⟨_, rfl⟩
  have HGC := Lib.hid hgC
  rw [hgC] at KC
  have hW := hO.fld.W1
  have hH := hO.fld.H1
  obtain ⟨m, hm⟩ : ∃ m, m = x * y := ⟨_, rfl⟩
  have C2 := fun wx hs => open10_any F x y 31 0 0 hO 5 (by decide) (by decide) (x * y) rfl av cw wx hs
  have C4 := fun u v => refSlp_any hO.fld u v av cw
  rw [← hm] at C2 C4 hof KC hw3 ⊢
  replace C2 := Lib.hid C2
  replace C4 := Lib.hid C4
  have HW3 := Lib.hid hw3
  clear C1 hA hA3 hF hfl hf16 hm hw3 hO hgC hW hH
  go_upto_region 4 with fail
  rw [HW3.out, HGC.out]
  clear HW3 HGC
  have c0 := KC.cell (i := 0) rfl
  have c1 := KC.cell (i := 1) rfl
  have c2 := KC.cell (i := 2) rfl
  have c3 := KC.cell (i := 3) rfl
  have c4 := KC.cell (i := 4) rfl
  have c5 := KC.cell (i := 5) rfl
  go_wp2_with fail
  refine (C2.out w3 (Sl.of_own hof)).mono ?_
  rintro e w5 ⟨g, rfl, J, hA⟩
  obtain ⟨B5, hB5⟩ : ∃ q, q = w3.heap.size := ⟨_, rfl⟩
  obtain ⟨B6, hB6⟩ : ∃ q, q = w.heap.size := ⟨_, rfl⟩
  rw [← hB6] at hof
  have HS : Hid (SpI w w5 B5 g F x y gC B6 m av cw 5 0) := Lib.hid ⟨⟨[], 0, 0, by omega, by omega, by rw [hB5]; exact J⟩, KC.below hA KC.lt, ownsRow_below hof hA, hB.trans (hA.mono hB.size), Nat.le_trans hB.size J.le⟩
  have hmx := HSL.out.max
  clear C2 hA J KC hof hB hB5 hB6 c0 c1 c2 c3 c4 c5
  go_wp2_with fail
  go_loopw [11] (fun q wx => ∃ i : Nat, i ≤ nl ∧ q = .int .i64 i ∧ Hid (SpI w wx B5 g F x y gC B6 m av cw 5 (4 * i))) (fun q _ => nl - (intOf q).toNat)
  case atStart => exact ⟨0, Nat.zero_le _, rfl, HS⟩
  case round =>
    clear HS
    obtain ⟨i, hi, rfl, HS⟩ := hrel
    by_cases hlt : i < nl
    · obtain ⟨u, v, huv⟩ : ∃ u v, l[i]? = some (u, v) := ⟨_, _, List.getElem?_eq_getElem (by rw [HL.out]; exact hlt)⟩
      obtain ⟨hu64, hv64⟩ := H64.out (u, v) (List.mem_of_getElem? huv)
      obtain ⟨b, o, rfl, hb0, _, _⟩ := cell_spts HSL.out i u v huv
      obtain ⟨b', o', he, hb, hcu, hcv⟩ := cell_spts (HSL.out.below HS.out.B) i u v huv
      cases he
      have D1 := Lib.hid (tslp_any HO.out g B5 5 (4 * i) (by omega) u v hu64 hv64 wr HS.out.J)
      have D2 := C4.out u v
      obtain ⟨t1, ht1⟩ : ∃ t, t = (slp F x y u v).1 := ⟨_, rfl⟩
      obtain ⟨t2, ht2⟩ : ∃ t, t = (slp F x y u v).2.1 := ⟨_, rfl⟩
      obtain ⟨t3, ht3⟩ : ∃ t, t = (slp F x y u v).2.2 := ⟨_, rfl⟩
      rw [← ht1, ← ht2, ← ht3] at D1 D2
      have HD2 := Lib.hid D2
      clear huv ht1 ht2 ht3 D2 hu64 hv64
      go_wp2_with fail
      refine D1.out.mono ?_
      rintro e w6 ⟨rfl, J6, hT⟩
      have HS6 := Lib.hid (HS.out.turn J6 hT)
      have hcu6 := HS.out.cell_old hT hb0 hcu
      have hcv6 := HS.out.cell_old hT hb0 hcv
      have hb6 : b < w6.heap.size := Nat.lt_of_lt_of_le hb hT.size
      have K6 := HS6.out.K
      have c0 := K6.cell (i := 0) rfl
      have c1 := K6.cell (i := 1) rfl
      have c2 := K6.cell (i := 2) rfl
      have E2 := Lib.hid (HD2.out w6.drew (Sl.of_own HS6.out.drew.ho))
      clear D1 J6 hT hcu hcv HS HD2
      go_wp2_with fail
      refine wp_region_held_drew (S := (fun w' : World => w'.cell? ⟨gC, 0, none⟩ = some (.int .i64 x) ∧ w'.cell? ⟨gC, 1, none⟩ = some (.int .i64 y) ∧ w'.cell? ⟨gC, 2, none⟩ = some (.slice av m cw) ∧ w'.cell? ⟨b, o + i * 2, none⟩ = some (.int .i64 u) ∧ w'.cell? ⟨b, o + i * 2 + 1, none⟩ = some (.int .i64 v))) (by kernel_rfl) (⟨c0, c1, c2, hcu6, hcv6⟩) (fun hHeld => ?_)
      refine wpAnyH_take (i := 0) (v := ?v1) rfl (by kernel_rfl) (by kernel_rfl) (by kernel_rfl) (fun _ _ _ h => h) (Or.inl ⟨by rfl, ?hy1⟩) hHeld ?rest1
      case hy1 => (intro w' hSw; (try dsimp only at hSw); go_simp; (try with_reducible rfl))
      try simp only [Act.put, List.setIfInBounds_toArray, List.set_cons_zero, List.set_cons_succ, List.getElem_toArray, List.getElem_cons_zero, List.getElem_cons_succ]
      refine wpAnyH_take (i := 1) (v := ?v2) rfl (by kernel_rfl) (by kernel_rfl) (by kernel_rfl) (fun _ _ _ h => h) (Or.inl ⟨by rfl, ?hy2⟩) hHeld ?rest2
      case hy2 => (intro w' hSw; (try dsimp only at hSw); go_simp; (try with_reducible rfl))
      try simp only [Act.put, List.setIfInBounds_toArray, List.set_cons_zero, List.set_cons_succ, List.getElem_toArray, List.getElem_cons_zero, List.getElem_cons_succ]
      refine wpAnyH_take (i := 2) (v := ?v3) rfl (by kernel_rfl) (by kernel_rfl) (by kernel_rfl) (fun _ _ _ h => h) (Or.inl ⟨by rfl, ?hy3⟩) hHeld ?rest3
      case hy3 => (intro w' hSw; (try dsimp only at hSw); go_simp; (try with_reducible rfl))
      try simp only [Act.put, List.setIfInBounds_toArray, List.set_cons_zero, List.set_cons_succ, List.getElem_toArray, List.getElem_cons_zero, List.getElem_cons_succ]
      refine wpAnyH_take (i := 3) (v := ?v4) rfl (by kernel_rfl) (by kernel_rfl) (by kernel_rfl) (fun _ _ _ h => h) (Or.inl ⟨by rfl, ?hy4⟩) hHeld ?rest4
      case hy4 => (intro w' hSw; (try dsimp only at hSw); go_simp; (try with_reducible rfl))
      try simp only [Act.put, List.setIfInBounds_toArray, List.set_cons_zero, List.set_cons_succ, List.getElem_toArray, List.getElem_cons_zero, List.getElem_cons_succ]
      refine wpAnyH_take (i := 4) (v := ?v5) rfl (by kernel_rfl) (by kernel_rfl) (by kernel_rfl) (fun _ _ _ h => h) (Or.inl ⟨by rfl, ?hy5⟩) hHeld ?rest5
      case hy5 => (intro w' hSw; (try dsimp only at hSw); go_simp; (try with_reducible rfl))
      try simp only [Act.put, List.setIfInBounds_toArray, List.set_cons_zero, List.set_cons_succ, List.getElem_toArray, List.getElem_cons_zero, List.getElem_cons_succ]
      refine wpAnyH_take (i := 5) (v := ?v6) rfl (by kernel_rfl) (by kernel_rfl) (by kernel_rfl) (fun _ _ _ h => h) (Or.inl ⟨by rfl, ?hy6⟩) hHeld ?rest6
      case hy6 => (intro w' hSw; (try dsimp only at hSw); go_simp; (try with_reducible rfl))
      try simp only [Act.put, List.setIfInBounds_toArray, List.set_cons_zero, List.set_cons_succ, List.getElem_toArray, List.getElem_cons_zero, List.getElem_cons_succ]
      refine wpAnyH_take (i := 6) (v := ?v7) rfl (by kernel_rfl) (by kernel_rfl) (by kernel_rfl) (fun _ _ _ h => h) (Or.inl ⟨by rfl, ?hy7⟩) hHeld ?rest7
      case hy7 => (intro w' hSw; (try dsimp only at hSw); go_simp; (try with_reducible rfl))
      try simp only [Act.put, List.setIfInBounds_toArray, List.set_cons_zero, List.set_cons_succ, List.getElem_toArray, List.getElem_cons_zero, List.getElem_cons_succ]
      refine wpAnyH_take (i := 7) (v := ?v8) rfl (by kernel_rfl) (by kernel_rfl) (by kernel_rfl) (fun _ _ _ h => h) (Or.inl ⟨by rfl, ?hy8⟩) hHeld ?rest8
      case hy8 => (intro w' hSw; (try dsimp only at hSw); go_simp; (try with_reducible rfl))
      try simp only [Act.put, List.setIfInBounds_toArray, List.set_cons_zero, List.set_cons_succ, List.getElem_toArray, List.getElem_cons_zero, List.getElem_cons_succ]
      refine wpAnyH_take (i := 8) (v := ?v9) rfl (by kernel_rfl) (by kernel_rfl) (by kernel_rfl) (fun _ _ _ h => h) (Or.inl ⟨by rfl, ?hy9⟩) hHeld ?rest9
      case hy9 => (intro w' hSw; (try dsimp only at hSw); go_simp; (try with_reducible rfl))
      try simp only [Act.put, List.setIfInBounds_toArray, List.set_cons_zero, List.set_cons_succ, List.getElem_toArray, List.getElem_cons_zero, List.getElem_cons_succ]
      refine wpAnyH_take (i := 9) (v := ?v10) rfl (by kernel_rfl) (by kernel_rfl) (by kernel_rfl) (fun _ _ _ h => h) (Or.inl ⟨by rfl, ?hy10⟩) hHeld ?rest10
      case hy10 => (intro w' hSw; (try dsimp only at hSw); go_simp; (try with_reducible rfl))
      try simp only [Act.put, List.setIfInBounds_toArray, List.set_cons_zero, List.set_cons_succ, List.getElem_toArray, List.getElem_cons_zero, List.getElem_cons_succ]
      refine wpAnyH_take (i := 10) (v := ?v11) rfl (by kernel_rfl) (by kernel_rfl) (by kernel_rfl) (fun _ _ _ h => h) (Or.inl ⟨by rfl, ?hy11⟩) hHeld ?rest11
      case hy11 => (intro w' hSw; (try dsimp only at hSw); go_simp; (try with_reducible rfl))
      try simp only [Act.put, List.setIfInBounds_toArray, List.set_cons_zero, List.set_cons_succ, List.getElem_toArray, List.getElem_cons_zero, List.getElem_cons_succ]
      refine wpAnyH_take (i := 11) (v := ?v12) rfl (by kernel_rfl) (by kernel_rfl) (by kernel_rfl) (fun _ _ _ h => h) (Or.inl ⟨by rfl, ?hy12⟩) hHeld ?rest12
      case hy12 => (intro w' hSw; (try dsimp only at hSw); go_simp; (try with_reducible rfl))
      try simp only [Act.put, List.setIfInBounds_toArray, List.set_cons_zero, List.set_cons_succ, List.getElem_toArray, List.getElem_cons_zero, List.getElem_cons_succ]
      refine wpAnyH_ready (rs := [12]) (by kernel_rfl) (by simp) ?_
      refine AllReadyH.cons rfl (fun K hK => ?_) AllReadyH.nil
      go_simp
      refine E2.out.mono ?_
      rintro e w7 ⟨rfl, hA⟩
      clear E2
      try go_wp2_with fail
      refine hK.out _ _ (⟨(hA.cell (p := ⟨gC, 0, none⟩) K6.lt).trans c0, (hA.cell (p := ⟨gC, 1, none⟩) K6.lt).trans c1, (hA.cell (p := ⟨gC, 2, none⟩) K6.lt).trans c2, (hA.cell (p := ⟨b, o + i * 2, none⟩) hb6).trans hcu6, (hA.cell (p := ⟨b, o + i * 2 + 1, none⟩) hb6).trans hcv6⟩) (fun hHeld => ?_)
      clear hK K
      try simp only [Act.put, List.setIfInBounds_toArray, List.set_cons_zero, List.set_cons_succ, List.getElem_toArray, List.getElem_cons_zero, List.getElem_cons_succ]
      refine wpAnyH_take (i := 13) (v := ?v14) rfl (by kernel_rfl) (by kernel_rfl) (by kernel_rfl) (fun _ _ _ h => h) (Or.inl ⟨by rfl, ?hy14⟩) hHeld ?rest14
      case hy14 => (intro w' hSw; (try dsimp only at hSw); go_simp; (try with_reducible rfl))
      try simp only [Act.put, List.setIfInBounds_toArray, List.set_cons_zero, List.set_cons_succ, List.getElem_toArray, List.getElem_cons_zero, List.getElem_cons_succ]
      refine wpAnyH_take (i := 14) (v := ?v15) rfl (by kernel_rfl) (by kernel_rfl) (by kernel_rfl) (fun _ _ _ h => h) (Or.inl ⟨by rfl, ?hy15⟩) hHeld ?rest15
      case hy15 => (intro w' hSw; (try dsimp only at hSw); go_simp; (try with_reducible rfl))
      try simp only [Act.put, List.setIfInBounds_toArray, List.set_cons_zero, List.set_cons_succ, List.getElem_toArray, List.getElem_cons_zero, List.getElem_cons_succ]
      refine wpAnyH_take (i := 15) (v := ?v16) rfl (by kernel_rfl) (by kernel_rfl) (by kernel_rfl) (fun _ _ _ h => h) (Or.inl ⟨by rfl, ?hy16⟩) hHeld ?rest16
      case hy16 => (intro w' hSw; (try dsimp only at hSw); go_simp; (try with_reducible rfl))
      try simp only [Act.put, List.setIfInBounds_toArray, List.set_cons_zero, List.set_cons_succ, List.getElem_toArray, List.getElem_cons_zero, List.getElem_cons_succ]
      refine wpAnyH_take (i := 16) (v := ?v17) rfl (by kernel_rfl) (by kernel_rfl) (by kernel_rfl) (fun _ _ _ h => h) (Or.inl ⟨by rfl, ?hy17⟩) hHeld ?rest17
      case hy17 => (intro w' hSw; (try dsimp only at hSw); go_simp; (try with_reducible rfl))
      try simp only [Act.put, List.setIfInBounds_toArray, List.set_cons_zero, List.set_cons_succ, List.getElem_toArray, List.getElem_cons_zero, List.getElem_cons_succ]
      refine wpAnyH_take (i := 17) (v := ?v18) rfl (by kernel_rfl) (by kernel_rfl) (by kernel_rfl) (fun _ _ _ h => h) (Or.inl ⟨by rfl, ?hy18⟩) hHeld ?rest18
      case hy18 => (intro w' hSw; (try dsimp only at hSw); go_simp; (try with_reducible rfl))
      try simp only [Act.put, List.setIfInBounds_toArray, List.set_cons_zero, List.set_cons_succ, List.getElem_toArray, List.getElem_cons_zero, List.getElem_cons_succ]
      refine wpAnyH_take (i := 18) (v := ?v19) rfl (by kernel_rfl) (by kernel_rfl) (by kernel_rfl) (fun _ _ _ h => h) (Or.inl ⟨by rfl, ?hy19⟩) hHeld ?rest19
      case hy19 => (intro w' hSw; (try dsimp only at hSw); go_simp; (try with_reducible rfl))
      try simp only [Act.put, List.setIfInBounds_toArray, List.set_cons_zero, List.set_cons_succ, List.getElem_toArray, List.getElem_cons_zero, List.getElem_cons_succ]
      refine wpAnyH_take (i := 19) (v := ?v20) rfl (by kernel_rfl) (by kernel_rfl) (by kernel_rfl) (fun _ _ _ h => h) (Or.inl ⟨by rfl, ?hy20⟩) hHeld ?rest20
      case hy20 => (intro w' hSw; (try dsimp only at hSw); go_simp; (try with_reducible rfl))
      try simp only [Act.put, List.setIfInBounds_toArray, List.set_cons_zero, List.set_cons_succ, List.getElem_toArray, List.getElem_cons_zero, List.getElem_cons_succ]
      refine wpAnyH_done (by kernel_rfl) ?_ _
      have HS9 := Lib.hid (HS6.out.drew.below hA)
      have e1 : (t1 == t1) = true := by simp
      have e2 : (t2 == t2) = true := by simp
      have e3 : (t3 == t3) = true := by simp
      clear c0 c1 c2 hcu6 hcv6 hA K6 HS6
      go_wp2_with fail
      go_roundw
      case rel => exact ⟨i + 1, by omega, by go_num, Lib.hid (by have := HS9.out; exact ⟨this.J.mono (by omega), this.K, this.ho, this.B, this.le⟩)⟩
      case measure => simp [intOf]; omega
    · obtain rfl : i = nl := by omega
      go_wp2_with fail
      refine (works11_any wr).mono ?_
      rintro e w8 ⟨rfl, hA⟩
      go_wp2_with fail
      go_ret
      exact ⟨rfl, (HS.out.below hA).B⟩

theorem slopes_any (p q : Nat) (a al : Option Addr) (n cap nl cl : Nat) (z : List Int) (l : List (Int × Int)) (hp : p < 256) (hq : q < 256) (hz : z.length = n) (h16 : ∀ u ∈ z, In16 u) (hl : l.length = nl)
    (h64 : ∀ s ∈ l, (-9223372036854775808 ≤ s.1 ∧ s.1 ≤ 9223372036854775807) ∧ -9223372036854775808 ≤ s.2 ∧ s.2 ≤ 9223372036854775807) (w : World) (hS : Sl w 1 (.slice a n cap) n (i16s z)) (hSl : Sl w 2 (.slice al nl cl) nl (spts l)) :
    Calls Tryz.prog 5 #[.int .u8 p, .int .u8 q, .slice a n cap, .slice al nl cl] w fun e w' => e = .returned (.bool true) ∧ Below w.heap.size w w' := by
  have m1 := hS.max
  have m2 := hSl.max
  by_cases hbig : 2000 < n ∨ 60 < nl
  · exact slopes_big p q a al n cap nl cl w hbig (by omega) (by omega)
  · exact slopes_go p q a al n cap nl cl z l hp hq hz h16 (by omega) hl (by omega) h64 w hS hSl
end Go.Proofs.YtlkjcamjgaecgaaGreat
