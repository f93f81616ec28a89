/-
  CacheNone: the walk.
-/
import Derived.Test.YtiflbbpliioblaaLaw10b
set_option linter.unusedVariables false
set_option linter.unusedSimpArgs false
namespace Go.Proofs.Ytiflbbpliioblaa
open Go Go.RowKit Go.Th Go.Th.Crc

theorem xor_lt8 {a b : Nat} (ha : a < 256) (hb : b < 256) : a ^^^ b < 256 := Nat.xor_lt_two_pow (n := 8) ha hb
theorem set_lt8 {bs : List Nat} {k x : Nat} (h : ∀ u ∈ bs, u < 256) (hx : x < 256) : ∀ u ∈ bs.set k x, u < 256 := by
  intro u hu
  rcases List.mem_or_eq_of_mem_set hu with h' | rfl
  · exact h u h'
  · exact hx

theorem cacheNone_big (p q at_ mask : Nat) (k : Int) (a al : Option Addr) (n cap nl cl : Nat) (w : World) (hbig : 1000 < n ∨ 60 < nl) (hn : n ≤ 9223372036854775807) (hnl : nl ≤ 9223372036854775807) :
    Calls Try.prog 5 #[.int .u8 p, .int .u8 q, .slice a n cap, .int .i64 k, .int .u16 at_, .int .u8 mask, .slice al nl cl] w fun e w' => e = .returned (.bool true) ∧ Below w.heap.size w w' := by
  by_cases h1 : 1000 < n
  · have hb' : (1000 : Int) < (n : Int) := by omega
    clear hbig
    go_enter Try.func5, Try.ntmps5
    go_wp2_with fail
    refine (works10_any w).mono ?_
    rintro e w1 ⟨rfl, hB⟩
    go_wp2_with fail
    go_ret
    exact ⟨rfl, hB⟩
  · have hb' : ¬ ((1000 : Int) < (n : Int)) := by omega
    have hb2 : (60 : Int) < (nl : Int) := by omega
    clear hbig
    go_enter Try.func5, Try.ntmps5
    go_wp2_with fail
    refine (works10_any w).mono ?_
    rintro e w1 ⟨rfl, hB⟩
    go_wp2_with fail
    go_ret
    exact ⟨rfl, hB⟩

set_option maxRecDepth 20000 in
set_option maxHeartbeats 6400000 in
theorem cacheNone_go (p q at_ mask : Nat) (room : Int) (a al : Option Addr) (n cap nl cl : Nat) (z : List Int) (l : List (Int × Int)) (hp : p < 256) (hq : q < 256) (hat : at_ < 65536) (hmask : mask < 256) (hz : z.length = n) (h16 : ∀ u ∈ z, In16 u) (hn : n ≤ 1000) (hl : l.length = nl) (hnl : nl ≤ 60) (w : World) (hS : Sl w 1 (.slice a n cap) n (i16s z)) (hSl : Sl w 2 (.slice al nl cl) nl (ats l)) :
    Calls Try.prog 5 #[.int .u8 p, .int .u8 q, .slice a n cap, .int .i64 room, .int .u16 at_, .int .u8 mask, .slice al nl cl] w fun e w' => e = .returned (.bool true) ∧ Below w.heap.size w w' := by
  have hb' : ¬ ((1000 : Int) < (n : Int)) := by omega
  have hb2 : ¬ ((60 : Int) < (nl : Int)) := by omega
  have C1 := Lib.hid (field_any p q n a cap z hp hq hz (by omega) h16 w hS)
  have HSL := Lib.hid hSl
  have HL := Lib.hid hl
  clear hz h16 hS hp hq hSl hl
  go_enter Try.func5, Try.ntmps5
  go_wp2_with fail
  refine C1.out.mono ?_
  rintro e w2 ⟨x, y, v, F, rfl, hF, hx, hy, hfl, hf16, hof, hA⟩
  obtain ⟨av, cw, rfl, _, _⟩ := ownsRow_slice hof
  have hB := hA
  have hO : MapOk F x y 5 0 0 := ⟨hF, by decide, hfl, hf16, ⟨by decide, by decide⟩, ⟨by decide, by decide⟩⟩
  have HO := Lib.hid hO
  obtain ⟨w3, hw3⟩ : ∃ w3, w2.alloc (.cells #[.int .i64 x, .int .i64 y, .slice av (x * y) cw, .int .i64 5, .int .i32 0, .int .i32 0] 28) = w3 := ⟨_, rfl⟩
  have hA3 : Below w2.heap.size w2 w3 := by rw [← hw3]; exact (Below.refl _ _).alloc (Nat.le_refl _) _
  have KC : Blk w3 w2.heap.size 28 [.int .i64 x, .int .i64 y, .slice av (x * y) cw, .int .i64 5, .int .i32 0, .int .i32 0] := by rw [← hw3]; exact Blk.new w2 _ _
  replace hof := ownsRow_below hof hA3
  replace hB := hB.trans (hA3.mono hB.size)
  obtain ⟨gC, hgC⟩ : ∃ g, w2.heap.size = g := ⟨_, rfl⟩
  have HGC := Lib.hid hgC
  rw [hgC] at KC
  have hmle : x * y ≤ 40 * 40 := Nat.mul_le_mul hx hy
  have CP := put9_any x y 5 (x * y) 0 0 av cw F hF rfl (by decide) hfl hf16 w3 (Sl.of_own hof)
  have CN := fun rm h1 h2 L hL a' cap' wx hs => new_map F x y 5 0 0 hO rm h1 h2 L hL a' cap' wx hs
  have C4 := fun u v wx hs => ref10_told F x y (x * y) u v hfl rfl (by omega) (by omega) av cw wx hs
  have hshort := short10 F x y 5 0 0 hfl (by omega) (by omega)
  have hblt := chartB_lt F x y 5 0 0
  have hlong : 22 ≤ (chartB F x y 5 0 0).length := by rw [chartB_length]; unfold headLen; omega
  obtain ⟨m, hm⟩ : ∃ m, m = x * y := ⟨_, rfl⟩
  obtain ⟨bs, hbs⟩ : ∃ bs, bs = chartB F x y 5 0 0 := ⟨_, rfl⟩
  obtain ⟨L, hL⟩ : ∃ L, L = bs.length := ⟨_, rfl⟩
  rw [← hm] at CP C4 hof KC hw3 hmle ⊢
  rw [← hbs] at CP CN hshort hblt hlong
  rw [← hL] at CP hshort hlong
  replace CP := Lib.hid CP
  replace CN := Lib.hid CN
  replace C4 := Lib.hid C4
  have HBL := Lib.hid hblt
  have HLL := Lib.hid hL
  have HW3 := Lib.hid hw3
  clear C1 hA hA3 hF hfl hf16 hm hw3 hO hgC hblt hbs hL
  go_upto_region 4 with fail
  rw [HW3.out, HGC.out]
  clear HW3
  have c0 := KC.cell (i := 0) rfl
  have c1 := KC.cell (i := 1) rfl
  have c2 := KC.cell (i := 2) rfl
  have c3 := KC.cell (i := 3) rfl
  have c4 := KC.cell (i := 4) rfl
  have c5 := KC.cell (i := 5) rfl
  go_wp2_with fail
  refine CP.out.mono ?_
  rintro e w4 ⟨vb, rfl, hob, hA⟩
  obtain ⟨gb, cb, rfl, hgb1, hgb2, hcb1, hcb2⟩ := ownsRow_val hob (by omega)
  unfold maxLen at hcb2
  replace KC := KC.below hA KC.lt
  replace hof := ownsRow_below hof hA
  have hwgb : w.heap.size ≤ gb := Nat.le_trans hB.size hgb1
  replace hB := hB.trans (hA.mono hB.size)
  have hgCb : gC ≠ gb := by rintro rfl; have h1 := KC; unfold Blk at h1; rcases hob.2 with ⟨h2, _⟩ | ⟨g', cap', cur, h2, _, h3, _⟩
                            · cases h2
                            · cases h2; rw [h1] at h3; simp at h3
  obtain ⟨B6, hB6⟩ : ∃ B6, w.heap.size = B6 := ⟨_, rfl⟩
  rw [hB6] at hof
  clear CP hA c0 c1 c2 c3 c4 c5 hB6
  have hL0 : ¬ ((L : Int) = 0) := by omega
  by_cases hroom : 4 ≤ room ∧ room ≤ 32
  rotate_left
  · have D2 := Lib.hid (newRoom_go (some ⟨gb, 0, none⟩) L cb room hroom w4)
    have hor : room < 4 ∨ (¬ room < 4 ∧ 32 < room) := by omega
    clear hroom KC hof hob hgCb CN
    go_wp2_with fail
    refine D2.out.mono ?_
    rintro e w5 ⟨rfl, rfl⟩
    rcases hor with h | ⟨h, h'⟩
    · go_wp2_with fail
      refine (works10_any _).mono ?_
      rintro e w6 ⟨rfl, hA⟩
      go_wp2_with fail
      go_ret
      exact ⟨rfl, hB.trans (hA.mono hB.size)⟩
    · go_wp2_with fail
      refine (works10_any _).mono ?_
      rintro e w6 ⟨rfl, hA⟩
      go_wp2_with fail
      go_ret
      exact ⟨rfl, hB.trans (hA.mono hB.size)⟩
  obtain ⟨hr1, hr2⟩ := hroom
  obtain ⟨rm, rfl⟩ := Int.eq_ofNat_of_zero_le (show 0 ≤ room by omega)
  have hrm1 : 4 ≤ rm := by omega
  have hrm2 : rm ≤ 32 := by omega
  have D2 := Lib.hid (CN.out rm hrm1 hrm2 L (by rw [HLL.out]) (some ⟨gb, 0, none⟩) cb w4 (Sl.of_own hob))
  have hi1 : ¬ ((rm : Int) < 4) := by omega
  have hi2 : ¬ ((32 : Int) < (rm : Int)) := by omega
  clear CN hr1 hr2
  go_wp2_with fail
  refine D2.out.mono ?_
  rintro e w5 ⟨g, rfl, J, hA⟩
  have hgbg : gb < g := Nat.lt_of_lt_of_le (hob.lt gb rfl).2 J.le
  have hgbB : gb < w4.heap.size := (hob.lt gb rfl).2
  replace KC := KC.below hA KC.lt
  replace hof := ownsRow_below hof hA
  replace hob := ownsRow_below hob hA
  replace hB := hB.trans (hA.mono hB.size)
  obtain ⟨kk, hkk⟩ : ∃ kk, kk = at_ % L := ⟨_, rfl⟩
  have hkL : kk < L := by rw [hkk]; exact Nat.mod_lt _ (by omega)
  have hki : (at_ : Int) % (L : Int) = (kk : Int) := by rw [hkk]; simp
  have hbl : bs.length = L := HLL.out.symm
  obtain ⟨b0, hb0⟩ : ∃ b0, bs[kk]? = some b0 := ⟨_, List.getElem?_eq_getElem (by omega)⟩
  have hb08 : b0 < 256 := HBL.out b0 (List.mem_of_getElem? hb0)
  have hcx : w5.cell? ⟨gb, kk, none⟩ = some (.int .u8 (b0 : Int)) := ownsRow_cell hob (by simp [u8s, hb0])
  have hfx := ownsRow_free hob kk
  have hxb : bits BinOp.xor IntKind.u8 (b0 : Int) (mask : Int) = ((b0 ^^^ mask : Nat) : Int) := u8_xor_nat b0 mask hb08 hmask
  have hx8 := xor_lt8 hb08 hmask
  obtain ⟨nx, hnx⟩ : ∃ nx, nx = b0 ^^^ mask := ⟨_, rfl⟩
  rw [← hnx] at hxb hx8
  have hset := ownsRow_set hob kk hkL (.int .u8 (nx : Nat))
  rw [show (u8s bs).set kk (.int .u8 (nx : Nat)) = u8s (bs.set kk nx) by simp [u8s, List.map_set]] at hset
  have hT : Turned (fun q => q = gb) w5 (w5.setCell ⟨gb, kk, none⟩ (.int .u8 (nx : Nat))) := (Turned.refl (fun q => q = gb) w5).setCell (.inl rfl) _
  obtain ⟨w6, hw6⟩ : ∃ w6, w5.setCell ⟨gb, kk, none⟩ (.int .u8 (nx : Nat)) = w6 := ⟨_, rfl⟩
  rw [hw6] at hset hT
  have J6 := J.turned hT (fun q hq e => by omega)
  replace KC := KC.turned hT hgCb
  have hof6 := hT.own hof (fun q hq e => by
    subst e
    have h2 := hof.2
    rcases hof.2 with ⟨h3, _⟩ | ⟨g', cap', cur, h3, _, h4, _⟩
    · rw [h3] at hq; simp [Value.ownBlock] at hq
    · rw [h3] at hq
      simp [Value.ownBlock] at hq
      subst hq
      rcases hob.2 with ⟨h5, _⟩ | ⟨g2, cap2, cur2, h5, _, h6, _⟩
      · cases h5
      · cases h5; rw [h4] at h6; simp at h6)
  have hB6 := hT.old hB hB.size (by rintro q hq rfl; omega)
  have hlt6 := set_lt8 (k := kk) HBL.out hx8
  obtain ⟨bs2, hbs2⟩ : ∃ bs2, bs2 = bs.set kk nx := ⟨_, rfl⟩
  have hl2 : L = bs2.length := by rw [hbs2, List.length_set, hbl]
  rw [← hbs2] at hset hlt6
  have C5 := fun wx hs => new_any bs2 L hl2 (by omega) hlt6 rm hrm1 hrm2 (some ⟨gb, 0, none⟩) cb wx hs
  have C6 := fun wx hs => get9_code bs2 L hl2 (by omega) hlt6 (some ⟨gb, 0, none⟩) cb wx hs
  replace C5 := Lib.hid C5
  replace C6 := Lib.hid C6
  obtain ⟨B5, hB5⟩ : ∃ B5, w4.heap.size = B5 := ⟨_, rfl⟩
  rw [hB5] at J6
  have hwg : w.heap.size ≤ g := by omega
  have HGW := Lib.hid hwg
  have hmx := HSL.out.max
  obtain ⟨B8, hB8⟩ : ∃ B8, w3.heap.size = B8 := ⟨_, rfl⟩
  rw [hB8] at hset
  have HW6 := Lib.hid hw6
  clear D2 hA J hB hof hob hkk hbl hb0 hb08 hT hnx hx8 hlt6 hbs2 hl2 hB5 hB8 hw6 hwg hwgb
  go_upto_region 14 with fail
  rw [HW6.out]
  clear HW6 hcx hfx hxb hki hkL
  go_wp2_with fail
  go_loopw [21] (fun q wx => ∃ (i : Nat) (Lt : List Nat) (mt ms : Nat), i ≤ nl ∧ q = .int .i64 i ∧ mt ≤ i ∧ ms ≤ i ∧ CacheI wx B5 g F x y 5 0 0 rm Lt mt ms ∧ Blk wx gC 28 [.int .i64 x, .int .i64 y, .slice av m cw, .int .i64 5, .int .i32 0, .int .i32 0] ∧ wx.ownsRow B6 34 1 (.slice av m cw) m (i16s F) ∧ wx.ownsRow B8 5 1 (.slice (some ⟨gb, 0, none⟩) L cb) L (u8s bs2) ∧ Below w.heap.size w wx) (fun q _ => nl - (intOf q).toNat)
  case atStart => exact ⟨0, [], 0, 0, Nat.zero_le _, rfl, Nat.le_refl _, Nat.le_refl _, J6, KC, hof6, hset, hB6⟩
  case round =>
    clear J6 KC hof6 hset hB6
    obtain ⟨i, Lt, mt, ms, hi, rfl, hmt, hms, J, KC, hof, hob, hB⟩ := hrel
    by_cases hlt : i < nl
    · obtain ⟨u, v, huv⟩ : ∃ u v, l[i]? = some (u, v) := ⟨_, _, List.getElem?_eq_getElem (by rw [HL.out]; exact hlt)⟩
      obtain ⟨b, o, rfl, hb0, _, _⟩ := cell_ats HSL.out i u v huv
      obtain ⟨b', o', he, hb, hcu, hcv⟩ := cell_ats (HSL.out.below hB) i u v huv
      cases he
      obtain ⟨t1, t2, ht⟩ := told_pair F x y u v
      have D1 := height_told _ g F x y 5 0 0 rm Lt mt ms u v HO.out (by omega) (by omega) wr.drew J.drew
      have D2 := C4.out u v
      rw [ht] at D1 D2
      replace D1 := Lib.hid D1
      replace D2 := Lib.hid D2
      have HJ := Lib.hid J
      have hgw := HGW.out
      clear J huv ht
      go_wp2_with fail
      refine wp_region_held_drew (S := (fun w' : World => w'.cell? ⟨b, o + i * 2, none⟩ = some (.int .i64 u) ∧ w'.cell? ⟨b, o + i * 2 + 1, none⟩ = some (.int .i64 v))) (by kernel_rfl) (⟨hcu, hcv⟩) (fun hHeld => ?_)
      refine wpAnyH_take (i := 0) (v := ?v1) rfl (by kernel_rfl) (by kernel_rfl) (by kernel_rfl) (fun _ _ _ h => h) (Or.inl ⟨by rfl, ?hy1⟩) hHeld ?rest1
      case hy1 => (intro w' hSw; (try dsimp only at hSw); go_simp; (try with_reducible rfl))
      try simp only [Act.put, List.setIfInBounds_toArray, List.set_cons_zero, List.set_cons_succ, List.getElem_toArray, List.getElem_cons_zero, List.getElem_cons_succ]
      refine wpAnyH_take (i := 1) (v := ?v2) rfl (by kernel_rfl) (by kernel_rfl) (by kernel_rfl) (fun _ _ _ h => h) (Or.inl ⟨by rfl, ?hy2⟩) hHeld ?rest2
      case hy2 => (intro w' hSw; (try dsimp only at hSw); go_simp; (try with_reducible rfl))
      try simp only [Act.put, List.setIfInBounds_toArray, List.set_cons_zero, List.set_cons_succ, List.getElem_toArray, List.getElem_cons_zero, List.getElem_cons_succ]
      refine wpAnyH_take (i := 2) (v := ?v3) rfl (by kernel_rfl) (by kernel_rfl) (by kernel_rfl) (fun _ _ _ h => h) (Or.inl ⟨by rfl, ?hy3⟩) hHeld ?rest3
      case hy3 => (intro w' hSw; (try dsimp only at hSw); go_simp; (try with_reducible rfl))
      try simp only [Act.put, List.setIfInBounds_toArray, List.set_cons_zero, List.set_cons_succ, List.getElem_toArray, List.getElem_cons_zero, List.getElem_cons_succ]
      refine wpAnyH_take (i := 3) (v := ?v4) rfl (by kernel_rfl) (by kernel_rfl) (by kernel_rfl) (fun _ _ _ h => h) (Or.inl ⟨by rfl, ?hy4⟩) hHeld ?rest4
      case hy4 => (intro w' hSw; (try dsimp only at hSw); go_simp; (try with_reducible rfl))
      try simp only [Act.put, List.setIfInBounds_toArray, List.set_cons_zero, List.set_cons_succ, List.getElem_toArray, List.getElem_cons_zero, List.getElem_cons_succ]
      refine wpAnyH_take (i := 4) (v := ?v5) rfl (by kernel_rfl) (by kernel_rfl) (by kernel_rfl) (fun _ _ _ h => h) (Or.inl ⟨by rfl, ?hy5⟩) hHeld ?rest5
      case hy5 => (intro w' hSw; (try dsimp only at hSw); go_simp; (try with_reducible rfl))
      try simp only [Act.put, List.setIfInBounds_toArray, List.set_cons_zero, List.set_cons_succ, List.getElem_toArray, List.getElem_cons_zero, List.getElem_cons_succ]
      refine wpAnyH_take (i := 5) (v := ?v6) rfl (by kernel_rfl) (by kernel_rfl) (by kernel_rfl) (fun _ _ _ h => h) (Or.inl ⟨by rfl, ?hy6⟩) hHeld ?rest6
      case hy6 => (intro w' hSw; (try dsimp only at hSw); go_simp; (try with_reducible rfl))
      try simp only [Act.put, List.setIfInBounds_toArray, List.set_cons_zero, List.set_cons_succ, List.getElem_toArray, List.getElem_cons_zero, List.getElem_cons_succ]
      refine wpAnyH_take (i := 6) (v := ?v7) rfl (by kernel_rfl) (by kernel_rfl) (by kernel_rfl) (fun _ _ _ h => h) (Or.inl ⟨by rfl, ?hy7⟩) hHeld ?rest7
      case hy7 => (intro w' hSw; (try dsimp only at hSw); go_simp; (try with_reducible rfl))
      try simp only [Act.put, List.setIfInBounds_toArray, List.set_cons_zero, List.set_cons_succ, List.getElem_toArray, List.getElem_cons_zero, List.getElem_cons_succ]
      refine wpAnyH_take (i := 7) (v := ?v8) rfl (by kernel_rfl) (by kernel_rfl) (by kernel_rfl) (fun _ _ _ h => h) (Or.inl ⟨by rfl, ?hy8⟩) hHeld ?rest8
      case hy8 => (intro w' hSw; (try dsimp only at hSw); go_simp; (try with_reducible rfl))
      try simp only [Act.put, List.setIfInBounds_toArray, List.set_cons_zero, List.set_cons_succ, List.getElem_toArray, List.getElem_cons_zero, List.getElem_cons_succ]
      refine wpAnyH_take (i := 8) (v := ?v9) rfl (by kernel_rfl) (by kernel_rfl) (by kernel_rfl) (fun _ _ _ h => h) (Or.inl ⟨by rfl, ?hy9⟩) hHeld ?rest9
      case hy9 => (intro w' hSw; (try dsimp only at hSw); go_simp; (try with_reducible rfl))
      try simp only [Act.put, List.setIfInBounds_toArray, List.set_cons_zero, List.set_cons_succ, List.getElem_toArray, List.getElem_cons_zero, List.getElem_cons_succ]
      refine wpAnyH_take (i := 9) (v := ?v10) rfl (by kernel_rfl) (by kernel_rfl) (by kernel_rfl) (fun _ _ _ h => h) (Or.inl ⟨by rfl, ?hy10⟩) hHeld ?rest10
      case hy10 => (intro w' hSw; (try dsimp only at hSw); go_simp; (try with_reducible rfl))
      try simp only [Act.put, List.setIfInBounds_toArray, List.set_cons_zero, List.set_cons_succ, List.getElem_toArray, List.getElem_cons_zero, List.getElem_cons_succ]
      refine wpAnyH_take (i := 10) (v := ?v11) rfl (by kernel_rfl) (by kernel_rfl) (by kernel_rfl) (fun _ _ _ h => h) (Or.inl ⟨by rfl, ?hy11⟩) hHeld ?rest11
      case hy11 => (intro w' hSw; (try dsimp only at hSw); go_simp; (try with_reducible rfl))
      try simp only [Act.put, List.setIfInBounds_toArray, List.set_cons_zero, List.set_cons_succ, List.getElem_toArray, List.getElem_cons_zero, List.getElem_cons_succ]
      refine wpAnyH_ready (rs := [11]) (by kernel_rfl) (by simp) ?_
      refine AllReadyH.cons rfl (fun K hK => ?_) AllReadyH.nil
      go_simp
      refine D1.out.mono ?_
      rintro e w6 ⟨rfl, J6, hT⟩
      have hcu6 := (hT.cell (p := ⟨b, o + i * 2, none⟩) hb (fun e => by have e' : b = g := e; omega)).trans hcu
      have hcv6 := (hT.cell (p := ⟨b, o + i * 2 + 1, none⟩) hb (fun e => by have e' : b = g := e; omega)).trans hcv
      have hb6 : b < w6.heap.size := Nat.lt_of_lt_of_le hb hT.size
      have KC6 := HJ.out.drew.blk hT KC.drew (by decide)
      have hof6 := HJ.out.drew.own (w := wr.drew) hT hof (by decide)
      have hob6 := HJ.out.drew.own (w := wr.drew) hT hob (by decide)
      have hB6 := hT.old hB.drew hB.drew.size (by rintro k hk rfl; omega)
      clear D1
      try go_wp2_with fail
      refine hK.out _ _ (⟨hcu6, hcv6⟩) (fun hHeld => ?_)
      clear hK K
      try simp only [Act.put, List.setIfInBounds_toArray, List.set_cons_zero, List.set_cons_succ, List.getElem_toArray, List.getElem_cons_zero, List.getElem_cons_succ]
      refine wpAnyH_take (i := 12) (v := ?v13) rfl (by kernel_rfl) (by kernel_rfl) (by kernel_rfl) (fun _ _ _ h => h) (Or.inl ⟨by rfl, ?hy13⟩) hHeld ?rest13
      case hy13 => (intro w' hSw; (try dsimp only at hSw); go_simp; (try with_reducible rfl))
      try simp only [Act.put, List.setIfInBounds_toArray, List.set_cons_zero, List.set_cons_succ, List.getElem_toArray, List.getElem_cons_zero, List.getElem_cons_succ]
      refine wpAnyH_take (i := 13) (v := ?v14) rfl (by kernel_rfl) (by kernel_rfl) (by kernel_rfl) (fun _ _ _ h => h) (Or.inl ⟨by rfl, ?hy14⟩) hHeld ?rest14
      case hy14 => (intro w' hSw; (try dsimp only at hSw); go_simp; (try with_reducible rfl))
      try simp only [Act.put, List.setIfInBounds_toArray, List.set_cons_zero, List.set_cons_succ, List.getElem_toArray, List.getElem_cons_zero, List.getElem_cons_succ]
      refine wpAnyH_take (i := 14) (v := ?v15) rfl (by kernel_rfl) (by kernel_rfl) (by kernel_rfl) (fun _ _ _ h => h) (Or.inl ⟨by rfl, ?hy15⟩) hHeld ?rest15
      case hy15 => (intro w' hSw; (try dsimp only at hSw); go_simp; (try with_reducible rfl))
      try simp only [Act.put, List.setIfInBounds_toArray, List.set_cons_zero, List.set_cons_succ, List.getElem_toArray, List.getElem_cons_zero, List.getElem_cons_succ]
      refine wpAnyH_take (i := 15) (v := ?v16) rfl (by kernel_rfl) (by kernel_rfl) (by kernel_rfl) (fun _ _ _ h => h) (Or.inl ⟨by rfl, ?hy16⟩) hHeld ?rest16
      case hy16 => (intro w' hSw; (try dsimp only at hSw); go_simp; (try with_reducible rfl))
      try simp only [Act.put, List.setIfInBounds_toArray, List.set_cons_zero, List.set_cons_succ, List.getElem_toArray, List.getElem_cons_zero, List.getElem_cons_succ]
      refine wpAnyH_take (i := 16) (v := ?v17) rfl (by kernel_rfl) (by kernel_rfl) (by kernel_rfl) (fun _ _ _ h => h) (Or.inl ⟨by rfl, ?hy17⟩) hHeld ?rest17
      case hy17 => (intro w' hSw; (try dsimp only at hSw); go_simp; (try with_reducible rfl))
      try simp only [Act.put, List.setIfInBounds_toArray, List.set_cons_zero, List.set_cons_succ, List.getElem_toArray, List.getElem_cons_zero, List.getElem_cons_succ]
      refine wpAnyH_done (by kernel_rfl) ?_ _
      have HJ6 := Lib.hid J6
      have c0 := KC6.cell (i := 0) rfl
      have c1 := KC6.cell (i := 1) rfl
      have c2 := KC6.cell (i := 2) rfl
      have HB6 := Lib.hid hB6
      replace D2 := Lib.hid (D2.out w6.drew (Sl.of_own (w := w6.drew) hof6))
      have HMT := Lib.hid (And.intro hmt hms)
      clear J6 hT hcu hcv KC hof hob hB hB6 hmt hms
      go_wp2_with fail
      refine wp_region_held_drew (S := (fun w' : World => w'.cell? ⟨gC, 0, none⟩ = some (.int .i64 x) ∧ w'.cell? ⟨gC, 1, none⟩ = some (.int .i64 y) ∧ w'.cell? ⟨gC, 2, none⟩ = some (.slice av m cw) ∧ w'.cell? ⟨b, o + i * 2, none⟩ = some (.int .i64 u) ∧ w'.cell? ⟨b, o + i * 2 + 1, none⟩ = some (.int .i64 v))) (by kernel_rfl) (⟨c0, c1, c2, hcu6, hcv6⟩) (fun hHeld => ?_)
      refine wpAnyH_take (i := 0) (v := ?v18) rfl (by kernel_rfl) (by kernel_rfl) (by kernel_rfl) (fun _ _ _ h => h) (Or.inl ⟨by rfl, ?hy18⟩) hHeld ?rest18
      case hy18 => (intro w' hSw; (try dsimp only at hSw); go_simp; (try with_reducible rfl))
      try simp only [Act.put, List.setIfInBounds_toArray, List.set_cons_zero, List.set_cons_succ, List.getElem_toArray, List.getElem_cons_zero, List.getElem_cons_succ]
      refine wpAnyH_take (i := 1) (v := ?v19) rfl (by kernel_rfl) (by kernel_rfl) (by kernel_rfl) (fun _ _ _ h => h) (Or.inl ⟨by rfl, ?hy19⟩) hHeld ?rest19
      case hy19 => (intro w' hSw; (try dsimp only at hSw); go_simp; (try with_reducible rfl))
      try simp only [Act.put, List.setIfInBounds_toArray, List.set_cons_zero, List.set_cons_succ, List.getElem_toArray, List.getElem_cons_zero, List.getElem_cons_succ]
      refine wpAnyH_take (i := 2) (v := ?v20) rfl (by kernel_rfl) (by kernel_rfl) (by kernel_rfl) (fun _ _ _ h => h) (Or.inl ⟨by rfl, ?hy20⟩) hHeld ?rest20
      case hy20 => (intro w' hSw; (try dsimp only at hSw); go_simp; (try with_reducible rfl))
      try simp only [Act.put, List.setIfInBounds_toArray, List.set_cons_zero, List.set_cons_succ, List.getElem_toArray, List.getElem_cons_zero, List.getElem_cons_succ]
      refine wpAnyH_take (i := 3) (v := ?v21) rfl (by kernel_rfl) (by kernel_rfl) (by kernel_rfl) (fun _ _ _ h => h) (Or.inl ⟨by rfl, ?hy21⟩) hHeld ?rest21
      case hy21 => (intro w' hSw; (try dsimp only at hSw); go_simp; (try with_reducible rfl))
      try simp only [Act.put, List.setIfInBounds_toArray, List.set_cons_zero, List.set_cons_succ, List.getElem_toArray, List.getElem_cons_zero, List.getElem_cons_succ]
      refine wpAnyH_take (i := 4) (v := ?v22) rfl (by kernel_rfl) (by kernel_rfl) (by kernel_rfl) (fun _ _ _ h => h) (Or.inl ⟨by rfl, ?hy22⟩) hHeld ?rest22
      case hy22 => (intro w' hSw; (try dsimp only at hSw); go_simp; (try with_reducible rfl))
      try simp only [Act.put, List.setIfInBounds_toArray, List.set_cons_zero, List.set_cons_succ, List.getElem_toArray, List.getElem_cons_zero, List.getElem_cons_succ]
      refine wpAnyH_take (i := 5) (v := ?v23) rfl (by kernel_rfl) (by kernel_rfl) (by kernel_rfl) (fun _ _ _ h => h) (Or.inl ⟨by rfl, ?hy23⟩) hHeld ?rest23
      case hy23 => (intro w' hSw; (try dsimp only at hSw); go_simp; (try with_reducible rfl))
      try simp only [Act.put, List.setIfInBounds_toArray, List.set_cons_zero, List.set_cons_succ, List.getElem_toArray, List.getElem_cons_zero, List.getElem_cons_succ]
      refine wpAnyH_take (i := 6) (v := ?v24) rfl (by kernel_rfl) (by kernel_rfl) (by kernel_rfl) (fun _ _ _ h => h) (Or.inl ⟨by rfl, ?hy24⟩) hHeld ?rest24
      case hy24 => (intro w' hSw; (try dsimp only at hSw); go_simp; (try with_reducible rfl))
      try simp only [Act.put, List.setIfInBounds_toArray, List.set_cons_zero, List.set_cons_succ, List.getElem_toArray, List.getElem_cons_zero, List.getElem_cons_succ]
      refine wpAnyH_take (i := 7) (v := ?v25) rfl (by kernel_rfl) (by kernel_rfl) (by kernel_rfl) (fun _ _ _ h => h) (Or.inl ⟨by rfl, ?hy25⟩) hHeld ?rest25
      case hy25 => (intro w' hSw; (try dsimp only at hSw); go_simp; (try with_reducible rfl))
      try simp only [Act.put, List.setIfInBounds_toArray, List.set_cons_zero, List.set_cons_succ, List.getElem_toArray, List.getElem_cons_zero, List.getElem_cons_succ]
      refine wpAnyH_take (i := 8) (v := ?v26) rfl (by kernel_rfl) (by kernel_rfl) (by kernel_rfl) (fun _ _ _ h => h) (Or.inl ⟨by rfl, ?hy26⟩) hHeld ?rest26
      case hy26 => (intro w' hSw; (try dsimp only at hSw); go_simp; (try with_reducible rfl))
      try simp only [Act.put, List.setIfInBounds_toArray, List.set_cons_zero, List.set_cons_succ, List.getElem_toArray, List.getElem_cons_zero, List.getElem_cons_succ]
      refine wpAnyH_take (i := 9) (v := ?v27) rfl (by kernel_rfl) (by kernel_rfl) (by kernel_rfl) (fun _ _ _ h => h) (Or.inl ⟨by rfl, ?hy27⟩) hHeld ?rest27
      case hy27 => (intro w' hSw; (try dsimp only at hSw); go_simp; (try with_reducible rfl))
      try simp only [Act.put, List.setIfInBounds_toArray, List.set_cons_zero, List.set_cons_succ, List.getElem_toArray, List.getElem_cons_zero, List.getElem_cons_succ]
      refine wpAnyH_take (i := 10) (v := ?v28) rfl (by kernel_rfl) (by kernel_rfl) (by kernel_rfl) (fun _ _ _ h => h) (Or.inl ⟨by rfl, ?hy28⟩) hHeld ?rest28
      case hy28 => (intro w' hSw; (try dsimp only at hSw); go_simp; (try with_reducible rfl))
      try simp only [Act.put, List.setIfInBounds_toArray, List.set_cons_zero, List.set_cons_succ, List.getElem_toArray, List.getElem_cons_zero, List.getElem_cons_succ]
      refine wpAnyH_take (i := 11) (v := ?v29) rfl (by kernel_rfl) (by kernel_rfl) (by kernel_rfl) (fun _ _ _ h => h) (Or.inl ⟨by rfl, ?hy29⟩) hHeld ?rest29
      case hy29 => (intro w' hSw; (try dsimp only at hSw); go_simp; (try with_reducible rfl))
      try simp only [Act.put, List.setIfInBounds_toArray, List.set_cons_zero, List.set_cons_succ, List.getElem_toArray, List.getElem_cons_zero, List.getElem_cons_succ]
      refine wpAnyH_ready (rs := [12]) (by kernel_rfl) (by simp) ?_
      refine AllReadyH.cons rfl (fun K hK => ?_) AllReadyH.nil
      go_simp
      refine D2.out.mono ?_
      rintro e w7 ⟨rfl, hA⟩
      clear D2
      try go_wp2_with fail
      refine hK.out _ _ (⟨(hA.cell (p := ⟨gC, 0, none⟩) KC6.lt).trans c0, (hA.cell (p := ⟨gC, 1, none⟩) KC6.lt).trans c1, (hA.cell (p := ⟨gC, 2, none⟩) KC6.lt).trans c2, (hA.cell (p := ⟨b, o + i * 2, none⟩) hb6).trans hcu6, (hA.cell (p := ⟨b, o + i * 2 + 1, none⟩) hb6).trans hcv6⟩) (fun hHeld => ?_)
      clear hK K
      try simp only [Act.put, List.setIfInBounds_toArray, List.set_cons_zero, List.set_cons_succ, List.getElem_toArray, List.getElem_cons_zero, List.getElem_cons_succ]
      refine wpAnyH_take (i := 13) (v := ?v31) rfl (by kernel_rfl) (by kernel_rfl) (by kernel_rfl) (fun _ _ _ h => h) (Or.inl ⟨by rfl, ?hy31⟩) hHeld ?rest31
      case hy31 => (intro w' hSw; (try dsimp only at hSw); go_simp; (try with_reducible rfl))
      try simp only [Act.put, List.setIfInBounds_toArray, List.set_cons_zero, List.set_cons_succ, List.getElem_toArray, List.getElem_cons_zero, List.getElem_cons_succ]
      refine wpAnyH_take (i := 14) (v := ?v32) rfl (by kernel_rfl) (by kernel_rfl) (by kernel_rfl) (fun _ _ _ h => h) (Or.inl ⟨by rfl, ?hy32⟩) hHeld ?rest32
      case hy32 => (intro w' hSw; (try dsimp only at hSw); go_simp; (try with_reducible rfl))
      try simp only [Act.put, List.setIfInBounds_toArray, List.set_cons_zero, List.set_cons_succ, List.getElem_toArray, List.getElem_cons_zero, List.getElem_cons_succ]
      refine wpAnyH_take (i := 15) (v := ?v33) rfl (by kernel_rfl) (by kernel_rfl) (by kernel_rfl) (fun _ _ _ h => h) (Or.inl ⟨by rfl, ?hy33⟩) hHeld ?rest33
      case hy33 => (intro w' hSw; (try dsimp only at hSw); go_simp; (try with_reducible rfl))
      try simp only [Act.put, List.setIfInBounds_toArray, List.set_cons_zero, List.set_cons_succ, List.getElem_toArray, List.getElem_cons_zero, List.getElem_cons_succ]
      refine wpAnyH_take (i := 16) (v := ?v34) rfl (by kernel_rfl) (by kernel_rfl) (by kernel_rfl) (fun _ _ _ h => h) (Or.inl ⟨by rfl, ?hy34⟩) hHeld ?rest34
      case hy34 => (intro w' hSw; (try dsimp only at hSw); go_simp; (try with_reducible rfl))
      try simp only [Act.put, List.setIfInBounds_toArray, List.set_cons_zero, List.set_cons_succ, List.getElem_toArray, List.getElem_cons_zero, List.getElem_cons_succ]
      refine wpAnyH_take (i := 17) (v := ?v35) rfl (by kernel_rfl) (by kernel_rfl) (by kernel_rfl) (fun _ _ _ h => h) (Or.inl ⟨by rfl, ?hy35⟩) hHeld ?rest35
      case hy35 => (intro w' hSw; (try dsimp only at hSw); go_simp; (try with_reducible rfl))
      try simp only [Act.put, List.setIfInBounds_toArray, List.set_cons_zero, List.set_cons_succ, List.getElem_toArray, List.getElem_cons_zero, List.getElem_cons_succ]
      refine wpAnyH_done (by kernel_rfl) ?_ _
      have HJ7 := Lib.hid (HJ6.out.drew.below hA)
      have HK7 := Lib.hid (KC6.drew.below hA KC6.lt)
      have HO7 := Lib.hid (ownsRow_below (w := w6.drew) hof6 hA)
      have HQ7 := Lib.hid (ownsRow_below (w := w6.drew) hob6 hA)
      have HB7 := Lib.hid (HB6.out.drew.trans (hA.mono HB6.out.size))
      have e1 : (t1 == t1) = true := by simp
      have e2 : (t2 == t2) = true := by simp
      clear c0 c1 c2 hcu6 hcv6 hA KC6 hof6 hob6 HJ6 HB6 HJ
      go_wp2_with fail
      go_roundw
      case rel =>
        obtain ⟨q1, q2⟩ := HMT.out
        exact ⟨i + 1, _, _, _, by omega, by go_num, by split <;> omega, by split <;> omega, HJ7.out, HK7.out, HO7.out, HQ7.out, HB7.out⟩
      case measure => simp [intOf]; omega
    · obtain rfl : i = nl := by omega
      have D5 := Lib.hid (C5.out wr (Sl.of_own hob))
      clear J KC hof
      go_wp2_with fail
      refine D5.out.mono ?_
      rintro e w8 ⟨c8, v8, hg8, hv8, rfl, hA⟩
      have D6 := Lib.hid (C6.out w8 (Sl.of_own (ownsRow_below hob hA)))
      have hB8 := hB.trans (hA.mono hB.size)
      have HG8 := Lib.hid hg8
      have HV8 := Lib.hid hv8
      clear D5 hob hB hA hg8 hv8
      go_wp2_with fail
      refine D6.out.mono ?_
      rintro e w9 ⟨c9, W9, H9, v9, l9, ox9, oy9, rfl, hg9, _, ⟨a9, n9, cap9, rfl⟩, hA⟩
      obtain rfl : c9 = c8 := GetC.only hg9 HG8.out
      have hB9 := hB8.trans (hA.mono hB8.size)
      have hB10 := hB9.alloc hB9.size (.cells #[.int .i64 W9, .int .i64 H9, .slice a9 n9 cap9, .int .i64 l9, .int .i32 ox9, .int .i32 oy9] 28)
      obtain ⟨w10, hw10⟩ : ∃ w10, w9.alloc (.cells #[.int .i64 W9, .int .i64 H9, .slice a9 n9 cap9, .int .i64 l9, .int .i32 ox9, .int .i32 oy9] 28) = w10 := ⟨_, rfl⟩
      rw [hw10] at hB10
      have HB10 := Lib.hid hB10
      have e1 : (c9 == c9) = true := by simp
      clear D6 hg9 hA hB8 hB9 hB10
      by_cases h0 : c9 = 0
      · obtain ⟨pa, rfl⟩ := Option.isSome_iff_exists.1 (HV8.out.1 h0)
        subst h0
        go_wp2_with fail
        refine (works10_any _).mono ?_
        rintro e w11 ⟨rfl, hA⟩
        have HB11 := Lib.hid (HB10.out.trans (hA.mono HB10.out.size))
        clear hA
        go_wp2_with fail
        go_ret
        exact ⟨rfl, HB11.out⟩
      · obtain rfl : v8 = none := by
          cases v8 with
          | none => rfl
          | some pa => exact absurd (HV8.out.2 rfl) h0
        have e2 : (c9 != 0) = true := by simpa using h0
        have e3 : (c9 == 0) = false := by simpa using h0
        go_wp2_with fail
        refine (works10_any _).mono ?_
        rintro e w11 ⟨rfl, hA⟩
        have HB11 := Lib.hid (HB10.out.trans (hA.mono HB10.out.size))
        clear hA
        go_wp2_with fail
        go_ret
        exact ⟨rfl, HB11.out⟩

theorem cacheNone_any (p q at_ mask : Nat) (room : Int) (a al : Option Addr) (n cap nl cl : Nat) (z : List Int) (l : List (Int × Int)) (hp : p < 256) (hq : q < 256) (hat : at_ < 65536) (hmask : mask < 256) (hz : z.length = n) (h16 : ∀ u ∈ z, In16 u) (hl : l.length = nl) (w : World) (hS : Sl w 1 (.slice a n cap) n (i16s z)) (hSl : Sl w 2 (.slice al nl cl) nl (ats l)) :
    Calls Try.prog 5 #[.int .u8 p, .int .u8 q, .slice a n cap, .int .i64 room, .int .u16 at_, .int .u8 mask, .slice al nl cl] w fun e w' => e = .returned (.bool true) ∧ Below w.heap.size w w' := by
  have m1 := hS.max
  have m2 := hSl.max
  by_cases hbig : 1000 < n ∨ 60 < nl
  · exact cacheNone_big p q at_ mask room a al n cap nl cl w hbig (by omega) (by omega)
  · exact cacheNone_go p q at_ mask room a al n cap nl cl z l hp hq hat hmask hz h16 (by omega) hl (by omega) w hS hSl
end Go.Proofs.Ytiflbbpliioblaa
