/-
  TerrainNear: the walk.
-/
import Derived.Test.YtlkjcamjgaecgaaGreatLaw11c
set_option linter.unusedVariables false
set_option linter.unusedSimpArgs false
namespace Go.Proofs.YtlkjcamjgaecgaaGreat
open Go Go.RowKit Go.Th Go.Th.Crc

theorem near_big (p q : Nat) (a : Option Addr) (n cap : Nat) (u v : Int) (w : World) (hbig : 2000 < n) (hn : n ≤ 9223372036854775807) :
    Calls Tryz.prog 4 #[.int .u8 p, .int .u8 q, .slice a n cap, sv u v] w fun e w' => e = .returned (.bool true) ∧ Below w.heap.size w w' := by
  have hb' : (2000 : Int) < (n : Int) := by omega
  have hA : Below w.heap.size w (w.alloc (.cells #[.int .i64 u, .int .i64 v] 37)) := (Below.refl _ _).alloc (Nat.le_refl _) _
  clear hbig
  go_enter Tryz.func4, Tryz.ntmps4
  go_wp2_with fail
  refine (works11_any _).mono ?_
  rintro e w1 ⟨rfl, hB⟩
  go_wp2_with fail
  go_ret
  exact ⟨rfl, hA.trans (hB.mono hA.size)⟩

theorem near_cases {F : List Int} {W H n : Nat} (O : FldOk F W H n) (u v : Int) (a : Option Addr) (cap : Nat) :
    (∃ (E h : Int) (zc cc : Nat → Int), gnd F W H u v = (h, 0) ∧ AnsF F a n cap 16 #[hv W H (.slice a n cap), .int .i64 u, .int .i64 v] (.int .i64 E) ∧ (-2048 ≤ h * 4096 - E ∧ h * 4096 - E ≤ 2048) ∧ (-8589934592 ≤ E ∧ E ≤ 8589934592) ∧
      (∀ i : Nat, i < 4 → AnsF F a n cap 17 #[hv W H (.slice a n cap), .int .i64 u, .int .i64 v, .int .i64 ((i : Int) % 2), .int .i64 ((i : Int) / 2)] (.tuple #[.int .i64 (zc i), .int .i64 (cc i)])) ∧ (∀ i, -32768 ≤ zc i ∧ zc i ≤ 32767) ∧
      (∀ lo hi : Int, (∀ i, i < 4 → lo ≤ zc i ∧ zc i ≤ hi) → 16 * lo ≤ h ∧ h ≤ 16 * hi)) ∨
    (∃ c : Int, ¬ c = 0 ∧ gnd F W H u v = (0, c) ∧ AnsF F a n cap 15 #[hv W H (.slice a n cap), .int .i64 u, .int .i64 v] (.int .i64 c)) := by
  have hW := O.W1
  have hH := O.H1
  by_cases hin : inS W H u v
  · obtain ⟨X, rfl⟩ := Int.eq_ofNat_of_zero_le hin.1
    obtain ⟨Y, rfl⟩ := Int.eq_ofNat_of_zero_le hin.2.1
    have DC := code_in O X Y a cap hin
    rcases codeT_two F W X Y with hc | hc
    · refine Or.inl ⟨exT F W X Y, nearQ (16 * exT F W X Y) 65536, fun i => czT (zT F W X Y (i % 2) (i / 2)), fun i => ccT (zT F W X Y (i % 2) (i / 2)), gnd_ok hin hc, exact_in O X Y a cap hin, near_half _, exT_range O.i16, ?_, ?_, ?_⟩
      · intro i hi
        have := corner_in O X Y (i % 2) (i / 2) a cap hin (by omega) (by omega)
        rw [show ((i % 2 : Nat) : Int) = (i : Int) % 2 by omega, show ((i / 2 : Nat) : Int) = (i : Int) / 2 by omega] at this
        exact this
      · intro i
        exact czT_range (getD_in16 O.i16 _)
      · intro lo hi hlh
        obtain ⟨k1, k2⟩ := exT_between F W X Y lo hi (fun i k hi1 hk1 => by
          have := hlh (2 * k + i) (by omega)
          have e1 : (2 * k + i) % 2 = i := by omega
          have e2 : (2 * k + i) / 2 = k := by omega
          simp only [e1, e2] at this
          exact this)
        exact near_between _ lo hi k1 k2
    · rw [hc] at DC
      exact Or.inr ⟨8, by decide, gnd_void hin hc, DC⟩
  · exact Or.inr ⟨9, by decide, gnd_off hin, code_off F W H u v a n cap (by omega) (by omega) hin⟩

set_option maxRecDepth 20000 in
set_option maxHeartbeats 6400000 in
theorem tnear_go (p q : Nat) (a : Option Addr) (n cap : Nat) (z : List Int) (hp : p < 256) (hq : q < 256) (hz : z.length = n) (h16 : ∀ u ∈ z, In16 u) (hn : n ≤ 2000) (u v : Int) (hu : -9223372036854775808 ≤ u ∧ u ≤ 9223372036854775807) (hv : -9223372036854775808 ≤ v ∧ v ≤ 9223372036854775807) (w : World) (hS : Sl w 1 (.slice a n cap) n (i16s z)) :
    Calls Tryz.prog 4 #[.int .u8 p, .int .u8 q, .slice a n cap, sv u v] w fun e w' => e = .returned (.bool true) ∧ Below w.heap.size w w' := by
  have hb' : ¬ ((2000 : Int) < (n : Int)) := by omega
  obtain ⟨w1, hw1⟩ : ∃ w1, w.alloc (.cells #[.int .i64 u, .int .i64 v] 37) = w1 := ⟨_, rfl⟩
  have hB1 : Below w.heap.size w w1 := by rw [← hw1]; exact (Below.refl _ _).alloc (Nat.le_refl _) _
  have KS : Blk w1 w.heap.size 37 [.int .i64 u, .int .i64 v] := by rw [← hw1]; exact Blk.new w _ _
  have C1 := Lib.hid (made9_any p q n 30 31 0 0 a cap z hp hq (by omega) (by omega) hz hn h16 w1 (hS.below hB1))
  have HW1 := Lib.hid hw1
  obtain ⟨gS, hgS⟩ : ∃ g, w.heap.size = g := ⟨_, rfl⟩
  have HGS := Lib.hid hgS
  rw [hgS] at KS
  have HU := Lib.hid (And.intro hu hv)
  have HB1 := Lib.hid hB1
  clear hz h16 hS hp hq hw1 hgS hu hv hB1
  go_enter Tryz.func4, Tryz.ntmps4
  go_upto_region 1 with fail
  rw [HW1.out, HGS.out]
  clear HW1
  go_wp2_with fail
  refine C1.out.mono ?_
  rintro e w2 ⟨x, y, vv, F, rfl, hF, hx, hy, hfl, hf16, hof, hA⟩
  obtain ⟨av, cw, rfl, _, _⟩ := ownsRow_slice hof
  replace KS := KS.below hA KS.lt
  have hB := HB1.out.trans (hA.mono HB1.out.size)
  have hO : MapOk F x y 31 0 0 := ⟨hF, by decide, hfl, hf16, ⟨by decide, by decide⟩, ⟨by decide, by decide⟩⟩
  have HO := Lib.hid hO
  obtain ⟨w3, hw3⟩ : ∃ w3, w2.alloc (.cells #[.int .i64 x, .int .i64 y, .slice av (x * y) cw, .int .i64 31, .int .i32 0, .int .i32 0] 28) = w3 := ⟨_, rfl⟩
  have hA3 : Below w2.heap.size w2 w3 := by rw [← hw3]; exact (Below.refl _ _).alloc (Nat.le_refl _) _
  have KC : Blk w3 w2.heap.size 28 [.int .i64 x, .int .i64 y, .slice av (x * y) cw, .int .i64 31, .int .i32 0, .int .i32 0] := by rw [← hw3]; exact Blk.new w2 _ _
  replace hof := ownsRow_below hof hA3
  replace KS := KS.below hA3 KS.lt
  replace hB := hB.trans (hA3.mono hB.size)
  obtain ⟨gC, hgC⟩ : ∃ g, w2.heap.size = g := ⟨_, rfl⟩
  have HGC := Lib.hid hgC
  rw [hgC] at KC
  have hW := hO.fld.W1
  have hH := hO.fld.H1
  obtain ⟨m, hm⟩ : ∃ m, m = x * y := ⟨_, rfl⟩
  have C2 := fun wx hs => open10_any F x y 31 0 0 hO 4 (by decide) (by decide) (x * y) rfl av cw wx hs
  have HFL : Hid (FldOk F x y m) := Lib.hid (by rw [hm]; exact hO.fld)
  rw [← hm] at C2 hof KC hw3 ⊢
  replace C2 := Lib.hid C2
  have HW3 := Lib.hid hw3
  clear C1 hA hA3 hF hfl hf16 hm hw3 hO hgC hW hH HB1
  go_upto_region 4 with fail
  rw [HW3.out, HGC.out]
  clear HW3 HGC
  have c0 := KC.cell (i := 0) rfl
  have c1 := KC.cell (i := 1) rfl
  have c2 := KC.cell (i := 2) rfl
  have c3 := KC.cell (i := 3) rfl
  have c4 := KC.cell (i := 4) rfl
  have c5 := KC.cell (i := 5) rfl
  go_wp2_with fail
  refine (C2.out w3 (Sl.of_own hof)).mono ?_
  rintro e w5 ⟨g, rfl, J, hA⟩
  obtain ⟨B5, hB5⟩ : ∃ q, q = w3.heap.size := ⟨_, rfl⟩
  obtain ⟨B6, hB6⟩ : ∃ q, q = w1.heap.size := ⟨_, rfl⟩
  rw [← hB6] at hof
  have HS : Hid (SpI w w5 B5 g F x y gC B6 m av cw 4 0) := Lib.hid ⟨⟨[], 0, 0, by omega, by omega, by rw [hB5]; exact J⟩, KC.below hA KC.lt, ownsRow_below hof hA, hB.trans (hA.mono hB.size), Nat.le_trans hB.size J.le⟩
  replace KS := KS.below hA KS.lt
  clear C2 hA J KC hof hB hB5 hB6 c0 c1 c2 c3 c4 c5
  have d0 := KS.cell (i := 0) rfl
  have d1 := KS.cell (i := 1) rfl
  have D := Lib.hid (thgt_any HO.out g B5 4 0 (by omega) u v HU.out.1 HU.out.2 w5 HS.out.J)
  rcases near_cases HFL.out u v av cw with ⟨E, h, zc, cc, hg, DE, nh, rE, CC, rz, nb⟩ | ⟨c, hc0, hg, DC⟩
  · rw [hg] at D
    have g1 : wrap64 (h * 4096) = h * 4096 := IntWalk.wrap64_in _ (by omega)
    obtain ⟨far, hfar⟩ : ∃ t, t = h * 4096 - E := ⟨_, rfl⟩
    have g2 : wrap64 (h * 4096 - E) = far := by rw [hfar]; exact IntWalk.wrap64_in _ (by omega)
    rw [← hfar] at nh
    have f1 := nh.1
    have f2 := nh.2
    have HCC := Lib.hid CC
    have HRZ := Lib.hid rz
    have HNB := Lib.hid nb
    have HDE := Lib.hid DE
    have hh : -1048576 ≤ h ∧ h ≤ 1048576 := by
      have := nb (-32768) 32767 (fun i _ => rz i)
      omega
    clear CC rz nb nh hfar DE rE hg
    go_wp2_with fail
    refine D.out.mono ?_
    rintro e w6 ⟨rfl, J6, hT⟩
    have HS6 := Lib.hid (HS.out.turn J6 hT)
    replace KS := HS.out.J.blk hT KS (by decide)
    clear D J6 hT HS d0 d1
    have d0 := KS.cell (i := 0) rfl
    have d1 := KS.cell (i := 1) rfl
    have K6 := HS6.out.K
    have c0 := K6.cell (i := 0) rfl
    have c1 := K6.cell (i := 1) rfl
    have c2 := K6.cell (i := 2) rfl
    clear K6
    go_wp2_with fail
    refine (HDE.out w6 (Sl.of_own HS6.out.ho)).mono ?_
    rintro e w7 ⟨rfl, hA⟩
    have HS7 := Lib.hid (HS6.out.below hA)
    replace KS := KS.below hA KS.lt
    have HKS := Lib.hid KS
    clear HS6 hA d0 d1 c0 c1 c2 KS HDE
    go_wp2_with fail
    rw [g2]
    clear g1 g2
    go_loopw [14, 15, 16] (fun v14 v15 v16 wx => ∃ (i : Nat) (lo hi : Int), i ≤ 4 ∧ v14 = .int .i64 lo ∧ v15 = .int .i64 hi ∧ v16 = .int .i64 i ∧ -1048576 ≤ lo ∧ lo ≤ 1048576 ∧ -1048576 ≤ hi ∧ hi ≤ 1048576 ∧ Hid (∀ j, j < i → lo ≤ zc j ∧ zc j ≤ hi) ∧ Hid (SpI w wx B5 g F x y gC B6 m av cw 4 (0 + 4)) ∧ Hid (Blk wx gS 37 [.int .i64 u, .int .i64 v])) (fun _ _ v _ => 4 - (intOf v).toNat)
    case atStart => exact ⟨0, 1048576, -1048576, by omega, rfl, rfl, rfl, by omega, by omega, by omega, by omega, Lib.hid (fun j hj => absurd hj (Nat.not_lt_zero j)), HS7, HKS⟩
    case round =>
      clear HS7 HKS
      obtain ⟨i, lo, hi, hi4, rfl, rfl, rfl, l1, l2, l3, l4, hlh, HS7, HKS⟩ := hrel
      by_cases hlt : i < 4
      · have KS := HKS.out
        have K7 := HS7.out.K
        have E1 := HCC.out i hlt wr (Sl.of_own HS7.out.ho)
        have hz := HRZ.out i
        obtain ⟨z, hzz⟩ : ∃ z, z = zc i := ⟨_, rfl⟩
        obtain ⟨d, hdd⟩ : ∃ d, d = cc i := ⟨_, rfl⟩
        rw [← hzz, ← hdd] at E1
        rw [← hzz] at hz
        have d0 := KS.cell (i := 0) rfl
        have d1 := KS.cell (i := 1) rfl
        have c0 := K7.cell (i := 0) rfl
        have c1 := K7.cell (i := 1) rfl
        have c2 := K7.cell (i := 2) rfl
        have HZZ := Lib.hid hzz
        have HZ2 := Lib.hid hz
        have HL := Lib.hid (And.intro l1 (And.intro l2 (And.intro l3 l4)))
        clear K7 hzz hdd hz l1 l2 l3 l4
        go_wp2_with fail
        refine E1.mono ?_
        rintro e w8 ⟨rfl, hA⟩
        have HS8 := Lib.hid (HS7.out.below hA)
        have HKS8 := Lib.hid (KS.below hA KS.lt)
        clear E1 d0 d1 c0 c1 c2 KS hA HS7 HKS
        have fin : ∀ lo' hi' : Int, lo' = min lo z → hi' = max hi z → (-1048576 ≤ lo' ∧ lo' ≤ 1048576 ∧ -1048576 ≤ hi' ∧ hi' ≤ 1048576) ∧ (∀ j, j < i + 1 → lo' ≤ zc j ∧ zc j ≤ hi') := by
          intro lo' hi' e1 e2
          have q1 := HL.out
          have q2 := HZ2.out
          refine ⟨by omega, fun j hj => ?_⟩
          by_cases ej : j = i
          · rw [ej, ← HZZ.out]; omega
          · have := hlh.out j (by omega)
            omega
        have FIN := Lib.hid fin
        clear fin
        go_wp2_with fail
        go_roundw
        case rel =>
          obtain ⟨⟨m1, m2, m3, m4⟩, m5⟩ := FIN.out _ _ rfl rfl
          exact ⟨i + 1, _, _, by omega, rfl, rfl, by go_num, m1, m2, m3, m4, Lib.hid m5, HS8, HKS8⟩
        case measure => simp [intOf]; omega
      · obtain rfl : i = 4 := by omega
        obtain ⟨k1, k2⟩ := HNB.out lo hi hlh.out
        go_wp2_with fail
        refine (works11_any wr).mono ?_
        rintro e w8 ⟨rfl, hA⟩
        go_wp2_with fail
        go_ret
        exact ⟨rfl, (HS7.out.below hA).B⟩
  · rw [hg] at D
    have b1 : ((c : Int) != 0) = true := by simp [hc0]
    have b2 : ((c : Int) == c) = true := by simp
    have HDC := Lib.hid DC
    clear hg DC
    go_wp2_with fail
    refine D.out.mono ?_
    rintro e w6 ⟨rfl, J6, hT⟩
    have HS6 := Lib.hid (HS.out.turn J6 hT)
    replace KS := HS.out.J.blk hT KS (by decide)
    clear D J6 hT HS d0 d1
    have d0 := KS.cell (i := 0) rfl
    have d1 := KS.cell (i := 1) rfl
    have K6 := HS6.out.K
    have c0 := K6.cell (i := 0) rfl
    have c1 := K6.cell (i := 1) rfl
    have c2 := K6.cell (i := 2) rfl
    clear K6
    go_wp2_with fail
    refine (HDC.out w6 (Sl.of_own HS6.out.ho)).mono ?_
    rintro e w7 ⟨rfl, hA⟩
    have HS7 := Lib.hid (HS6.out.below hA)
    clear HS6 hA d0 d1 c0 c1 c2 KS HDC
    go_wp2_with fail
    refine (works11_any w7).mono ?_
    rintro e w8 ⟨rfl, hA⟩
    go_wp2_with fail
    go_ret
    exact ⟨rfl, (HS7.out.below hA).B⟩
theorem tnear_any (p q : Nat) (a : Option Addr) (n cap : Nat) (z : List Int) (hp : p < 256) (hq : q < 256) (hz : z.length = n) (h16 : ∀ u ∈ z, In16 u) (u v : Int) (hu : -9223372036854775808 ≤ u ∧ u ≤ 9223372036854775807) (hv : -9223372036854775808 ≤ v ∧ v ≤ 9223372036854775807) (w : World) (hS : Sl w 1 (.slice a n cap) n (i16s z)) :
    Calls Tryz.prog 4 #[.int .u8 p, .int .u8 q, .slice a n cap, sv u v] w fun e w' => e = .returned (.bool true) ∧ Below w.heap.size w w' := by
  have m1 := hS.max
  by_cases hbig : 2000 < n
  · exact near_big p q a n cap u v w hbig (by omega)
  · exact tnear_go p q a n cap z hp hq hz h16 (by omega) u v hu hv w hS
end Go.Proofs.YtlkjcamjgaecgaaGreat
