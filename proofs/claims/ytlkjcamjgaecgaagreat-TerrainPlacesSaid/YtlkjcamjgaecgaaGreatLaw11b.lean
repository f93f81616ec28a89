/-
  TerrainPlaces: the walk.
-/
import Derived.Test.YtlkjcamjgaecgaaGreatLaw11a
import Derived.Test.YtlkjcamjgaecgaaGreatRef11G
set_option linter.unusedVariables false
set_option linter.unusedSimpArgs false
namespace Go.Proofs.YtlkjcamjgaecgaaGreat
open Go Go.RowKit Go.Th Go.Th.Crc

/-- What the law keeps: the place that came in, the map, and the place that was told. -/
structure PlI (w wx : World) (gS gC gA : Nat) (c : Nat) (ox oy sX sY P Q : Int) : Prop where
  kS : Blk wx gS 37 [.int .i64 sX, .int .i64 sY]
  kC : Blk wx gC 28 [.int .i64 0, .int .i64 0, .slice none 0 0, .int .i64 c, .int .i32 ox, .int .i32 oy]
  kA : Blk wx gA 37 [.int .i64 P, .int .i64 Q]
  B : Below w.heap.size w wx
theorem PlI.below {w wx w' : World} {gS gC gA c : Nat} {ox oy sX sY P Q : Int} (h : PlI w wx gS gC gA c ox oy sX sY P Q) (hb : Below wx.heap.size wx w') : PlI w w' gS gC gA c ox oy sX sY P Q :=
  ⟨h.kS.below hb h.kS.lt, h.kC.below hb h.kC.lt, h.kA.below hb h.kA.lt, h.B.trans (hb.mono h.B.size)⟩

set_option maxRecDepth 20000 in
set_option maxHeartbeats 12800000 in
theorem places_go (k c : Nat) (ox oy east north sX sY P Q X' Y' E N m : Int) (okB isB backB : Bool) (hk : k < 65536) (hci : 1 + (k : Int) % 1000 = (c : Int)) (hc : c ≤ 1000) (hm : (c : Int) / 256 + 1 = m)
    (hin : okB = decide ((-1099511627776 ≤ east ∧ east ≤ 1099511627776) ∧ -1099511627776 ≤ north ∧ north ≤ 1099511627776)) (his : isB = decide ((-1099511627776 ≤ sX ∧ sX ≤ 1099511627776) ∧ -1099511627776 ≤ sY ∧ sY ≤ 1099511627776))
    (CS : Ans 22 #[cv 0 0 (.slice none 0 0) c ox oy, .int .i64 east, .int .i64 north] (.tuple #[sv P Q, .bool okB]))
    (C1 : okB = true → Ans 23 #[.int .i64 east, .int .i32 ox, .int .i64 c] (.int .i64 P)) (C2 : okB = true → Ans 23 #[.int .i64 north, .int .i32 oy, .int .i64 c] (.int .i64 Q))
    (CM : Ans 24 #[cv 0 0 (.slice none 0 0) c ox oy, sv sX sY] (.tuple #[.int .i64 X', .int .i64 Y', .bool isB]))
    (C3 : isB = true → Ans 25 #[.int .i64 sX, .int .i32 ox, .int .i64 c] (.int .i64 X')) (C4 : isB = true → Ans 25 #[.int .i64 sY, .int .i32 oy, .int .i64 c] (.int .i64 Y'))
    (CB : okB = true → Ans 24 #[cv 0 0 (.slice none 0 0) c ox oy, sv P Q] (.tuple #[.int .i64 E, .int .i64 N, .bool backB]))
    (hE : okB = true → backB = true → E ≤ east ∧ wrap64 (east - E) ≤ m ∧ N ≤ north ∧ wrap64 (north - N) ≤ m) (w : World) :
    Calls Tryz.prog 7 #[.int .u16 k, .int .i32 ox, .int .i32 oy, .int .i64 east, .int .i64 north, sv sX sY] w fun e w' => e = .returned (.bool true) ∧ Below w.heap.size w w' := by
  obtain ⟨w1, hw1⟩ : ∃ w1, (w.alloc (.cells #[.int .i64 sX, .int .i64 sY] 37)).alloc (.cells #[.int .i64 0, .int .i64 0, .slice none 0 0, .int .i64 c, .int .i32 ox, .int .i32 oy] 28) = w1 := ⟨_, rfl⟩
  have hB1 : Below w.heap.size w w1 := by rw [← hw1]; exact ((Below.refl _ _).alloc (Nat.le_refl _) _).alloc (by simp) _
  have KS : Blk w1 w.heap.size 37 [.int .i64 sX, .int .i64 sY] := by rw [← hw1]; exact (Blk.new w _ _).alloc _
  have KC : Blk w1 (w.heap.size + 1) 28 [.int .i64 0, .int .i64 0, .slice none 0 0, .int .i64 c, .int .i32 ox, .int .i32 oy] := by
    rw [← hw1]
    have := Blk.new (w.alloc (.cells #[.int .i64 sX, .int .i64 sY] 37)) 28 [.int .i64 0, .int .i64 0, .slice none 0 0, .int .i64 c, .int .i32 ox, .int .i32 oy]
    rw [World.size_alloc] at this
    exact this
  have HW1 := Lib.hid hw1
  obtain ⟨gS, hgS⟩ : ∃ q, w.heap.size = q := ⟨_, rfl⟩
  have HGS := Lib.hid hgS
  obtain ⟨gC, hgC⟩ : ∃ q, gS + 1 = q := ⟨_, rfl⟩
  have HGC := Lib.hid hgC
  rw [hgS] at KS KC
  rw [hgC] at KC
  have HB1 := Lib.hid hB1
  have HIN := Lib.hid hin
  have HIS := Lib.hid his
  have HC1 := Lib.hid C1
  have HC2 := Lib.hid C2
  have HC3 := Lib.hid C3
  have HC4 := Lib.hid C4
  have HCB := Lib.hid CB
  have HE := Lib.hid hE
  have HCM := Lib.hid CM
  have HMM := Lib.hid hm
  clear hw1 hB1 hin his C1 C2 C3 C4 CB hE CM hgS hgC hm
  go_enter Tryz.func7, Tryz.ntmps7
  go_upto_region 2 with fail
  rw [HW1.out, HGS.out, HGC.out]
  clear HW1 hk hci
  have c0 := KC.cell (i := 0) rfl
  have c1 := KC.cell (i := 1) rfl
  have c2 := KC.cell (i := 2) rfl
  have c3 := KC.cell (i := 3) rfl
  have c4 := KC.cell (i := 4) rfl
  have c5 := KC.cell (i := 5) rfl
  go_wp2_with fail
  refine (CS _).mono ?_
  rintro e w2 ⟨rfl, hA⟩
  replace KS := KS.below hA KS.lt
  replace KC := KC.below hA KC.lt
  have hB2 := HB1.out.trans (hA.mono HB1.out.size)
  have hA3 : Below w2.heap.size w2 (w2.alloc (.cells #[.int .i64 P, .int .i64 Q] 37)) := (Below.refl _ _).alloc (Nat.le_refl _) _
  have HP : Hid (PlI w (w2.alloc (.cells #[.int .i64 P, .int .i64 Q] 37)) gS gC w2.heap.size c ox oy sX sY P Q) := Lib.hid ⟨KS.below hA3 KS.lt, KC.below hA3 KC.lt, Blk.new w2 _ _, hB2.trans (hA3.mono hB2.size)⟩
  clear CS hA hA3 hB2 HB1 KS KC c0 c1 c2 c3 c4 c5
  go_upto_region 3 with fail
  obtain ⟨w3, hw3⟩ : ∃ q, w2.alloc (.cells #[.int .i64 P, .int .i64 Q] 37) = q := ⟨_, rfl⟩
  obtain ⟨gA, hgA⟩ : ∃ q, w2.heap.size = q := ⟨_, rfl⟩
  rw [hw3, hgA] at HP
  rw [hw3, hgA]
  clear hw3 hgA
  go_cut [16] from 25 (fun s16 wx => s16 = .bool okB ∧ wx = w3)
  case first =>
    by_cases a1 : -1099511627776 ≤ east
    · by_cases a2 : east ≤ 1099511627776
      · by_cases a3 : -1099511627776 ≤ north
        · by_cases a4 : north ≤ 1099511627776
          · have e := HIN.out.trans (decide_eq_true ⟨⟨a1, a2⟩, a3, a4⟩)
            subst e
            go_wp2_with fail
            go_meet
            exact ⟨by simp, rfl⟩
          · have e := HIN.out.trans (decide_eq_false (fun h => a4 h.2.2))
            subst e
            go_wp2_with fail
            go_meet
            exact ⟨by simp, rfl⟩
        · have e := HIN.out.trans (decide_eq_false (fun h => a3 h.2.1))
          subst e
          go_wp2_with fail
          go_meet
          exact ⟨by simp, rfl⟩
      · have e := HIN.out.trans (decide_eq_false (fun h => a2 h.1.2))
        subst e
        go_wp2_with fail
        go_meet
        exact ⟨by simp, rfl⟩
    · have e := HIN.out.trans (decide_eq_false (fun h => a1 h.1.1))
      subst e
      go_wp2_with fail
      go_meet
      exact ⟨by simp, rfl⟩
  obtain ⟨rfl, rfl⟩ := hcut
  go_upto_region 4 with fail
  go_cut [78] from 25 (fun s78 wx => s78 = .bool false ∧ PlI w wx gS gC gA c ox oy sX sY P Q)
  case first =>
    have KC := HP.out.kC
    have KA := HP.out.kA
    have c3 := KC.cell (i := 3) rfl
    have d0 := KA.cell (i := 0) rfl
    have d1 := KA.cell (i := 1) rfl
    cases okB
    · go_wp2_with fail
      go_quiet (fail)
      go_wp2_with fail
      go_meet
      exact ⟨by simp, HP.out.below (below_dN (Below.refl _ _) _)⟩
    · have D1 := HC1.out rfl
      have D2 := HC2.out rfl
      have p1 : (P == P) = true := by simp
      have p2 : (Q == Q) = true := by simp
      go_wp2_with fail
      refine wp_region_held_drew (S := (fun w' : World => w'.cell? ⟨gC, 3, none⟩ = some (.int .i64 c) ∧ w'.cell? ⟨gA, 0, none⟩ = some (.int .i64 P) ∧ w'.cell? ⟨gA, 1, none⟩ = some (.int .i64 Q))) (by kernel_rfl) (⟨c3, d0, d1⟩) (fun hHeld => ?_)
      refine wpAnyH_take (i := 0) (v := ?v1) rfl (by kernel_rfl) (by kernel_rfl) (by kernel_rfl) (fun _ _ _ h => h) (Or.inl ⟨by rfl, ?hy1⟩) hHeld ?rest1
      case hy1 => (intro w' hSw; (try dsimp only at hSw); go_simp; (try with_reducible rfl))
      try simp only [Act.put, List.setIfInBounds_toArray, List.set_cons_zero, List.set_cons_succ, List.getElem_toArray, List.getElem_cons_zero, List.getElem_cons_succ]
      refine wpAnyH_take (i := 1) (v := ?v2) rfl (by kernel_rfl) (by kernel_rfl) (by kernel_rfl) (fun _ _ _ h => h) (Or.inl ⟨by rfl, ?hy2⟩) hHeld ?rest2
      case hy2 => (intro w' hSw; (try dsimp only at hSw); go_simp; (try with_reducible rfl))
      try simp only [Act.put, List.setIfInBounds_toArray, List.set_cons_zero, List.set_cons_succ, List.getElem_toArray, List.getElem_cons_zero, List.getElem_cons_succ]
      refine wpAnyH_take (i := 2) (v := ?v3) rfl (by kernel_rfl) (by kernel_rfl) (by kernel_rfl) (fun _ _ _ h => h) (Or.inl ⟨by rfl, ?hy3⟩) hHeld ?rest3
      case hy3 => (intro w' hSw; (try dsimp only at hSw); go_simp; (try with_reducible rfl))
      try simp only [Act.put, List.setIfInBounds_toArray, List.set_cons_zero, List.set_cons_succ, List.getElem_toArray, List.getElem_cons_zero, List.getElem_cons_succ]
      refine wpAnyH_take (i := 3) (v := ?v4) rfl (by kernel_rfl) (by kernel_rfl) (by kernel_rfl) (fun _ _ _ h => h) (Or.inl ⟨by rfl, ?hy4⟩) hHeld ?rest4
      case hy4 => (intro w' hSw; (try dsimp only at hSw); go_simp; (try with_reducible rfl))
      try simp only [Act.put, List.setIfInBounds_toArray, List.set_cons_zero, List.set_cons_succ, List.getElem_toArray, List.getElem_cons_zero, List.getElem_cons_succ]
      refine wpAnyH_take (i := 4) (v := ?v5) rfl (by kernel_rfl) (by kernel_rfl) (by kernel_rfl) (fun _ _ _ h => h) (Or.inl ⟨by rfl, ?hy5⟩) hHeld ?rest5
      case hy5 => (intro w' hSw; (try dsimp only at hSw); go_simp; (try with_reducible rfl))
      try simp only [Act.put, List.setIfInBounds_toArray, List.set_cons_zero, List.set_cons_succ, List.getElem_toArray, List.getElem_cons_zero, List.getElem_cons_succ]
      refine wpAnyH_take (i := 5) (v := ?v6) rfl (by kernel_rfl) (by kernel_rfl) (by kernel_rfl) (fun _ _ _ h => h) (Or.inl ⟨by rfl, ?hy6⟩) hHeld ?rest6
      case hy6 => (intro w' hSw; (try dsimp only at hSw); go_simp; (try with_reducible rfl))
      try simp only [Act.put, List.setIfInBounds_toArray, List.set_cons_zero, List.set_cons_succ, List.getElem_toArray, List.getElem_cons_zero, List.getElem_cons_succ]
      refine wpAnyH_take (i := 6) (v := ?v7) rfl (by kernel_rfl) (by kernel_rfl) (by kernel_rfl) (fun _ _ _ h => h) (Or.inl ⟨by rfl, ?hy7⟩) hHeld ?rest7
      case hy7 => (intro w' hSw; (try dsimp only at hSw); go_simp; (try with_reducible rfl))
      try simp only [Act.put, List.setIfInBounds_toArray, List.set_cons_zero, List.set_cons_succ, List.getElem_toArray, List.getElem_cons_zero, List.getElem_cons_succ]
      refine wpAnyH_take (i := 7) (v := ?v8) rfl (by kernel_rfl) (by kernel_rfl) (by kernel_rfl) (fun _ _ _ h => h) (Or.inl ⟨by rfl, ?hy8⟩) hHeld ?rest8
      case hy8 => (intro w' hSw; (try dsimp only at hSw); go_simp; (try with_reducible rfl))
      try simp only [Act.put, List.setIfInBounds_toArray, List.set_cons_zero, List.set_cons_succ, List.getElem_toArray, List.getElem_cons_zero, List.getElem_cons_succ]
      refine wpAnyH_take (i := 8) (v := ?v9) rfl (by kernel_rfl) (by kernel_rfl) (by kernel_rfl) (fun _ _ _ h => h) (Or.inl ⟨by rfl, ?hy9⟩) hHeld ?rest9
      case hy9 => (intro w' hSw; (try dsimp only at hSw); go_simp; (try with_reducible rfl))
      try simp only [Act.put, List.setIfInBounds_toArray, List.set_cons_zero, List.set_cons_succ, List.getElem_toArray, List.getElem_cons_zero, List.getElem_cons_succ]
      refine wpAnyH_take (i := 9) (v := ?v10) rfl (by kernel_rfl) (by kernel_rfl) (by kernel_rfl) (fun _ _ _ h => h) (Or.inl ⟨by rfl, ?hy10⟩) hHeld ?rest10
      case hy10 => (intro w' hSw; (try dsimp only at hSw); go_simp; (try with_reducible rfl))
      try simp only [Act.put, List.setIfInBounds_toArray, List.set_cons_zero, List.set_cons_succ, List.getElem_toArray, List.getElem_cons_zero, List.getElem_cons_succ]
      refine wpAnyH_take (i := 10) (v := ?v11) rfl (by kernel_rfl) (by kernel_rfl) (by kernel_rfl) (fun _ _ _ h => h) (Or.inl ⟨by rfl, ?hy11⟩) hHeld ?rest11
      case hy11 => (intro w' hSw; (try dsimp only at hSw); go_simp; (try with_reducible rfl))
      try simp only [Act.put, List.setIfInBounds_toArray, List.set_cons_zero, List.set_cons_succ, List.getElem_toArray, List.getElem_cons_zero, List.getElem_cons_succ]
      refine wpAnyH_take (i := 11) (v := ?v12) rfl (by kernel_rfl) (by kernel_rfl) (by kernel_rfl) (fun _ _ _ h => h) (Or.inl ⟨by rfl, ?hy12⟩) hHeld ?rest12
      case hy12 => (intro w' hSw; (try dsimp only at hSw); go_simp; (try with_reducible rfl))
      try simp only [Act.put, List.setIfInBounds_toArray, List.set_cons_zero, List.set_cons_succ, List.getElem_toArray, List.getElem_cons_zero, List.getElem_cons_succ]
      refine wpAnyH_ready (rs := [12]) (by kernel_rfl) (by simp) ?_
      refine AllReadyH.cons rfl (fun K hK => ?_) AllReadyH.nil
      go_simp
      refine (D1 _).mono ?_
      rintro e w5 ⟨rfl, hA⟩
      have HP5 := (HP.out.below (Below.refl _ _).drew).below hA
      clear D1 hA
      try go_wp2_with fail
      refine hK.out _ _ (⟨HP5.kC.cell (i := 3) rfl, HP5.kA.cell (i := 0) rfl, HP5.kA.cell (i := 1) rfl⟩) (fun hHeld => ?_)
      clear hK K
      try simp only [Act.put, List.setIfInBounds_toArray, List.set_cons_zero, List.set_cons_succ, List.getElem_toArray, List.getElem_cons_zero, List.getElem_cons_succ]
      refine wpAnyH_take (i := 13) (v := ?v14) rfl (by kernel_rfl) (by kernel_rfl) (by kernel_rfl) (fun _ _ _ h => h) (Or.inl ⟨by rfl, ?hy14⟩) hHeld ?rest14
      case hy14 => (intro w' hSw; (try dsimp only at hSw); go_simp; (try with_reducible rfl))
      try simp only [Act.put, List.setIfInBounds_toArray, List.set_cons_zero, List.set_cons_succ, List.getElem_toArray, List.getElem_cons_zero, List.getElem_cons_succ]
      refine wpAnyH_take (i := 14) (v := ?v15) rfl (by kernel_rfl) (by kernel_rfl) (by kernel_rfl) (fun _ _ _ h => h) (Or.inl ⟨by rfl, ?hy15⟩) hHeld ?rest15
      case hy15 => (intro w' hSw; (try dsimp only at hSw); go_simp; (try with_reducible rfl))
      try simp only [Act.put, List.setIfInBounds_toArray, List.set_cons_zero, List.set_cons_succ, List.getElem_toArray, List.getElem_cons_zero, List.getElem_cons_succ]
      refine wpAnyH_take (i := 15) (v := ?v16) rfl (by kernel_rfl) (by kernel_rfl) (by kernel_rfl) (fun _ _ _ h => h) (Or.inl ⟨by rfl, ?hy16⟩) hHeld ?rest16
      case hy16 => (intro w' hSw; (try dsimp only at hSw); go_simp; (try with_reducible rfl))
      try simp only [Act.put, List.setIfInBounds_toArray, List.set_cons_zero, List.set_cons_succ, List.getElem_toArray, List.getElem_cons_zero, List.getElem_cons_succ]
      refine wpAnyH_take (i := 16) (v := ?v17) rfl (by kernel_rfl) (by kernel_rfl) (by kernel_rfl) (fun _ _ _ h => h) (Or.inl ⟨by rfl, ?hy17⟩) hHeld ?rest17
      case hy17 => (intro w' hSw; (try dsimp only at hSw); go_simp; (try with_reducible rfl))
      try simp only [Act.put, List.setIfInBounds_toArray, List.set_cons_zero, List.set_cons_succ, List.getElem_toArray, List.getElem_cons_zero, List.getElem_cons_succ]
      refine wpAnyH_take (i := 17) (v := ?v18) rfl (by kernel_rfl) (by kernel_rfl) (by kernel_rfl) (fun _ _ _ h => h) (Or.inl ⟨by rfl, ?hy18⟩) hHeld ?rest18
      case hy18 => (intro w' hSw; (try dsimp only at hSw); go_simp; (try with_reducible rfl))
      try simp only [Act.put, List.setIfInBounds_toArray, List.set_cons_zero, List.set_cons_succ, List.getElem_toArray, List.getElem_cons_zero, List.getElem_cons_succ]
      refine wpAnyH_take (i := 18) (v := ?v19) rfl (by kernel_rfl) (by kernel_rfl) (by kernel_rfl) (fun _ _ _ h => h) (Or.inl ⟨by rfl, ?hy19⟩) hHeld ?rest19
      case hy19 => (intro w' hSw; (try dsimp only at hSw); go_simp; (try with_reducible rfl))
      try simp only [Act.put, List.setIfInBounds_toArray, List.set_cons_zero, List.set_cons_succ, List.getElem_toArray, List.getElem_cons_zero, List.getElem_cons_succ]
      refine wpAnyH_take (i := 19) (v := ?v20) rfl (by kernel_rfl) (by kernel_rfl) (by kernel_rfl) (fun _ _ _ h => h) (Or.inl ⟨by rfl, ?hy20⟩) hHeld ?rest20
      case hy20 => (intro w' hSw; (try dsimp only at hSw); go_simp; (try with_reducible rfl))
      try simp only [Act.put, List.setIfInBounds_toArray, List.set_cons_zero, List.set_cons_succ, List.getElem_toArray, List.getElem_cons_zero, List.getElem_cons_succ]
      refine wpAnyH_take (i := 20) (v := ?v21) rfl (by kernel_rfl) (by kernel_rfl) (by kernel_rfl) (fun _ _ _ h => h) (Or.inl ⟨by rfl, ?hy21⟩) hHeld ?rest21
      case hy21 => (intro w' hSw; (try dsimp only at hSw); go_simp; (try with_reducible rfl))
      try simp only [Act.put, List.setIfInBounds_toArray, List.set_cons_zero, List.set_cons_succ, List.getElem_toArray, List.getElem_cons_zero, List.getElem_cons_succ]
      refine wpAnyH_ready (rs := [21]) (by kernel_rfl) (by simp) ?_
      refine AllReadyH.cons rfl (fun K hK => ?_) AllReadyH.nil
      go_simp
      refine (D2 _).mono ?_
      rintro e w6 ⟨rfl, hA⟩
      have HP6 := HP5.below hA
      clear D2 hA
      try go_wp2_with fail
      refine hK.out _ _ (⟨HP6.kC.cell (i := 3) rfl, HP6.kA.cell (i := 0) rfl, HP6.kA.cell (i := 1) rfl⟩) (fun hHeld => ?_)
      clear hK K
      try simp only [Act.put, List.setIfInBounds_toArray, List.set_cons_zero, List.set_cons_succ, List.getElem_toArray, List.getElem_cons_zero, List.getElem_cons_succ]
      refine wpAnyH_take (i := 22) (v := ?v23) rfl (by kernel_rfl) (by kernel_rfl) (by kernel_rfl) (fun _ _ _ h => h) (Or.inl ⟨by rfl, ?hy23⟩) hHeld ?rest23
      case hy23 => (intro w' hSw; (try dsimp only at hSw); go_simp; (try with_reducible rfl))
      try simp only [Act.put, List.setIfInBounds_toArray, List.set_cons_zero, List.set_cons_succ, List.getElem_toArray, List.getElem_cons_zero, List.getElem_cons_succ]
      refine wpAnyH_take (i := 23) (v := ?v24) rfl (by kernel_rfl) (by kernel_rfl) (by kernel_rfl) (fun _ _ _ h => h) (Or.inl ⟨by rfl, ?hy24⟩) hHeld ?rest24
      case hy24 => (intro w' hSw; (try dsimp only at hSw); go_simp; (try with_reducible rfl))
      try simp only [Act.put, List.setIfInBounds_toArray, List.set_cons_zero, List.set_cons_succ, List.getElem_toArray, List.getElem_cons_zero, List.getElem_cons_succ]
      refine wpAnyH_take (i := 24) (v := ?v25) rfl (by kernel_rfl) (by kernel_rfl) (by kernel_rfl) (fun _ _ _ h => h) (Or.inl ⟨by rfl, ?hy25⟩) hHeld ?rest25
      case hy25 => (intro w' hSw; (try dsimp only at hSw); go_simp; (try with_reducible rfl))
      try simp only [Act.put, List.setIfInBounds_toArray, List.set_cons_zero, List.set_cons_succ, List.getElem_toArray, List.getElem_cons_zero, List.getElem_cons_succ]
      refine wpAnyH_take (i := 25) (v := ?v26) rfl (by kernel_rfl) (by kernel_rfl) (by kernel_rfl) (fun _ _ _ h => h) (Or.inl ⟨by rfl, ?hy26⟩) hHeld ?rest26
      case hy26 => (intro w' hSw; (try dsimp only at hSw); go_simp; (try with_reducible rfl))
      try simp only [Act.put, List.setIfInBounds_toArray, List.set_cons_zero, List.set_cons_succ, List.getElem_toArray, List.getElem_cons_zero, List.getElem_cons_succ]
      refine wpAnyH_done (by kernel_rfl) ?_ _
      go_wp2_with fail
      go_meet
      exact ⟨by simp, HP6⟩
  obtain ⟨rfl, hP⟩ := hcut
  clear HP
  have HP := Lib.hid hP
  have KC := hP.kC
  have KS := hP.kS
  have c0 := KC.cell (i := 0) rfl
  have c1 := KC.cell (i := 1) rfl
  have c2 := KC.cell (i := 2) rfl
  have c3 := KC.cell (i := 3) rfl
  have c4 := KC.cell (i := 4) rfl
  have c5 := KC.cell (i := 5) rfl
  have d0 := KS.cell (i := 0) rfl
  have d1 := KS.cell (i := 1) rfl
  clear hP KC KS
  go_wp2_with fail
  refine (HCM.out _).mono ?_
  rintro e w6 ⟨rfl, hA⟩
  have HP6 := Lib.hid (HP.out.below hA)
  clear hA HP c0 c1 c2 c3 c4 c5 d0 d1 HCM
  go_upto_region 7 with fail
  go_cut [20] from 25 (fun s20 wx => s20 = .bool isB ∧ wx = w6)
  case first =>
    have KS := HP6.out.kS
    have d0 := KS.cell (i := 0) rfl
    have d1 := KS.cell (i := 1) rfl
    clear KS
    by_cases a1 : -1099511627776 ≤ sX
    · by_cases a2 : sX ≤ 1099511627776
      · by_cases a3 : -1099511627776 ≤ sY
        · by_cases a4 : sY ≤ 1099511627776
          · have e := HIS.out.trans (decide_eq_true ⟨⟨a1, a2⟩, a3, a4⟩)
            subst e
            go_wp2_with fail
            go_meet
            exact ⟨by simp, rfl⟩
          · have e := HIS.out.trans (decide_eq_false (fun h => a4 h.2.2))
            subst e
            go_wp2_with fail
            go_meet
            exact ⟨by simp, rfl⟩
        · have e := HIS.out.trans (decide_eq_false (fun h => a3 h.2.1))
          subst e
          go_wp2_with fail
          go_meet
          exact ⟨by simp, rfl⟩
      · have e := HIS.out.trans (decide_eq_false (fun h => a2 h.1.2))
        subst e
        go_wp2_with fail
        go_meet
        exact ⟨by simp, rfl⟩
    · have e := HIS.out.trans (decide_eq_false (fun h => a1 h.1.1))
      subst e
      go_wp2_with fail
      go_meet
      exact ⟨by simp, rfl⟩
  obtain ⟨rfl, rfl⟩ := hcut
  go_upto_region 8 with fail
  go_cut [129] from 25 (fun s129 wx => s129 = .bool false ∧ PlI w wx gS gC gA c ox oy sX sY P Q)
  case first =>
    have KC := HP6.out.kC
    have KS := HP6.out.kS
    have c3 := KC.cell (i := 3) rfl
    have d0 := KS.cell (i := 0) rfl
    have d1 := KS.cell (i := 1) rfl
    clear KC KS
    cases isB
    · go_wp2_with fail
      go_meet
      exact ⟨by simp, HP6.out⟩
    · have D1 := HC3.out rfl
      have D2 := HC4.out rfl
      have p1 : (X' == X') = true := by simp
      have p2 : (Y' == Y') = true := by simp
      go_wp2_with fail
      refine (D1 _).mono ?_
      rintro e w7 ⟨rfl, hA⟩
      have HP7 := Lib.hid (HP6.out.below hA)
      clear c3 d0 d1 hA D1
      have KC := HP7.out.kC
      have KS := HP7.out.kS
      have c3 := KC.cell (i := 3) rfl
      have d1 := KS.cell (i := 1) rfl
      clear KC KS
      go_wp2_with fail
      refine (D2 _).mono ?_
      rintro e w8 ⟨rfl, hA⟩
      have HP8 := Lib.hid (HP7.out.below hA)
      clear c3 d1 hA D2
      go_wp2_with fail
      go_meet
      exact ⟨by simp, HP8.out⟩
  obtain ⟨rfl, hP⟩ := hcut
  clear HP6
  have HP := Lib.hid hP
  clear hP
  cases okB
  · go_wp2_with fail
    refine (works11_any _).mono ?_
    rintro e w9 ⟨rfl, hA⟩
    go_wp2_with fail
    go_ret
    exact ⟨rfl, (HP.out.below hA).B⟩
  · have D := HCB.out rfl
    have KC := HP.out.kC
    have KA := HP.out.kA
    have c0 := KC.cell (i := 0) rfl
    have c1 := KC.cell (i := 1) rfl
    have c2 := KC.cell (i := 2) rfl
    have c3 := KC.cell (i := 3) rfl
    have c4 := KC.cell (i := 4) rfl
    have c5 := KC.cell (i := 5) rfl
    have d0 := KA.cell (i := 0) rfl
    have d1 := KA.cell (i := 1) rfl
    clear KC KA HCB
    go_wp2_with fail
    refine (D _).mono ?_
    rintro e w9 ⟨rfl, hA⟩
    have HP9 := Lib.hid (HP.out.below hA)
    clear hA HP c0 c1 c2 c3 c4 c5 d0 d1 D
    cases backB
    · go_wp2_with fail
      refine (works11_any _).mono ?_
      rintro e w10 ⟨rfl, hA⟩
      go_wp2_with fail
      go_ret
      exact ⟨rfl, (HP9.out.below hA).B⟩
    · obtain ⟨h1, h2, h3, h4⟩ := HE.out (by simp) (by simp)
      have hmm := HMM.out
      obtain ⟨x1, hx1⟩ : ∃ x, x = wrap64 (east - E) := ⟨_, rfl⟩
      obtain ⟨x2, hx2⟩ : ∃ x, x = wrap64 (north - N) := ⟨_, rfl⟩
      rw [← hx1] at h2
      rw [← hx2] at h4
      have hx1' := hx1.symm
      have hx2' := hx2.symm
      have c3 := HP9.out.kC.cell (i := 3) rfl
      clear hx1 hx2
      go_wp2_with fail
      refine (works11_any _).mono ?_
      rintro e w10 ⟨rfl, hA⟩
      go_wp2_with fail
      go_ret
      exact ⟨rfl, (HP9.out.below hA).B⟩
theorem back_near (e o c : Int) (hc : 1 ≤ c ∧ c ≤ 1000) : nearQ (256 * (e - o) / c * c) 256 + o ≤ e ∧ e - (nearQ (256 * (e - o) / c * c) 256 + o) ≤ c / 256 + 1 := by
  have h1 := Int.mul_ediv_add_emod (256 * (e - o)) c
  have h2 := Int.emod_nonneg (256 * (e - o)) (show c ≠ 0 by omega)
  have h3 := Int.emod_lt_of_pos (256 * (e - o)) (show 0 < c by omega)
  rw [Int.mul_comm] at h1
  obtain ⟨p, hp⟩ : ∃ p, p = 256 * (e - o) / c * c := ⟨_, rfl⟩
  obtain ⟨r, hr⟩ : ∃ r, r = 256 * (e - o) % c := ⟨_, rfl⟩
  rw [← hp, ← hr] at h1
  rw [← hr] at h2 h3
  rw [← hp]
  unfold nearQ
  omega
theorem tplaces_any (k : Nat) (ox oy east north sX sY : Int) (hk : k < 65536) (hox : -2147483648 ≤ ox ∧ ox ≤ 2147483647) (hoy : -2147483648 ≤ oy ∧ oy ≤ 2147483647) (w : World) :
    Calls Tryz.prog 7 #[.int .u16 k, .int .i32 ox, .int .i32 oy, .int .i64 east, .int .i64 north, sv sX sY] w fun e w' => e = .returned (.bool true) ∧ Below w.heap.size w w' := by
  have hc : 1 ≤ ((1 + k % 1000 : Nat) : Int) ∧ ((1 + k % 1000 : Nat) : Int) ≤ 1000 := by omega
  have CM := metresV_any 0 0 none 0 0 ((1 + k % 1000 : Nat) : Int) ox oy sX sY hc hox hoy
  have CS := spot_any 0 0 none 0 0 ((1 + k % 1000 : Nat) : Int) ox oy east north hc hox hoy
  obtain ⟨X', Y', isB, eM, eB, e3, e4⟩ : ∃ X' Y' : Int, ∃ isB : Bool, metresV ((1 + k % 1000 : Nat) : Int) ox oy sX sY = .tuple #[.int .i64 X', .int .i64 Y', .bool isB] ∧ isB = decide ((-1099511627776 ≤ sX ∧ sX ≤ 1099511627776) ∧ -1099511627776 ≤ sY ∧ sY ≤ 1099511627776) ∧
      (isB = true → Ans 25 #[.int .i64 sX, .int .i32 ox, .int .i64 (1 + k % 1000 : Nat)] (.int .i64 X')) ∧ (isB = true → Ans 25 #[.int .i64 sY, .int .i32 oy, .int .i64 (1 + k % 1000 : Nat)] (.int .i64 Y')) := by
    by_cases h : (-1099511627776 ≤ sX ∧ sX ≤ 1099511627776) ∧ -1099511627776 ≤ sY ∧ sY ≤ 1099511627776
    · exact ⟨_, _, true, if_pos h, (decide_eq_true h).symm, fun _ => refMetres_any sX ox _ h.1 hox hc, fun _ => refMetres_any sY oy _ h.2 hoy hc⟩
    · exact ⟨0, 0, false, if_neg h, (decide_eq_false h).symm, (fun h => by cases h), (fun h => by cases h)⟩
  rw [eM] at CM
  by_cases h : (-1099511627776 ≤ east ∧ east ≤ 1099511627776) ∧ -1099511627776 ≤ north ∧ north ≤ 1099511627776
  · rw [show spotV ((1 + k % 1000 : Nat) : Int) ox oy east north = _ from if_pos h] at CS
    have CB := metresV_any 0 0 none 0 0 ((1 + k % 1000 : Nat) : Int) ox oy (256 * (east - ox) / ((1 + k % 1000 : Nat) : Int)) (256 * (north - oy) / ((1 + k % 1000 : Nat) : Int)) hc hox hoy
    have b1 := back_near east ox ((1 + k % 1000 : Nat) : Int) hc
    have b2 := back_near north oy ((1 + k % 1000 : Nat) : Int) hc
    by_cases h2 : (-1099511627776 ≤ 256 * (east - ox) / ((1 + k % 1000 : Nat) : Int) ∧ 256 * (east - ox) / ((1 + k % 1000 : Nat) : Int) ≤ 1099511627776) ∧ -1099511627776 ≤ 256 * (north - oy) / ((1 + k % 1000 : Nat) : Int) ∧ 256 * (north - oy) / ((1 + k % 1000 : Nat) : Int) ≤ 1099511627776
    · rw [show metresV ((1 + k % 1000 : Nat) : Int) ox oy (256 * (east - ox) / ((1 + k % 1000 : Nat) : Int)) (256 * (north - oy) / ((1 + k % 1000 : Nat) : Int)) = _ from if_pos h2] at CB
      refine places_go k (1 + k % 1000) ox oy east north sX sY _ _ X' Y' _ _ _ true isB true hk (by omega) (by omega) rfl (decide_eq_true h).symm eB CS (fun _ => refSpot_any east ox _ h.1 hox hc) (fun _ => refSpot_any north oy _ h.2 hoy hc) CM e3 e4 (fun _ => CB) (fun _ _ => ?_) w
      rw [IntWalk.wrap64_in _ (by omega), IntWalk.wrap64_in _ (by omega)]
      exact ⟨b1.1, b1.2, b2.1, b2.2⟩
    · rw [show metresV ((1 + k % 1000 : Nat) : Int) ox oy (256 * (east - ox) / ((1 + k % 1000 : Nat) : Int)) (256 * (north - oy) / ((1 + k % 1000 : Nat) : Int)) = _ from if_neg h2] at CB
      exact places_go k (1 + k % 1000) ox oy east north sX sY _ _ X' Y' 0 0 _ true isB false hk (by omega) (by omega) rfl (decide_eq_true h).symm eB CS (fun _ => refSpot_any east ox _ h.1 hox hc) (fun _ => refSpot_any north oy _ h.2 hoy hc) CM e3 e4 (fun _ => CB) (fun _ h => by cases h) w
  · rw [show spotV ((1 + k % 1000 : Nat) : Int) ox oy east north = _ from if_neg h] at CS
    exact places_go k (1 + k % 1000) ox oy east north sX sY 0 0 X' Y' 0 0 _ false isB false hk (by omega) (by omega) rfl (decide_eq_false h).symm eB CS (fun h => by cases h) (fun h => by cases h) CM e3 e4 (fun h => by cases h) (fun h => by cases h) w
end Go.Proofs.YtlkjcamjgaecgaaGreat
