/-
  TileCuts: what is asked of any place; the walk.
-/
import Derived.Test.YtapheokmoebgfaaTileW
import Derived.Test.YtapheokmoebgfaaTileH
import Derived.Test.YtapheokmoebgfaaTileI
import Derived.Deep.Cut
import Derived.Deep.LoopGhost
import Derived.WalkMore
set_option linter.unusedVariables false
set_option linter.unusedSimpArgs false
namespace Go.Proofs.Ytapheokmoebgfaa
open Go Go.RowKit Go.Th

/-- What is asked of a tile of a field: which heights, where, how many columns and rows. -/
structure Asked (x y n : Nat) (F : List Int) (X Y : Int) (EL : List Int) (cw ch bx by' : Nat) : Prop where
  ref : -1000 ≤ X ∧ X ≤ 1000 ∧ -1000 ≤ Y ∧ Y ≤ 1000 → pick F (inT X Y) x y = EL ∧ pickW F (inT X Y) x y = cw ∧ pickH F (inT X Y) x y = ch
  box : ∀ w, Calls Try.prog 14 #[.int .i64 x, .int .i64 y, pv X Y] w fun e w' => e = .returned (.tuple #[.int .i64 bx, .int .i64 by', .int .i64 cw, .int .i64 ch]) ∧ Below w.heap.size w w'
  cut : ∀ a cap w, Sl w 1 (.slice a n cap) n (i16s F) → Calls Try.prog 15 #[hv x y (.slice a n cap), pv X Y] w fun e w' => ∃ v, e = .returned v ∧ w'.ownsRow w.heap.size 30 1 v EL.length (i16s EL) ∧ Below w.heap.size w w'
  at_ : (0 < cw ∧ (bx : Int) = 16 * X ∧ (by' : Int) = 16 * Y ∧ X ≤ 100 ∧ Y ≤ 100 ∧ 0 ≤ X ∧ 0 ≤ Y) ∨ cw = 0
  far : ¬ (-1000 ≤ X ∧ X ≤ 1000 ∧ -1000 ≤ Y ∧ Y ≤ 1000) → EL = [] ∧ cw = 0 ∧ ch = 0
  few : cw ≤ 16 ∧ ch ≤ 16 ∧ EL.length ≤ 256

theorem asked (x y n : Nat) (F : List Int) (X Y : Int) (hF : isF x y = true) (hx : x ≤ 40) (hy : y ≤ 40) (hn : n = x * y) (hl : F.length = n) : ∃ EL cw ch bx by', Asked x y n F X Y EL cw ch bx by' := by
  have k1 := cnt_le x
  have k2 := cnt_le y
  by_cases h : 0 ≤ X ∧ 0 ≤ Y ∧ X < (cnt x : Nat) ∧ Y < (cnt y : Nat)
  · obtain ⟨h1, h2, h3, h4⟩ := h
    obtain ⟨P, rfl⟩ := Int.eq_ofNat_of_zero_le h1
    obtain ⟨Q, rfl⟩ := Int.eq_ofNat_of_zero_le h2
    have hP : P < cnt x := by omega
    have hQ : Q < cnt y := by omega
    have hp := (side_pos x P).2 hP
    have hq := (side_pos y Q).2 hQ
    have s1 := side_le x P
    have s2 := side_le y Q
    have hln := tileTo_length F x y (16 * P) (16 * Q) (side x P) (side y Q) (by rw [hl, hn]) (side_fits x P hP) (side_fits y Q hQ)
    refine ⟨tileTo F x (16 * P) (16 * Q) (side x P) (side y Q), side x P, side y Q, 16 * P, 16 * Q, ⟨fun _ => ?_, fun w => box_yes x y P Q hF hP hQ w, fun a cap w hS => ?_, .inl ⟨hp, by omega, by omega, by omega, by omega, by omega, by omega⟩, fun hf => absurd (by omega) hf, s1, s2, ?_⟩⟩
    · obtain ⟨e1, e2, e3⟩ := pick_tile F x y P Q (by rw [hl, hn]) hP y (Nat.le_refl _)
      exact ⟨e1, by rw [e3, if_pos hq], e2⟩
    · rw [hln]; exact cut_yes x y P Q n a cap F hF hn hP hQ hl w hS
    · rw [hln]; have := Nat.mul_le_mul s2 s1; omega
  · have hno : ∀ r c, r < y → c < x → inT X Y r c = false := by
      intro r c hr hc
      unfold inT
      rw [decide_eq_false_iff_not]
      rintro ⟨a1, a2, a3, a4, a5, a6⟩
      have g1 := cnt_ge x
      have g2 := cnt_ge y
      exact h ⟨a1, a2, by omega, by omega⟩
    refine ⟨[], 0, 0, 0, 0, ⟨fun _ => pick_off F (inT X Y) x y hno, fun w => box_no x y X Y hF h w, fun a cap w hS => cut_no x y n X Y a cap hF hn h w, .inr rfl, fun _ => ⟨rfl, rfl, rfl⟩, by omega, by omega, by simp⟩⟩

theorem tileCuts_big (p q : Nat) (X Y : Int) (a : Option Addr) (n cap : Nat) (w : World) (hbig : 2000 < n) (hn : n ≤ 9223372036854775807) :
    Calls Try.prog 5 #[.int .u8 p, .int .u8 q, .slice a n cap, .int .i64 X, .int .i64 Y] w fun e w' => e = .returned (.bool true) ∧ Below w.heap.size w w' := by
  have hb' : (2000 : Int) < (n : Int) := by omega
  go_enter Try.func5, Try.ntmps5
  go_wp2_with fail
  refine (works_any w).mono ?_
  rintro e w1 ⟨rfl, hB⟩
  go_wp2_with fail
  go_ret
  exact ⟨rfl, hB⟩

/-- Which heights are laid: those of the tiles of all columns ahead of i, and of the i-th one's first k. -/
def laid (x i k : Nat) (j : Nat) : Bool := decide (j % x / 16 < i ∨ (j % x / 16 = i ∧ j / x / 16 < k))
theorem laid_next (x y i k : Nat) (F : List Int) (hl : F.length = x * y) (hi : i < cnt x) (hk : k < cnt y) :
    layTo (mix F (laid x i k)) x (16 * i) (16 * k) (side x i) (tileTo F x (16 * i) (16 * k) (side x i) (side y k)) (side y k) = mix F (laid x i (k + 1)) := by
  have f1 := side_fits x i hi
  have f2 := side_fits y k hk
  have p1 := (side_pos x i).2 hi
  have e1 := side_min x i hi
  have e2 := side_min y k hk
  rw [layTo_mix F x y (16 * i) (16 * k) (side x i) (side y k) (laid x i k) hl f1 p1 f2 (side y k) (Nat.le_refl _)]
  refine mix_congr F _ _ fun j hj => ?_
  have hx : 0 < x := by omega
  have h1 : j % x < x := Nat.mod_lt _ hx
  have h2 : j / x < y := (Nat.div_lt_iff_lt_mul hx).2 (by rw [Nat.mul_comm y x, ← hl]; exact hj)
  unfold laid
  rw [Bool.eq_iff_iff, Bool.or_eq_true, decide_eq_true_iff, decide_eq_true_iff, decide_eq_true_iff]
  generalize j % x = c at *
  generalize j / x = r at *
  omega
theorem laid_row (x y i : Nat) (F : List Int) (hl : F.length = x * y) (hx : 0 < x) : mix F (laid x i (cnt y)) = mix F (laid x (i + 1) 0) := by
  refine mix_congr F _ _ fun j hj => ?_
  have h2 : j / x < y := (Nat.div_lt_iff_lt_mul hx).2 (by rw [Nat.mul_comm y x, ← hl]; exact hj)
  have g := cnt_ge y
  unfold laid
  rw [Bool.eq_iff_iff, decide_eq_true_iff, decide_eq_true_iff]
  generalize j % x = c at *
  generalize j / x = r at *
  omega
theorem laid_none (x n : Nat) (F : List Int) (hl : F.length = n) : mix F (laid x 0 0) = List.replicate n 0 := by
  rw [mix_none F _ (fun j _ => by unfold laid; rw [decide_eq_false_iff_not]; generalize j % x = c; generalize j / x = r; omega), hl]
theorem laid_all (x : Nat) (F : List Int) (hx : 0 < x) : mix F (laid x (cnt x) 0) = F := by
  refine mix_all F _ fun j _ => ?_
  have h1 : j % x < x := Nat.mod_lt _ hx
  have g := cnt_ge x
  unfold laid
  rw [decide_eq_true_iff]
  generalize j % x = c at *
  omega
/-- The two fields while the tiles are laid. -/
structure CutI (w W : World) (N m gF g2 gz : Nat) (vF : Value) (x y : Nat) (F G : List Int) : Prop where
  kf : Blk W gF 36 [.int .i64 x, .int .i64 y, vF]
  kg : Blk W g2 36 [.int .i64 x, .int .i64 y, .slice (some ⟨gz, 0, none⟩) m m]
  of_ : W.ownsRow w.heap.size 30 1 vF m (i16s F)
  og : W.ownsRow N 30 1 (.slice (some ⟨gz, 0, none⟩) m m) m (i16s G)
  bel : Below w.heap.size w W
theorem CutI.below {w W W' : World} {N m gF g2 gz : Nat} {vF : Value} {x y : Nat} {F G : List Int} (h : CutI w W N m gF g2 gz vF x y F G) (hb : Below W.heap.size W W') : CutI w W' N m gF g2 gz vF x y F G :=
  ⟨h.kf.below hb h.kf.lt, h.kg.below hb h.kg.lt, ownsRow_below h.of_ hb, ownsRow_below h.og hb, h.bel.trans (hb.mono h.bel.size)⟩
theorem CutI.drew {w W : World} {N m gF g2 gz : Nat} {vF : Value} {x y : Nat} {F G : List Int} (h : CutI w W N m gF g2 gz vF x y F G) : CutI w W.drew N m gF g2 gz vF x y F G :=
  ⟨h.kf, h.kg, h.of_, h.og, h.bel.drew⟩
theorem CutI.lay {w W W' : World} {N m gF g2 gz : Nat} {vF : Value} {x y : Nat} {F G G' : List Int} (h : CutI w W N m gF g2 gz vF x y F G) (ht : Turned (fun k => k = gz) W W') (ho : W'.ownsRow N 30 1 (.slice (some ⟨gz, 0, none⟩) m m) m (i16s G'))
    (h1 : gF ≠ gz) (h2 : g2 ≠ gz) (h3 : ∀ k, vF.ownBlock = some k → k ≠ gz) (h4 : w.heap.size ≤ gz) : CutI w W' N m gF g2 gz vF x y F G' :=
  ⟨h.kf.turned ht h1, h.kg.turned ht h2, ht.own h.of_ (fun k hk => h3 k hk), ho, ht.old h.bel h.bel.size (by rintro k hk rfl; omega)⟩
set_option maxRecDepth 100000 in
set_option maxHeartbeats 6400000 in
theorem tileCuts_go (p q : Nat) (X Y : Int) (a : Option Addr) (n cap : Nat) (z : List Int) (hp : p < 256) (hq : q < 256) (hz : z.length = n) (h16 : ∀ u ∈ z, In16 u) (hn : n ≤ 2000) (w : World) (hS : Sl w 1 (.slice a n cap) n (i16s z)) :
    Calls Try.prog 5 #[.int .u8 p, .int .u8 q, .slice a n cap, .int .i64 X, .int .i64 Y] w fun e w' => e = .returned (.bool true) ∧ Below w.heap.size w w' := by
  have hmx := hS.max
  have hb' : ¬ ((2000 : Int) < (n : Int)) := by omega
  have C1 := Lib.hid (field_any p q n a cap z hp hq hz hn h16 w hS)
  clear hz h16 hS hp hq
  go_enter Try.func5, Try.ntmps5
  go_wp2_with fail
  refine C1.out.mono ?_
  rintro e w1 ⟨x, y, v, F, rfl, hF, hx, hy, hl, hF16, ho, hB1⟩
  clear C1
  obtain ⟨av, cv, rfl, hc1, hc2⟩ := ownsRow_slice ho
  obtain ⟨m, hm⟩ : ∃ m, m = x * y := ⟨_, rfl⟩
  have hmle : x * y ≤ 40 * 40 := Nat.mul_le_mul hx hy
  obtain ⟨EL, cw, ch, bx, by', hA⟩ := asked x y m F X Y hF hx hy hm (by rw [hl, hm])
  obtain ⟨hq1, hq2, hq3, hq4⟩ := isF_yes hF
  rw [← hm] at ho hl hc1 hmle ⊢
  have HA := Lib.hid hA
  have HF := Lib.hid hF
  have HM := Lib.hid hm
  have HL := Lib.hid hl
  obtain ⟨hf1, hf2, hf3⟩ := hA.few
  clear hA hF hm hl hF16
  obtain ⟨w2, hw2⟩ : ∃ w2, w1.alloc (.cells #[.int .i64 x, .int .i64 y, .slice av m cv] 36) = w2 := ⟨_, rfl⟩
  have hA2 : Below w1.heap.size w1 w2 := by rw [← hw2]; exact (Below.refl _ _).alloc (Nat.le_refl _) _
  have K1 : Blk w2 w1.heap.size 36 [.int .i64 x, .int .i64 y, .slice av m cv] := by rw [← hw2]; exact Blk.new w1 _ _
  replace ho := ownsRow_below ho hA2
  have hB2 := hB1.trans (hA2.mono hB1.size)
  have hk1 : w.heap.size ≤ w1.heap.size := hB1.size
  obtain ⟨pr, hpr⟩ := in_some X Y
  obtain ⟨pt, hpt, hpe⟩ : ∃ pt : Nat → Nat → Bool, (∀ r c : Nat, r ≤ 1000 → c ≤ 1000 → Pure 30 #[.int .i64 c, .int .i64 r, .int .i64 X, .int .i64 Y] (.bool (pt r c))) ∧ ((-1000 ≤ X ∧ X ≤ 1000 ∧ -1000 ≤ Y ∧ Y ≤ 1000) → pt = inT X Y) := by
    by_cases h : -1000 ≤ X ∧ X ≤ 1000 ∧ -1000 ≤ Y ∧ Y ≤ 1000
    · exact ⟨inT X Y, fun r c hr hc => in_go X Y ⟨h.1, h.2.1⟩ ⟨h.2.2.1, h.2.2.2⟩ r c hr hc, fun _ => rfl⟩
    · exact ⟨pr, hpr, fun e => absurd e h⟩
  have C2 := ref8Cut_any x y m X Y av cv F pt (by omega) (by omega) HM.out HL.out hpt w2 (Sl.of_own ho)
  have hLl : (pick F pt x y).length ≤ 1600 := by have := pick_le F pt x y; rw [Nat.mul_comm, ← HM.out] at this; omega
  have hWl := pickW_le F pt x y
  have hHl := pickH_le F pt x y
  have hpe' : (-1000 ≤ X ∧ X ≤ 1000 ∧ -1000 ≤ Y ∧ Y ≤ 1000) → pick F pt x y = EL ∧ pickW F pt x y = cw ∧ pickH F pt x y = ch := fun h => by rw [hpe h]; exact HA.out.ref h
  obtain ⟨L0, hL0⟩ : ∃ L, L = pick F pt x y := ⟨_, rfl⟩
  obtain ⟨W0, hW0⟩ : ∃ L, L = pickW F pt x y := ⟨_, rfl⟩
  obtain ⟨H0, hH0⟩ : ∃ L, L = pickH F pt x y := ⟨_, rfl⟩
  rw [← hL0] at C2 hLl hpe'
  rw [← hW0] at C2 hWl hpe'
  rw [← hH0] at C2 hHl hpe'
  have C2 := Lib.hid C2
  have HPE := Lib.hid hpe'
  clear hL0 hW0 hH0 hpe' hpe hpt hpr hA2 hB1
  have c0 := K1.cell (i := 0) rfl
  have c1 := K1.cell (i := 1) rfl
  have c2 := K1.cell (i := 2) rfl
  go_wp2_with fail
  clear hw2
  refine C2.out.mono ?_
  rintro e w3 ⟨v3, rfl, ho3, hA3⟩
  clear C2 c0 c1 c2
  obtain ⟨a3, cap3, rfl, hc31, hc32⟩ := ownsRow_slice ho3
  replace ho := ownsRow_below ho hA3
  replace K1 := K1.below hA3 K1.lt
  have hB3 := hB2.trans (hA3.mono hB2.size)
  clear hA3 hB2
  go_upto_region 5 with fail
  obtain ⟨B, hB⟩ : ∃ B, B = decide (¬ (-1000 ≤ X ∧ X ≤ 1000 ∧ -1000 ≤ Y ∧ Y ≤ 1000)) := ⟨_, rfl⟩
  have HBD := Lib.hid hB
  clear hB
  go_cut [52] from 23 (fun s52 wx => wx = w3 ∧ s52 = .bool B)
  case first =>
    by_cases b1 : 1000 < X
    · go_wp2_with fail
      go_meet
      exact ⟨rfl, by rw [HBD.out, decide_eq_true (by omega)]⟩
    · by_cases b2 : 1000 < Y
      · go_wp2_with fail
        go_meet
        exact ⟨rfl, by rw [HBD.out, decide_eq_true (by omega)]⟩
      · by_cases b3 : X < -1000
        · go_wp2_with fail
          go_meet
          exact ⟨rfl, by rw [HBD.out, decide_eq_true (by omega)]⟩
        · by_cases b4 : Y < -1000
          · go_wp2_with fail
            go_meet
            exact ⟨rfl, by rw [HBD.out, decide_eq_true (by omega)]⟩
          · go_wp2_with fail
            go_meet
            exact ⟨rfl, by rw [HBD.out, decide_eq_false (by omega)]⟩
  obtain ⟨rfl, rfl⟩ := hcut
  go_upto_if 52 with fail
  go_cut [12, 13, 14] from 23 (fun s12 s13 s14 wx => wx = wc ∧ ∃ ac cc, s12 = .slice ac EL.length cc ∧ s13 = .int .i64 cw ∧ s14 = .int .i64 ch ∧ Sl wc 1 (.slice ac EL.length cc) EL.length (i16s EL))
  case first =>
    cases B
    · obtain ⟨e1, e2, e3⟩ := HPE.out (Classical.byContradiction fun h => by have := HBD.out; rw [decide_eq_true h] at this; cases this)
      have hs3 := Sl.of_own ho3
      rw [e1] at hs3
      have HS3 := Lib.hid hs3
      have E1 := Lib.hid e1
      have E2 := Lib.hid e2
      have E3 := Lib.hid e3
      clear hs3 e1 e2 e3
      go_wp2_with fail
      go_meet
      exact ⟨rfl, a3, cap3, by rw [E1.out], by rw [E2.out], by rw [E3.out], HS3.out⟩
    · have far : ∃ ac cc, Value.slice none 0 0 = .slice ac EL.length cc ∧ Value.int .i64 0 = .int .i64 cw ∧ Value.int .i64 0 = .int .i64 ch ∧ Sl wc 1 (.slice ac EL.length cc) EL.length (i16s EL) := by
        obtain ⟨e1, e2, e3⟩ := HA.out.far (fun h => by have := HBD.out; rw [decide_eq_false (fun k => k h)] at this; cases this)
        rw [e1, e2, e3]
        exact ⟨none, 0, rfl, rfl, rfl, Sl.nil _ _⟩
      have FAR := Lib.hid far
      clear far
      go_wp2_with fail
      go_meet
      exact ⟨rfl, FAR.out⟩
  rename_i w3
  obtain ⟨rfl, ac, cc, rfl, rfl, rfl, hsc⟩ := hcut
  clear ho3 HPE HBD hc31 hc32 hLl hWl hHl
  have C3 := Lib.hid (HA.out.box wc)
  have c0 := K1.cell (i := 0) rfl
  have c1 := K1.cell (i := 1) rfl
  have hat := HA.out.at_
  have CK := Lib.hid HA.out.cut
  go_wp2_with fail
  refine C3.out.mono ?_
  rintro e w4 ⟨rfl, hA4⟩
  clear C3 c0 c1
  replace ho := ownsRow_below ho hA4
  replace K1 := K1.below hA4 K1.lt
  replace hsc := hsc.below hA4
  have hB4 := hB3.trans (hA4.mono hB3.size)
  clear hA4 hB3
  have C4 := Lib.hid (CK.out av cv w4 (Sl.of_own ho))
  have HSC := Lib.hid hsc
  clear CK hsc HA
  go_upto_region 8 with fail
  go_cut [99] from 23 (fun s99 wx => s99 = .bool false ∧ Blk wx w1.heap.size 36 [.int .i64 x, .int .i64 y, .slice av m cv] ∧ wx.ownsRow w.heap.size 30 1 (.slice av m cv) m (i16s F) ∧ Below w.heap.size w wx)
  case first =>
    have c0 := K1.cell (i := 0) rfl
    have c1 := K1.cell (i := 1) rfl
    have c2 := K1.cell (i := 2) rfl
    have q1 : ((cw : Int) != (cw : Int)) = false := by simp
    have q2 : ((ch : Int) != (ch : Int)) = false := by simp
    rcases hat with ⟨g1, g2, g3, g4, g5, g6, g7⟩ | g1
    · have q3 : (((bx : Nat) : Int) != 16 * X) = false := by simp; omega
      have q4 : (((by' : Nat) : Int) != 16 * Y) = false := by simp; omega
      have q5 : (0 : Int) < (cw : Int) := by omega
      clear g2 g3
      go_wp2_with fail
      refine C4.out.mono ?_
      rintro e w5 ⟨v5, rfl, ho5, hA5⟩
      clear C4 c0 c1 c2
      obtain ⟨a5, cap5, rfl, hc51, hc52⟩ := ownsRow_slice ho5
      replace ho := ownsRow_below ho hA5
      replace K1 := K1.below hA5 K1.lt
      have hB5 := hB4.trans (hA5.mono hB4.size)
      have C5 := Lib.hid (same16_any a5 ac EL.length cap5 cc EL rfl (by omega) w5 (Sl.of_own ho5) (HSC.out.below hA5))
      clear hA5 hB4 ho5
      go_wp2_with fail
      refine C5.out.mono ?_
      rintro e w6 ⟨rfl, hA6⟩
      clear C5
      replace ho := ownsRow_below ho hA6
      replace K1 := K1.below hA6 K1.lt
      have hB6 := hB5.trans (hA6.mono hB5.size)
      clear hA6 hB5
      go_wp2_with fail
      go_meet
      exact ⟨rfl, K1, ho, hB6⟩
    · have q5 : ¬ ((0 : Int) < (cw : Int)) := by omega
      clear g1
      go_wp2_with fail
      refine C4.out.mono ?_
      rintro e w5 ⟨v5, rfl, ho5, hA5⟩
      clear C4 c0 c1 c2
      obtain ⟨a5, cap5, rfl, hc51, hc52⟩ := ownsRow_slice ho5
      replace ho := ownsRow_below ho hA5
      replace K1 := K1.below hA5 K1.lt
      have hB5 := hB4.trans (hA5.mono hB4.size)
      have C5 := Lib.hid (same16_any a5 ac EL.length cap5 cc EL rfl (by omega) w5 (Sl.of_own ho5) (HSC.out.below hA5))
      clear hA5 hB4 ho5
      go_wp2_with fail
      refine C5.out.mono ?_
      rintro e w6 ⟨rfl, hA6⟩
      clear C5
      replace ho := ownsRow_below ho hA6
      replace K1 := K1.below hA6 K1.lt
      have hB6 := hB5.trans (hA6.mono hB5.size)
      clear hA6 hB5
      go_wp2_with fail
      go_meet
      exact ⟨rfl, K1, ho, hB6⟩
  obtain ⟨rfl, K2, ho2, hB5⟩ := hcut
  clear hat C4 HSC K1 ho hB4 hf1 hf2 hf3
  go_upto_region 10 with fail
  obtain ⟨N, hN⟩ : ∃ N, N = wc.heap.size := ⟨_, rfl⟩
  have HN := Lib.hid hN
  have hgF : w1.heap.size < N := by rw [hN]; exact K2.lt
  have hwN : w.heap.size ≤ N := by rw [hN]; exact hB5.size
  have havN : ∀ k, (Value.slice av m cv).ownBlock = some k → k < N := fun k hk => by rw [hN]; exact (ho2.lt k hk).2
  have HAV := Lib.hid havN
  clear hN havN
  go_cut [19] from 23 (fun s19 wx => ∃ g2 gz, s19 = .pointer (some ⟨g2, 0, none⟩) ∧ CutI w wx N m w1.heap.size g2 gz (.slice av m cv) x y F (mix F (laid x 0 0)) ∧ N ≤ g2 ∧ N ≤ gz ∧ g2 ≠ gz)
  case first =>
    have c0 := K2.cell (i := 0) rfl
    have c1 := K2.cell (i := 1) rfl
    have c2 := K2.cell (i := 2) rfl
    have hmk := run_mk16 m (by omega)
    have hlt := K2.lt
    have hne : w1.heap.size ≠ wc.heap.size := by omega
    have hz0 : i16s (mix F (laid x 0 0)) = List.replicate m (.int .i16 0) := by rw [laid_none x m F HL.out]; simp [i16s]
    have HZ0 := Lib.hid hz0
    clear hz0
    go_region
    · go_wp2_with fail
      go_meet
      refine ⟨wc.heap.size + 1, wc.heap.size, rfl, ?_, by rw [HN.out]; omega, by rw [HN.out]; omega, by omega⟩
      have hb1 : Below wc.heap.size wc (wc.alloc (.cells (Array.replicate m (Value.int .i16 0)) 30)) := (Below.refl _ _).alloc (Nat.le_refl _) _
      refine CutI.drew ⟨(K2.alloc _).alloc _, ?_, ownsRow_below ho2 (hb1.alloc (by simp) _), ?_, hB5.trans ((hb1.alloc (by simp) _).mono hB5.size)⟩
      · have := Blk.new (wc.alloc (.cells (Array.replicate m (Value.int .i16 0)) 30)) 36 [.int .i64 x, .int .i64 y, .slice (some ⟨wc.heap.size, 0, none⟩) m m]
        rw [World.size_alloc] at this
        exact this
      · rw [HZ0.out, HN.out]
        exact (made16 wc m wc.heap.size (by unfold maxLen; omega) (Nat.le_refl _)).alloc _
    · go_wp2_with fail
      go_meet
      refine ⟨wc.heap.size, wc.heap.size + 1, rfl, ?_, by rw [HN.out]; omega, by rw [HN.out]; omega, by omega⟩
      have hb1 : Below wc.heap.size wc (wc.alloc (.cells #[.int .i64 x, .int .i64 y, .slice (some ⟨wc.heap.size + 1, 0, none⟩) m m] 36)) := (Below.refl _ _).alloc (Nat.le_refl _) _
      refine CutI.drew ⟨(K2.alloc _).alloc _, (Blk.new wc _ _).alloc _, ownsRow_below ho2 (hb1.alloc (by simp) _), ?_, hB5.trans ((hb1.alloc (by simp) _).mono hB5.size)⟩
      rw [HZ0.out, HN.out]
      have := made16 (wc.alloc (.cells #[.int .i64 x, .int .i64 y, .slice (some ⟨wc.heap.size + 1, 0, none⟩) m m] 36)) m wc.heap.size (by unfold maxLen; omega) (by simp)
      rw [World.size_alloc] at this
      exact this
  clear K2 ho2 hB5 HN
  obtain ⟨g2, gz, rfl, hI, hg2, hgz, hgg⟩ := hcut
  have ccx := Lib.hid (ref8Count_any x (by omega))
  have ccy := Lib.hid (ref8Count_any y (by omega))
  have hcx := cnt_le x
  have hcy := cnt_le y
  have HNX := Lib.hid (fun i k hi hk => laid_next x y i k F (by rw [HL.out, HM.out]) hi hk)
  have HRW := Lib.hid (fun i => laid_row x y i F (by rw [HL.out, HM.out]) (by omega))
  have HALL := Lib.hid (laid_all x F (by omega))
  have HYES := Lib.hid (fun i k (hi : i < cnt x) (hk : k < cnt y) wx hs => cut_yes x y i k m av cv F HF.out HM.out hi hk HL.out wx hs)
  have HLAY := Lib.hid (fun i k (hi : i < cnt x) (hk : k < cnt y) az nz capz zz (hz : zz.length = nz) (hnz : nz = side x i * side y k) wx ho hs => lay_yes x y i k m gz m N (mix F (laid x i k)) zz az nz capz HF.out HM.out hi hk (by rw [mix_length]; exact HL.out) hz hnz wx ho hs)
  have HTL := Lib.hid (fun i k (hi : i < cnt x) (hk : k < cnt y) => tileTo_length F x y (16 * i) (16 * k) (side x i) (side y k) (by rw [HL.out, HM.out]) (side_fits x i hi) (side_fits y k hk))
  obtain ⟨nx, hnx⟩ : ∃ k, k = cnt x := ⟨_, rfl⟩
  obtain ⟨ny, hny⟩ : ∃ k, k = cnt y := ⟨_, rfl⟩
  rw [← hnx] at ccx hcx
  rw [← hny] at ccy hcy
  have HNXX := Lib.hid hnx
  have HNYY := Lib.hid hny
  clear hnx hny
  go_wp2_with fail
  go_loopw [20] (fun c wx => ∃ i : Nat, i ≤ nx ∧ c = .int .i64 i ∧ CutI w wx N m w1.heap.size g2 gz (.slice av m cv) x y F (mix F (laid x i 0))) (fun c _ => nx - (intOf c).toNat)
  case atStart => exact ⟨0, Nat.zero_le _, rfl, hI⟩
  case round =>
    clear hI
    obtain ⟨i, hi, rfl, hI⟩ := hrel
    have c0 := hI.kf.cell (i := 0) rfl
    by_cases hlt : i < nx
    · go_wp2_with fail
      refine (ccx.out _).mono ?_
      rintro e wx ⟨rfl, rfl⟩
      clear c0
      go_wp2_with fail
      go_loopw [21] (fun c wx => ∃ k : Nat, k ≤ ny ∧ c = .int .i64 k ∧ CutI w wx N m w1.heap.size g2 gz (.slice av m cv) x y F (mix F (laid x i k))) (fun c _ => ny - (intOf c).toNat)
      case atStart => exact ⟨0, Nat.zero_le _, rfl, hI⟩
      case round =>
        clear hI
        obtain ⟨k, hk, rfl, hI⟩ := hrel
        have c1 := hI.kf.cell (i := 1) rfl
        by_cases hkt : k < ny
        · go_wp2_with fail
          refine (ccy.out _).mono ?_
          rintro e wx ⟨rfl, rfl⟩
          clear c1
          go_wp2_with fail
          have hA5 : Below wr.heap.size wr (wr.alloc (.cells #[.int .i64 i, .int .i64 k] 43)) := (Below.refl _ _).alloc (Nat.le_refl _) _
          have KP : Blk (wr.alloc (.cells #[.int .i64 i, .int .i64 k] 43)) wr.heap.size 43 [.int .i64 i, .int .i64 k] := Blk.new wr _ _
          have hPz : wr.heap.size ≠ gz := by have := (hI.og.lt gz (by simp [Value.ownBlock])).2; omega
          obtain ⟨w5, hw5⟩ : ∃ w5, wr.alloc (.cells #[.int .i64 i, .int .i64 k] 43) = w5 := ⟨_, rfl⟩
          obtain ⟨P, hP⟩ : ∃ P, P = wr.heap.size := ⟨_, rfl⟩
          rw [hw5, ← hP] at hA5 KP ⊢
          rw [← hP] at hPz
          replace hI := hI.below (hP ▸ hA5)
          clear hw5 hP hA5
          have hi' : i < cnt x := by rw [← HNXX.out]; exact hlt
          have hk' : k < cnt y := by rw [← HNYY.out]; exact hkt
          have C6 := Lib.hid (HYES.out i k hi' hk' w5.drew (Sl.of_own hI.drew.of_))
          have C7 := Lib.hid (fun az capz wx ho hs => HLAY.out i k hi' hk' az (side y k * side x i) capz (tileTo F x (16 * i) (16 * k) (side x i) (side y k)) (HTL.out i k hi' hk') (Nat.mul_comm _ _) wx ho hs)
          have hnx := HNX.out i k hi' hk'
          have HNX2 := Lib.hid hnx
          clear hi' hk' hnx
          have f0 := hI.kf.cell (i := 0) rfl
          have f1 := hI.kf.cell (i := 1) rfl
          have f2 := hI.kf.cell (i := 2) rfl
          have k0 := hI.kg.cell (i := 0) rfl
          have k1 := hI.kg.cell (i := 1) rfl
          have k2 := hI.kg.cell (i := 2) rfl
          have p0 := KP.cell (i := 0) rfl
          have p1 := KP.cell (i := 1) rfl
          refine wp_region_held_drew (S := (fun w' : World => w'.cell? ⟨w1.heap.size, 0, none⟩ = some (.int .i64 x) ∧ w'.cell? ⟨w1.heap.size, 1, none⟩ = some (.int .i64 y) ∧ w'.cell? ⟨w1.heap.size, 2, none⟩ = some (.slice av m cv) ∧ w'.cell? ⟨g2, 0, none⟩ = some (.int .i64 x) ∧ w'.cell? ⟨g2, 1, none⟩ = some (.int .i64 y) ∧ w'.cell? ⟨g2, 2, none⟩ = some (.slice (some ⟨gz, 0, none⟩) m m) ∧ w'.cell? ⟨P, 0, none⟩ = some (.int .i64 i) ∧ w'.cell? ⟨P, 1, none⟩ = some (.int .i64 k))) (by kernel_rfl) (⟨f0, f1, f2, k0, k1, k2, p0, p1⟩) (fun hHeld => ?_)
          refine wpAnyH_take (i := 0) (v := ?v1) rfl (by kernel_rfl) (by kernel_rfl) (by kernel_rfl) (fun _ _ _ h => h) (Or.inl ⟨by rfl, ?hy1⟩) hHeld ?rest1
          case hy1 => (intro w' hSw; (try dsimp only at hSw); go_simp; (try with_reducible rfl))
          try simp only [Act.put, List.setIfInBounds_toArray, List.set_cons_zero, List.set_cons_succ, List.getElem_toArray, List.getElem_cons_zero, List.getElem_cons_succ]
          refine wpAnyH_take (i := 1) (v := ?v2) rfl (by kernel_rfl) (by kernel_rfl) (by kernel_rfl) (fun _ _ _ h => h) (Or.inl ⟨by rfl, ?hy2⟩) hHeld ?rest2
          case hy2 => (intro w' hSw; (try dsimp only at hSw); go_simp; (try with_reducible rfl))
          try simp only [Act.put, List.setIfInBounds_toArray, List.set_cons_zero, List.set_cons_succ, List.getElem_toArray, List.getElem_cons_zero, List.getElem_cons_succ]
          refine wpAnyH_take (i := 2) (v := ?v3) rfl (by kernel_rfl) (by kernel_rfl) (by kernel_rfl) (fun _ _ _ h => h) (Or.inl ⟨by rfl, ?hy3⟩) hHeld ?rest3
          case hy3 => (intro w' hSw; (try dsimp only at hSw); go_simp; (try with_reducible rfl))
          try simp only [Act.put, List.setIfInBounds_toArray, List.set_cons_zero, List.set_cons_succ, List.getElem_toArray, List.getElem_cons_zero, List.getElem_cons_succ]
          refine wpAnyH_take (i := 3) (v := ?v4) rfl (by kernel_rfl) (by kernel_rfl) (by kernel_rfl) (fun _ _ _ h => h) (Or.inl ⟨by rfl, ?hy4⟩) hHeld ?rest4
          case hy4 => (intro w' hSw; (try dsimp only at hSw); go_simp; (try with_reducible rfl))
          try simp only [Act.put, List.setIfInBounds_toArray, List.set_cons_zero, List.set_cons_succ, List.getElem_toArray, List.getElem_cons_zero, List.getElem_cons_succ]
          refine wpAnyH_ready (rs := [4]) (by kernel_rfl) (by simp) ?_
          refine AllReadyH.cons rfl (fun K hK => ?_) AllReadyH.nil
          go_simp
          refine C6.out.mono ?_
          rintro e w6 ⟨v6, rfl, ho6, hA6⟩
          have hI6 := hI.drew.below hA6
          have KP6 := KP.drew.below hA6 KP.lt
          obtain ⟨a6, cap6, rfl, hc61, hc62⟩ := ownsRow_slice ho6
          have C8 := Lib.hid (C7.out a6 cap6 w6 hI6.og (Sl.of_own ho6))
          clear C6 C7 ho6 hA6
          try go_wp2_with fail
          refine hK.out _ _ (⟨hI6.kf.cell (i := 0) rfl, hI6.kf.cell (i := 1) rfl, hI6.kf.cell (i := 2) rfl, hI6.kg.cell (i := 0) rfl, hI6.kg.cell (i := 1) rfl, hI6.kg.cell (i := 2) rfl, KP6.cell (i := 0) rfl, KP6.cell (i := 1) rfl⟩) (fun hHeld => ?_)
          clear hK K
          try simp only [Act.put, List.setIfInBounds_toArray, List.set_cons_zero, List.set_cons_succ, List.getElem_toArray, List.getElem_cons_zero, List.getElem_cons_succ]
          refine wpAnyH_ready (rs := [5]) (by kernel_rfl) (by simp) ?_
          refine AllReadyH.cons rfl (fun K hK => ?_) AllReadyH.nil
          go_simp
          refine C8.out.mono ?_
          rintro e w7 ⟨rfl, ho7, hT7⟩
          clear C8
          rw [HNX2.out] at ho7
          have hI7 := hI6.lay hT7 ho7 (by omega) hgg (fun j hj => by have := HAV.out j hj; omega) (by omega)
          have KP7 := KP6.turned hT7 hPz
          try go_wp2_with fail
          refine hK.out _ _ (⟨hI7.kf.cell (i := 0) rfl, hI7.kf.cell (i := 1) rfl, hI7.kf.cell (i := 2) rfl, hI7.kg.cell (i := 0) rfl, hI7.kg.cell (i := 1) rfl, hI7.kg.cell (i := 2) rfl, KP7.cell (i := 0) rfl, KP7.cell (i := 1) rfl⟩) (fun hHeld => ?_)
          clear hK K
          try simp only [Act.put, List.setIfInBounds_toArray, List.set_cons_zero, List.set_cons_succ, List.getElem_toArray, List.getElem_cons_zero, List.getElem_cons_succ]
          refine wpAnyH_take (i := 6) (v := ?v7) rfl (by kernel_rfl) (by kernel_rfl) (by kernel_rfl) (fun _ _ _ h => h) (Or.inl ⟨by rfl, ?hy7⟩) hHeld ?rest7
          case hy7 => (intro w' hSw; (try dsimp only at hSw); go_simp; (try with_reducible rfl))
          try simp only [Act.put, List.setIfInBounds_toArray, List.set_cons_zero, List.set_cons_succ, List.getElem_toArray, List.getElem_cons_zero, List.getElem_cons_succ]
          refine wpAnyH_done (by kernel_rfl) ?_ _
          clear f0 f1 f2 k0 k1 k2 p0 p1 hI hI6 KP KP6 KP7 ho7 hT7
          go_wp2_with fail
          go_roundw
          case rel => exact ⟨k + 1, by omega, by go_num, hI7⟩
          case measure => simp [intOf]; omega
        · obtain rfl : k = ny := by omega
          have hrw := HRW.out i
          rw [← HNYY.out] at hrw
          rw [hrw] at hI
          clear hrw
          go_wp2_with fail
          refine (ccy.out _).mono ?_
          rintro e wx ⟨rfl, rfl⟩
          clear c1
          go_wp2_with fail
          go_roundw
          case rel => exact ⟨i + 1, by omega, by go_num, hI⟩
          case measure => simp [intOf]; omega
    · obtain rfl : i = nx := by omega
      have hall := HALL.out
      rw [← HNXX.out] at hall
      rw [hall] at hI
      clear hall
      go_wp2_with fail
      refine (ccx.out _).mono ?_
      rintro e wx ⟨rfl, rfl⟩
      clear c0
      have C9 := Lib.hid (same16_any (some ⟨gz, 0, none⟩) av m m cv F HL.out (by omega) wr.drew (Sl.of_own hI.drew.og) (Sl.of_own hI.drew.of_))
      have C10 := count_go x (by omega) (by omega)
      rw [← HNXX.out] at C10
      have C10 := Lib.hid C10
      have f0 := hI.kf.cell (i := 0) rfl
      have f2 := hI.kf.cell (i := 2) rfl
      have k2 := hI.kg.cell (i := 2) rfl
      have hii : ((i : Int) == (i : Int)) = true := by simp
      go_wp2_with fail
      refine wp_region_held_drew (S := (fun w' : World => w'.cell? ⟨w1.heap.size, 0, none⟩ = some (.int .i64 x) ∧ w'.cell? ⟨w1.heap.size, 2, none⟩ = some (.slice av m cv) ∧ w'.cell? ⟨g2, 2, none⟩ = some (.slice (some ⟨gz, 0, none⟩) m m))) (by kernel_rfl) (⟨f0, f2, k2⟩) (fun hHeld => ?_)
      refine wpAnyH_take (i := 0) (v := ?v8) rfl (by kernel_rfl) (by kernel_rfl) (by kernel_rfl) (fun _ _ _ h => h) (Or.inl ⟨by rfl, ?hy8⟩) hHeld ?rest8
      case hy8 => (intro w' hSw; (try dsimp only at hSw); go_simp; (try with_reducible rfl))
      try simp only [Act.put, List.setIfInBounds_toArray, List.set_cons_zero, List.set_cons_succ, List.getElem_toArray, List.getElem_cons_zero, List.getElem_cons_succ]
      refine wpAnyH_take (i := 1) (v := ?v9) rfl (by kernel_rfl) (by kernel_rfl) (by kernel_rfl) (fun _ _ _ h => h) (Or.inl ⟨by rfl, ?hy9⟩) hHeld ?rest9
      case hy9 => (intro w' hSw; (try dsimp only at hSw); go_simp; (try with_reducible rfl))
      try simp only [Act.put, List.setIfInBounds_toArray, List.set_cons_zero, List.set_cons_succ, List.getElem_toArray, List.getElem_cons_zero, List.getElem_cons_succ]
      refine wpAnyH_take (i := 2) (v := ?v10) rfl (by kernel_rfl) (by kernel_rfl) (by kernel_rfl) (fun _ _ _ h => h) (Or.inl ⟨by rfl, ?hy10⟩) hHeld ?rest10
      case hy10 => (intro w' hSw; (try dsimp only at hSw); go_simp; (try with_reducible rfl))
      try simp only [Act.put, List.setIfInBounds_toArray, List.set_cons_zero, List.set_cons_succ, List.getElem_toArray, List.getElem_cons_zero, List.getElem_cons_succ]
      refine wpAnyH_take (i := 3) (v := ?v11) rfl (by kernel_rfl) (by kernel_rfl) (by kernel_rfl) (fun _ _ _ h => h) (Or.inl ⟨by rfl, ?hy11⟩) hHeld ?rest11
      case hy11 => (intro w' hSw; (try dsimp only at hSw); go_simp; (try with_reducible rfl))
      try simp only [Act.put, List.setIfInBounds_toArray, List.set_cons_zero, List.set_cons_succ, List.getElem_toArray, List.getElem_cons_zero, List.getElem_cons_succ]
      refine wpAnyH_ready (rs := [4]) (by kernel_rfl) (by simp) ?_
      refine AllReadyH.cons rfl (fun K hK => ?_) AllReadyH.nil
      go_simp
      refine C9.out.mono ?_
      rintro e w6 ⟨rfl, hA6⟩
      have hI6 := hI.drew.below hA6
      clear C9 hA6
      try go_wp2_with fail
      refine hK.out _ _ (⟨hI6.kf.cell (i := 0) rfl, hI6.kf.cell (i := 2) rfl, hI6.kg.cell (i := 2) rfl⟩) (fun hHeld => ?_)
      clear hK K
      try simp only [Act.put, List.setIfInBounds_toArray, List.set_cons_zero, List.set_cons_succ, List.getElem_toArray, List.getElem_cons_zero, List.getElem_cons_succ]
      refine wpAnyH_take (i := 5) (v := ?v13) rfl (by kernel_rfl) (by kernel_rfl) (by kernel_rfl) (fun _ _ _ h => h) (Or.inl ⟨by rfl, ?hy13⟩) hHeld ?rest13
      case hy13 => (intro w' hSw; (try dsimp only at hSw); go_simp; (try with_reducible rfl))
      try simp only [Act.put, List.setIfInBounds_toArray, List.set_cons_zero, List.set_cons_succ, List.getElem_toArray, List.getElem_cons_zero, List.getElem_cons_succ]
      refine wpAnyH_take (i := 6) (v := ?v14) rfl (by kernel_rfl) (by kernel_rfl) (by kernel_rfl) (fun _ _ _ h => h) (Or.inl ⟨by rfl, ?hy14⟩) hHeld ?rest14
      case hy14 => (intro w' hSw; (try dsimp only at hSw); go_simp; (try with_reducible rfl))
      try simp only [Act.put, List.setIfInBounds_toArray, List.set_cons_zero, List.set_cons_succ, List.getElem_toArray, List.getElem_cons_zero, List.getElem_cons_succ]
      refine wpAnyH_take (i := 7) (v := ?v15) rfl (by kernel_rfl) (by kernel_rfl) (by kernel_rfl) (fun _ _ _ h => h) (Or.inl ⟨by rfl, ?hy15⟩) hHeld ?rest15
      case hy15 => (intro w' hSw; (try dsimp only at hSw); go_simp; (try with_reducible rfl))
      try simp only [Act.put, List.setIfInBounds_toArray, List.set_cons_zero, List.set_cons_succ, List.getElem_toArray, List.getElem_cons_zero, List.getElem_cons_succ]
      refine wpAnyH_take (i := 9) (v := ?v16) rfl (by kernel_rfl) (by kernel_rfl) (by kernel_rfl) (fun _ _ _ h => h) (Or.inl ⟨by rfl, ?hy16⟩) hHeld ?rest16
      case hy16 => (intro w' hSw; (try dsimp only at hSw); go_simp; (try with_reducible rfl))
      try simp only [Act.put, List.setIfInBounds_toArray, List.set_cons_zero, List.set_cons_succ, List.getElem_toArray, List.getElem_cons_zero, List.getElem_cons_succ]
      refine wpAnyH_take (i := 10) (v := ?v17) rfl (by kernel_rfl) (by kernel_rfl) (by kernel_rfl) (fun _ _ _ h => h) (Or.inl ⟨by rfl, ?hy17⟩) hHeld ?rest17
      case hy17 => (intro w' hSw; (try dsimp only at hSw); go_simp; (try with_reducible rfl))
      try simp only [Act.put, List.setIfInBounds_toArray, List.set_cons_zero, List.set_cons_succ, List.getElem_toArray, List.getElem_cons_zero, List.getElem_cons_succ]
      refine wpAnyH_ready (rs := [8]) (by kernel_rfl) (by simp) ?_
      refine AllReadyH.cons rfl (fun K hK => ?_) AllReadyH.nil
      go_simp
      refine (C10.out _).mono ?_
      rintro e wx ⟨rfl, rfl⟩
      try go_wp2_with fail
      refine hK.out _ _ (⟨hI6.kf.cell (i := 0) rfl, hI6.kf.cell (i := 2) rfl, hI6.kg.cell (i := 2) rfl⟩) (fun hHeld => ?_)
      clear hK K
      try simp only [Act.put, List.setIfInBounds_toArray, List.set_cons_zero, List.set_cons_succ, List.getElem_toArray, List.getElem_cons_zero, List.getElem_cons_succ]
      refine wpAnyH_ready (rs := [11]) (by kernel_rfl) (by simp) ?_
      refine AllReadyH.cons rfl (fun K hK => ?_) AllReadyH.nil
      go_simp
      refine (ccx.out _).mono ?_
      rintro e wx ⟨rfl, rfl⟩
      try go_wp2_with fail
      refine hK.out _ _ (⟨hI6.kf.cell (i := 0) rfl, hI6.kf.cell (i := 2) rfl, hI6.kg.cell (i := 2) rfl⟩) (fun hHeld => ?_)
      clear hK K
      try simp only [Act.put, List.setIfInBounds_toArray, List.set_cons_zero, List.set_cons_succ, List.getElem_toArray, List.getElem_cons_zero, List.getElem_cons_succ]
      refine wpAnyH_take (i := 12) (v := ?v20) rfl (by kernel_rfl) (by kernel_rfl) (by kernel_rfl) (fun _ _ _ h => h) (Or.inl ⟨by rfl, ?hy20⟩) hHeld ?rest20
      case hy20 => (intro w' hSw; (try dsimp only at hSw); go_simp; (try with_reducible rfl))
      try simp only [Act.put, List.setIfInBounds_toArray, List.set_cons_zero, List.set_cons_succ, List.getElem_toArray, List.getElem_cons_zero, List.getElem_cons_succ]
      refine wpAnyH_take (i := 13) (v := ?v21) rfl (by kernel_rfl) (by kernel_rfl) (by kernel_rfl) (fun _ _ _ h => h) (Or.inl ⟨by rfl, ?hy21⟩) hHeld ?rest21
      case hy21 => (intro w' hSw; (try dsimp only at hSw); go_simp; (try with_reducible rfl))
      try simp only [Act.put, List.setIfInBounds_toArray, List.set_cons_zero, List.set_cons_succ, List.getElem_toArray, List.getElem_cons_zero, List.getElem_cons_succ]
      refine wpAnyH_take (i := 14) (v := ?v22) rfl (by kernel_rfl) (by kernel_rfl) (by kernel_rfl) (fun _ _ _ h => h) (Or.inl ⟨by rfl, ?hy22⟩) hHeld ?rest22
      case hy22 => (intro w' hSw; (try dsimp only at hSw); go_simp; (try with_reducible rfl))
      try simp only [Act.put, List.setIfInBounds_toArray, List.set_cons_zero, List.set_cons_succ, List.getElem_toArray, List.getElem_cons_zero, List.getElem_cons_succ]
      refine wpAnyH_ready (rs := [15]) (by kernel_rfl) (by simp) ?_
      refine AllReadyH.cons rfl (fun K hK => ?_) AllReadyH.nil
      go_simp
      refine (works_any _).mono ?_
      rintro e w9 ⟨rfl, hA9⟩
      try go_wp2_with fail
      refine hK.out _ _ (⟨(hI6.below hA9).kf.cell (i := 0) rfl, (hI6.below hA9).kf.cell (i := 2) rfl, (hI6.below hA9).kg.cell (i := 2) rfl⟩) (fun hHeld => ?_)
      clear hK K
      try simp only [Act.put, List.setIfInBounds_toArray, List.set_cons_zero, List.set_cons_succ, List.getElem_toArray, List.getElem_cons_zero, List.getElem_cons_succ]
      refine wpAnyH_take (i := 16) (v := ?v24) rfl (by kernel_rfl) (by kernel_rfl) (by kernel_rfl) (fun _ _ _ h => h) (Or.inl ⟨by rfl, ?hy24⟩) hHeld ?rest24
      case hy24 => (intro w' hSw; (try dsimp only at hSw); go_simp; (try with_reducible rfl))
      try simp only [Act.put, List.setIfInBounds_toArray, List.set_cons_zero, List.set_cons_succ, List.getElem_toArray, List.getElem_cons_zero, List.getElem_cons_succ]
      refine wpAnyH_take (i := 17) (v := ?v25) rfl (by kernel_rfl) (by kernel_rfl) (by kernel_rfl) (fun _ _ _ h => h) (Or.inl ⟨by rfl, ?hy25⟩) hHeld ?rest25
      case hy25 => (intro w' hSw; (try dsimp only at hSw); go_simp; (try with_reducible rfl))
      try simp only [Act.put, List.setIfInBounds_toArray, List.set_cons_zero, List.set_cons_succ, List.getElem_toArray, List.getElem_cons_zero, List.getElem_cons_succ]
      refine wpAnyH_done (by kernel_rfl) ?_ _
      have hB9 := (hI6.below hA9).bel
      go_wp2_with fail
      go_ret
      exact ⟨rfl, hB9⟩

theorem tileCuts_any (p q : Nat) (X Y : Int) (a : Option Addr) (n cap : Nat) (z : List Int) (hp : p < 256) (hq : q < 256) (hz : z.length = n) (h16 : ∀ u ∈ z, In16 u) (w : World) (hS : Sl w 1 (.slice a n cap) n (i16s z)) :
    Calls Try.prog 5 #[.int .u8 p, .int .u8 q, .slice a n cap, .int .i64 X, .int .i64 Y] w fun e w' => e = .returned (.bool true) ∧ Below w.heap.size w w' := by
  have hmx := hS.max
  by_cases hbig : 2000 < n
  · exact tileCuts_big p q X Y a n cap w hbig (by omega)
  · exact tileCuts_go p q X Y a n cap z hp hq hz h16 (by omega) w hS
end Go.Proofs.Ytapheokmoebgfaa
