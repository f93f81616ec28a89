/-
  TerrainRough: the walk.
-/
import Derived.Test.YtlkjcamjgaecgaaGreatLaw11f
import Derived.Deep.CutRange
set_option linter.unusedVariables false
set_option linter.unusedSimpArgs false
namespace Go.Proofs.YtlkjcamjgaecgaaGreat
open Go Go.RowKit Go.Th Go.Th.Crc

theorem CN.turned {w w' : World} {base g : Nat} {F : List Int} {W H cell : Nat} {ox oy : Int} {room k : Nat} {S : Nat → Prop} (J : CN w base g F W H cell ox oy room k) (ht : Turned S w w') (hs : ∀ k, base ≤ k → ¬ S k) : CN w' base g F W H cell ox oy room k := by
  obtain ⟨L, m, s, h1, h2, J⟩ := J
  exact ⟨L, m, s, h1, h2, J.turned ht hs⟩

theorem rough_big (p q : Nat) (a : Option Addr) (n cap : Nat) (X Y far up : Int) (w : World) (hbig : 2000 < n) (hn : n ≤ 9223372036854775807) :
    Calls Tryz.prog 6 #[.int .u8 p, .int .u8 q, .slice a n cap, .int .i64 X, .int .i64 Y, .int .i64 far, .int .i8 up] w fun e w' => e = .returned (.bool true) ∧ Below w.heap.size w w' := by
  have hb' : (2000 : Int) < (n : Int) := by omega
  clear hbig
  go_enter Tryz.func6, Tryz.ntmps6
  go_wp2_with fail
  refine (works11_any w).mono ?_
  rintro e w1 ⟨rfl, hB⟩
  go_wp2_with fail
  go_ret
  exact ⟨rfl, hB⟩

theorem LayI.turn {w wx w' : World} {gC gD gz gd : Nat} {A C : List Int} {W H m cz cd : Nat} {base g : Nat} {F : List Int} {W' H' cell : Nat} {ox oy : Int} {room k : Nat} (h : LayI w wx gC gD gz gd A C W H m cz cd) (J : CN wx base g F W' H' cell ox oy room k) (ht : Turned (fun b => b = g) wx w') (hg : w.heap.size ≤ g) : LayI w w' gC gD gz gd A C W H m cz cd :=
  ⟨J.blk ht h.KC (by decide), J.blk ht h.KD (by decide), J.own ht h.hc (by decide), J.own ht h.hd (by decide), ht.old h.B h.B.size (by rintro k hk rfl; omega), h.ne⟩
theorem low_ok {F : List Int} {W H : Nat} (hF : isF W H = true) (hl : F.length = W * H) : MapOk (lowF F) W H 31 0 0 :=
  ⟨hF, by decide, by simp [lowF, hl], by
    intro u hu
    obtain ⟨v, _, rfl⟩ := List.mem_map.1 hu
    have := nrm_rng v
    constructor <;> omega, ⟨by decide, by decide⟩, ⟨by decide, by decide⟩⟩
theorem high_ok {F : List Int} {W H : Nat} {u : Int} (hu : -128 ≤ u ∧ u ≤ 127) (hF : isF W H = true) (hl : F.length = W * H) : MapOk (highF F u) W H 31 0 0 :=
  ⟨hF, by decide, by simp [highF, hl], by
    intro z hz
    obtain ⟨v, _, rfl⟩ := List.mem_map.1 hz
    have := nrm_rng v
    constructor <;> omega, ⟨by decide, by decide⟩, ⟨by decide, by decide⟩⟩

set_option maxRecDepth 20000 in
set_option maxHeartbeats 12800000 in
theorem trgh_go (p q : Nat) (a : Option Addr) (n cap : Nat) (z : List Int) (hp : p < 256) (hq : q < 256) (hz : z.length = n) (h16 : ∀ u ∈ z, In16 u) (hn : n ≤ 2000) (X Y far up : Int) (hup : -128 ≤ up ∧ up ≤ 127) (w : World) (hS : Sl w 1 (.slice a n cap) n (i16s z)) :
    Calls Tryz.prog 6 #[.int .u8 p, .int .u8 q, .slice a n cap, .int .i64 X, .int .i64 Y, .int .i64 far, .int .i8 up] w fun e w' => e = .returned (.bool true) ∧ Below w.heap.size w w' := by
  have hb' : ¬ ((2000 : Int) < (n : Int)) := by omega
  have C1 := Lib.hid (made10_any p q n 30 31 0 0 a cap z hp hq (by omega) (by omega) hz hn h16 w hS)
  have C2 := Lib.hid (fun wx => made10_any p q 0 30 31 0 0 none 0 [] hp hq (by omega) (by omega) rfl (by omega) (by intro u hu; cases hu) wx (Sl.nil _ _))
  have HP := Lib.hid hup
  clear hz h16 hS hp hq hup
  go_enter Tryz.func6, Tryz.ntmps6
  go_wp2_with fail
  refine C1.out.mono ?_
  rintro e w2 ⟨x, y, v, F, ⟨hx1, hy1⟩, _, rfl, hF, hx, hy, hfl, hf16, hof, hA⟩
  obtain ⟨i1, i2, i3, i4⟩ := isF_yes hF
  obtain ⟨gz, cz, rfl, hgz1, hgz2, _, _⟩ := ownsRow_val hof (Nat.mul_pos (by omega) (by omega))
  have hA3 : Below w2.heap.size w2 (w2.alloc (.cells #[.int .i64 x, .int .i64 y, .slice (some ⟨gz, 0, none⟩) (x * y) cz, .int .i64 31, .int .i32 0, .int .i32 0] 28)) := (Below.refl _ _).alloc (Nat.le_refl _) _
  have KC : Blk (w2.alloc (.cells #[.int .i64 x, .int .i64 y, .slice (some ⟨gz, 0, none⟩) (x * y) cz, .int .i64 31, .int .i32 0, .int .i32 0] 28)) w2.heap.size 28 [.int .i64 x, .int .i64 y, .slice (some ⟨gz, 0, none⟩) (x * y) cz, .int .i64 31, .int .i32 0, .int .i32 0] := Blk.new w2 _ _
  replace hof := ownsRow_below hof hA3
  have hB3 := hA.trans (hA3.mono hA.size)
  have HX := Lib.hid (And.intro hx1 hy1)
  have HI := Lib.hid (And.intro i1 (And.intro i2 (And.intro i3 i4)))
  have HFF := Lib.hid (And.intro hF (And.intro hfl hf16))
  have HXY := Lib.hid (And.intro hx hy)
  clear C1 hA hA3 hx1 hy1 i1 i2 i3 i4 hF hfl hf16 hx hy
  go_wp2_with fail
  obtain ⟨w3, hw3⟩ : ∃ w3, w2.alloc (.cells #[.int .i64 x, .int .i64 y, .slice (some ⟨gz, 0, none⟩) (x * y) cz, .int .i64 31, .int .i32 0, .int .i32 0] 28) = w3 := ⟨_, rfl⟩
  obtain ⟨gC, hgC⟩ : ∃ g, w2.heap.size = g := ⟨_, rfl⟩
  rw [hw3] at KC hof hB3
  rw [hgC] at KC hgz2
  rw [hw3, hgC]
  clear hw3 hgC
  refine (C2.out w3).mono ?_
  rintro e w4 ⟨x', y', v', G, ⟨hx1, hy1⟩, _, rfl, _, _, _, hgl, _, hog, hA⟩
  obtain rfl : x' = x := by have := HX.out; omega
  obtain rfl : y' = y := by have := HX.out; omega
  obtain ⟨gd, cd, rfl, hgd1, hgd2, _, _⟩ := ownsRow_val hog (Nat.mul_pos (by have := HI.out; omega) (by have := HI.out; omega))
  have hA5 : Below w4.heap.size w4 (w4.alloc (.cells #[.int .i64 x', .int .i64 y', .slice (some ⟨gd, 0, none⟩) (x' * y') cd, .int .i64 31, .int .i32 0, .int .i32 0] 28)) := (Below.refl _ _).alloc (Nat.le_refl _) _
  have KD : Blk (w4.alloc (.cells #[.int .i64 x', .int .i64 y', .slice (some ⟨gd, 0, none⟩) (x' * y') cd, .int .i64 31, .int .i32 0, .int .i32 0] 28)) w4.heap.size 28 [.int .i64 x', .int .i64 y', .slice (some ⟨gd, 0, none⟩) (x' * y') cd, .int .i64 31, .int .i32 0, .int .i32 0] := Blk.new w4 _ _
  obtain ⟨m, hm⟩ : ∃ m, m = x' * y' := ⟨_, rfl⟩
  have hcl := KC.lt
  have HL : Hid (LayI w (w4.alloc (.cells #[.int .i64 x', .int .i64 y', .slice (some ⟨gd, 0, none⟩) (x' * y') cd, .int .i64 31, .int .i32 0, .int .i32 0] 28)) gC w4.heap.size gz gd F G x' y' m cz cd) := by
    rw [hm]
    exact Lib.hid ⟨(KC.below hA KC.lt).below hA5 (KC.below hA KC.lt).lt, KD, ownsRow_base (ownsRow_below (ownsRow_below hof hA) hA5) (Nat.le_refl _), ownsRow_base (ownsRow_below hog hA5) hB3.size, (hB3.trans (hA.mono hB3.size)).trans (hA5.mono (hB3.trans (hA.mono hB3.size)).size), by omega⟩
  have HM := Lib.hid hm
  have hmB : m ≤ 1600 := by
    rw [hm]
    have := HXY.out
    exact Nat.le_trans (Nat.mul_le_mul this.1 this.2) (by decide)
  have HGL : Hid (G.length = m) := Lib.hid (by rw [hm]; exact hgl)
  have HFL : Hid (F.length = m) := Lib.hid (by rw [hm]; exact HFF.out.2.1)
  rw [← hm]
  rw [← hm] at HL
  clear C2 hA hA5 hx1 hy1 hgl hof hog hB3 KC KD hm hgz1 hgz2 hgd1 hgd2 hcl
  go_wp2_with fail
  obtain ⟨w5, hw5⟩ : ∃ w5, w4.alloc (.cells #[.int .i64 x', .int .i64 y', .slice (some ⟨gd, 0, none⟩) m cd, .int .i64 31, .int .i32 0, .int .i32 0] 28) = w5 := ⟨_, rfl⟩
  obtain ⟨gD, hgD⟩ : ∃ g, w4.heap.size = g := ⟨_, rfl⟩
  rw [hw5, hgD] at HL
  rw [hw5, hgD]
  clear hw5 hgD
  go_loopw [17] (fun q wx => ∃ i : Nat, i ≤ m ∧ q = .int .i64 i ∧ Hid (LayI w wx gC gD gz gd (mxr (lowF F) F i) (mxr (highF F up) G i) x' y' m cz cd)) (fun q _ => m - (intOf q).toNat)
  case atStart => exact ⟨0, Nat.zero_le _, rfl, Lib.hid (by rw [mxr_0, mxr_0]; exact HL.out)⟩
  case round =>
    clear HL
    obtain ⟨i, hi, rfl, HL⟩ := hrel
    have c2 := HL.out.KC.cell (i := 2) rfl
    have hmx := (Sl.of_own HL.out.hc).max
    have hmd := (Sl.of_own HL.out.hd).max
    by_cases hlt : i < m
    · have hlt' : (i : Int) < (m : Int) := by omega
      have hiF : i < F.length := by rw [HFL.out]; exact hlt
      have hiG : i < G.length := by rw [HGL.out]; exact hlt
      have lenC : (lowF F).length = F.length := by simp [lowF]
      have lenD : (highF F up).length = G.length := by simp [highF, HFL.out, HGL.out]
      have hcv : wr.cell? ⟨gz, i, none⟩ = some (.int .i16 F[i]) := ownsRow_cell HL.out.hc (by rw [i16s, List.getElem?_map, mxr_at lenC hiF]; rfl)
      have hfz := ownsRow_free HL.out.hc i
      have sC := fun zz hz => mxr_set lenC hiF zz hz
      have sD := fun zz hz => mxr_set lenD hiG zz hz
      have hcn := low_at hiF
      have hdn := high_at (u := up) hiF
      have same := fun hzz => mxr_same (A := lowF F) (B := F) lenC hiF hzz
      have past := fun zz hz => mxr_past (A := lowF F) (B := F) lenC hiF zz hz
      obtain ⟨f, hf⟩ : ∃ f, f = F[i] := ⟨_, rfl⟩
      rw [← hf] at same
      rw [← hf] at hcv hcn hdn
      have hfr := nrm_rng f
      have hpp := HP.out
      have SC := Lib.hid (sC _ hcn)
      have SD := Lib.hid (sD _ hdn)
      have SAME : Hid (nrm f = f → mxr (lowF F) F (i + 1) = mxr (lowF F) F i) := Lib.hid (fun e => same (by rw [hcn, e]))
      have PAST := Lib.hid (past _ hcn)
      have HLT := Lib.hid hlt
      have f16 : -32768 ≤ f ∧ f ≤ 32767 := by rw [hf]; exact HFF.out.2.2 _ (List.getElem_mem hiF)
      have HNF := Lib.hid (And.intro hfr hpp)
      clear hiF hiG lenC lenD sC sD hcn hdn hf hfr hpp same past
      obtain ⟨BB, hBB⟩ : ∃ b, b = decide (f = -32768 ∨ 32000 < f ∨ f < -32000) := ⟨_, rfl⟩
      have HBB := Lib.hid hBB
      clear hBB
      go_upto_region 9 with fail
      go_cut [61] from 38 to 80 (fun s61 wx => s61 = .bool BB ∧ wx = wr)
      case first =>
        by_cases b1 : f = -32768
        · have E := Lib.hid (HBB.out.trans (decide_eq_true (Or.inl b1)))
          clear HL HBB
          go_wp2_with fail
          go_meet
          exact ⟨by first | rw [E.out] | (rw [E.out]; rfl), rfl⟩
        · by_cases b2 : 32000 < f
          · have E := Lib.hid (HBB.out.trans (decide_eq_true (Or.inr (Or.inl b2))))
            clear HL HBB
            go_wp2_with fail
            go_meet
            exact ⟨by rw [E.out], rfl⟩
          · by_cases b3 : f < -32000
            · have E := Lib.hid (HBB.out.trans (decide_eq_true (Or.inr (Or.inr b3))))
              clear HL HBB
              go_wp2_with fail
              go_meet
              exact ⟨by rw [E.out], rfl⟩
            · have E := Lib.hid (HBB.out.trans (decide_eq_false (by omega)))
              have HB1 := Lib.hid b1
              clear HL HBB
              go_wp2_with fail
              go_meet
              exact ⟨by rw [E.out]; simp [HB1.out], rfl⟩
      obtain ⟨rfl, rfl⟩ := hcut
      have HNB : Hid (nrm f = if BB then 0 else f) := Lib.hid (by
        rw [HBB.out]; unfold nrm
        by_cases c : f = -32768 ∨ 32000 < f ∨ f < -32000
        · rw [if_pos c, if_pos (decide_eq_true c)]
        · rw [if_neg c, if_neg (by rw [decide_eq_false c]; decide)])
      clear HBB f16
      go_upto_if 61 with fail
      go_cut [18] from 38 to 80 (fun s18 wx => Hid (LayI w wx gC gD gz gd (mxr (lowF F) F (i + 1)) (mxr (highF F up) G i) x' y' m cz cd))
      case first =>
        cases BB
        · have e : nrm f = f := HNB.out.trans (if_neg (by decide))
          have hS1 := HL.out
          rw [← SAME.out e] at hS1
          have HS1 := Lib.hid hS1
          clear hS1 e HL
          go_wp2_with fail
          go_meet
          exact HS1
        · have e : nrm f = 0 := HNB.out.trans (if_pos rfl)
          have hS1 := HL.out.setC HLT.out 0
          have h1 := SC.out
          rw [e] at h1
          rw [h1] at hS1
          have HS1 := Lib.hid hS1
          clear hS1 h1 e
          go_wp2_with fail
          go_meet
          exact HS1
      have HL7 := Lib.hid hcut.out
      clear HL c2 hcv hfz hmx hmd hcut HNB SAME
      obtain ⟨nn, hnn⟩ : ∃ q, q = nrm f := ⟨_, rfl⟩
      have HNN := Lib.hid hnn
      have past' := PAST.out
      have sd' := SD.out
      have nr := HNF.out
      rw [← hnn] at past' sd' nr
      have w1 : IntKind.i16.wrap up = up := IntWalk.i16_in _ (by omega)
      have w2 : IntKind.i16.wrap (nn + up) = nn + up := IntWalk.i16_in _ (by omega)
      have c2 := HL7.out.KC.cell (i := 2) rfl
      have d2 := HL7.out.KD.cell (i := 2) rfl
      have hcv : wc.cell? ⟨gz, i, none⟩ = some (.int .i16 nn) := ownsRow_cell HL7.out.hc (by rw [i16s, List.getElem?_map, past']; rfl)
      have hdf := ownsRow_free HL7.out.hd i
      have lenD : (highF F up).length = G.length := by simp [highF, HFL.out, HGL.out]
      have hdc : wc.cell? ⟨gd, i, none⟩ = some (.int .i16 (G[i]'(by rw [HGL.out]; exact HLT.out))) := ownsRow_cell HL7.out.hd (by rw [i16s, List.getElem?_map, mxr_at lenD (by rw [HGL.out]; exact HLT.out)]; rfl)
      obtain ⟨gi, hgi⟩ : ∃ q, q = (G[i]'(by rw [HGL.out]; exact HLT.out)) := ⟨_, rfl⟩
      rw [← hgi] at hdc
      have hS8 := (HL7.out.below (Below.refl _ _).drew).setD HLT.out (nn + up)
      rw [sd'] at hS8
      have HL8 := Lib.hid hS8
      clear hgi hS8 past' sd' lenD nr hnn
      go_wp2_with fail
      refine wp_region_held_drew (S := (fun w' : World => w'.cell? ⟨gC, 2, none⟩ = some (.slice (some ⟨gz, 0, none⟩) m cz) ∧ w'.cell? ⟨gD, 2, none⟩ = some (.slice (some ⟨gd, 0, none⟩) m cd) ∧ w'.cell? ⟨gz, i, none⟩ = some (.int .i16 nn))) (by kernel_rfl) (⟨c2, d2, hcv⟩) (fun hHeld => ?_)
      refine wpAnyH_take (i := 0) (v := ?v1) rfl (by kernel_rfl) (by kernel_rfl) (by kernel_rfl) (fun _ _ _ h => h) (Or.inl ⟨by rfl, ?hy1⟩) hHeld ?rest1
      case hy1 => (intro w' hSw; (try dsimp only at hSw); go_simp; (try with_reducible rfl))
      try simp only [Act.put, List.setIfInBounds_toArray, List.set_cons_zero, List.set_cons_succ, List.getElem_toArray, List.getElem_cons_zero, List.getElem_cons_succ]
      refine wpAnyH_take (i := 1) (v := ?v2) rfl (by kernel_rfl) (by kernel_rfl) (by kernel_rfl) (fun _ _ _ h => h) (Or.inl ⟨by rfl, ?hy2⟩) hHeld ?rest2
      case hy2 => (intro w' hSw; (try dsimp only at hSw); go_simp; (try with_reducible rfl))
      try simp only [Act.put, List.setIfInBounds_toArray, List.set_cons_zero, List.set_cons_succ, List.getElem_toArray, List.getElem_cons_zero, List.getElem_cons_succ]
      refine wpAnyH_take (i := 2) (v := ?v3) rfl (by kernel_rfl) (by kernel_rfl) (by kernel_rfl) (fun _ _ _ h => h) (Or.inl ⟨by rfl, ?hy3⟩) hHeld ?rest3
      case hy3 => (intro w' hSw; (try dsimp only at hSw); go_simp; (try with_reducible rfl))
      try simp only [Act.put, List.setIfInBounds_toArray, List.set_cons_zero, List.set_cons_succ, List.getElem_toArray, List.getElem_cons_zero, List.getElem_cons_succ]
      refine wpAnyH_take (i := 3) (v := ?v4) rfl (by kernel_rfl) (by kernel_rfl) (by kernel_rfl) (fun _ _ _ h => h) (Or.inl ⟨by rfl, ?hy4⟩) hHeld ?rest4
      case hy4 => (intro w' hSw; (try dsimp only at hSw); go_simp; (try with_reducible rfl))
      try simp only [Act.put, List.setIfInBounds_toArray, List.set_cons_zero, List.set_cons_succ, List.getElem_toArray, List.getElem_cons_zero, List.getElem_cons_succ]
      refine wpAnyH_take (i := 4) (v := ?v5) rfl (by kernel_rfl) (by kernel_rfl) (by kernel_rfl) (fun _ _ _ h => h) (Or.inl ⟨by rfl, ?hy5⟩) hHeld ?rest5
      case hy5 => (intro w' hSw; (try dsimp only at hSw); go_simp; (try with_reducible rfl))
      try simp only [Act.put, List.setIfInBounds_toArray, List.set_cons_zero, List.set_cons_succ, List.getElem_toArray, List.getElem_cons_zero, List.getElem_cons_succ]
      refine wpAnyH_take (i := 5) (v := ?v6) rfl (by kernel_rfl) (by kernel_rfl) (by kernel_rfl) (fun _ _ _ h => h) (Or.inl ⟨by rfl, ?hy6⟩) hHeld ?rest6
      case hy6 => (intro w' hSw; (try dsimp only at hSw); go_simp; (try with_reducible rfl))
      try simp only [Act.put, List.setIfInBounds_toArray, List.set_cons_zero, List.set_cons_succ, List.getElem_toArray, List.getElem_cons_zero, List.getElem_cons_succ]
      refine wpAnyH_take (i := 6) (v := ?v7) rfl (by kernel_rfl) (by kernel_rfl) (by kernel_rfl) (fun _ _ _ h => h) (Or.inl ⟨by rfl, ?hy7⟩) hHeld ?rest7
      case hy7 => (intro w' hSw; (try dsimp only at hSw); go_simp; (try with_reducible rfl))
      try simp only [Act.put, List.setIfInBounds_toArray, List.set_cons_zero, List.set_cons_succ, List.getElem_toArray, List.getElem_cons_zero, List.getElem_cons_succ]
      refine wpAnyH_take (i := 7) (v := ?v8) rfl (by kernel_rfl) (by kernel_rfl) (by kernel_rfl) (fun _ _ _ h => h) (Or.inl ⟨by rfl, ?hy8⟩) hHeld ?rest8
      case hy8 => (intro w' hSw; (try dsimp only at hSw); go_simp; (try with_reducible rfl))
      try simp only [Act.put, List.setIfInBounds_toArray, List.set_cons_zero, List.set_cons_succ, List.getElem_toArray, List.getElem_cons_zero, List.getElem_cons_succ]
      refine wpAnyH_take (i := 8) (v := ?v9) rfl (by kernel_rfl) (by kernel_rfl) (by kernel_rfl) (fun _ _ _ h => h) (Or.inl ⟨by rfl, ?hy9⟩) hHeld ?rest9
      case hy9 => (intro w' hSw; (try dsimp only at hSw); go_simp; (try with_reducible rfl))
      try simp only [Act.put, List.setIfInBounds_toArray, List.set_cons_zero, List.set_cons_succ, List.getElem_toArray, List.getElem_cons_zero, List.getElem_cons_succ]
      refine wpAnyH_take (i := 9) (v := ?v10) rfl (by kernel_rfl) (by kernel_rfl) (by kernel_rfl) (fun _ _ _ h => h) (Or.inl ⟨by rfl, ?hy10⟩) hHeld ?rest10
      case hy10 => (intro w' hSw; (try dsimp only at hSw); go_simp; (try with_reducible rfl))
      try simp only [Act.put, List.setIfInBounds_toArray, List.set_cons_zero, List.set_cons_succ, List.getElem_toArray, List.getElem_cons_zero, List.getElem_cons_succ]
      refine wpAnyH_take (i := 10) (v := ?v11) rfl (by kernel_rfl) (by kernel_rfl) (by kernel_rfl) (fun _ _ _ h => h) (Or.inl ⟨by rfl, ?hy11⟩) hHeld ?rest11
      case hy11 => (intro w' hSw; (try dsimp only at hSw); go_simp; (try with_reducible rfl))
      try simp only [Act.put, List.setIfInBounds_toArray, List.set_cons_zero, List.set_cons_succ, List.getElem_toArray, List.getElem_cons_zero, List.getElem_cons_succ]
      refine wpAnyH_take (i := 11) (v := ?v12) rfl (by kernel_rfl) (by kernel_rfl) (by kernel_rfl) (fun _ _ _ h => h) (Or.inl ⟨by rfl, ?hy12⟩) hHeld ?rest12
      case hy12 => (intro w' hSw; (try dsimp only at hSw); go_simp; (try with_reducible rfl))
      try simp only [Act.put, List.setIfInBounds_toArray, List.set_cons_zero, List.set_cons_succ, List.getElem_toArray, List.getElem_cons_zero, List.getElem_cons_succ]
      refine wpAnyH_take (i := 12) (v := ?v13) rfl (by kernel_rfl) (by kernel_rfl) (by kernel_rfl) (fun _ _ _ h => h) (Or.inl ⟨by rfl, ?hy13⟩) hHeld ?rest13
      case hy13 => (intro w' hSw; (try dsimp only at hSw); go_simp; (try with_reducible rfl))
      try simp only [Act.put, List.setIfInBounds_toArray, List.set_cons_zero, List.set_cons_succ, List.getElem_toArray, List.getElem_cons_zero, List.getElem_cons_succ]
      refine wpAnyH_take (i := 13) (v := ?v14) rfl (by kernel_rfl) (by kernel_rfl) (by kernel_rfl) (fun _ _ _ h => h) (Or.inl ⟨by rfl, ?hy14⟩) hHeld ?rest14
      case hy14 => (intro w' hSw; (try dsimp only at hSw); go_simp; (try with_reducible rfl))
      try simp only [Act.put, List.setIfInBounds_toArray, List.set_cons_zero, List.set_cons_succ, List.getElem_toArray, List.getElem_cons_zero, List.getElem_cons_succ]
      refine wpAnyH_ready (rs := [14]) (by kernel_rfl) (by simp) ?_
      refine AllReadyH.cons rfl (fun K hK => ?_) AllReadyH.nil
      go_simp
      try go_wp2_with fail
      refine hK.out _ _ (⟨HL8.out.KC.cell (i := 2) rfl, HL8.out.KD.cell (i := 2) rfl, ownsRow_cell HL8.out.hc (by rw [i16s, List.getElem?_map, PAST.out, ← HNN.out]; rfl)⟩) (fun hHeld => ?_)
      clear hK K
      try simp only [Act.put, List.setIfInBounds_toArray, List.set_cons_zero, List.set_cons_succ, List.getElem_toArray, List.getElem_cons_zero, List.getElem_cons_succ]
      refine wpAnyH_done (by kernel_rfl) ?_ _
      go_wp2_with fail
      go_roundw
      case rel => exact ⟨i + 1, HLT.out, by go_num, HL8⟩
      case measure => simp [intOf]; have := HLT.out; omega
    · obtain rfl : i = m := by omega
      have hA := HL.out
      have lenC : (lowF F).length = F.length := by simp [lowF]
      have lenD : (highF F up).length = G.length := by simp [highF, HFL.out, HGL.out]
      rw [show mxr (lowF F) F i = lowF F from by rw [← HFL.out]; exact mxr_all lenC, show mxr (highF F up) G i = highF F up from by rw [← HGL.out]; exact mxr_all lenD] at hA
      have HA := Lib.hid hA
      have O1 := Lib.hid (low_ok HFF.out.1 HFF.out.2.1)
      have O2 := Lib.hid (high_ok (u := up) HP.out HFF.out.1 HFF.out.2.1)
      have C1 := Lib.hid (fun wx hs => open10_any (lowF F) x' y' 31 0 0 O1.out 9 (by decide) (by decide) i HM.out (some ⟨gz, 0, none⟩) cz wx hs)
      have C2 := Lib.hid (fun wx hs => open10_any (highF F up) x' y' 31 0 0 O2.out 9 (by decide) (by decide) i HM.out (some ⟨gd, 0, none⟩) cd wx hs)
      have HFD : Hid (FldOk (lowF F) x' y' i) := Lib.hid (by rw [HM.out]; exact O1.out.fld)
      have HR := Lib.hid (rgh_high (W := x') (H := y') HFF.out.2.1 HP.out X Y far)
      clear HL hA lenC lenD hmd c2
      have c0 := HA.out.KC.cell (i := 0) rfl
      have c1 := HA.out.KC.cell (i := 1) rfl
      have c2 := HA.out.KC.cell (i := 2) rfl
      have c3 := HA.out.KC.cell (i := 3) rfl
      have c4 := HA.out.KC.cell (i := 4) rfl
      have c5 := HA.out.KC.cell (i := 5) rfl
      have d0 := HA.out.KD.cell (i := 0) rfl
      have d1 := HA.out.KD.cell (i := 1) rfl
      have d2 := HA.out.KD.cell (i := 2) rfl
      have d3 := HA.out.KD.cell (i := 3) rfl
      have d4 := HA.out.KD.cell (i := 4) rfl
      have d5 := HA.out.KD.cell (i := 5) rfl
      go_wp2_with fail
      refine wp_region_held_drew (S := (fun w' : World => w'.cell? ⟨gC, 0, none⟩ = some (.int .i64 x') ∧ w'.cell? ⟨gC, 1, none⟩ = some (.int .i64 y') ∧ w'.cell? ⟨gC, 2, none⟩ = some (.slice (some ⟨gz, 0, none⟩) i cz) ∧ w'.cell? ⟨gC, 3, none⟩ = some (.int .i64 31) ∧ w'.cell? ⟨gC, 4, none⟩ = some (.int .i32 0) ∧ w'.cell? ⟨gC, 5, none⟩ = some (.int .i32 0) ∧ w'.cell? ⟨gD, 0, none⟩ = some (.int .i64 x') ∧ w'.cell? ⟨gD, 1, none⟩ = some (.int .i64 y') ∧ w'.cell? ⟨gD, 2, none⟩ = some (.slice (some ⟨gd, 0, none⟩) i cd) ∧ w'.cell? ⟨gD, 3, none⟩ = some (.int .i64 31) ∧ w'.cell? ⟨gD, 4, none⟩ = some (.int .i32 0) ∧ w'.cell? ⟨gD, 5, none⟩ = some (.int .i32 0))) (by kernel_rfl) (⟨c0, c1, c2, c3, c4, c5, d0, d1, d2, d3, d4, d5⟩) (fun hHeld => ?_)
      refine wpAnyH_take (i := 0) (v := ?v16) rfl (by kernel_rfl) (by kernel_rfl) (by kernel_rfl) (fun _ _ _ h => h) (Or.inl ⟨by rfl, ?hy16⟩) hHeld ?rest16
      case hy16 => (intro w' hSw; (try dsimp only at hSw); go_simp; (try with_reducible rfl))
      try simp only [Act.put, List.setIfInBounds_toArray, List.set_cons_zero, List.set_cons_succ, List.getElem_toArray, List.getElem_cons_zero, List.getElem_cons_succ]
      refine wpAnyH_take (i := 2) (v := ?v17) rfl (by kernel_rfl) (by kernel_rfl) (by kernel_rfl) (fun _ _ _ h => h) (Or.inl ⟨by rfl, ?hy17⟩) hHeld ?rest17
      case hy17 => (intro w' hSw; (try dsimp only at hSw); go_simp; (try with_reducible rfl))
      try simp only [Act.put, List.setIfInBounds_toArray, List.set_cons_zero, List.set_cons_succ, List.getElem_toArray, List.getElem_cons_zero, List.getElem_cons_succ]
      refine wpAnyH_ready (rs := [1]) (by kernel_rfl) (by simp) ?_
      refine AllReadyH.cons rfl (fun K hK => ?_) AllReadyH.nil
      go_simp
      refine (C1.out _ (Sl.of_own (HA.out.below (Below.refl _ _).drew).hc)).mono ?_
      rintro e w6 ⟨g1, rfl, J1, hA6⟩
      have HA6 := Lib.hid ((HA.out.below (Below.refl _ _).drew).below hA6)
      have HG1 := Lib.hid (Nat.le_trans (HA.out.below (Below.refl _ _).drew).B.size J1.le)
      have HL1 := Lib.hid J1.lt
      have HJ1 : Hid (CN w6 wr.drew.heap.size g1 (lowF F) x' y' 31 0 0 9 0) := Lib.hid ⟨[], 0, 0, by omega, by omega, J1⟩
      clear hA6 J1 C1
      try go_wp2_with fail
      refine hK.out _ _ (⟨HA6.out.KC.cell (i := 0) rfl, HA6.out.KC.cell (i := 1) rfl, HA6.out.KC.cell (i := 2) rfl, HA6.out.KC.cell (i := 3) rfl, HA6.out.KC.cell (i := 4) rfl, HA6.out.KC.cell (i := 5) rfl, HA6.out.KD.cell (i := 0) rfl, HA6.out.KD.cell (i := 1) rfl, HA6.out.KD.cell (i := 2) rfl, HA6.out.KD.cell (i := 3) rfl, HA6.out.KD.cell (i := 4) rfl, HA6.out.KD.cell (i := 5) rfl⟩) (fun hHeld => ?_)
      clear hK K
      try simp only [Act.put, List.setIfInBounds_toArray, List.set_cons_zero, List.set_cons_succ, List.getElem_toArray, List.getElem_cons_zero, List.getElem_cons_succ]
      refine wpAnyH_ready (rs := [3]) (by kernel_rfl) (by simp) ?_
      refine AllReadyH.cons rfl (fun K hK => ?_) AllReadyH.nil
      go_simp
      refine (C2.out w6 (Sl.of_own HA6.out.hd)).mono ?_
      rintro e w7 ⟨g2, rfl, J2, hA7⟩
      have HA7 := Lib.hid (HA6.out.below hA7)
      have HG2 := Lib.hid (Nat.le_trans HA6.out.B.size J2.le)
      have HJ2 : Hid (CN w7 w6.heap.size g2 (highF F up) x' y' 31 0 0 9 0) := Lib.hid ⟨[], 0, 0, by omega, by omega, J2⟩
      have HJ7 := Lib.hid (HJ1.out.below hA7)
      clear hA7 J2 C2
      try go_wp2_with fail
      refine hK.out _ _ (⟨HA7.out.KC.cell (i := 0) rfl, HA7.out.KC.cell (i := 1) rfl, HA7.out.KC.cell (i := 2) rfl, HA7.out.KC.cell (i := 3) rfl, HA7.out.KC.cell (i := 4) rfl, HA7.out.KC.cell (i := 5) rfl, HA7.out.KD.cell (i := 0) rfl, HA7.out.KD.cell (i := 1) rfl, HA7.out.KD.cell (i := 2) rfl, HA7.out.KD.cell (i := 3) rfl, HA7.out.KD.cell (i := 4) rfl, HA7.out.KD.cell (i := 5) rfl⟩) (fun hHeld => ?_)
      clear hK K
      try simp only [Act.put, List.setIfInBounds_toArray, List.set_cons_zero, List.set_cons_succ, List.getElem_toArray, List.getElem_cons_zero, List.getElem_cons_succ]
      refine wpAnyH_take (i := 4) (v := ?v20) rfl (by kernel_rfl) (by kernel_rfl) (by kernel_rfl) (fun _ _ _ h => h) (Or.inl ⟨by rfl, ?hy20⟩) hHeld ?rest20
      case hy20 => (intro w' hSw; (try dsimp only at hSw); go_simp; (try with_reducible rfl))
      try simp only [Act.put, List.setIfInBounds_toArray, List.set_cons_zero, List.set_cons_succ, List.getElem_toArray, List.getElem_cons_zero, List.getElem_cons_succ]
      refine wpAnyH_take (i := 5) (v := ?v21) rfl (by kernel_rfl) (by kernel_rfl) (by kernel_rfl) (fun _ _ _ h => h) (Or.inl ⟨by rfl, ?hy21⟩) hHeld ?rest21
      case hy21 => (intro w' hSw; (try dsimp only at hSw); go_simp; (try with_reducible rfl))
      try simp only [Act.put, List.setIfInBounds_toArray, List.set_cons_zero, List.set_cons_succ, List.getElem_toArray, List.getElem_cons_zero, List.getElem_cons_succ]
      refine wpAnyH_done (by kernel_rfl) ?_ _
      obtain ⟨t1, ht1⟩ : ∃ t, t = (rgh (lowF F) x' y' X Y far).1 := ⟨_, rfl⟩
      obtain ⟨t2, ht2⟩ : ∃ t, t = (rgh (lowF F) x' y' X Y far).2 := ⟨_, rfl⟩
      have D1 := Lib.hid (trough_any O1.out g1 wr.drew.heap.size 9 0 (by omega) X Y far w7 HJ7.out)
      have D2 := Lib.hid (refRgh_any HFD.out X Y far (some ⟨gz, 0, none⟩) cz)
      have D3 := Lib.hid (fun wx J => (trough_any O2.out g2 w6.heap.size 9 0 (by omega) X Y far wx J))
      rw [HR.out] at D3
      rw [← ht1, ← ht2] at D1 D2 D3
      have e1 : (t1 == t1) = true := by simp
      have e2 : (t2 == t2) = true := by simp
      clear ht1 ht2 c0 c1 c2 c3 c4 c5 d0 d1 d2 d3 d4 d5 HA HA6 HJ1
      go_wp2_with fail
      refine D1.out.mono ?_
      rintro e w8 ⟨rfl, N1, hT⟩
      have HA8 := Lib.hid (HA7.out.turn HJ7.out hT HG1.out)
      have HJ8 := Lib.hid (HJ2.out.turned hT (fun k hk e => by have := HL1.out; have e' : k = g1 := e; omega))
      clear N1 hT D1 HA7 HJ7 HJ2
      have c0 := HA8.out.KC.cell (i := 0) rfl
      have c1 := HA8.out.KC.cell (i := 1) rfl
      have c2 := HA8.out.KC.cell (i := 2) rfl
      go_wp2_with fail
      refine (D2.out w8 (Sl.of_own HA8.out.hc)).mono ?_
      rintro e w9 ⟨rfl, hA9⟩
      have HA9 := Lib.hid (HA8.out.below hA9)
      have HJ9 := Lib.hid (HJ8.out.below hA9)
      clear hA9 D2 HA8 HJ8 c0 c1 c2
      go_wp2_with fail
      refine (D3.out w9 HJ9.out).mono ?_
      rintro e w10 ⟨rfl, N2, hT⟩
      have HA10 := Lib.hid (HA9.out.turn HJ9.out hT HG2.out)
      clear N2 hT D3 HA9 HJ9
      go_wp2_with fail
      refine (works11_any w10).mono ?_
      rintro e w11 ⟨rfl, hA⟩
      go_wp2_with fail
      go_ret
      exact ⟨rfl, (HA10.out.below hA).B⟩
theorem trgh_any (p q : Nat) (a : Option Addr) (n cap : Nat) (z : List Int) (hp : p < 256) (hq : q < 256) (hz : z.length = n) (h16 : ∀ u ∈ z, In16 u) (X Y far up : Int) (hup : -128 ≤ up ∧ up ≤ 127) (w : World) (hS : Sl w 1 (.slice a n cap) n (i16s z)) :
    Calls Tryz.prog 6 #[.int .u8 p, .int .u8 q, .slice a n cap, .int .i64 X, .int .i64 Y, .int .i64 far, .int .i8 up] w fun e w' => e = .returned (.bool true) ∧ Below w.heap.size w w' := by
  have m1 := hS.max
  by_cases hbig : 2000 < n
  · exact rough_big p q a n cap X Y far up w hbig (by omega)
  · exact trgh_go p q a n cap z hp hq hz h16 (by omega) X Y far up hup w hS
end Go.Proofs.YtlkjcamjgaecgaaGreat
