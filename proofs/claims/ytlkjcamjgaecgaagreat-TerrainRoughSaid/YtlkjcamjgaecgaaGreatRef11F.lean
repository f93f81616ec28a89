/-
  The reference's roughness.
-/
import Derived.Test.YtlkjcamjgaecgaaGreatTerrQ
import Derived.Test.YtlkjcamjgaecgaaGreatPackRoot
import Derived.Test.YtlkjcamjgaecgaaGreatPackCacheB
set_option linter.unusedVariables false
set_option linter.unusedSimpArgs false
namespace Go.Proofs.YtlkjcamjgaecgaaGreat
open Go Go.RowKit Go.Th Go.Th.Crc

theorem E64r : ElemOf Tryz.prog 82 2 1 8 := ElemOf.mk' Tryz.underlying82 (z := .int .i64 0) (by kernel_rfl) rfl (by decide)
def i64r (l : List Int) : List Value := l.map (.int .i64)
theorem i64r_app (l : List Int) (z : Int) : i64r (l ++ [z]) = i64r l ++ [.int .i64 z] := by simp [i64r]
theorem i64r_at (l : List Int) (i : Nat) (h : i < l.length) : (i64r l)[i]? = some (.int .i64 l[i]) := by simp [i64r, h]
theorem lsq_take (l : List Int) (i : Nat) (h : i < l.length) : lsq (l.take (i + 1)) = lsq (l.take i) + l[i] * l[i] := by
  rw [List.take_add_one, List.getElem?_eq_getElem h]
  exact lsq_app _ _
theorem lsq_rng {l : List Int} (h : ∀ z ∈ l, -32768 ≤ z ∧ z ≤ 32767) : 0 ≤ lsq l ∧ lsq l ≤ 1073741824 * (l.length : Int) := by
  induction l with
  | nil => simp [lsq]
  | cons y r ih =>
    have h1 := ih (fun z hz => h z (by simp [hz]))
    have h2 := sq_rng (h y (by simp))
    rw [lsq, List.length_cons]
    push_cast
    omega

/-- What the reference has gathered: the heights, and their sum. -/
structure GatI (w wx : World) (gH : Nat) (W H : Int) (a : Option Addr) (n cap : Nat) (v : Value) (l : List Int) : Prop where
  ho : wx.ownsRow w.heap.size 2 1 v l.length (i64r l)
  K : Blk wx gH 26 [.int .i64 W, .int .i64 H, .slice a n cap]
  B : Below w.heap.size w wx
  g : w.heap.size ≤ gH
  r : ∀ z ∈ l, -32768 ≤ z ∧ z ≤ 32767
theorem GatI.below {w wx w' : World} {gH : Nat} {W H : Int} {a : Option Addr} {n cap : Nat} {v : Value} {l : List Int} (h : GatI w wx gH W H a n cap v l) (hb : Below wx.heap.size wx w') : GatI w w' gH W H a n cap v l :=
  ⟨ownsRow_below h.ho hb, h.K.below hb h.K.lt, h.B.trans (hb.mono h.B.size), h.g, h.r⟩
theorem GatI.app {w wx w1 w' : World} {gH : Nat} {W H : Int} {a : Option Addr} {n cap : Nat} {v v' : Value} {l : List Int} (h : GatI w wx gH W H a n cap v l) {z : Int} (hz : -32768 ≤ z ∧ z ≤ 32767) (hb : Below wx.heap.size wx w1) (ho : w'.ownsRow w.heap.size 2 1 v' (l.length + 1) (i64r l ++ [.int .i64 z])) (hg : w1.grownBy w' v.ownBlock) : GatI w w' gH W H a n cap v' (l ++ [z]) := by
  have h1 := h.below hb
  have ht := grown_turned10 hg
  have nK := own_ne h1.K h1.ho (by decide)
  refine ⟨?_, h1.K.turned ht (fun e => nK _ e rfl), ht.old h1.B h1.B.size (fun j hj hs => by have := (h1.ho.lt j hs).1; omega), h.g, ?_⟩
  · rw [List.length_append, List.length_singleton, i64r_app]; exact ho
  · intro y hy
    rcases List.mem_append.1 hy with hy | hy
    · exact h.r y hy
    · rw [List.mem_singleton.1 hy]; exact hz

set_option maxRecDepth 20000 in
set_option maxHeartbeats 12800000 in
theorem refRgh_go (F : List Int) (W H : Nat) (a : Option Addr) (nn cap fr m : Nat) (x y x0 y0 far V1 V2 : Int) (h16 : ∀ u ∈ F, In16 u) (hfr : fr ≤ 8) (hM : (if 8 < (if far < 0 then 0 else far) then 8 else (if far < 0 then 0 else far)) = (fr : Int)) (hm : m = 2 * fr + 1) (hx0 : x0 = x - (fr : Int)) (hy0 : y0 = y - (fr : Int))
    (hoff : ¬ ((-1000 ≤ x ∧ x ≤ 1000) ∧ -1000 ≤ y ∧ y ≤ 1000) → V1 = 0 ∧ V2 = 0)
    (hin : (-1000 ≤ x ∧ x ≤ 1000) ∧ -1000 ≤ y ∧ y ≤ 1000 → ∀ (l : List Int), (l.length : Int) = rectC (wN F W H) x0 y0 m m → lsum l = rectC (wS F W H) x0 y0 m m → lsq l = rectC (wQ F W H) x0 y0 m m →
      ∃ p2 p3 p4 p5 mid : Int, ∃ M : Nat, wrap64 (lsum l * lsum l) = p2 ∧ wrap64 (lsq l * (l.length : Int) - p2) = p3 ∧ wrap64 (256 * p3) = p4 ∧ wrap64 ((l.length : Int) * (l.length : Int)) = p5 ∧ wrap64 (p4.tdiv p5) = mid ∧ IntKind.u64.wrap mid = (M : Int) ∧ (l.length ≠ 0 → ¬ p5 = 0) ∧ V2 = (l.length : Int) ∧ (l.length = 0 → V1 = 0) ∧
        IntKind.i64.wrap V1 = V1 ∧ (l.length ≠ 0 → Ans 38 #[.int .u64 M] (.int .u64 V1)))
    (C : ∀ u v : Int, AnsF F a nn cap 34 #[hv W H (.slice a nn cap), .int .i64 u, .int .i64 v] (.tuple #[.int .i16 (tZ F W H u v), .int .i64 (tC F W H u v)])) :
    AnsF F a nn cap 21 #[hv W H (.slice a nn cap), .int .i64 x, .int .i64 y, .int .i64 far] (.tuple #[.int .i64 V1, .int .i64 V2]) := by
  intro w hS
  obtain ⟨w1, hw1⟩ : ∃ w1, w.alloc (.cells #[.int .i64 W, .int .i64 H, .slice a nn cap] 26) = w1 := ⟨_, rfl⟩
  have hB1 : Below w.heap.size w w1 := by rw [← hw1]; exact (Below.refl _ _).alloc (Nat.le_refl _) _
  have K1 : Blk w1 w.heap.size 26 [.int .i64 W, .int .i64 H, .slice a nn cap] := by rw [← hw1]; exact Blk.new w _ _
  have HW1 := Lib.hid hw1
  have HS := Lib.hid hS
  have HC := Lib.hid C
  have HM := Lib.hid hm
  have HX := Lib.hid hx0
  have HY := Lib.hid hy0
  have HF := Lib.hid hM
  have HOFF := Lib.hid hoff
  have HIN := Lib.hid hin
  have hm17 : m ≤ 17 := by omega
  have HM17 := Lib.hid hm17
  have HN := Lib.hid (fun c r => wN_rng F W H c r)
  have HSR := Lib.hid (fun c r => wS_rng h16 W H c r)
  have HZ := Lib.hid (fun c r => tZ_rng h16 W H c r)
  have HG := Lib.hid (GatI.mk (World.ownsRow_nil w1 w.heap.size 2 1) K1 hB1 (Nat.le_refl _) (by intro z hz; cases hz) : GatI w w1 w.heap.size W H a nn cap (.slice none 0 0) [])
  clear hw1 hS C hm hx0 hy0 hM hoff hin hm17 h16 K1 hB1
  go_enter Tryz.func21, Tryz.ntmps21
  go_upto_region 1 with fail
  rw [HW1.out]
  clear HW1
  obtain ⟨gH, hgH⟩ : ∃ q, w.heap.size = q := ⟨_, rfl⟩
  have HGH := Lib.hid hgH
  rw [hgH]
  replace HG := Lib.hid (hgH ▸ HG.out : GatI w w1 gH W H a nn cap (.slice none 0 0) [])
  clear hgH
  go_upto_if 22 with fail
  obtain ⟨f1, hf1⟩ : ∃ q : Int, q = (if far < 0 then 0 else far) := ⟨_, rfl⟩
  have HF1 := Lib.hid hf1
  clear hf1
  go_cut [10] from 20 (fun s10 wx => wx = w1 ∧ s10 = .int .i64 f1)
  case first =>
    by_cases b : far < 0
    · have HBb := Lib.hid b
      go_wp2_with fail
      go_meet
      exact ⟨rfl, by rw [HF1.out, if_pos HBb.out]⟩
    · have HBb := Lib.hid b
      go_wp2_with fail
      go_meet
      exact ⟨rfl, by rw [HF1.out, if_neg (by have := HBb.out; omega)]⟩
  obtain ⟨rfl, rfl⟩ := hcut
  go_upto_if 24 with fail
  go_cut [10] from 20 (fun s10 wx => wx = wc ∧ s10 = .int .i64 fr)
  case first =>
    by_cases b : 8 < f1
    · have HBb := Lib.hid b
      go_wp2_with fail
      go_meet
      exact ⟨rfl, by rw [← HF.out, ← HF1.out, if_pos HBb.out]⟩
    · have HBb := Lib.hid b
      go_wp2_with fail
      go_meet
      exact ⟨rfl, by rw [← HF.out, ← HF1.out, if_neg (by have := HBb.out; omega)]⟩
  obtain ⟨rfl, rfl⟩ := hcut
  by_cases q1 : x < -1000
  · obtain ⟨e1, e2⟩ := HOFF.out (by omega)
    subst e1 e2
    go_wp2_with fail
    go_ret2
    exact ⟨rfl, HG.out.B⟩
  by_cases q2 : 1000 < x
  · obtain ⟨e1, e2⟩ := HOFF.out (by omega)
    subst e1 e2
    go_wp2_with fail
    go_ret2
    exact ⟨rfl, HG.out.B⟩
  by_cases q3 : y < -1000
  · obtain ⟨e1, e2⟩ := HOFF.out (by omega)
    subst e1 e2
    go_wp2_with fail
    go_ret2
    exact ⟨rfl, HG.out.B⟩
  by_cases q4 : 1000 < y
  · obtain ⟨e1, e2⟩ := HOFF.out (by omega)
    subst e1 e2
    go_wp2_with fail
    go_ret2
    exact ⟨rfl, HG.out.B⟩
  have HI := Lib.hid (HIN.out ⟨⟨by omega, by omega⟩, by omega, by omega⟩)
  clear HOFF HIN
  go_wp2_with fail
  go_loopw [11, 12, 13] (fun v11 v12 v13 wx => ∃ (i : Nat) (c S : Int) (l : List Int), i ≤ m ∧ v12 = .int .i64 S ∧ v13 = .int .i64 c ∧ Hid (c = x0 + (i : Int)) ∧ -1010 ≤ c ∧ c ≤ 1010 ∧ Hid ((l.length : Int) = rectC (wN F W H) x0 y0 m i) ∧ Hid (S = rectC (wS F W H) x0 y0 m i) ∧ Hid (lsum l = S) ∧ Hid (lsq l = rectC (wQ F W H) x0 y0 m i) ∧ Hid (GatI w wx gH W H a nn cap v11 l)) (fun _ _ v _ => (2000 - intOf v).toNat)
  case atStart => exact ⟨0, x - (fr : Int), 0, [], by omega, rfl, rfl, Lib.hid (by rw [HX.out]; omega), by omega, by omega, Lib.hid rfl, Lib.hid rfl, Lib.hid rfl, Lib.hid rfl, HG⟩
  case round =>
    clear HG
    obtain ⟨i, c, S, l, hi, rfl, rfl, hc, hc1, hc2, hn, hs, hls, hq, hG⟩ := hrel
    obtain ⟨av, cv, rfl, _, _⟩ := ownsRow_slice hG.out.ho
    by_cases hlt : c ≤ x + (fr : Int)
    · have HJ : Hid (i + 1 ≤ m) := Lib.hid (by have := hc.out; have := HX.out; have := HM.out; omega)
      clear hi
      go_wp2_with fail
      go_loopw [11, 12, 14] (fun v11 v12 v14 wx => ∃ (j : Nat) (r S : Int) (l : List Int), j ≤ m ∧ v12 = .int .i64 S ∧ v14 = .int .i64 r ∧ Hid (r = y0 + (j : Int)) ∧ -1010 ≤ r ∧ r ≤ 1010 ∧ Hid ((l.length : Int) = rpartC (wN F W H) x0 y0 m i j) ∧ Hid (S = rpartC (wS F W H) x0 y0 m i j) ∧ Hid (lsum l = S) ∧ Hid (lsq l = rpartC (wQ F W H) x0 y0 m i j) ∧ Hid (GatI w wx gH W H a nn cap v11 l)) (fun _ _ v _ => (2000 - intOf v).toNat)
      case atStart => exact ⟨0, y - (fr : Int), S, l, by omega, rfl, rfl, Lib.hid (by rw [HY.out]; omega), by omega, by omega, Lib.hid (by rw [hn.out, rpartC_0]), Lib.hid (by rw [hs.out, rpartC_0]), hls, Lib.hid (by rw [hq.out, rpartC_0]), hG⟩
      case round =>
        clear hn hs hls hq hG
        obtain ⟨j, r, S, l, hj, rfl, rfl, hr, hr1, hr2, hn, hs, hls, hq, hG⟩ := hrel
        obtain ⟨av, cv, rfl, hcv1, hcv2⟩ := ownsRow_slice hG.out.ho
        have c0 := hG.out.K.cell (i := 0) rfl
        have c1 := hG.out.K.cell (i := 1) rfl
        have c2 := hG.out.K.cell (i := 2) rfl
        by_cases hlc : r ≤ y + (fr : Int)
        · have HJJ : Hid (j + 1 ≤ m) := Lib.hid (by have := hr.out; have := HY.out; have := HM.out; omega)
          have rn := rpartC_rng2 (w := wN F W H) (B := 1) (by omega) (HN.out) x0 y0 (m := m) (j := j) (i := i) HM17.out (by have := HM17.out; omega) (by have := HJ.out; have := HM17.out; omega)
          have rs := rpartC_rng2 (w := wS F W H) (B := 32768) (by omega) (HSR.out) x0 y0 (m := m) (j := j) (i := i) HM17.out (by have := HM17.out; omega) (by have := HJ.out; have := HM17.out; omega)
          rw [← hn.out] at rn
          rw [← hs.out] at rs
          have hz := HZ.out c r
          have pn := rpartC_next (wN F W H) x0 y0 m i j
          have ps := rpartC_next (wS F W H) x0 y0 m i j
          have pq := rpartC_next (wQ F W H) x0 y0 m i j
          rw [← hn.out, ← hc.out, ← hr.out, wN_eq F W H c r] at pn
          rw [← hs.out, ← hc.out, ← hr.out, wS_eq F W H c r] at ps
          rw [← hq.out, ← hc.out, ← hr.out, wQ_eq F W H c r] at pq
          have D := HC.out c r wr (HS.out.below hG.out.B)
          obtain ⟨z, hzz⟩ : ∃ z, z = tZ F W H c r := ⟨_, rfl⟩
          obtain ⟨d, hdd⟩ : ∃ d, d = tC F W H c r := ⟨_, rfl⟩
          rw [← hdd] at pn
          rw [← hzz, ← hdd] at ps pq D
          rw [← hzz] at hz
          have PN := Lib.hid pn
          have PS := Lib.hid ps
          have PQ := Lib.hid pq
          have HD := Lib.hid D
          have HZR := Lib.hid hz
          have hz1 : wrap64 z = z := IntWalk.wrap64_in _ (by omega)
          have hz2 : IntKind.i64.wrap z = z := IntWalk.i64_in _ (by omega)
          have hz3 : wrap64 (S + z) = S + z := IntWalk.wrap64_in _ (by omega)
          obtain ⟨len, hlen⟩ : ∃ q, q = l.length := ⟨_, rfl⟩
          rw [← hlen] at hcv1 rn
          have hl3 : len ≤ 306 := by omega
          have HLEN := Lib.hid hlen
          have hho := hG.out.ho
          rw [← hlen] at hho
          have HHO := Lib.hid hho
          clear pn ps pq D hzz hdd rn rs hz hj hlen hho
          rw [← HLEN.out]
          go_wp2_with fail
          refine HD.out.mono ?_
          rintro e w5 ⟨rfl, hA5⟩
          have HG5 := Lib.hid (hG.out.below hA5)
          have HO5 := Lib.hid (ownsRow_below HHO.out hA5)
          have HA5 := Lib.hid hA5
          clear HD hA5 c0 c1 c2
          by_cases hd0 : d = 0
          · subst hd0
            have hsz := HG5.out.B.size
            go_wp2_with (at_builtin; refine wpList_app E64r rfl (.tmp 68) (.tmp 71) rfl w.heap.size rfl (HO5.out.alloc _) rfl (Sl.one _ _ _) (by intro u hu; simp at hu; subst hu; rfl) (by unfold maxLen; omega) (by omega) (by simp; omega) ?_)
            intro v6 w6 ho6 hg6 _
            have HG6 := Lib.hid (HG5.out.app HZR.out ((Below.refl _ _).alloc (Nat.le_refl _) (.cells #[.int .i64 z] 2)) (by rw [← HLEN.out]; exact ho6) (by rw [← HLEN.out]; exact hg6))
            clear ho6 hg6 HO5
            go_wp2_with fail
            go_roundw
            case rel => exact ⟨j + 1, r + 1, S + z, l ++ [z], HJJ.out, by first | rfl | rw [hz3], rfl, Lib.hid (by rw [hr.out]; omega), by omega, by omega, Lib.hid (by rw [PN.out, List.length_append]; simp), Lib.hid (by rw [PS.out]; simp), Lib.hid (by rw [lsum_app, hls.out]), Lib.hid (by rw [lsq_app, PQ.out]; simp), HG6⟩
            case measure => simp [intOf]; omega
          · have b1 : ((d : Int) == 0) = false := by simp [hd0]
            go_wp2_with fail
            go_roundw
            case rel => exact ⟨j + 1, r + 1, S, l, HJJ.out, rfl, rfl, Lib.hid (by rw [hr.out]; omega), by omega, by omega, Lib.hid (by rw [PN.out, if_neg hd0]; omega), Lib.hid (by rw [PS.out, if_neg hd0]; omega), hls, Lib.hid (by rw [PQ.out, if_neg hd0]; omega), by rw [HLEN.out]; exact HG5⟩
            case measure => simp [intOf]; omega
        · obtain rfl : j = m := by have := hr.out; have := HY.out; have := HM.out; omega
          go_wp2_with fail
          go_roundw
          case rel => exact ⟨i + 1, c + 1, S, l, HJ.out, rfl, rfl, Lib.hid (by rw [hc.out]; omega), by omega, by omega, Lib.hid (by rw [hn.out, rpartC_m]), Lib.hid (by rw [hs.out, rpartC_m]), hls, Lib.hid (by rw [hq.out, rpartC_m]), hG⟩
          case measure => simp [intOf]; omega
    · obtain rfl : i = m := by have := hc.out; have := HX.out; have := HM.out; omega
      have hmx := (Sl.of_own hG.out.ho).max
      obtain ⟨p2, p3, p4, p5, mid, M, a2, a3, a4, a5, a6, a7, h5, rfl, hV0, a8, hV⟩ := HI.out l hn.out (hls.out.trans hs.out) hq.out
      have hl3 := rect_rng (w := fun c r => wN F W H r c) (B := 1) (by omega) (fun c r => HN.out r c) y0 x0 (m := i) (k := i) HM17.out HM17.out
      have hl4 : rect (fun c r => wN F W H r c) y0 x0 i i = rectC (wN F W H) x0 y0 i i := rfl
      rw [hl4, ← hn.out] at hl3
      have hqr := lsq_rng hG.out.r
      have HQR := Lib.hid hqr
      rw [hls.out] at a2
      have HLS := hls
      obtain ⟨len, hlen⟩ : ∃ q, q = l.length := ⟨_, rfl⟩
      have HLEN := Lib.hid hlen
      have HH5 := Lib.hid h5
      have HV0 := Lib.hid hV0
      have HV := Lib.hid hV
      have HRR := Lib.hid hG.out.r
      have hho := hG.out.ho
      rw [← hlen] at hho hmx a3 a5 hl3
      have HHO := Lib.hid hho
      rw [← HLEN.out]
      clear hlen h5 hV0 hV hqr hl4 hho
      by_cases h0 : len = 0
      · subst h0
        have e1 := HV0.out HLEN.out.symm
        subst e1
        clear a2 a3 a4 a5 a6 a7 a8
        go_wp2_with fail
        go_ret2
        exact ⟨by rw [← HLEN.out]; rfl, hG.out.B⟩
      · have h0' : ¬ (len : Int) = 0 := by omega
        have b1 : ((len : Int) == 0) = false := by simp [h0]
        have h5' := HH5.out (by rw [← HLEN.out]; exact h0)
        have HV' := Lib.hid (HV.out (by rw [← HLEN.out]; exact h0))
        have hho := HHO.out
        obtain ⟨gz, cz, hvz, _, _, _, _⟩ := ownsRow_val hho (by omega)
        cases hvz
        obtain ⟨Q, hQ⟩ : ∃ Q, Q = lsq l := ⟨_, rfl⟩
        have HQ := Lib.hid hQ
        rw [← hQ] at a3
        clear hQ hho
        go_wp2_with fail
        go_loopw [18, 19] (fun v18 v19 wx => ∃ (k : Nat) (t : Int), k ≤ len ∧ v18 = .int .i64 t ∧ v19 = .int .i64 k ∧ Hid (t = lsq (l.take k) * (len : Int)) ∧ Hid (GatI w wx gH W H a nn cap (.slice (some ⟨gz, 0, none⟩) len cv) l)) (fun _ v _ => len - (intOf v).toNat)
        case atStart => exact ⟨0, 0, by omega, rfl, rfl, Lib.hid (by simp [lsq]), by rw [HLEN.out]; rw [← HLEN.out]; exact Lib.hid (by have := hG.out; rw [← HLEN.out] at this; exact this)⟩
        case round =>
          clear hG
          obtain ⟨k, t, hk, rfl, rfl, ht, hG⟩ := hrel
          by_cases hlk : k < len
          · have hkl : k < l.length := by rw [← HLEN.out]; exact hlk
            have hlk' : (k : Int) < (len : Int) := by omega
            have hro := hG.out.ho
            rw [← HLEN.out] at hro
            have hcl := ownsRow_cell hro (i64r_at l k hkl)
            have hz := HRR.out _ (List.getElem_mem hkl)
            have hst := lsq_take l k hkl
            have hqk := lsq_rng (l := l.take k) (fun z hz => HRR.out z (List.mem_of_mem_take hz))
            rw [List.length_take] at hqk
            obtain ⟨z, hzz⟩ : ∃ z, z = l[k] := ⟨_, rfl⟩
            rw [← hzz] at hcl hz hst
            have hzq := sq_rng hz
            have r1 := prod_abs (a := z * z) (p := (len : Int)) (A := 1073741824) (B := 289) (by omega) (by omega) (by omega) (by omega)
            have r2 := prod_abs (a := lsq (l.take k)) (p := (len : Int)) (A := 400000000000) (B := 289) (by omega) (by omega) (by omega) (by omega)
            rw [← ht.out] at r2
            have e1 : wrap64 (z * z) = z * z := IntWalk.wrap64_in _ (by omega)
            have e2 : wrap64 (z * z * (len : Int)) = z * z * (len : Int) := IntWalk.wrap64_in _ (by omega)
            have e3 : wrap64 (t + z * z * (len : Int)) = t + z * z * (len : Int) := IntWalk.wrap64_in _ (by omega)
            have HST := Lib.hid hst
            clear hst hqk hzq r1 r2 hz hzz hro hkl
            go_wp2_with fail
            go_quiet (fail)
            go_wp2_with fail
            go_roundw
            case rel => exact ⟨k + 1, t + z * z * (len : Int), hlk, by first | rfl | rw [e3], by go_num, Lib.hid (by rw [HST.out, ht.out, Int.add_mul]), Lib.hid (hG.out.below (below_dN (Below.refl _ _) _))⟩
            case measure => simp [intOf]; omega
          · obtain rfl : k = len := by omega
            have ht' := ht.out
            rw [HLEN.out, List.take_length, ← HLEN.out, ← HQ.out] at ht'
            rw [ht']
            clear ht'
            go_wp2_with fail
            refine (HV'.out _).mono ?_
            rintro e w7 ⟨rfl, hA⟩
            go_wp2_with fail
            go_ret2
            exact ⟨by first | rfl | (rw [← HLEN.out]; rfl), hG.out.B.trans (hA.mono hG.out.B.size)⟩

theorem refRgh_any {F : List Int} {W H n : Nat} (O : FldOk F W H n) (x y far : Int) (a : Option Addr) (cap : Nat) :
    AnsF F a n cap 21 #[hv W H (.slice a n cap), .int .i64 x, .int .i64 y, .int .i64 far] (.tuple #[.int .i64 (rgh F W H x y far).1, .int .i64 (rgh F W H x y far).2]) := by
  have hW := O.W1
  have hH := O.H1
  have hf := farT_le far
  have hM : (if 8 < (if far < 0 then 0 else far) then 8 else (if far < 0 then 0 else far)) = (farT far : Int) := by
    unfold farT
    split <;> split <;> omega
  refine refRgh_go F W H a n cap (farT far) (2 * farT far + 1) x y (x - farT far) (y - farT far) far _ _ O.i16 hf hM rfl rfl rfl ?_ ?_ ?_
  · intro h
    have e : rgh F W H x y far = (0, 0) := if_neg h
    rw [e]
    exact ⟨rfl, rfl⟩
  · intro h l hn hs hq
    have e : rgh F W H x y far = rough _ _ _ := if_pos h
    have rN := rect_rng (w := wN F W H) (B := 1) (by omega) (wN_rng F W H) (x - farT far) (y - farT far) (m := 2 * farT far + 1) (k := 2 * farT far + 1) (by omega) (by omega)
    have rS := rect_rng (w := wS F W H) (B := 32768) (by omega) (wS_rng O.i16 W H) (x - farT far) (y - farT far) (m := 2 * farT far + 1) (k := 2 * farT far + 1) (by omega) (by omega)
    have rQ := rect_rng (w := wQ F W H) (B := 1073741824) (by omega) (wQ_rng O.i16 W H) (x - farT far) (y - farT far) (m := 2 * farT far + 1) (k := 2 * farT far + 1) (by omega) (by omega)
    rw [rect_swap, ← hn, rect_swap, ← hs, rect_swap, ← hq] at e
    rw [rect_swap, ← hn] at rN
    rw [rect_swap, ← hs] at rS
    rw [rect_swap, ← hq] at rQ
    have s := sums_any (l.length : Int) (lsum l) (lsq l) (by omega) (by omega) (by omega)
    rw [s.R] at e
    refine ⟨_, _, _, _, _, _, s.a2, by rw [Int.mul_comm]; exact s.a3, s.a4, s.a5, s.a6, s.a7, fun h0 => s.h5 (by omega), ?_, ?_, ?_, ?_⟩
    · rw [e]; split
      · rename_i h0; exact h0.symm
      · rfl
    · intro h0; rw [e, if_pos (by omega)]
    · rw [e]; split
      · decide
      · exact rt_int _ s.m64
    · intro h0
      rw [e, if_neg (by omega)]
      exact refFloor_any _ s.m64
  · intro u v w hS
    rw [← told_zc]
    exact ref10_told F W H n u v O.len O.n (by omega) (by omega) a cap w hS
end Go.Proofs.YtlkjcamjgaecgaaGreat
