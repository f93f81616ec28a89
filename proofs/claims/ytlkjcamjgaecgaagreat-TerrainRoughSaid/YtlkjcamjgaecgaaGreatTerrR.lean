/-
  How rough the ground is: the heights of a square, one by one, and the closure that sums them up.
-/
import Derived.Test.YtlkjcamjgaecgaaGreatTerrL
import Derived.Test.YtlkjcamjgaecgaaGreatRoughSpec
set_option linter.unusedVariables false
set_option linter.unusedSimpArgs false
namespace Go.Proofs.YtlkjcamjgaecgaaGreat
open Go Go.RowKit Go.Th Go.Th.Crc

/-- The height, and the code, of any column and row. -/
def tZ (F : List Int) (W H : Nat) (x y : Int) : Int := if inF W H x y then czT (F.getD (y.toNat * W + x.toNat) 0) else 0
def tC (F : List Int) (W H : Nat) (x y : Int) : Int := if inF W H x y then ccT (F.getD (y.toNat * W + x.toNat) 0) else 9
theorem told_zc (F : List Int) (W H : Nat) (x y : Int) : told F W H x y = .tuple #[.int .i16 (tZ F W H x y), .int .i64 (tC F W H x y)] := by
  unfold told tZ tC
  by_cases h : inF W H x y
  · rw [if_pos h, if_pos h, if_pos h, hgt_eq]
  · rw [if_neg h, if_neg h, if_neg h]
theorem tZ_rng {F : List Int} (h16 : ∀ u ∈ F, In16 u) (W H : Nat) (x y : Int) : -32768 ≤ tZ F W H x y ∧ tZ F W H x y ≤ 32767 := by
  unfold tZ
  split
  · exact czT_range (getD_in16 h16 _)
  · omega
def wN (F : List Int) (W H : Nat) (c r : Int) : Int := if tC F W H c r = 0 then 1 else 0
def wS (F : List Int) (W H : Nat) (c r : Int) : Int := if tC F W H c r = 0 then tZ F W H c r else 0
def wQ (F : List Int) (W H : Nat) (c r : Int) : Int := if tC F W H c r = 0 then tZ F W H c r * tZ F W H c r else 0
theorem wN_eq (F : List Int) (W H : Nat) (c r : Int) : wN F W H c r = if tC F W H c r = 0 then 1 else 0 := rfl
theorem wS_eq (F : List Int) (W H : Nat) (c r : Int) : wS F W H c r = if tC F W H c r = 0 then tZ F W H c r else 0 := rfl
theorem wQ_eq (F : List Int) (W H : Nat) (c r : Int) : wQ F W H c r = if tC F W H c r = 0 then tZ F W H c r * tZ F W H c r else 0 := rfl
theorem wN_rng (F : List Int) (W H : Nat) (c r : Int) : -1 ≤ wN F W H c r ∧ wN F W H c r ≤ 1 := by unfold wN; split <;> omega
theorem wS_rng {F : List Int} (h16 : ∀ u ∈ F, In16 u) (W H : Nat) (c r : Int) : -32768 ≤ wS F W H c r ∧ wS F W H c r ≤ 32768 := by
  have := tZ_rng h16 W H c r
  unfold wS; split <;> omega
theorem sq_rng {z : Int} (h : -32768 ≤ z ∧ z ≤ 32767) : 0 ≤ z * z ∧ z * z ≤ 1073741824 := by
  have h1 : 0 ≤ z * z := by
    rcases Int.le_total 0 z with a | a
    · exact Int.mul_nonneg a a
    · exact Int.mul_nonneg_of_nonpos_of_nonpos a a
  have h2 : z * z ≤ 32768 * 32768 := by
    rcases Int.le_total 0 z with a | a
    · exact Int.mul_le_mul (by omega) (by omega) a (by omega)
    · have : -z * -z ≤ 32768 * 32768 := Int.mul_le_mul (by omega) (by omega) (by omega) (by omega)
      rwa [Int.neg_mul_neg] at this
  omega
theorem wQ_rng {F : List Int} (h16 : ∀ u ∈ F, In16 u) (W H : Nat) (c r : Int) : -1073741824 ≤ wQ F W H c r ∧ wQ F W H c r ≤ 1073741824 := by
  have := sq_rng (tZ_rng h16 W H c r)
  unfold wQ; split <;> omega

/-- The closure's value: it has captured three sums. -/
abbrev tellV (g1 g2 g3 : Nat) : Value := .func (.func 36) #[] #[.pointer (some ⟨g1, 0, none⟩), .pointer (some ⟨g2, 0, none⟩), .pointer (some ⟨g3, 0, none⟩)]
abbrev set3 (w : World) (g1 g2 g3 : Nat) (a b c : Value) : World := ((w.setCell ⟨g1, 0, none⟩ a).setCell ⟨g2, 0, none⟩ b).setCell ⟨g3, 0, none⟩ c

/-- A cache, and the three sums. -/
structure RgI (w wx : World) (base g : Nat) (F : List Int) (W H cell : Nat) (ox oy : Int) (room k g1 g2 g3 : Nat) (n s q : Int) : Prop where
  J : CN wx base g F W H cell ox oy room k
  k1 : Blk wx g1 2 [.int .i64 n]
  k2 : Blk wx g2 2 [.int .i64 s]
  k3 : Blk wx g3 2 [.int .i64 q]
  le : w.heap.size ≤ g1 ∧ w.heap.size ≤ g2 ∧ w.heap.size ≤ g3 ∧ g1 ≠ g2 ∧ g1 ≠ g3 ∧ g2 ≠ g3
  T : Turned (fun b => b = g) w wx
section
variable {w wx w' : World} {base g : Nat} {F : List Int} {W H cell : Nat} {ox oy : Int} {room k g1 g2 g3 : Nat} {n s q : Int}
theorem RgI.below (h : RgI w wx base g F W H cell ox oy room k g1 g2 g3 n s q) (hb : Below wx.heap.size wx w') : RgI w w' base g F W H cell ox oy room k g1 g2 g3 n s q :=
  ⟨h.J.below hb, h.k1.below hb h.k1.lt, h.k2.below hb h.k2.lt, h.k3.below hb h.k3.lt, h.le, h.T.trans (Turned.below (S := fun b => b = g) hb) (fun _ _ h => h)⟩
theorem RgI.more (h : RgI w wx base g F W H cell ox oy room k g1 g2 g3 n s q) {k' : Nat} (hk : k ≤ k') : RgI w wx base g F W H cell ox oy room k' g1 g2 g3 n s q := ⟨h.J.mono hk, h.k1, h.k2, h.k3, h.le, h.T⟩
theorem RgI.height (h : RgI w wx base g F W H cell ox oy room k g1 g2 g3 n s q) (O : MapOk F W H cell ox oy) (hk : k < 1000000) (x y : Int) :
    Calls Tryz.prog 56 #[.pointer (some ⟨g, 0, none⟩), .int .i64 x, .int .i64 y] wx fun e w' => e = .returned (.tuple #[.int .i16 (tZ F W H x y), .int .i64 (tC F W H x y)]) ∧ RgI w w' base g F W H cell ox oy room (k + 1) g1 g2 g3 n s q := by
  refine (h.J.height O hk x y).mono ?_
  rintro e w' ⟨he, hJ, hT⟩
  exact ⟨by rw [he, told_zc], hJ, h.J.blk hT h.k1 (by decide), h.J.blk hT h.k2 (by decide), h.J.blk hT h.k3 (by decide), h.le, h.T.trans hT (fun _ _ h => h)⟩
theorem turned_one (wx : World) (b : Nat) (v : Value) : Turned (fun k => k = b) wx (wx.setCell ⟨b, 0, none⟩ v) := (Turned.refl (fun k => k = b) wx).setCell (.inl rfl) v
theorem RgI.tell (h : RgI w wx base g F W H cell ox oy room k g1 g2 g3 n s q) (n' s' q' : Int) : RgI w (set3 wx g1 g2 g3 (.int .i64 n') (.int .i64 s') (.int .i64 q')) base g F W H cell ox oy room k g1 g2 g3 n' s' q' := by
  obtain ⟨l1, l2, l3, n12, n13, n23⟩ := h.le
  have t1 := turned_one wx g1 (.int .i64 n')
  have t2 := turned_one (wx.setCell ⟨g1, 0, none⟩ (.int .i64 n')) g2 (.int .i64 s')
  have t3 := turned_one ((wx.setCell ⟨g1, 0, none⟩ (.int .i64 n')).setCell ⟨g2, 0, none⟩ (.int .i64 s')) g3 (.int .i64 q')
  have a2 := h.k2.turned t1 (fun e => n12 e.symm)
  have a3 := h.k3.turned t1 (fun e => n13 e.symm)
  have b3 := a3.turned t2 (fun e => n23 e.symm)
  have a1 := h.k1.set 0 (.int .i64 n') (by simp)
  have b1 := a1.turned t2 n12
  have c1 := b1.turned t3 n13
  have b2 := a2.set 0 (.int .i64 s') (by simp)
  have c2 := b2.turned t3 n23
  have c3 := b3.set 0 (.int .i64 q') (by simp)
  have hne : (2 : TypeId) ≠ 108 ∧ (2 : TypeId) ≠ 5 ∧ (2 : TypeId) ≠ 3 ∧ (2 : TypeId) ≠ 51 := by decide
  exact ⟨((h.J.keep t1 h.k1 hne).keep t2 a2 hne).keep t3 b3 hne, c1, c2, c3, h.le, ((h.T.trans t1 (fun b hb e => absurd e (by omega))).trans t2 (fun b hb e => absurd e (by omega))).trans t3 (fun b hb e => absurd e (by omega))⟩
end

set_option maxRecDepth 20000 in
set_option maxHeartbeats 1600000 in
theorem tell_go (g1 g2 g3 : Nat) (z n s q n' s' p q' : Int) (h1 : wrap64 (n + 1) = n') (h2 : wrap64 (s + z) = s') (h3 : wrap64 (z * z) = p) (h4 : wrap64 (q + p) = q') (n12 : g1 ≠ g2) (n13 : g1 ≠ g3) (n23 : g2 ≠ g3) (w : World)
    (k1 : Blk w g1 2 [.int .i64 n]) (k2 : Blk w g2 2 [.int .i64 s]) (k3 : Blk w g3 2 [.int .i64 q]) :
    Calls Tryz.prog 36 #[.int .i64 z, .pointer (some ⟨g1, 0, none⟩), .pointer (some ⟨g2, 0, none⟩), .pointer (some ⟨g3, 0, none⟩)] w fun e w' => e = .returned (.tuple #[]) ∧ w' = set3 w g1 g2 g3 (.int .i64 n') (.int .i64 s') (.int .i64 q') := by
  have c1 := k1.cell (i := 0) rfl
  have c2 := k2.cell (i := 0) rfl
  have c3 := k3.cell (i := 0) rfl
  have f1 := k1.free 0
  have f2 := k2.free 0
  have f3 := k3.free 0
  have t1 := turned_one w g1 (.int .i64 n')
  have t2 := turned_one (w.setCell ⟨g1, 0, none⟩ (.int .i64 n')) g2 (.int .i64 s')
  have a2 := k2.turned t1 (fun e => n12 e.symm)
  have a3 := k3.turned t1 (fun e => n13 e.symm)
  have b3 := a3.turned t2 (fun e => n23 e.symm)
  have d2 := a2.cell (i := 0) rfl
  have e2 := a2.free 0
  have d3 := b3.cell (i := 0) rfl
  have e3 := b3.free 0
  clear k1 k2 k3 t1 t2 a2 a3 b3
  go_enter Tryz.func36, Tryz.ntmps36
  go_wp2_with fail
  go_end0
  exact ⟨rfl, rfl⟩

set_option maxRecDepth 20000 in
theorem eachOff_go (w0 w : World) (base g : Nat) (F : List Int) (W H cell : Nat) (ox oy : Int) (room k g1 g2 g3 fr : Nat) (x y : Int) (b1 b2 : Bool) (hb : (b1 && b2) = false)
    (h : RgI w0 w base g F W H cell ox oy room k g1 g2 g3 0 0 0) (C1 : Ans 58 #[.int .i64 x] (.bool b1)) (C2 : Ans 58 #[.int .i64 y] (.bool b2)) :
    Calls Tryz.prog 35 #[.pointer (some ⟨g, 0, none⟩), .int .i64 x, .int .i64 y, .int .i64 fr, tellV g1 g2 g3] w fun e w' => e = .returned (.tuple #[]) ∧ RgI w0 w' base g F W H cell ox oy room (k + 289) g1 g2 g3 0 0 0 := by
  have HR := Lib.hid h
  clear h
  go_enter Tryz.func35, Tryz.ntmps35
  go_wp2_with fail
  refine (C1 w).mono ?_
  rintro e w1 ⟨rfl, hA⟩
  have HR1 := Lib.hid (HR.out.below hA)
  clear C1 hA HR
  cases b1
  · go_wp2_with fail
    ((try simp only [Exit.inBlock, Exit.then]); refine bodyPost_ret (results_none rfl _ _ _) rfl ?_)
    exact ⟨rfl, HR1.out.more (by omega)⟩
  · cases b2
    · go_wp2_with fail
      refine (C2 w1).mono ?_
      rintro e w2 ⟨rfl, hA⟩
      have HR2 := Lib.hid (HR1.out.below hA)
      go_wp2_with fail
      ((try simp only [Exit.inBlock, Exit.then]); refine bodyPost_ret (results_none rfl _ _ _) rfl ?_)
      exact ⟨rfl, HR2.out.more (by omega)⟩
    · cases hb

set_option maxRecDepth 20000 in
set_option maxHeartbeats 6400000 in
theorem each_go (w0 w : World) (base g : Nat) (F : List Int) (W H cell : Nat) (ox oy : Int) (room k g1 g2 g3 fr m : Nat) (x y x0 y0 : Int) (O : MapOk F W H cell ox oy) (hk : k ≤ 900000) (hx : -1000 ≤ x ∧ x ≤ 1000) (hy : -1000 ≤ y ∧ y ≤ 1000) (hfr : fr ≤ 8) (hm : m = 2 * fr + 1) (hx0 : x0 = x - (fr : Int)) (hy0 : y0 = y - (fr : Int))
    (h : RgI w0 w base g F W H cell ox oy room k g1 g2 g3 0 0 0) (C1 : Ans 58 #[.int .i64 x] (.bool true)) (C2 : Ans 58 #[.int .i64 y] (.bool true)) :
    Calls Tryz.prog 35 #[.pointer (some ⟨g, 0, none⟩), .int .i64 x, .int .i64 y, .int .i64 fr, tellV g1 g2 g3] w fun e w' => e = .returned (.tuple #[]) ∧ RgI w0 w' base g F W H cell ox oy room (k + 289) g1 g2 g3 (rect (wN F W H) x0 y0 m m) (rect (wS F W H) x0 y0 m m) (rect (wQ F W H) x0 y0 m m) := by
  have HO := Lib.hid O
  have HM := Lib.hid hm
  have HX := Lib.hid hx0
  have HY := Lib.hid hy0
  have hm17 : m ≤ 17 := by omega
  have HM17 := Lib.hid hm17
  have HR := Lib.hid h
  have HN := Lib.hid (fun c r => wN_rng F W H c r)
  have HS := Lib.hid (fun c r => wS_rng O.h16 W H c r)
  have HQ := Lib.hid (fun c r => wQ_rng O.h16 W H c r)
  have HZ := Lib.hid (fun c r => tZ_rng O.h16 W H c r)
  clear O hm hx0 hy0 h hm17
  go_enter Tryz.func35, Tryz.ntmps35
  go_wp2_with fail
  refine (C1 w).mono ?_
  rintro e w1 ⟨rfl, hA⟩
  have HR1 := Lib.hid (HR.out.below hA)
  clear C1 hA HR
  go_wp2_with fail
  refine (C2 w1).mono ?_
  rintro e w2 ⟨rfl, hA⟩
  have HR2 := Lib.hid (HR1.out.below hA)
  clear C2 hA HR1
  go_wp2_with fail
  go_loopw [10] (fun v wx => ∃ (j : Nat) (r n s q : Int), j ≤ m ∧ v = .int .i64 r ∧ Hid (r = y0 + (j : Int)) ∧ -1010 ≤ r ∧ r ≤ 1010 ∧ Hid (n = rect (wN F W H) x0 y0 m j) ∧ Hid (s = rect (wS F W H) x0 y0 m j) ∧ Hid (q = rect (wQ F W H) x0 y0 m j) ∧ Hid (RgI w0 wx base g F W H cell ox oy room (k + 17 * j) g1 g2 g3 n s q)) (fun v _ => (2000 - intOf v).toNat)
  case atStart => exact ⟨0, y - (fr : Int), 0, 0, 0, by omega, rfl, Lib.hid (by rw [HY.out]; omega), by omega, by omega, Lib.hid rfl, Lib.hid rfl, Lib.hid rfl, HR2⟩
  case round =>
    clear HR2
    obtain ⟨j, r, n, s, q, hj, rfl, hr, hr1, hr2, hn, hs, hq, hR⟩ := hrel
    by_cases hlt : r ≤ y + (fr : Int)
    · have HJ : Hid (j + 1 ≤ m) := Lib.hid (by have := hr.out; have := HY.out; have := HM.out; omega)
      clear hj
      go_wp2_with fail
      go_loopw [11] (fun v wx => ∃ (i : Nat) (c n s q : Int), i ≤ m ∧ v = .int .i64 c ∧ Hid (c = x0 + (i : Int)) ∧ -1010 ≤ c ∧ c ≤ 1010 ∧ Hid (n = rpart (wN F W H) x0 y0 m j i) ∧ Hid (s = rpart (wS F W H) x0 y0 m j i) ∧ Hid (q = rpart (wQ F W H) x0 y0 m j i) ∧ Hid (RgI w0 wx base g F W H cell ox oy room (k + 17 * j + i) g1 g2 g3 n s q)) (fun v _ => (2000 - intOf v).toNat)
      case atStart => exact ⟨0, x - (fr : Int), n, s, q, by omega, rfl, Lib.hid (by rw [HX.out]; omega), by omega, by omega, Lib.hid (by rw [hn.out, rpart_0]), Lib.hid (by rw [hs.out, rpart_0]), Lib.hid (by rw [hq.out, rpart_0]), hR⟩
      case round =>
        clear hR hn hs hq
        obtain ⟨i, c, n, s, q, hi, rfl, hc, hc1, hc2, hn, hs, hq, hR⟩ := hrel
        by_cases hlc : c ≤ x + (fr : Int)
        · have HI : Hid (i + 1 ≤ m) := Lib.hid (by have := hc.out; have := HX.out; have := HM.out; omega)
          have rn := rpart_rng2 (w := wN F W H) (B := 1) (by omega) (HN.out) x0 y0 (m := m) (j := j) (i := i) HM17.out (by have := HJ.out; have := HM17.out; omega) (by have := HM17.out; omega)
          have rs := rpart_rng2 (w := wS F W H) (B := 32768) (by omega) (HS.out) x0 y0 (m := m) (j := j) (i := i) HM17.out (by have := HJ.out; have := HM17.out; omega) (by have := HM17.out; omega)
          have rq := rpart_rng2 (w := wQ F W H) (B := 1073741824) (by omega) (HQ.out) x0 y0 (m := m) (j := j) (i := i) HM17.out (by have := HJ.out; have := HM17.out; omega) (by have := HM17.out; omega)
          rw [← hn.out] at rn
          rw [← hs.out] at rs
          rw [← hq.out] at rq
          have hz := HZ.out c r
          have pn := rpart_next (wN F W H) x0 y0 m j i
          have ps := rpart_next (wS F W H) x0 y0 m j i
          have pq := rpart_next (wQ F W H) x0 y0 m j i
          rw [← hn.out, ← hc.out, ← hr.out] at pn
          rw [← hs.out, ← hc.out, ← hr.out] at ps
          rw [← hq.out, ← hc.out, ← hr.out] at pq
          have D := hR.out.height HO.out (by have := HJ.out; have := HM17.out; omega) c r
          rw [wN_eq F W H c r] at pn
          rw [wS_eq F W H c r] at ps
          rw [wQ_eq F W H c r] at pq
          obtain ⟨z, hzz⟩ : ∃ z, z = tZ F W H c r := ⟨_, rfl⟩
          obtain ⟨d, hdd⟩ : ∃ d, d = tC F W H c r := ⟨_, rfl⟩
          rw [← hdd] at pn
          rw [← hzz, ← hdd] at ps pq D
          rw [← hzz] at hz
          have PN := Lib.hid pn
          have PS := Lib.hid ps
          have PQ := Lib.hid pq
          have HD := Lib.hid D
          have hz1 : wrap64 z = z := IntWalk.wrap64_in _ (by omega)
          have hz2 : IntKind.i64.wrap z = z := IntWalk.i64_in _ (by omega)
          have hzq := sq_rng hz
          have T1 := fun w k1 k2 k3 => tell_go g1 g2 g3 z n s q (n + 1) (s + z) (z * z) (q + z * z) (IntWalk.wrap64_in _ (by omega)) (IntWalk.wrap64_in _ (by omega)) (IntWalk.wrap64_in _ (by omega)) (IntWalk.wrap64_in _ (by omega)) hR.out.le.2.2.2.1 hR.out.le.2.2.2.2.1 hR.out.le.2.2.2.2.2 w k1 k2 k3
          have HT1 := Lib.hid T1
          clear pn ps pq D hzz hdd T1 rn rs rq hzq hz hi hR hn hs hq
          go_wp2_with fail
          refine HD.out.mono ?_
          rintro e w5 ⟨rfl, R5⟩
          have HR5 := Lib.hid R5
          clear HD R5
          by_cases hd0 : d = 0
          · subst hd0
            go_wp2_with fail
            refine (HT1.out w5 HR5.out.k1 HR5.out.k2 HR5.out.k3).mono ?_
            rintro e w6 ⟨rfl, rfl⟩
            have HR6 := Lib.hid (HR5.out.tell (n + 1) (s + z) (q + z * z))
            clear HR5 HT1
            go_wp2_with fail
            go_roundw
            case rel => exact ⟨i + 1, c + 1, n + 1, s + z, q + z * z, HI.out, rfl, Lib.hid (by rw [hc.out]; omega), by omega, by omega, Lib.hid (by rw [PN.out]; simp), Lib.hid (by rw [PS.out]; simp), Lib.hid (by rw [PQ.out]; simp), HR6⟩
            case measure => simp [intOf]; omega
          · have b1 : ((d : Int) == 0) = false := by simp [hd0]
            clear HT1
            go_wp2_with fail
            go_roundw
            case rel => exact ⟨i + 1, c + 1, n, s, q, HI.out, rfl, Lib.hid (by rw [hc.out]; omega), by omega, by omega, Lib.hid (by rw [PN.out, if_neg hd0]; omega), Lib.hid (by rw [PS.out, if_neg hd0]; omega), Lib.hid (by rw [PQ.out, if_neg hd0]; omega), HR5⟩
            case measure => simp [intOf]; omega
        · obtain rfl : i = m := by have := hc.out; have := HX.out; have := HM.out; omega
          go_wp2_with fail
          go_roundw
          case rel => exact ⟨j + 1, r + 1, n, s, q, HJ.out, rfl, Lib.hid (by rw [hr.out]; omega), by omega, by omega, Lib.hid (by rw [hn.out, rpart_m]), Lib.hid (by rw [hs.out, rpart_m]), Lib.hid (by rw [hq.out, rpart_m]), Lib.hid (hR.out.more (by have := HM17.out; omega))⟩
          case measure => simp [intOf]; omega
    · obtain rfl : j = m := by have := hr.out; have := HY.out; have := HM.out; omega
      have HE := Lib.hid (hR.out.more (k' := k + 289) (by have := HM17.out; omega))
      go_wp2_with fail
      go_end0
      refine ⟨rfl, ?_⟩
      rw [← hn.out, ← hs.out, ← hq.out]
      exact HE.out
end Go.Proofs.YtlkjcamjgaecgaaGreat
