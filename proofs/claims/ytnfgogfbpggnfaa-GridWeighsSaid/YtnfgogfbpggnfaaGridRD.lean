/-
  A grid that is weighed: the reference's.
-/
import Derived.Test.YtnfgogfbpggnfaaGridRB
import Derived.Test.YtnfgogfbpggnfaaGridK
set_option linter.unusedVariables false
set_option linter.unusedSimpArgs false
namespace Go.Proofs.Ytnfgogfbpggnfaa
open Go Go.RowKit Go.Th Go.Th.Grid Go.Th.Wide

set_option maxRecDepth 20000 in
set_option maxHeartbeats 1600000 in
theorem part_any (a b : Int) (ha : 0 ≤ a ∧ a ≤ b) (hb : 0 < b ∧ b ≤ 4611686018427387904) : PureG 49 #[.int .i64 a, .int .i64 b] (.int .i64 (share b a)) := by
  intro w
  have hstep := fun (i : Nat) (O R : Int) (h : 2 ^ i * a = 2 * (b * O) + R) (h1 : 0 ≤ R) (h2 : R < 2 * b) => part_step (i := i) h h1 h2
  have hout := fun (i : Nat) (O R : Int) (h : 2 ^ i * a = 2 * (b * O) + R) (h1 : 0 ≤ R) => part_out (i := i) h h1 ha.2 hb.1
  have hend := fun (O R : Int) (h : 2 ^ 31 * a = 2 * (b * O) + R) (h1 : 0 ≤ R) (h2 : R < 2 * b) => part_end h h1 h2
  have hpw : ∀ i : Nat, i ≤ 31 → (2 : Int) ^ i ≤ 2147483648 := by
    intro i hi
    have h1 : (2 : Nat) ^ i ≤ 2147483648 := Nat.le_trans (Nat.pow_le_pow_right (by omega) hi) (by decide)
    have e : ((2 ^ i : Nat) : Int) = (2 : Int) ^ i := by simp
    rw [← e]
    exact Int.ofNat_le.2 h1
  have HSTEP := Lib.hid hstep
  have HOUT := Lib.hid hout
  have HEND := Lib.hid hend
  have HPW := Lib.hid hpw
  have h0 : Hid ((2 : Int) ^ 0 * a = 2 * (b * 0) + a) := Lib.hid (by rw [Int.pow_zero, Int.one_mul, Int.mul_zero, Int.mul_zero, Int.zero_add])
  obtain ⟨a1, a2⟩ := ha
  obtain ⟨b1, b2⟩ := hb
  clear hstep hout hend hpw
  go_enter Try.func49, Try.ntmps49
  go_wp2_with fail
  go_loopw [5, 6, 7] (fun o r c wx => ∃ (i : Nat) (O R : Int), i ≤ 31 ∧ o = .int .i64 O ∧ r = .int .i64 R ∧ c = .int .i64 i ∧ Hid (2 ^ i * a = 2 * (b * O) + R) ∧ 0 ≤ R ∧ R < 2 * b ∧ 0 ≤ O ∧ O ≤ 2147483648 ∧ wx = w) (fun _ _ c _ => 31 - (intOf c).toNat)
  case atStart => exact ⟨0, 0, a, by omega, rfl, rfl, rfl, h0, by omega, by omega, by omega, by omega, rfl⟩
  case round =>
    obtain ⟨i, O, R, hi, rfl, rfl, rfl, hv, r1, r2, o1, o2, rfl⟩ := hrel
    by_cases hlt : i < 31
    · obtain ⟨s1, s2⟩ := HSTEP.out i O R hv.out r1 r2
      by_cases hc : b ≤ R
      · obtain ⟨t1, t2, t3⟩ := s1 hc
        have t4 := HOUT.out (i + 1) _ _ t1 t2
        have t5 := HPW.out (i + 1) (by omega)
        have T1 := Lib.hid t1
        have t6 : 2 * O + 1 ≤ 2147483648 := Int.le_trans t4 t5
        clear s1 s2 t1 t4 t5
        go_wp2_with fail
        go_roundw
        case rel => exact ⟨i + 1, 2 * O + 1, 2 * (R - b), by omega, by go_num, by go_num, by go_num, T1, t2, t3, by omega, t6, by first | rfl | trivial⟩
        case measure => simp [intOf]; omega
      · obtain ⟨t1, t2, t3⟩ := s2 (by omega)
        have t4 := HOUT.out (i + 1) _ _ t1 t2
        have t5 := HPW.out (i + 1) (by omega)
        have T1 := Lib.hid t1
        have t6 : 2 * O ≤ 2147483648 := Int.le_trans t4 t5
        clear s1 s2 t1 t4 t5
        go_wp2_with fail
        go_roundw
        case rel => exact ⟨i + 1, 2 * O, 2 * R, by omega, by go_num, by go_num, by go_num, T1, t2, t3, by omega, t6, by first | rfl | trivial⟩
        case measure => simp [intOf]; omega
    · obtain rfl : i = 31 := by omega
      have he := HEND.out O R hv.out r1 r2
      have HE := Lib.hid he
      clear he
      go_wp2_with fail
      go_ret
      exact ⟨ret_int (by rw [HE.out]; rfl), rfl⟩

set_option maxRecDepth 20000 in
set_option maxHeartbeats 3200000 in
theorem weighed_any (x y X Y s : Int) (a al : Option Addr) (n cap capl : Nat) (p l : List Int) (hp : p.length = n) (hl : l.length = n) (hn : n ≤ 65536) (hr : ∀ u ∈ p, 0 ≤ u ∧ u ≤ 1073741824) (hall : allIn l 65536 = true) (w : World) (hS : Sl w 1 (.slice a n cap) n (i64s p)) (hT : Sl w 1 (.slice al n capl) n (i64s l)) :
    Calls Try.prog 23 #[gv x y X Y s (.slice a n cap), .slice al n capl] w fun e w' => e = .returned (.tuple #[.int .i64 (sm (wd p l)), .int .i64 (mxl l)]) ∧ Below w.heap.size w w' := by
  have hlr := allIn_iff.1 hall
  have hwr := wd_rng (by rw [hl, hp]) hr hlr
  have hwl : (wd p l).length = n := by rw [wd_length, hl]
  have hws := sm_rng hwr
  rw [hwl] at hws
  have hw0 : ∀ u ∈ wd p l, 0 ≤ u := fun u hu => (hwr u hu).1
  have hpr : ∀ i, i < n → ∃ u v z : Int, p.getD i 0 = u ∧ l.getD i 0 = v ∧ u * v = z ∧ 0 ≤ z ∧ z ≤ 70368744177664 ∧ 0 ≤ v ∧ v ≤ 65536 ∧ sm ((wd p l).take (i + 1)) = sm ((wd p l).take i) + z ∧ 0 ≤ sm ((wd p l).take i) ∧ sm ((wd p l).take i) ≤ 4611686018427387904 := by
    intro i hi
    have h1 : (wd p l).getD i 0 = p.getD i 0 * l.getD i 0 := by unfold wd; exact tab_getD _ _ (by rw [hl]; exact hi)
    have h2 := getD_mem (P := fun u => 0 ≤ u ∧ u ≤ 70368744177664) hwr (by rw [hwl]; exact hi : i < (wd p l).length)
    have h3 := getD_mem (P := fun u => 0 ≤ u ∧ u ≤ 65536) hlr (by rw [hl]; exact hi : i < l.length)
    have h4 := sm_take (wd p l) i (by rw [hwl]; exact hi)
    have h5 := sm_take_le hw0 i
    exact ⟨_, _, _, rfl, rfl, rfl, by rw [← h1]; exact h2.1, by rw [← h1]; exact h2.2, h3.1, h3.2, by rw [h4, h1], h5.1, by omega⟩
  have hmt := fun i (hi : i < n) => mxl_take l i (by rw [hl]; exact hi)
  have hma : mxl (l.take n) = mxl l := by rw [List.take_of_length_le (by rw [hl]; exact Nat.le_refl _)]
  have hsa : sm ((wd p l).take n) = sm (wd p l) := by rw [List.take_of_length_le (by rw [hwl]; exact Nat.le_refl _)]
  have hm0 : mxl (l.take 0) = 0 := rfl
  have hs0 : sm ((wd p l).take 0) = 0 := rfl
  obtain ⟨SM, hSM⟩ : ∃ SM : Nat → Int, SM = fun i => sm ((wd p l).take i) := ⟨_, rfl⟩
  obtain ⟨MX, hMX⟩ : ∃ MX : Nat → Int, MX = fun i => mxl (l.take i) := ⟨_, rfl⟩
  have HPR := Lib.hid hpr
  have HMT := Lib.hid hmt
  have e1 : sm (wd p l) = SM n := by rw [hSM]; exact hsa.symm
  have e2 : mxl l = MX n := by rw [hMX]; exact hma.symm
  have e3 : SM 0 = 0 := by rw [hSM]; exact hs0
  have e4 : MX 0 = 0 := by rw [hMX]; exact hm0
  have e5 : ∀ i, sm ((wd p l).take i) = SM i := fun i => by rw [hSM]
  have e6 : ∀ i, mxl (l.take i) = MX i := fun i => by rw [hMX]
  rw [e1, e2]
  have E3 := Lib.hid e3
  have E4 := Lib.hid e4
  have E5 := Lib.hid e5
  have E6 := Lib.hid e6
  have HP := Lib.hid hp
  have HLn := Lib.hid hl
  have HS := Lib.hid hS
  have HT := Lib.hid hT
  have hmx := hS.max
  have hmy := hT.max
  clear hlr hwr hwl hws hw0 hpr hmt hma hsa hm0 hs0 hSM hMX e1 e2 e3 e4 e5 e6 hp hl hS hT hr hall
  obtain ⟨w1, hw1⟩ : ∃ w1, w.alloc (.cells #[.int .i64 x, .int .i64 y, .int .i64 X, .int .i64 Y, .int .i64 s, .slice a n cap] 24) = w1 := ⟨_, rfl⟩
  have M1 := (Mem.start w).alloc 24 (gc x y X Y s (.slice a n cap))
  rw [show w.alloc (.cells (gc x y X Y s (.slice a n cap)).toArray 24) = w1 from hw1] at M1
  have HW1 := Lib.hid hw1
  clear hw1
  go_enter Try.func23, Try.ntmps23
  ((go_upto_region 1 with fail); rw [HW1.out]; clear HW1; obtain ⟨gA, hgA⟩ : ∃ gA, gA = w.heap.size := ⟨_, rfl⟩; rw [← hgA] at M1 ⊢; clear hgA)
  go_wp2_with fail
  go_loopw [6, 7, 8] (fun q m c wx => ∃ i : Nat, i ≤ n ∧ c = .int .i64 i ∧ q = .int .i64 (SM i) ∧ m = .int .i64 (MX i) ∧ Mem w wx [(gA, 24, gc x y X Y s (.slice a n cap))]) (fun _ _ c _ => n - (intOf c).toNat)
  case atStart => exact ⟨0, Nat.zero_le _, rfl, by rw [E3.out], by rw [E4.out], M1⟩
  case round =>
    clear M1
    obtain ⟨i, hi, rfl, rfl, rfl, M⟩ := hrel
    by_cases hlt : i < n
    · obtain ⟨u, v, z, hu, hv, huv, hz0, hz1, hv0, hv1, hst, hs0, hs1⟩ := HPR.out i hlt
      obtain ⟨b, o, rfl, _, cu⟩ := cell64 (HS.out.below M.below) i (by rw [HP.out]; exact hlt)
      obtain ⟨bl, ol, rfl, _, cv⟩ := cell64 (HT.out.below M.below) i (by rw [HLn.out]; exact hlt)
      rw [hu] at cu
      rw [hv] at cv
      have hmt := HMT.out i hlt
      rw [hv, E6.out, E6.out] at hmt
      rw [E5.out, E5.out] at hst
      rw [E5.out] at hs0 hs1
      obtain ⟨M0, hM0⟩ : ∃ M0, M0 = MX i := ⟨_, rfl⟩
      obtain ⟨S0, hS0⟩ : ∃ S0, S0 = SM i := ⟨_, rfl⟩
      rw [← hM0] at hmt ⊢
      rw [← hS0] at hst hs0 hs1 ⊢
      have wz : IntKind.i64.wrap z = z := IntWalk.i64_in _ (by omega)
      have wz2 : wrap64 z = z := IntWalk.wrap64_in _ (by omega)
      have wS : IntKind.i64.wrap (S0 + z) = S0 + z := IntWalk.i64_in _ (by omega)
      have HST := Lib.hid hst
      have HMTi := Lib.hid hmt
      have c5 := M.cell (Has.head _ _ _ _) (i := 5) rfl
      clear hu hv hM0 hS0 hmt hst
      by_cases hgt : M0 < v
      · have hmm := Lib.hid (HMTi.out.trans (show max M0 v = v by omega))
        go_wp2_with fail
        go_quiet (fail)
        go_wp2_with fail
        go_roundw
        case rel => exact ⟨i + 1, by omega, by go_num, by rw [HST.out], by rw [hmm.out], M.drewN _⟩
        case measure => simp [intOf]; omega
      · have hmm := Lib.hid (HMTi.out.trans (show max M0 v = M0 by omega))
        go_wp2_with fail
        go_quiet (fail)
        go_wp2_with fail
        go_roundw
        case rel => exact ⟨i + 1, by omega, by go_num, by rw [HST.out], by rw [hmm.out], M.drewN _⟩
        case measure => simp [intOf]; omega
    · obtain rfl : n = i := by omega
      go_wp2_with fail
      go_ret2
      exact ⟨rfl, M.below⟩

set_option maxRecDepth 20000 in
set_option maxHeartbeats 3200000 in
theorem rweigh_any (x y X Y s : Int) (a al : Option Addr) (n cap capl : Nat) (p l : List Int) (hp : p.length = n) (hl : l.length = n) (hn : n ≤ 65536) (hr : ∀ u ∈ p, 0 ≤ u ∧ u ≤ 1073741824) (hall : allIn l 65536 = true) (w : World) (hS : Sl w 1 (.slice a n cap) n (i64s p)) (hT : Sl w 1 (.slice al n capl) n (i64s l)) :
    Calls Try.prog 22 #[gv x y X Y s (.slice a n cap), .slice al n capl] w (GSaid x y X Y s n (wgh p l) (normC (wd p l)) w) := by
  have hlr := allIn_iff.1 hall
  have hwr := wd_rng (by rw [hl, hp]) hr hlr
  have hwl : (wd p l).length = n := by rw [wd_length, hl]
  have hws := sm_rng hwr
  rw [hwl] at hws
  have hw0 : ∀ u ∈ wd p l, 0 ≤ u := fun u hu => (hwr u hu).1
  have hge := sm_ge hw0
  have CWd := fun wx hs ht => weighed_any x y X Y s a al n cap capl p l hp hl hn hr hall wx hs ht
  have HS := Lib.hid hS
  have HTl := Lib.hid hT
  have hmx := hS.max
  have hmy := hT.max
  obtain ⟨MX, hMX⟩ : ∃ M, M = mxl l := ⟨_, rfl⟩
  rw [← hMX] at CWd
  by_cases hz : sm (wd p l) = 0
  · have e1 : wgh p l = p := by unfold wgh; rw [if_pos hz]
    have e2 : normC (wd p l) = 7 := by unfold normC; rw [if_pos hz]
    rw [e1, e2]
    rw [hz] at CWd
    have CWd := Lib.hid CWd
    clear hp hl hws hz e1 e2 hS hT hge hr hall hlr hwr hwl hw0 hMX
    (obtain ⟨w1, hw1⟩ : ∃ w1, w.alloc (.cells #[.int .i64 x, .int .i64 y, .int .i64 X, .int .i64 Y, .int .i64 s, .slice a n cap] 24) = w1 := ⟨_, rfl⟩; have M1 := (Mem.start w).alloc 24 (gc x y X Y s (.slice a n cap)); rw [show w.alloc (.cells (gc x y X Y s (.slice a n cap)).toArray 24) = w1 from hw1] at M1; obtain ⟨w2, hw2⟩ : ∃ w2, w1.alloc (.cells #[.int .i64 0, .int .i64 0, .int .i64 0, .int .i64 0, .int .i64 0, .slice none 0 0] 24) = w2 := ⟨_, rfl⟩; have M2 := M1.alloc 24 (gc 0 0 0 0 0 (.slice none 0 0)); rw [show w1.alloc (.cells (gc 0 0 0 0 0 (.slice none 0 0)).toArray 24) = w2 from hw2] at M2; have hsz : w1.heap.size = w.heap.size + 1 := (by rw [← hw1]; simp); have HW1 := Lib.hid hw1; have HW2 := Lib.hid hw2; clear hw1 hw2 M1)
    go_enter Try.func22, Try.ntmps22
    ((go_upto_region 1 with fail); rw [HW1.out, HW2.out, ← hsz]; clear HW1 HW2; obtain ⟨gB, hgB⟩ : ∃ gB, gB = w1.heap.size := ⟨_, rfl⟩; obtain ⟨gA, hgA⟩ : ∃ gA, gA = w.heap.size := ⟨_, rfl⟩; rw [← hgB] at M2 ⊢; rw [← hgA] at M2 ⊢; have hne : gA ≠ gB := (by omega); clear hgA hgB hsz)
    obtain ⟨c0, c1, c2, c3, c4, c5⟩ := gcells (M2.has (.tail _ _ _ _ _ (Has.head _ _ _ _)))
    go_wp2_with fail
    refine (CWd.out _ (HS.out.below M2.below) (HTl.out.below M2.below)).mono ?_
    rintro e w3 ⟨rfl, hA⟩
    replace M2 := M2.call hA
    clear c0 c1 c2 c3 c4 c5
    obtain ⟨c0, c1, c2, c3, c4, c5⟩ := gcells (M2.has (.tail _ _ _ _ _ (Has.head _ _ _ _)))
    go_wp2_with ((with_reducible refine (?_ : Go.wpList _ _ _ (_ :: _) _ _)); (first | go_skip | (refine wpL_stM (v := gv x y X Y s (.slice a n cap)) M2 rfl rfl rfl rfl (wr_g _ _ _ _ _ _ _ _ _ _ _ _ _ _) (Upd.head _ _ _ _ _) ?_; intro w4 M4 hT4)))
    ((try simp only [Exit.inBlock, Exit.then]); refine bodyPost_ret (res_cell_tmp rfl M4 rfl (Has.head _ _ _ _) (rd_g _ _ _ _ _ _) rfl) rfl ?_)
    exact ⟨_, _, rfl, HS.out.below M4.below, M4.below⟩
  · obtain ⟨TN, hTN⟩ : ∃ TN, TN = sm (wd p l) := ⟨_, rfl⟩
    have e1 : wgh p l = tab (fun i => share TN ((wd p l).getD i 0)) n := by unfold wgh; rw [if_neg hz, ← hTN, ← hwl, tab_map]
    have e2 : normC (wd p l) = 0 := by unfold normC; rw [if_neg hz]
    rw [e1, e2]
    rw [← hTN] at CWd hge hws hz
    obtain ⟨f, hf⟩ : ∃ f : Nat → Int, f = fun i => share TN ((wd p l).getD i 0) := ⟨_, rfl⟩
    rw [← hf]
    have hst : ∀ i, i < n → ∃ u v z : Int, p.getD i 0 = u ∧ l.getD i 0 = v ∧ u * v = z ∧ 0 ≤ z ∧ z ≤ 70368744177664 ∧ PureG 49 #[.int .i64 z, .int .i64 TN] (.int .i64 (f i)) := by
      intro i hi
      have h1 : (wd p l).getD i 0 = p.getD i 0 * l.getD i 0 := by unfold wd; exact tab_getD _ _ (by rw [hl]; exact hi)
      have h2 := getD_mem (P := fun u => 0 ≤ u ∧ u ≤ 70368744177664) hwr (by rw [hwl]; exact hi : i < (wd p l).length)
      have h3 := getD_mem (P := fun u => u ≤ TN) hge (by rw [hwl]; exact hi : i < (wd p l).length)
      have h4 := part_any ((wd p l).getD i 0) TN ⟨h2.1, h3⟩ (by omega)
      refine ⟨_, _, _, rfl, rfl, rfl, by rw [← h1]; exact h2.1, by rw [← h1]; exact h2.2, ?_⟩
      rw [← h1, hf]
      exact h4
    have HST := Lib.hid hst
    have CWd := Lib.hid CWd
    have CW := Lib.hid (fun a' cap' => rwith_any x y X Y s a n cap a' n cap')
    have HT := Lib.hid (fun i => i64s_tab f i)
    have HP := Lib.hid hp
    have HLn := Lib.hid hl
    have bz : (TN == 0) = false := by simpa using hz
    clear hp hl hws e1 e2 hS hT hge hr hall hlr hwr hwl hw0 hMX hTN hf hst
    (obtain ⟨w1, hw1⟩ : ∃ w1, w.alloc (.cells #[.int .i64 x, .int .i64 y, .int .i64 X, .int .i64 Y, .int .i64 s, .slice a n cap] 24) = w1 := ⟨_, rfl⟩; have M1 := (Mem.start w).alloc 24 (gc x y X Y s (.slice a n cap)); rw [show w.alloc (.cells (gc x y X Y s (.slice a n cap)).toArray 24) = w1 from hw1] at M1; obtain ⟨w2, hw2⟩ : ∃ w2, w1.alloc (.cells #[.int .i64 0, .int .i64 0, .int .i64 0, .int .i64 0, .int .i64 0, .slice none 0 0] 24) = w2 := ⟨_, rfl⟩; have M2 := M1.alloc 24 (gc 0 0 0 0 0 (.slice none 0 0)); rw [show w1.alloc (.cells (gc 0 0 0 0 0 (.slice none 0 0)).toArray 24) = w2 from hw2] at M2; have hsz : w1.heap.size = w.heap.size + 1 := (by rw [← hw1]; simp); have HW1 := Lib.hid hw1; have HW2 := Lib.hid hw2; clear hw1 hw2 M1)
    go_enter Try.func22, Try.ntmps22
    ((go_upto_region 1 with fail); rw [HW1.out, HW2.out, ← hsz]; clear HW1 HW2; obtain ⟨gB, hgB⟩ : ∃ gB, gB = w1.heap.size := ⟨_, rfl⟩; obtain ⟨gA, hgA⟩ : ∃ gA, gA = w.heap.size := ⟨_, rfl⟩; rw [← hgB] at M2 ⊢; rw [← hgA] at M2 ⊢; have hne : gA ≠ gB := (by omega); clear hgA hgB hsz)
    obtain ⟨c0, c1, c2, c3, c4, c5⟩ := gcells (M2.has (.tail _ _ _ _ _ (Has.head _ _ _ _)))
    go_wp2_with fail
    refine (CWd.out _ (HS.out.below M2.below) (HTl.out.below M2.below)).mono ?_
    rintro e w3 ⟨rfl, hA⟩
    replace M2 := M2.call hA
    clear CWd hA
    have hown : w3.ownsRow w.heap.size 2 1 (.slice none 0 0) 0 (i64s (tab f 0)) := World.ownsRow_nil _ _ _ _
    go_wp2_with fail
    go_loopw [8, 9] (fun v c wx => ∃ i : Nat, i ≤ n ∧ c = .int .i64 i ∧ wx.ownsRow w.heap.size 2 1 v i (i64s (tab f i)) ∧ Mem w wx [(gB, 24, gc 0 0 0 0 0 (.slice none 0 0)), (gA, 24, gc x y X Y s (.slice a n cap))]) (fun _ c _ => n - (intOf c).toNat)
    case atStart => exact ⟨0, Nat.zero_le _, rfl, hown, M2⟩
    case round =>
      clear hown M2 c0 c1 c2 c3 c4 c5
      obtain ⟨i, hi, rfl, ho, M⟩ := hrel
      by_cases hlt : i < n
      · obtain ⟨u, v, z, hu, hv, huv, hz0, hz1, HPt⟩ := HST.out i hlt
        obtain ⟨b, o, rfl, hbl, cu⟩ := cell64 (HS.out.below M.below) i (by rw [HP.out]; exact hlt)
        obtain ⟨bl, ol, rfl, hbl2, cv⟩ := cell64 (HTl.out.below M.below) i (by rw [HLn.out]; exact hlt)
        rw [hu] at cu
        rw [hv] at cv
        have wz : IntKind.i64.wrap z = z := IntWalk.i64_in _ (by omega)
        have c5 := M.cell (.tail _ _ _ _ _ (Has.head _ _ _ _)) (i := 5) rfl
        have HPt := Lib.hid HPt
        have HU := Lib.hid hu
        have HV := Lib.hid hv
        clear hu hv
        go_wp2_with fail
        refine wp_region_held_drew (S := (fun w' : World => w'.cell? ⟨gA, 5, none⟩ = some (.slice (some ⟨b, o, none⟩) n cap) ∧ w'.cell? ⟨b, o + i, none⟩ = some (.int .i64 u) ∧ w'.cell? ⟨bl, ol + i, none⟩ = some (.int .i64 v))) (by kernel_rfl) (⟨c5, cu, cv⟩) (fun hHeld => ?_)
        refine wpAnyH_take (i := 0) (v := ?v47) rfl (by kernel_rfl) (by kernel_rfl) (by kernel_rfl) (fun _ _ _ h => h) (Or.inl ⟨by rfl, ?hy47⟩) hHeld ?rest47
        case hy47 => (intro w' hSw; (try dsimp only at hSw); go_simp; (try with_reducible rfl))
        try simp only [Act.put, List.setIfInBounds_toArray, List.set_cons_zero, List.set_cons_succ, List.getElem_toArray, List.getElem_cons_zero, List.getElem_cons_succ]
        refine wpAnyH_take (i := 1) (v := ?v48) rfl (by kernel_rfl) (by kernel_rfl) (by kernel_rfl) (fun _ _ _ h => h) (Or.inl ⟨by rfl, ?hy48⟩) hHeld ?rest48
        case hy48 => (intro w' hSw; (try dsimp only at hSw); go_simp; (try with_reducible rfl))
        try simp only [Act.put, List.setIfInBounds_toArray, List.set_cons_zero, List.set_cons_succ, List.getElem_toArray, List.getElem_cons_zero, List.getElem_cons_succ]
        refine wpAnyH_take (i := 2) (v := ?v49) rfl (by kernel_rfl) (by kernel_rfl) (by kernel_rfl) (fun _ _ _ h => h) (Or.inl ⟨by rfl, ?hy49⟩) hHeld ?rest49
        case hy49 => (intro w' hSw; (try dsimp only at hSw); go_simp; (try with_reducible rfl))
        try simp only [Act.put, List.setIfInBounds_toArray, List.set_cons_zero, List.set_cons_succ, List.getElem_toArray, List.getElem_cons_zero, List.getElem_cons_succ]
        refine wpAnyH_take (i := 3) (v := ?v50) rfl (by kernel_rfl) (by kernel_rfl) (by kernel_rfl) (fun _ _ _ h => h) (Or.inl ⟨by rfl, ?hy50⟩) hHeld ?rest50
        case hy50 => (intro w' hSw; (try dsimp only at hSw); go_simp; (try with_reducible rfl))
        try simp only [Act.put, List.setIfInBounds_toArray, List.set_cons_zero, List.set_cons_succ, List.getElem_toArray, List.getElem_cons_zero, List.getElem_cons_succ]
        refine wpAnyH_take (i := 4) (v := ?v51) rfl (by kernel_rfl) (by kernel_rfl) (by kernel_rfl) (fun _ _ _ h => h) (Or.inl ⟨by rfl, ?hy51⟩) hHeld ?rest51
        case hy51 => (intro w' hSw; (try dsimp only at hSw); go_simp; (try with_reducible rfl))
        try simp only [Act.put, List.setIfInBounds_toArray, List.set_cons_zero, List.set_cons_succ, List.getElem_toArray, List.getElem_cons_zero, List.getElem_cons_succ]
        refine wpAnyH_take (i := 5) (v := ?v52) rfl (by kernel_rfl) (by kernel_rfl) (by kernel_rfl) (fun _ _ _ h => h) (Or.inl ⟨by rfl, ?hy52⟩) hHeld ?rest52
        case hy52 => (intro w' hSw; (try dsimp only at hSw); go_simp; (try with_reducible rfl))
        try simp only [Act.put, List.setIfInBounds_toArray, List.set_cons_zero, List.set_cons_succ, List.getElem_toArray, List.getElem_cons_zero, List.getElem_cons_succ]
        refine wpAnyH_take (i := 6) (v := ?v53) rfl (by kernel_rfl) (by kernel_rfl) (by kernel_rfl) (fun _ _ _ h => h) (Or.inl ⟨by rfl, ?hy53⟩) hHeld ?rest53
        case hy53 => (intro w' hSw; (try dsimp only at hSw); go_simp; (try with_reducible rfl))
        try simp only [Act.put, List.setIfInBounds_toArray, List.set_cons_zero, List.set_cons_succ, List.getElem_toArray, List.getElem_cons_zero, List.getElem_cons_succ]
        refine wpAnyH_take (i := 7) (v := ?v54) rfl (by kernel_rfl) (by kernel_rfl) (by kernel_rfl) (fun _ _ _ h => h) (Or.inl ⟨by rfl, ?hy54⟩) hHeld ?rest54
        case hy54 => (intro w' hSw; (try dsimp only at hSw); go_simp; (try with_reducible rfl))
        try simp only [Act.put, List.setIfInBounds_toArray, List.set_cons_zero, List.set_cons_succ, List.getElem_toArray, List.getElem_cons_zero, List.getElem_cons_succ]
        refine wpAnyH_take (i := 8) (v := ?v55) rfl (by kernel_rfl) (by kernel_rfl) (by kernel_rfl) (fun _ _ _ h => h) (Or.inl ⟨by rfl, ?hy55⟩) hHeld ?rest55
        case hy55 => (intro w' hSw; (try dsimp only at hSw); go_simp; (try with_reducible rfl))
        try simp only [Act.put, List.setIfInBounds_toArray, List.set_cons_zero, List.set_cons_succ, List.getElem_toArray, List.getElem_cons_zero, List.getElem_cons_succ]
        refine wpAnyH_take (i := 9) (v := ?v56) rfl (by kernel_rfl) (by kernel_rfl) (by kernel_rfl) (fun _ _ _ h => h) (Or.inl ⟨by rfl, ?hy56⟩) hHeld ?rest56
        case hy56 => (intro w' hSw; (try dsimp only at hSw); go_simp; (try with_reducible rfl))
        try simp only [Act.put, List.setIfInBounds_toArray, List.set_cons_zero, List.set_cons_succ, List.getElem_toArray, List.getElem_cons_zero, List.getElem_cons_succ]
        refine wpAnyH_take (i := 10) (v := ?v57) rfl (by kernel_rfl) (by kernel_rfl) (by kernel_rfl) (fun _ _ _ h => h) (Or.inl ⟨by rfl, ?hy57⟩) hHeld ?rest57
        case hy57 => (intro w' hSw; (try dsimp only at hSw); go_simp; (try with_reducible rfl))
        try simp only [Act.put, List.setIfInBounds_toArray, List.set_cons_zero, List.set_cons_succ, List.getElem_toArray, List.getElem_cons_zero, List.getElem_cons_succ]
        refine wpAnyH_take (i := 11) (v := ?v58) rfl (by kernel_rfl) (by kernel_rfl) (by kernel_rfl) (fun _ _ _ h => h) (Or.inl ⟨by rfl, ?hy58⟩) hHeld ?rest58
        case hy58 => (intro w' hSw; (try dsimp only at hSw); go_simp; (try with_reducible rfl))
        try simp only [Act.put, List.setIfInBounds_toArray, List.set_cons_zero, List.set_cons_succ, List.getElem_toArray, List.getElem_cons_zero, List.getElem_cons_succ]
        refine wpAnyH_ready (rs := [12]) (by kernel_rfl) (by simp) ?_
        refine AllReadyH.cons rfl (fun K hK => ?_) AllReadyH.nil
        go_simp
        refine (HPt.out _).mono ?_
        rintro e wx ⟨rfl, rfl⟩
        try go_wp2_with fail
        refine hK.out _ _ (⟨c5, cu, cv⟩) (fun hHeld => ?_)
        clear hK K
        try simp only [Act.put, List.setIfInBounds_toArray, List.set_cons_zero, List.set_cons_succ, List.getElem_toArray, List.getElem_cons_zero, List.getElem_cons_succ]
        refine wpAnyH_ready (rs := [13]) (by kernel_rfl) (by simp) ?_
        refine AllReadyH.cons rfl (fun K hK => ?_) AllReadyH.nil
        go_simp
        obtain ⟨w8, hw8⟩ : ∃ w8, (wr.alloc (.cells #[.int .i64 (f i)] 2)).drew = w8 := ⟨_, rfl⟩
        have hA : Below wr.heap.size wr w8 := by rw [← hw8]; exact ((Below.refl _ _).alloc (Nat.le_refl _) _).drew
        have p8 : Sl w8 1 (.slice (some ⟨wr.heap.size, 0, none⟩) 1 1) 1 [.int .i64 (f i)] := by rw [← hw8]; exact Sl.one wr _ _
        have M8 := M.call hA
        have ho8 := ownsRow_below ho hA
        (try simp only [hw8])
        clear hw8
        try go_wp2_with fail
        refine hK.out _ _ (⟨M8.cell (.tail _ _ _ _ _ (Has.head _ _ _ _)) (i := 5) rfl, (hA.cell (p := ⟨b, o + i, none⟩) hbl).trans cu, (hA.cell (p := ⟨bl, ol + i, none⟩) hbl2).trans cv⟩) (fun hHeld => ?_)
        clear hK K
        try simp only [Act.put, List.setIfInBounds_toArray, List.set_cons_zero, List.set_cons_succ, List.getElem_toArray, List.getElem_cons_zero, List.getElem_cons_succ]
        refine wpAnyH_ready (rs := [14]) (by kernel_rfl) (by simp) ?_
        refine AllReadyH.cons rfl (fun K hK => ?_) AllReadyH.nil
        rw [if_pos (by rfl)]
        refine wp_app E64 (.tmp 25) (.tmp 38) rfl w.heap.size rfl ho8 rfl p8 (by intro u hu; simp at hu; subst hu; rfl) (by unfold maxLen; omega) (by omega) M8.below.size ?_
        intro v9 w9 ho9 hg9 _
        have M9 := app_mem M8 (Below.refl _ _) ho8 hg9 (Nat.le_refl _) (by simp)
        obtain ⟨_, _, hee, _, e2⟩ := cell64 (HS.out.below M9.below) i (by rw [HP.out]; exact hlt)
        cases hee
        obtain ⟨_, _, hee, _, e3⟩ := cell64 (HTl.out.below M9.below) i (by rw [HLn.out]; exact hlt)
        cases hee
        rw [HU.out] at e2
        rw [HV.out] at e3
        obtain ⟨a9, c9, rfl, _, _⟩ := ownsRow_slice ho9
        rw [HT.out i] at ho9
        refine hK.out _ _ (⟨M9.cell (.tail _ _ _ _ _ (Has.head _ _ _ _)) (i := 5) rfl, e2, e3⟩) (fun hHeld => ?_)
        clear hK K
        try simp only [Act.put, List.setIfInBounds_toArray, List.set_cons_zero, List.set_cons_succ, List.getElem_toArray, List.getElem_cons_zero, List.getElem_cons_succ]
        refine wpAnyH_take (i := 15) (v := ?v62) rfl (by kernel_rfl) (by kernel_rfl) (by kernel_rfl) (fun _ _ _ h => h) (Or.inl ⟨by rfl, ?hy62⟩) hHeld ?rest62
        case hy62 => (intro w' hSw; (try dsimp only at hSw); go_simp; (try with_reducible rfl))
        try simp only [Act.put, List.setIfInBounds_toArray, List.set_cons_zero, List.set_cons_succ, List.getElem_toArray, List.getElem_cons_zero, List.getElem_cons_succ]
        refine wpAnyH_done (by kernel_rfl) ?_ _
        clear e2 e3 cu cv c5 ho8 p8 hg9 M8 hA ho M
        go_wp2_with fail
        go_roundw
        case rel => exact ⟨i + 1, by omega, by go_num, ho9, M9⟩
        case measure => simp [intOf]; omega
      · obtain rfl : n = i := by omega
        obtain ⟨a5, cap5, rfl, _, _⟩ := ownsRow_slice ho
        obtain ⟨c0, c1, c2, c3, c4, c5⟩ := gcells (M.has (.tail _ _ _ _ _ (Has.head _ _ _ _)))
        go_wp2_with fail
        refine (CW.out a5 cap5 _).mono ?_
        rintro e w5 ⟨rfl, hA⟩
        have M3 := M.call hA
        have ho5 := ownsRow_below ho hA
        clear c0 c1 c2 c3 c4 c5
        go_wp2_with ((with_reducible refine (?_ : Go.wpList _ _ _ (_ :: _) _ _)); (first | go_skip | (refine wpL_stM (v := gv x y X Y s (.slice a5 n cap5)) M3 rfl rfl rfl rfl (wr_g _ _ _ _ _ _ _ _ _ _ _ _ _ _) (Upd.head _ _ _ _ _) ?_; intro w4 M4 hT4)))
        have ho6 := gown_turned ho5 (M3.has (Has.head _ _ _ _)) (by decide) hT4
        ((try simp only [Exit.inBlock, Exit.then]); refine bodyPost_ret (res_cell_tmp rfl M4 rfl (Has.head _ _ _ _) (rd_g _ _ _ _ _ _) rfl) rfl ?_)
        exact ⟨_, _, rfl, Sl.of_own ho6, M4.below⟩
end Go.Proofs.Ytnfgogfbpggnfaa
