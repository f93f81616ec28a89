/-
  NatSums: the walk.
-/
import Derived.Test.YtghioakpigdagaaDoorLaw16m
set_option linter.unusedVariables false
set_option linter.unusedSimpArgs false
namespace Go.Proofs.YtghioakpigdagaaDoor
open Go Go.RowKit Go.Th Go.Th.Dig
set_option maxRecDepth 20000 in
set_option maxHeartbeats 6400000 in
theorem sums_heavy1 (a : Option Addr) (n ca : Nat) (b : Option Addr) (m cb : Nat) (wk : Works) (w : World) (hn : ¬ n ≤ 20) :
    Calls Tryd.prog 3 #[.slice a n ca, .slice b m cb] w fun e w' => e = .returned (.bool true) ∧ Below w.heap.size w w' := by
  have WK := Lib.hid wk
  clear wk
  have M0 := Mem.start w
  go_enter Tryd.func3, Tryd.ntmps3
  go_wp2_with fail
  refine (light_no _ _ _ hn).mono ?_
  rintro e w2 ⟨rfl, rfl⟩
  go_wp2_with ((with_reducible refine (?_ : Go.wpList _ _ _ (_ :: _) _ _)); (first | go_skip | (refine wpL_ldc M0 rfl rfl rfl ?_) | (refine wpL_lgc M0 rfl rfl rfl ?_) | (refine wpL_stc M0 rfl rfl rfl rfl ?_; clear M0; intro w' M0) | (refine wpL_sti M0 rfl rfl rfl rfl ?_; clear M0; intro w' M0) | (refine wpL_sth M0 rfl rfl rfl rfl (wr_minus _ _ _) ?_; clear M0; intro w' M0)))
  refine (WK.out _).mono ?_
  rintro e w1 ⟨rfl, hA⟩
  replace M0 := M0.call hA
  clear hA
  go_wp2_with ((with_reducible refine (?_ : Go.wpList _ _ _ (_ :: _) _ _)); (first | go_skip | (refine wpL_ldc M0 rfl rfl rfl ?_) | (refine wpL_lgc M0 rfl rfl rfl ?_) | (refine wpL_stc M0 rfl rfl rfl rfl ?_; clear M0; intro w' M0) | (refine wpL_sti M0 rfl rfl rfl rfl ?_; clear M0; intro w' M0) | (refine wpL_sth M0 rfl rfl rfl rfl (wr_minus _ _ _) ?_; clear M0; intro w' M0)))
  go_ret
  exact ⟨rfl, M0.below⟩

set_option maxRecDepth 20000 in
set_option maxHeartbeats 6400000 in
theorem sums_heavy2 (a : Option Addr) (n ca : Nat) (b : Option Addr) (m cb : Nat) (wk : Works) (w : World) (hn : n ≤ 20) (hm : ¬ m ≤ 20) :
    Calls Tryd.prog 3 #[.slice a n ca, .slice b m cb] w fun e w' => e = .returned (.bool true) ∧ Below w.heap.size w w' := by
  have WK := Lib.hid wk
  clear wk
  have M0 := Mem.start w
  go_enter Tryd.func3, Tryd.ntmps3
  go_wp2_with fail
  refine (light_yes _ _ _ hn).mono ?_
  rintro e w2 ⟨rfl, rfl⟩
  go_wp2_with fail
  refine (light_no _ _ _ hm).mono ?_
  rintro e w2 ⟨rfl, rfl⟩
  go_wp2_with ((with_reducible refine (?_ : Go.wpList _ _ _ (_ :: _) _ _)); (first | go_skip | (refine wpL_ldc M0 rfl rfl rfl ?_) | (refine wpL_lgc M0 rfl rfl rfl ?_) | (refine wpL_stc M0 rfl rfl rfl rfl ?_; clear M0; intro w' M0) | (refine wpL_sti M0 rfl rfl rfl rfl ?_; clear M0; intro w' M0) | (refine wpL_sth M0 rfl rfl rfl rfl (wr_minus _ _ _) ?_; clear M0; intro w' M0)))
  refine (WK.out _).mono ?_
  rintro e w1 ⟨rfl, hA⟩
  replace M0 := M0.call hA
  clear hA
  go_wp2_with ((with_reducible refine (?_ : Go.wpList _ _ _ (_ :: _) _ _)); (first | go_skip | (refine wpL_ldc M0 rfl rfl rfl ?_) | (refine wpL_lgc M0 rfl rfl rfl ?_) | (refine wpL_stc M0 rfl rfl rfl rfl ?_; clear M0; intro w' M0) | (refine wpL_sti M0 rfl rfl rfl rfl ?_; clear M0; intro w' M0) | (refine wpL_sth M0 rfl rfl rfl rfl (wr_minus _ _ _) ?_; clear M0; intro w' M0)))
  go_ret
  exact ⟨rfl, M0.below⟩

set_option maxRecDepth 20000 in
set_option maxHeartbeats 6400000 in
theorem sums_lt (a : Option Addr) (n ca : Nat) (b : Option Addr) (m cb : Nat) (p q s d : Nat) (z : Bool) (wk : Works) (w : World) (IA : In16 a n ca w p) (IB : In16 b m cb w q) (hn : n ≤ 20) (hm : m ≤ 20) (hs : Sm s) (hd : Sm d) (h1 : p + q = s) (h2 : p + d = q) (h3 : p + d = q ∨ q + d = p) (hl1 : decide (p < q) = true) (hl2 : decide (q < p) = false) (hc : cmpN p q = -1) (hz1 : decide (p = 0) = z) :
    Calls Tryd.prog 3 #[.slice a n ca, .slice b m cb] w fun e w' => e = .returned (.bool true) ∧ Below w.heap.size w w' := by
  have CA := Lib.hid IA.from_
  have DA := Lib.hid IA.of_
  have CB := Lib.hid IB.from_
  have DB := Lib.hid IB.of_
  have Sp := Lib.hid IA.sm
  have Sq := Lib.hid IB.sm
  have Ss := Lib.hid hs
  have Sd := Lib.hid hd
  have E1 := Lib.hid h1
  have E2 := Lib.hid h2
  have E3 := Lib.hid h3
  have L1 := Lib.hid hl1
  have L2 := Lib.hid hl2
  have EC := Lib.hid hc
  have Z1 := Lib.hid hz1
  clear IA IB hs hd h1 h2 h3 hl1 hl2 hc hz1
  have WK := Lib.hid wk
  clear wk
  have M0 := Mem.start w
  go_enter Tryd.func3, Tryd.ntmps3
  go_wp2_with fail
  refine (light_yes _ _ _ hn).mono ?_
  rintro e w2 ⟨rfl, rfl⟩
  go_wp2_with fail
  refine (light_yes _ _ _ hm).mono ?_
  rintro e w2 ⟨rfl, rfl⟩
  go_wp2_with ((with_reducible refine (?_ : Go.wpList _ _ _ (_ :: _) _ _)); (first | go_skip | (refine wpL_ldc M0 rfl rfl rfl ?_) | (refine wpL_lgc M0 rfl rfl rfl ?_) | (refine wpL_stc M0 rfl rfl rfl rfl ?_; clear M0; intro w' M0) | (refine wpL_sti M0 rfl rfl rfl rfl ?_; clear M0; intro w' M0) | (refine wpL_sth M0 rfl rfl rfl rfl (wr_minus _ _ _) ?_; clear M0; intro w' M0)))
  refine (CA.out _ M0.below).mono ?_
  rintro e w1 ⟨tv, rfl, hv, hA⟩
  replace M0 := M0.call hA
  obtain ⟨aHX, nHX, cHX, rfl, hz⟩ := hv.nm
  have HX : Hid (IsN w1 (.agg #[.slice aHX nHX cHX]) (p)) := Lib.hid hz
  clear hz hv
  clear hA
  go_wp2_with ((with_reducible refine (?_ : Go.wpList _ _ _ (_ :: _) _ _)); (first | go_skip | (refine wpL_ldc M0 rfl rfl rfl ?_) | (refine wpL_lgc M0 rfl rfl rfl ?_) | (refine wpL_stc M0 rfl rfl rfl rfl ?_; clear M0; intro w' M0) | (refine wpL_sti M0 rfl rfl rfl rfl ?_; clear M0; intro w' M0) | (refine wpL_sth M0 rfl rfl rfl rfl (wr_minus _ _ _) ?_; clear M0; intro w' M0)))
  refine (CB.out _ M0.below).mono ?_
  rintro e w1 ⟨tv, rfl, hv, hA⟩
  replace M0 := M0.call hA
  replace HX := Lib.hid (HX.out.below hA)
  obtain ⟨aHY, nHY, cHY, rfl, hz⟩ := hv.nm
  have HY : Hid (IsN w1 (.agg #[.slice aHY nHY cHY]) (q)) := Lib.hid hz
  clear hz hv
  clear hA
  have M10 := Mem.start w1
  go_upto_region 4 with ((with_reducible refine (?_ : Go.wpList _ _ _ (_ :: _) _ _)); (first | go_skip | (refine wpL_bx M10 rfl rfl rfl rfl ?_; clear M10; intro g11 w11 M11) | (refine wpL_alc M10 rfl rfl ?_; clear M10; intro g11 w11 M11) | (refine wpL_ldc M10 rfl rfl rfl ?_) | (refine wpL_lgc M10 rfl rfl rfl ?_) | (refine wpL_stc M10 rfl rfl rfl rfl ?_; clear M10; intro w' M10) | (refine wpL_sti M10 rfl rfl rfl rfl ?_; clear M10; intro w' M10) | (refine wpL_sth M10 rfl rfl rfl rfl (wr_minus _ _ _) ?_; clear M10; intro w' M10) | (refine wpL_bx M11 rfl rfl rfl rfl ?_; clear M11; intro g12 w12 M12) | (refine wpL_alc M11 rfl rfl ?_; clear M11; intro g12 w12 M12) | (refine wpL_ldc M11 rfl rfl rfl ?_) | (refine wpL_lgc M11 rfl rfl rfl ?_) | (refine wpL_stc M11 rfl rfl rfl rfl ?_; clear M11; intro w' M11) | (refine wpL_sti M11 rfl rfl rfl rfl ?_; clear M11; intro w' M11) | (refine wpL_sth M11 rfl rfl rfl rfl (wr_minus _ _ _) ?_; clear M11; intro w' M11) | (refine wpL_ldc M12 rfl rfl rfl ?_) | (refine wpL_lgc M12 rfl rfl rfl ?_) | (refine wpL_stc M12 rfl rfl rfl rfl ?_; clear M12; intro w' M12) | (refine wpL_sti M12 rfl rfl rfl rfl ?_; clear M12; intro w' M12) | (refine wpL_sth M12 rfl rfl rfl rfl (wr_minus _ _ _) ?_; clear M12; intro w' M12)))
  obtain ⟨w1, rfl⟩ : ∃ w1, w1 = w' := ⟨_, rfl⟩
  have hA := M12.below
  replace HX := Lib.hid (HX.out.below hA)
  replace HY := Lib.hid (HY.out.below hA)
  replace M0 : Mem w w1 [(g12, 26, [.slice aHY nHY cHY]), (g11, 26, [.slice aHX nHX cHX])] := Mem.join M0 M12
  clear hA M12
  go_wp2_with ((with_reducible refine (?_ : Go.wpList _ _ _ (_ :: _) _ _)); (first | go_skip | (refine wpL_ldc M0 rfl rfl rfl ?_) | (refine wpL_lgc M0 rfl rfl rfl ?_) | (refine wpL_stc M0 rfl rfl rfl rfl ?_; clear M0; intro w' M0) | (refine wpL_sti M0 rfl rfl rfl rfl ?_; clear M0; intro w' M0) | (refine wpL_sth M0 rfl rfl rfl rfl (wr_minus _ _ _) ?_; clear M0; intro w' M0)))
  refine (DA.out _ M0.below).mono ?_
  rintro e w1 ⟨tv, rfl, hv, hA⟩
  replace M0 := M0.call hA
  replace HX := Lib.hid (HX.out.below hA)
  replace HY := Lib.hid (HY.out.below hA)
  obtain ⟨aHP, nHP, cHP, rfl, lHP, hz⟩ := hv.nm
  have HP : Hid (Is16 w1 (.slice aHP nHP cHP) (p)) := Lib.hid hz
  have LHP := Lib.hid lHP
  clear lHP hz hv
  clear hA
  go_wp2_with ((with_reducible refine (?_ : Go.wpList _ _ _ (_ :: _) _ _)); (first | go_skip | (refine wpL_ldc M0 rfl rfl rfl ?_) | (refine wpL_lgc M0 rfl rfl rfl ?_) | (refine wpL_stc M0 rfl rfl rfl rfl ?_; clear M0; intro w' M0) | (refine wpL_sti M0 rfl rfl rfl rfl ?_; clear M0; intro w' M0) | (refine wpL_sth M0 rfl rfl rfl rfl (wr_minus _ _ _) ?_; clear M0; intro w' M0)))
  refine (DB.out _ M0.below).mono ?_
  rintro e w1 ⟨tv, rfl, hv, hA⟩
  replace M0 := M0.call hA
  replace HX := Lib.hid (HX.out.below hA)
  replace HY := Lib.hid (HY.out.below hA)
  replace HP := Lib.hid (HP.out.below hA)
  obtain ⟨aHQ, nHQ, cHQ, rfl, lHQ, hz⟩ := hv.nm
  have HQ : Hid (Is16 w1 (.slice aHQ nHQ cHQ) (q)) := Lib.hid hz
  have LHQ := Lib.hid lHQ
  clear lHQ hz hv
  clear hA
  go_wp2_with ((with_reducible refine (?_ : Go.wpList _ _ _ (_ :: _) _ _)); (first | go_skip | (refine wpL_ldc M0 rfl rfl rfl ?_) | (refine wpL_lgc M0 rfl rfl rfl ?_) | (refine wpL_stc M0 rfl rfl rfl rfl ?_; clear M0; intro w' M0) | (refine wpL_sti M0 rfl rfl rfl rfl ?_; clear M0; intro w' M0) | (refine wpL_sth M0 rfl rfl rfl rfl (wr_minus _ _ _) ?_; clear M0; intro w' M0)))
  refine (is_yes _ _ p _ HX.out HP.out Sp.out).mono ?_
  rintro e w1 ⟨rfl, hA⟩
  replace M0 := M0.call hA
  replace HX := Lib.hid (HX.out.below hA)
  replace HY := Lib.hid (HY.out.below hA)
  replace HP := Lib.hid (HP.out.below hA)
  replace HQ := Lib.hid (HQ.out.below hA)
  clear hA
  go_wp2_with ((with_reducible refine (?_ : Go.wpList _ _ _ (_ :: _) _ _)); (first | go_skip | (refine wpL_ldc M0 rfl rfl rfl ?_) | (refine wpL_lgc M0 rfl rfl rfl ?_) | (refine wpL_stc M0 rfl rfl rfl rfl ?_; clear M0; intro w' M0) | (refine wpL_sti M0 rfl rfl rfl rfl ?_; clear M0; intro w' M0) | (refine wpL_sth M0 rfl rfl rfl rfl (wr_minus _ _ _) ?_; clear M0; intro w' M0)))
  refine (add16 _ _ p q s _ HX.out HY.out Sp.out Sq.out E1.out).mono ?_
  rintro e w1 ⟨tv, rfl, hv, hA⟩
  replace M0 := M0.call hA
  replace HX := Lib.hid (HX.out.below hA)
  replace HY := Lib.hid (HY.out.below hA)
  replace HP := Lib.hid (HP.out.below hA)
  replace HQ := Lib.hid (HQ.out.below hA)
  obtain ⟨aHS, nHS, cHS, rfl, hz⟩ := hv.nm
  have HS : Hid (IsN w1 (.agg #[.slice aHS nHS cHS]) (s)) := Lib.hid hz
  clear hz hv
  clear hA
  go_wp2_with ((with_reducible refine (?_ : Go.wpList _ _ _ (_ :: _) _ _)); (first | go_skip | (refine wpL_ldc M0 rfl rfl rfl ?_) | (refine wpL_lgc M0 rfl rfl rfl ?_) | (refine wpL_stc M0 rfl rfl rfl rfl ?_; clear M0; intro w' M0) | (refine wpL_sti M0 rfl rfl rfl rfl ?_; clear M0; intro w' M0) | (refine wpL_sth M0 rfl rfl rfl rfl (wr_minus _ _ _) ?_; clear M0; intro w' M0)))
  refine (radd16 _ _ p q s _ HP.out HQ.out Sp.out Sq.out E1.out).mono ?_
  rintro e w1 ⟨tv, rfl, hv, hA⟩
  replace M0 := M0.call hA
  replace HX := Lib.hid (HX.out.below hA)
  replace HY := Lib.hid (HY.out.below hA)
  replace HP := Lib.hid (HP.out.below hA)
  replace HQ := Lib.hid (HQ.out.below hA)
  replace HS := Lib.hid (HS.out.below hA)
  obtain ⟨aHT, nHT, cHT, rfl, lHT, hz⟩ := hv.nm
  have HT : Hid (Is16 w1 (.slice aHT nHT cHT) (s)) := Lib.hid hz
  have LHT := Lib.hid lHT
  clear lHT hz hv
  clear hA
  go_wp2_with ((with_reducible refine (?_ : Go.wpList _ _ _ (_ :: _) _ _)); (first | go_skip | (refine wpL_ldc M0 rfl rfl rfl ?_) | (refine wpL_lgc M0 rfl rfl rfl ?_) | (refine wpL_stc M0 rfl rfl rfl rfl ?_; clear M0; intro w' M0) | (refine wpL_sti M0 rfl rfl rfl rfl ?_; clear M0; intro w' M0) | (refine wpL_sth M0 rfl rfl rfl rfl (wr_minus _ _ _) ?_; clear M0; intro w' M0)))
  refine (is_yes _ _ s _ HS.out HT.out Ss.out).mono ?_
  rintro e w1 ⟨rfl, hA⟩
  replace M0 := M0.call hA
  replace HX := Lib.hid (HX.out.below hA)
  replace HY := Lib.hid (HY.out.below hA)
  replace HP := Lib.hid (HP.out.below hA)
  replace HQ := Lib.hid (HQ.out.below hA)
  replace HS := Lib.hid (HS.out.below hA)
  replace HT := Lib.hid (HT.out.below hA)
  clear hA
  clear HS
  clear HT
  go_wp2_with ((with_reducible refine (?_ : Go.wpList _ _ _ (_ :: _) _ _)); (first | go_skip | (refine wpL_ldc M0 rfl rfl rfl ?_) | (refine wpL_lgc M0 rfl rfl rfl ?_) | (refine wpL_stc M0 rfl rfl rfl rfl ?_; clear M0; intro w' M0) | (refine wpL_sti M0 rfl rfl rfl rfl ?_; clear M0; intro w' M0) | (refine wpL_sth M0 rfl rfl rfl rfl (wr_minus _ _ _) ?_; clear M0; intro w' M0)))
  refine (less16 _ _ p q true _ HP.out HQ.out Sp.out Sq.out L1.out).mono ?_
  rintro e w1 ⟨rfl, hA⟩
  replace M0 := M0.call hA
  replace HX := Lib.hid (HX.out.below hA)
  replace HY := Lib.hid (HY.out.below hA)
  replace HP := Lib.hid (HP.out.below hA)
  replace HQ := Lib.hid (HQ.out.below hA)
  clear hA
  go_wp2_with ((with_reducible refine (?_ : Go.wpList _ _ _ (_ :: _) _ _)); (first | go_skip | (refine wpL_ldc M0 rfl rfl rfl ?_) | (refine wpL_lgc M0 rfl rfl rfl ?_) | (refine wpL_stc M0 rfl rfl rfl rfl ?_; clear M0; intro w' M0) | (refine wpL_sti M0 rfl rfl rfl rfl ?_; clear M0; intro w' M0) | (refine wpL_sth M0 rfl rfl rfl rfl (wr_minus _ _ _) ?_; clear M0; intro w' M0)))
  refine (less16 _ _ q p false _ HQ.out HP.out Sq.out Sp.out L2.out).mono ?_
  rintro e w1 ⟨rfl, hA⟩
  replace M0 := M0.call hA
  replace HX := Lib.hid (HX.out.below hA)
  replace HY := Lib.hid (HY.out.below hA)
  replace HP := Lib.hid (HP.out.below hA)
  replace HQ := Lib.hid (HQ.out.below hA)
  clear hA
  go_wp2_with ((with_reducible refine (?_ : Go.wpList _ _ _ (_ :: _) _ _)); (first | go_skip | (refine wpL_ldc M0 rfl rfl rfl ?_) | (refine wpL_lgc M0 rfl rfl rfl ?_) | (refine wpL_stc M0 rfl rfl rfl rfl ?_; clear M0; intro w' M0) | (refine wpL_sti M0 rfl rfl rfl rfl ?_; clear M0; intro w' M0) | (refine wpL_sth M0 rfl rfl rfl rfl (wr_minus _ _ _) ?_; clear M0; intro w' M0)))
  refine (sub16 _ _ p q d _ HX.out HY.out Sp.out Sq.out E3.out).mono ?_
  rintro e w1 ⟨tv, rfl, hv, hA⟩
  replace M0 := M0.call hA
  replace HX := Lib.hid (HX.out.below hA)
  replace HY := Lib.hid (HY.out.below hA)
  replace HP := Lib.hid (HP.out.below hA)
  replace HQ := Lib.hid (HQ.out.below hA)
  obtain ⟨aHD, nHD, cHD, rfl, hz⟩ := hv.nm
  have HD : Hid (IsN w1 (.agg #[.slice aHD nHD cHD]) (d)) := Lib.hid hz
  clear hz hv
  clear hA
  have M20 := Mem.start w1
  go_upto_region 15 with ((with_reducible refine (?_ : Go.wpList _ _ _ (_ :: _) _ _)); (first | go_skip | (refine wpL_bx M20 rfl rfl rfl rfl ?_; clear M20; intro g21 w21 M21) | (refine wpL_alc M20 rfl rfl ?_; clear M20; intro g21 w21 M21) | (refine wpL_ldc M20 rfl rfl rfl ?_) | (refine wpL_lgc M20 rfl rfl rfl ?_) | (refine wpL_stc M20 rfl rfl rfl rfl ?_; clear M20; intro w' M20) | (refine wpL_sti M20 rfl rfl rfl rfl ?_; clear M20; intro w' M20) | (refine wpL_sth M20 rfl rfl rfl rfl (wr_minus _ _ _) ?_; clear M20; intro w' M20) | (refine wpL_ldc M21 rfl rfl rfl ?_) | (refine wpL_lgc M21 rfl rfl rfl ?_) | (refine wpL_stc M21 rfl rfl rfl rfl ?_; clear M21; intro w' M21) | (refine wpL_sti M21 rfl rfl rfl rfl ?_; clear M21; intro w' M21) | (refine wpL_sth M21 rfl rfl rfl rfl (wr_minus _ _ _) ?_; clear M21; intro w' M21)))
  obtain ⟨w1, rfl⟩ : ∃ w1, w1 = w' := ⟨_, rfl⟩
  have hA := M21.below
  replace HX := Lib.hid (HX.out.below hA)
  replace HY := Lib.hid (HY.out.below hA)
  replace HP := Lib.hid (HP.out.below hA)
  replace HQ := Lib.hid (HQ.out.below hA)
  replace HD := Lib.hid (HD.out.below hA)
  replace M0 : Mem w w1 [(g21, 26, [.slice aHD nHD cHD]), (g12, 26, [.slice aHY nHY cHY]), (g11, 26, [.slice aHX nHX cHX])] := Mem.join M0 M21
  clear hA M21
  go_wp2_with ((with_reducible refine (?_ : Go.wpList _ _ _ (_ :: _) _ _)); (first | go_skip | (refine wpL_ldc M0 rfl rfl rfl ?_) | (refine wpL_lgc M0 rfl rfl rfl ?_) | (refine wpL_stc M0 rfl rfl rfl rfl ?_; clear M0; intro w' M0) | (refine wpL_sti M0 rfl rfl rfl rfl ?_; clear M0; intro w' M0) | (refine wpL_sth M0 rfl rfl rfl rfl (wr_minus _ _ _) ?_; clear M0; intro w' M0)))
  refine (cmp16 _ _ p q (-1) _ HX.out HY.out Sp.out Sq.out EC.out).mono ?_
  rintro e w1 ⟨rfl, hA⟩
  replace M0 := M0.call hA
  replace HX := Lib.hid (HX.out.below hA)
  replace HY := Lib.hid (HY.out.below hA)
  replace HP := Lib.hid (HP.out.below hA)
  replace HQ := Lib.hid (HQ.out.below hA)
  replace HD := Lib.hid (HD.out.below hA)
  clear hA
  go_wp2_with ((with_reducible refine (?_ : Go.wpList _ _ _ (_ :: _) _ _)); (first | go_skip | (refine wpL_ldc M0 rfl rfl rfl ?_) | (refine wpL_lgc M0 rfl rfl rfl ?_) | (refine wpL_stc M0 rfl rfl rfl rfl ?_; clear M0; intro w' M0) | (refine wpL_sti M0 rfl rfl rfl rfl ?_; clear M0; intro w' M0) | (refine wpL_sth M0 rfl rfl rfl rfl (wr_minus _ _ _) ?_; clear M0; intro w' M0)))
  refine (parts16 _ d _ HD.out Sd.out).mono ?_
  rintro e w1 ⟨tv, rfl, hv, hA⟩
  replace M0 := M0.call hA
  replace HX := Lib.hid (HX.out.below hA)
  replace HY := Lib.hid (HY.out.below hA)
  replace HP := Lib.hid (HP.out.below hA)
  replace HQ := Lib.hid (HQ.out.below hA)
  replace HD := Lib.hid (HD.out.below hA)
  obtain ⟨aHE, nHE, cHE, rfl, lHE, hz⟩ := hv.nm
  have HE : Hid (Is32 w1 (.slice aHE nHE cHE) (d)) := Lib.hid hz
  clear lHE hz hv
  clear hA
  go_wp2_with ((with_reducible refine (?_ : Go.wpList _ _ _ (_ :: _) _ _)); (first | go_skip | (refine wpL_ldc M0 rfl rfl rfl ?_) | (refine wpL_lgc M0 rfl rfl rfl ?_) | (refine wpL_stc M0 rfl rfl rfl rfl ?_; clear M0; intro w' M0) | (refine wpL_sti M0 rfl rfl rfl rfl ?_; clear M0; intro w' M0) | (refine wpL_sth M0 rfl rfl rfl rfl (wr_minus _ _ _) ?_; clear M0; intro w' M0)))
  refine (rof16 _ d _ HE.out Sd.out).mono ?_
  rintro e w1 ⟨tv, rfl, hv, hA⟩
  replace M0 := M0.call hA
  replace HX := Lib.hid (HX.out.below hA)
  replace HY := Lib.hid (HY.out.below hA)
  replace HP := Lib.hid (HP.out.below hA)
  replace HQ := Lib.hid (HQ.out.below hA)
  replace HD := Lib.hid (HD.out.below hA)
  replace HE := Lib.hid (HE.out.below hA)
  obtain ⟨aHF, nHF, cHF, rfl, lHF, hz⟩ := hv.nm
  have HF : Hid (Is16 w1 (.slice aHF nHF cHF) (d)) := Lib.hid hz
  have LHF := Lib.hid lHF
  clear lHF hz hv
  clear hA
  go_wp2_with ((with_reducible refine (?_ : Go.wpList _ _ _ (_ :: _) _ _)); (first | go_skip | (refine wpL_ldc M0 rfl rfl rfl ?_) | (refine wpL_lgc M0 rfl rfl rfl ?_) | (refine wpL_stc M0 rfl rfl rfl rfl ?_; clear M0; intro w' M0) | (refine wpL_sti M0 rfl rfl rfl rfl ?_; clear M0; intro w' M0) | (refine wpL_sth M0 rfl rfl rfl rfl (wr_minus _ _ _) ?_; clear M0; intro w' M0)))
  refine (radd16 _ _ p d q _ HP.out HF.out Sp.out Sd.out E2.out).mono ?_
  rintro e w1 ⟨tv, rfl, hv, hA⟩
  replace M0 := M0.call hA
  replace HX := Lib.hid (HX.out.below hA)
  replace HY := Lib.hid (HY.out.below hA)
  replace HP := Lib.hid (HP.out.below hA)
  replace HQ := Lib.hid (HQ.out.below hA)
  replace HD := Lib.hid (HD.out.below hA)
  replace HE := Lib.hid (HE.out.below hA)
  replace HF := Lib.hid (HF.out.below hA)
  obtain ⟨aHG, nHG, cHG, rfl, lHG, hz⟩ := hv.nm
  have HG : Hid (Is16 w1 (.slice aHG nHG cHG) (q)) := Lib.hid hz
  have LHG := Lib.hid lHG
  clear lHG hz hv
  clear hA
  go_wp2_with ((with_reducible refine (?_ : Go.wpList _ _ _ (_ :: _) _ _)); (first | go_skip | (refine wpL_ldc M0 rfl rfl rfl ?_) | (refine wpL_lgc M0 rfl rfl rfl ?_) | (refine wpL_stc M0 rfl rfl rfl rfl ?_; clear M0; intro w' M0) | (refine wpL_sti M0 rfl rfl rfl rfl ?_; clear M0; intro w' M0) | (refine wpL_sth M0 rfl rfl rfl rfl (wr_minus _ _ _) ?_; clear M0; intro w' M0)))
  refine (same_yes _ _ q _ HG.out HQ.out Sq.out).mono ?_
  rintro e w1 ⟨rfl, hA⟩
  replace M0 := M0.call hA
  replace HX := Lib.hid (HX.out.below hA)
  replace HY := Lib.hid (HY.out.below hA)
  replace HP := Lib.hid (HP.out.below hA)
  replace HQ := Lib.hid (HQ.out.below hA)
  replace HD := Lib.hid (HD.out.below hA)
  replace HE := Lib.hid (HE.out.below hA)
  replace HF := Lib.hid (HF.out.below hA)
  replace HG := Lib.hid (HG.out.below hA)
  clear hA
  clear HE
  clear HF
  clear HG
  have hz2 : z = ((nHP : Int) == 0) := len16_b LHP.out Z1.out
  go_wp2_with ((with_reducible refine (?_ : Go.wpList _ _ _ (_ :: _) _ _)); (first | go_skip | (refine wpL_ldc M0 rfl rfl rfl ?_) | (refine wpL_lgc M0 rfl rfl rfl ?_) | (refine wpL_stc M0 rfl rfl rfl rfl ?_; clear M0; intro w' M0) | (refine wpL_sti M0 rfl rfl rfl rfl ?_; clear M0; intro w' M0) | (refine wpL_sth M0 rfl rfl rfl rfl (wr_minus _ _ _) ?_; clear M0; intro w' M0)))
  refine (zero16 _ p z _ HX.out Sp.out Z1.out).mono ?_
  rintro e w1 ⟨rfl, hA⟩
  replace M0 := M0.call hA
  replace HX := Lib.hid (HX.out.below hA)
  replace HY := Lib.hid (HY.out.below hA)
  replace HP := Lib.hid (HP.out.below hA)
  replace HQ := Lib.hid (HQ.out.below hA)
  replace HD := Lib.hid (HD.out.below hA)
  clear hA
  go_wp2_with ((with_reducible refine (?_ : Go.wpList _ _ _ (_ :: _) _ _)); (first | go_skip | (refine wpL_ldc M0 rfl rfl rfl ?_) | (refine wpL_lgc M0 rfl rfl rfl ?_) | (refine wpL_stc M0 rfl rfl rfl rfl ?_; clear M0; intro w' M0) | (refine wpL_sti M0 rfl rfl rfl rfl ?_; clear M0; intro w' M0) | (refine wpL_sth M0 rfl rfl rfl rfl (wr_minus _ _ _) ?_; clear M0; intro w' M0)))
  refine (WK.out _).mono ?_
  rintro e w1 ⟨rfl, hA⟩
  replace M0 := M0.call hA
  replace HX := Lib.hid (HX.out.below hA)
  replace HY := Lib.hid (HY.out.below hA)
  replace HP := Lib.hid (HP.out.below hA)
  replace HQ := Lib.hid (HQ.out.below hA)
  replace HD := Lib.hid (HD.out.below hA)
  clear hA
  go_wp2_with ((with_reducible refine (?_ : Go.wpList _ _ _ (_ :: _) _ _)); (first | go_skip | (refine wpL_ldc M0 rfl rfl rfl ?_) | (refine wpL_lgc M0 rfl rfl rfl ?_) | (refine wpL_stc M0 rfl rfl rfl rfl ?_; clear M0; intro w' M0) | (refine wpL_sti M0 rfl rfl rfl rfl ?_; clear M0; intro w' M0) | (refine wpL_sth M0 rfl rfl rfl rfl (wr_minus _ _ _) ?_; clear M0; intro w' M0)))
  go_ret
  exact ⟨rfl, M0.below⟩

set_option maxRecDepth 20000 in
set_option maxHeartbeats 6400000 in
theorem sums_gt (a : Option Addr) (n ca : Nat) (b : Option Addr) (m cb : Nat) (p q s d : Nat) (z : Bool) (wk : Works) (w : World) (IA : In16 a n ca w p) (IB : In16 b m cb w q) (hn : n ≤ 20) (hm : m ≤ 20) (hs : Sm s) (hd : Sm d) (h1 : p + q = s) (h2 : q + d = p) (h3 : p + d = q ∨ q + d = p) (hl1 : decide (p < q) = false) (hl2 : decide (q < p) = true) (hc : cmpN p q = 1) (hz1 : decide (p = 0) = z) :
    Calls Tryd.prog 3 #[.slice a n ca, .slice b m cb] w fun e w' => e = .returned (.bool true) ∧ Below w.heap.size w w' := by
  have CA := Lib.hid IA.from_
  have DA := Lib.hid IA.of_
  have CB := Lib.hid IB.from_
  have DB := Lib.hid IB.of_
  have Sp := Lib.hid IA.sm
  have Sq := Lib.hid IB.sm
  have Ss := Lib.hid hs
  have Sd := Lib.hid hd
  have E1 := Lib.hid h1
  have E2 := Lib.hid h2
  have E3 := Lib.hid h3
  have L1 := Lib.hid hl1
  have L2 := Lib.hid hl2
  have EC := Lib.hid hc
  have Z1 := Lib.hid hz1
  clear IA IB hs hd h1 h2 h3 hl1 hl2 hc hz1
  have WK := Lib.hid wk
  clear wk
  have M0 := Mem.start w
  go_enter Tryd.func3, Tryd.ntmps3
  go_wp2_with fail
  refine (light_yes _ _ _ hn).mono ?_
  rintro e w2 ⟨rfl, rfl⟩
  go_wp2_with fail
  refine (light_yes _ _ _ hm).mono ?_
  rintro e w2 ⟨rfl, rfl⟩
  go_wp2_with ((with_reducible refine (?_ : Go.wpList _ _ _ (_ :: _) _ _)); (first | go_skip | (refine wpL_ldc M0 rfl rfl rfl ?_) | (refine wpL_lgc M0 rfl rfl rfl ?_) | (refine wpL_stc M0 rfl rfl rfl rfl ?_; clear M0; intro w' M0) | (refine wpL_sti M0 rfl rfl rfl rfl ?_; clear M0; intro w' M0) | (refine wpL_sth M0 rfl rfl rfl rfl (wr_minus _ _ _) ?_; clear M0; intro w' M0)))
  refine (CA.out _ M0.below).mono ?_
  rintro e w1 ⟨tv, rfl, hv, hA⟩
  replace M0 := M0.call hA
  obtain ⟨aHX, nHX, cHX, rfl, hz⟩ := hv.nm
  have HX : Hid (IsN w1 (.agg #[.slice aHX nHX cHX]) (p)) := Lib.hid hz
  clear hz hv
  clear hA
  go_wp2_with ((with_reducible refine (?_ : Go.wpList _ _ _ (_ :: _) _ _)); (first | go_skip | (refine wpL_ldc M0 rfl rfl rfl ?_) | (refine wpL_lgc M0 rfl rfl rfl ?_) | (refine wpL_stc M0 rfl rfl rfl rfl ?_; clear M0; intro w' M0) | (refine wpL_sti M0 rfl rfl rfl rfl ?_; clear M0; intro w' M0) | (refine wpL_sth M0 rfl rfl rfl rfl (wr_minus _ _ _) ?_; clear M0; intro w' M0)))
  refine (CB.out _ M0.below).mono ?_
  rintro e w1 ⟨tv, rfl, hv, hA⟩
  replace M0 := M0.call hA
  replace HX := Lib.hid (HX.out.below hA)
  obtain ⟨aHY, nHY, cHY, rfl, hz⟩ := hv.nm
  have HY : Hid (IsN w1 (.agg #[.slice aHY nHY cHY]) (q)) := Lib.hid hz
  clear hz hv
  clear hA
  have M10 := Mem.start w1
  go_upto_region 4 with ((with_reducible refine (?_ : Go.wpList _ _ _ (_ :: _) _ _)); (first | go_skip | (refine wpL_bx M10 rfl rfl rfl rfl ?_; clear M10; intro g11 w11 M11) | (refine wpL_alc M10 rfl rfl ?_; clear M10; intro g11 w11 M11) | (refine wpL_ldc M10 rfl rfl rfl ?_) | (refine wpL_lgc M10 rfl rfl rfl ?_) | (refine wpL_stc M10 rfl rfl rfl rfl ?_; clear M10; intro w' M10) | (refine wpL_sti M10 rfl rfl rfl rfl ?_; clear M10; intro w' M10) | (refine wpL_sth M10 rfl rfl rfl rfl (wr_minus _ _ _) ?_; clear M10; intro w' M10) | (refine wpL_bx M11 rfl rfl rfl rfl ?_; clear M11; intro g12 w12 M12) | (refine wpL_alc M11 rfl rfl ?_; clear M11; intro g12 w12 M12) | (refine wpL_ldc M11 rfl rfl rfl ?_) | (refine wpL_lgc M11 rfl rfl rfl ?_) | (refine wpL_stc M11 rfl rfl rfl rfl ?_; clear M11; intro w' M11) | (refine wpL_sti M11 rfl rfl rfl rfl ?_; clear M11; intro w' M11) | (refine wpL_sth M11 rfl rfl rfl rfl (wr_minus _ _ _) ?_; clear M11; intro w' M11) | (refine wpL_ldc M12 rfl rfl rfl ?_) | (refine wpL_lgc M12 rfl rfl rfl ?_) | (refine wpL_stc M12 rfl rfl rfl rfl ?_; clear M12; intro w' M12) | (refine wpL_sti M12 rfl rfl rfl rfl ?_; clear M12; intro w' M12) | (refine wpL_sth M12 rfl rfl rfl rfl (wr_minus _ _ _) ?_; clear M12; intro w' M12)))
  obtain ⟨w1, rfl⟩ : ∃ w1, w1 = w' := ⟨_, rfl⟩
  have hA := M12.below
  replace HX := Lib.hid (HX.out.below hA)
  replace HY := Lib.hid (HY.out.below hA)
  replace M0 : Mem w w1 [(g12, 26, [.slice aHY nHY cHY]), (g11, 26, [.slice aHX nHX cHX])] := Mem.join M0 M12
  clear hA M12
  go_wp2_with ((with_reducible refine (?_ : Go.wpList _ _ _ (_ :: _) _ _)); (first | go_skip | (refine wpL_ldc M0 rfl rfl rfl ?_) | (refine wpL_lgc M0 rfl rfl rfl ?_) | (refine wpL_stc M0 rfl rfl rfl rfl ?_; clear M0; intro w' M0) | (refine wpL_sti M0 rfl rfl rfl rfl ?_; clear M0; intro w' M0) | (refine wpL_sth M0 rfl rfl rfl rfl (wr_minus _ _ _) ?_; clear M0; intro w' M0)))
  refine (DA.out _ M0.below).mono ?_
  rintro e w1 ⟨tv, rfl, hv, hA⟩
  replace M0 := M0.call hA
  replace HX := Lib.hid (HX.out.below hA)
  replace HY := Lib.hid (HY.out.below hA)
  obtain ⟨aHP, nHP, cHP, rfl, lHP, hz⟩ := hv.nm
  have HP : Hid (Is16 w1 (.slice aHP nHP cHP) (p)) := Lib.hid hz
  have LHP := Lib.hid lHP
  clear lHP hz hv
  clear hA
  go_wp2_with ((with_reducible refine (?_ : Go.wpList _ _ _ (_ :: _) _ _)); (first | go_skip | (refine wpL_ldc M0 rfl rfl rfl ?_) | (refine wpL_lgc M0 rfl rfl rfl ?_) | (refine wpL_stc M0 rfl rfl rfl rfl ?_; clear M0; intro w' M0) | (refine wpL_sti M0 rfl rfl rfl rfl ?_; clear M0; intro w' M0) | (refine wpL_sth M0 rfl rfl rfl rfl (wr_minus _ _ _) ?_; clear M0; intro w' M0)))
  refine (DB.out _ M0.below).mono ?_
  rintro e w1 ⟨tv, rfl, hv, hA⟩
  replace M0 := M0.call hA
  replace HX := Lib.hid (HX.out.below hA)
  replace HY := Lib.hid (HY.out.below hA)
  replace HP := Lib.hid (HP.out.below hA)
  obtain ⟨aHQ, nHQ, cHQ, rfl, lHQ, hz⟩ := hv.nm
  have HQ : Hid (Is16 w1 (.slice aHQ nHQ cHQ) (q)) := Lib.hid hz
  have LHQ := Lib.hid lHQ
  clear lHQ hz hv
  clear hA
  go_wp2_with ((with_reducible refine (?_ : Go.wpList _ _ _ (_ :: _) _ _)); (first | go_skip | (refine wpL_ldc M0 rfl rfl rfl ?_) | (refine wpL_lgc M0 rfl rfl rfl ?_) | (refine wpL_stc M0 rfl rfl rfl rfl ?_; clear M0; intro w' M0) | (refine wpL_sti M0 rfl rfl rfl rfl ?_; clear M0; intro w' M0) | (refine wpL_sth M0 rfl rfl rfl rfl (wr_minus _ _ _) ?_; clear M0; intro w' M0)))
  refine (is_yes _ _ p _ HX.out HP.out Sp.out).mono ?_
  rintro e w1 ⟨rfl, hA⟩
  replace M0 := M0.call hA
  replace HX := Lib.hid (HX.out.below hA)
  replace HY := Lib.hid (HY.out.below hA)
  replace HP := Lib.hid (HP.out.below hA)
  replace HQ := Lib.hid (HQ.out.below hA)
  clear hA
  go_wp2_with ((with_reducible refine (?_ : Go.wpList _ _ _ (_ :: _) _ _)); (first | go_skip | (refine wpL_ldc M0 rfl rfl rfl ?_) | (refine wpL_lgc M0 rfl rfl rfl ?_) | (refine wpL_stc M0 rfl rfl rfl rfl ?_; clear M0; intro w' M0) | (refine wpL_sti M0 rfl rfl rfl rfl ?_; clear M0; intro w' M0) | (refine wpL_sth M0 rfl rfl rfl rfl (wr_minus _ _ _) ?_; clear M0; intro w' M0)))
  refine (add16 _ _ p q s _ HX.out HY.out Sp.out Sq.out E1.out).mono ?_
  rintro e w1 ⟨tv, rfl, hv, hA⟩
  replace M0 := M0.call hA
  replace HX := Lib.hid (HX.out.below hA)
  replace HY := Lib.hid (HY.out.below hA)
  replace HP := Lib.hid (HP.out.below hA)
  replace HQ := Lib.hid (HQ.out.below hA)
  obtain ⟨aHS, nHS, cHS, rfl, hz⟩ := hv.nm
  have HS : Hid (IsN w1 (.agg #[.slice aHS nHS cHS]) (s)) := Lib.hid hz
  clear hz hv
  clear hA
  go_wp2_with ((with_reducible refine (?_ : Go.wpList _ _ _ (_ :: _) _ _)); (first | go_skip | (refine wpL_ldc M0 rfl rfl rfl ?_) | (refine wpL_lgc M0 rfl rfl rfl ?_) | (refine wpL_stc M0 rfl rfl rfl rfl ?_; clear M0; intro w' M0) | (refine wpL_sti M0 rfl rfl rfl rfl ?_; clear M0; intro w' M0) | (refine wpL_sth M0 rfl rfl rfl rfl (wr_minus _ _ _) ?_; clear M0; intro w' M0)))
  refine (radd16 _ _ p q s _ HP.out HQ.out Sp.out Sq.out E1.out).mono ?_
  rintro e w1 ⟨tv, rfl, hv, hA⟩
  replace M0 := M0.call hA
  replace HX := Lib.hid (HX.out.below hA)
  replace HY := Lib.hid (HY.out.below hA)
  replace HP := Lib.hid (HP.out.below hA)
  replace HQ := Lib.hid (HQ.out.below hA)
  replace HS := Lib.hid (HS.out.below hA)
  obtain ⟨aHT, nHT, cHT, rfl, lHT, hz⟩ := hv.nm
  have HT : Hid (Is16 w1 (.slice aHT nHT cHT) (s)) := Lib.hid hz
  have LHT := Lib.hid lHT
  clear lHT hz hv
  clear hA
  go_wp2_with ((with_reducible refine (?_ : Go.wpList _ _ _ (_ :: _) _ _)); (first | go_skip | (refine wpL_ldc M0 rfl rfl rfl ?_) | (refine wpL_lgc M0 rfl rfl rfl ?_) | (refine wpL_stc M0 rfl rfl rfl rfl ?_; clear M0; intro w' M0) | (refine wpL_sti M0 rfl rfl rfl rfl ?_; clear M0; intro w' M0) | (refine wpL_sth M0 rfl rfl rfl rfl (wr_minus _ _ _) ?_; clear M0; intro w' M0)))
  refine (is_yes _ _ s _ HS.out HT.out Ss.out).mono ?_
  rintro e w1 ⟨rfl, hA⟩
  replace M0 := M0.call hA
  replace HX := Lib.hid (HX.out.below hA)
  replace HY := Lib.hid (HY.out.below hA)
  replace HP := Lib.hid (HP.out.below hA)
  replace HQ := Lib.hid (HQ.out.below hA)
  replace HS := Lib.hid (HS.out.below hA)
  replace HT := Lib.hid (HT.out.below hA)
  clear hA
  clear HS
  clear HT
  go_wp2_with ((with_reducible refine (?_ : Go.wpList _ _ _ (_ :: _) _ _)); (first | go_skip | (refine wpL_ldc M0 rfl rfl rfl ?_) | (refine wpL_lgc M0 rfl rfl rfl ?_) | (refine wpL_stc M0 rfl rfl rfl rfl ?_; clear M0; intro w' M0) | (refine wpL_sti M0 rfl rfl rfl rfl ?_; clear M0; intro w' M0) | (refine wpL_sth M0 rfl rfl rfl rfl (wr_minus _ _ _) ?_; clear M0; intro w' M0)))
  refine (less16 _ _ p q false _ HP.out HQ.out Sp.out Sq.out L1.out).mono ?_
  rintro e w1 ⟨rfl, hA⟩
  replace M0 := M0.call hA
  replace HX := Lib.hid (HX.out.below hA)
  replace HY := Lib.hid (HY.out.below hA)
  replace HP := Lib.hid (HP.out.below hA)
  replace HQ := Lib.hid (HQ.out.below hA)
  clear hA
  go_wp2_with ((with_reducible refine (?_ : Go.wpList _ _ _ (_ :: _) _ _)); (first | go_skip | (refine wpL_ldc M0 rfl rfl rfl ?_) | (refine wpL_lgc M0 rfl rfl rfl ?_) | (refine wpL_stc M0 rfl rfl rfl rfl ?_; clear M0; intro w' M0) | (refine wpL_sti M0 rfl rfl rfl rfl ?_; clear M0; intro w' M0) | (refine wpL_sth M0 rfl rfl rfl rfl (wr_minus _ _ _) ?_; clear M0; intro w' M0)))
  refine (less16 _ _ q p true _ HQ.out HP.out Sq.out Sp.out L2.out).mono ?_
  rintro e w1 ⟨rfl, hA⟩
  replace M0 := M0.call hA
  replace HX := Lib.hid (HX.out.below hA)
  replace HY := Lib.hid (HY.out.below hA)
  replace HP := Lib.hid (HP.out.below hA)
  replace HQ := Lib.hid (HQ.out.below hA)
  clear hA
  go_wp2_with ((with_reducible refine (?_ : Go.wpList _ _ _ (_ :: _) _ _)); (first | go_skip | (refine wpL_ldc M0 rfl rfl rfl ?_) | (refine wpL_lgc M0 rfl rfl rfl ?_) | (refine wpL_stc M0 rfl rfl rfl rfl ?_; clear M0; intro w' M0) | (refine wpL_sti M0 rfl rfl rfl rfl ?_; clear M0; intro w' M0) | (refine wpL_sth M0 rfl rfl rfl rfl (wr_minus _ _ _) ?_; clear M0; intro w' M0)))
  refine (sub16 _ _ p q d _ HX.out HY.out Sp.out Sq.out E3.out).mono ?_
  rintro e w1 ⟨tv, rfl, hv, hA⟩
  replace M0 := M0.call hA
  replace HX := Lib.hid (HX.out.below hA)
  replace HY := Lib.hid (HY.out.below hA)
  replace HP := Lib.hid (HP.out.below hA)
  replace HQ := Lib.hid (HQ.out.below hA)
  obtain ⟨aHD, nHD, cHD, rfl, hz⟩ := hv.nm
  have HD : Hid (IsN w1 (.agg #[.slice aHD nHD cHD]) (d)) := Lib.hid hz
  clear hz hv
  clear hA
  have M20 := Mem.start w1
  go_upto_region 15 with ((with_reducible refine (?_ : Go.wpList _ _ _ (_ :: _) _ _)); (first | go_skip | (refine wpL_bx M20 rfl rfl rfl rfl ?_; clear M20; intro g21 w21 M21) | (refine wpL_alc M20 rfl rfl ?_; clear M20; intro g21 w21 M21) | (refine wpL_ldc M20 rfl rfl rfl ?_) | (refine wpL_lgc M20 rfl rfl rfl ?_) | (refine wpL_stc M20 rfl rfl rfl rfl ?_; clear M20; intro w' M20) | (refine wpL_sti M20 rfl rfl rfl rfl ?_; clear M20; intro w' M20) | (refine wpL_sth M20 rfl rfl rfl rfl (wr_minus _ _ _) ?_; clear M20; intro w' M20) | (refine wpL_ldc M21 rfl rfl rfl ?_) | (refine wpL_lgc M21 rfl rfl rfl ?_) | (refine wpL_stc M21 rfl rfl rfl rfl ?_; clear M21; intro w' M21) | (refine wpL_sti M21 rfl rfl rfl rfl ?_; clear M21; intro w' M21) | (refine wpL_sth M21 rfl rfl rfl rfl (wr_minus _ _ _) ?_; clear M21; intro w' M21)))
  obtain ⟨w1, rfl⟩ : ∃ w1, w1 = w' := ⟨_, rfl⟩
  have hA := M21.below
  replace HX := Lib.hid (HX.out.below hA)
  replace HY := Lib.hid (HY.out.below hA)
  replace HP := Lib.hid (HP.out.below hA)
  replace HQ := Lib.hid (HQ.out.below hA)
  replace HD := Lib.hid (HD.out.below hA)
  replace M0 : Mem w w1 [(g21, 26, [.slice aHD nHD cHD]), (g12, 26, [.slice aHY nHY cHY]), (g11, 26, [.slice aHX nHX cHX])] := Mem.join M0 M21
  clear hA M21
  go_wp2_with ((with_reducible refine (?_ : Go.wpList _ _ _ (_ :: _) _ _)); (first | go_skip | (refine wpL_ldc M0 rfl rfl rfl ?_) | (refine wpL_lgc M0 rfl rfl rfl ?_) | (refine wpL_stc M0 rfl rfl rfl rfl ?_; clear M0; intro w' M0) | (refine wpL_sti M0 rfl rfl rfl rfl ?_; clear M0; intro w' M0) | (refine wpL_sth M0 rfl rfl rfl rfl (wr_minus _ _ _) ?_; clear M0; intro w' M0)))
  refine (cmp16 _ _ p q (1) _ HX.out HY.out Sp.out Sq.out EC.out).mono ?_
  rintro e w1 ⟨rfl, hA⟩
  replace M0 := M0.call hA
  replace HX := Lib.hid (HX.out.below hA)
  replace HY := Lib.hid (HY.out.below hA)
  replace HP := Lib.hid (HP.out.below hA)
  replace HQ := Lib.hid (HQ.out.below hA)
  replace HD := Lib.hid (HD.out.below hA)
  clear hA
  go_wp2_with ((with_reducible refine (?_ : Go.wpList _ _ _ (_ :: _) _ _)); (first | go_skip | (refine wpL_ldc M0 rfl rfl rfl ?_) | (refine wpL_lgc M0 rfl rfl rfl ?_) | (refine wpL_stc M0 rfl rfl rfl rfl ?_; clear M0; intro w' M0) | (refine wpL_sti M0 rfl rfl rfl rfl ?_; clear M0; intro w' M0) | (refine wpL_sth M0 rfl rfl rfl rfl (wr_minus _ _ _) ?_; clear M0; intro w' M0)))
  refine (parts16 _ d _ HD.out Sd.out).mono ?_
  rintro e w1 ⟨tv, rfl, hv, hA⟩
  replace M0 := M0.call hA
  replace HX := Lib.hid (HX.out.below hA)
  replace HY := Lib.hid (HY.out.below hA)
  replace HP := Lib.hid (HP.out.below hA)
  replace HQ := Lib.hid (HQ.out.below hA)
  replace HD := Lib.hid (HD.out.below hA)
  obtain ⟨aHE, nHE, cHE, rfl, lHE, hz⟩ := hv.nm
  have HE : Hid (Is32 w1 (.slice aHE nHE cHE) (d)) := Lib.hid hz
  clear lHE hz hv
  clear hA
  go_wp2_with ((with_reducible refine (?_ : Go.wpList _ _ _ (_ :: _) _ _)); (first | go_skip | (refine wpL_ldc M0 rfl rfl rfl ?_) | (refine wpL_lgc M0 rfl rfl rfl ?_) | (refine wpL_stc M0 rfl rfl rfl rfl ?_; clear M0; intro w' M0) | (refine wpL_sti M0 rfl rfl rfl rfl ?_; clear M0; intro w' M0) | (refine wpL_sth M0 rfl rfl rfl rfl (wr_minus _ _ _) ?_; clear M0; intro w' M0)))
  refine (rof16 _ d _ HE.out Sd.out).mono ?_
  rintro e w1 ⟨tv, rfl, hv, hA⟩
  replace M0 := M0.call hA
  replace HX := Lib.hid (HX.out.below hA)
  replace HY := Lib.hid (HY.out.below hA)
  replace HP := Lib.hid (HP.out.below hA)
  replace HQ := Lib.hid (HQ.out.below hA)
  replace HD := Lib.hid (HD.out.below hA)
  replace HE := Lib.hid (HE.out.below hA)
  obtain ⟨aHF, nHF, cHF, rfl, lHF, hz⟩ := hv.nm
  have HF : Hid (Is16 w1 (.slice aHF nHF cHF) (d)) := Lib.hid hz
  have LHF := Lib.hid lHF
  clear lHF hz hv
  clear hA
  go_wp2_with ((with_reducible refine (?_ : Go.wpList _ _ _ (_ :: _) _ _)); (first | go_skip | (refine wpL_ldc M0 rfl rfl rfl ?_) | (refine wpL_lgc M0 rfl rfl rfl ?_) | (refine wpL_stc M0 rfl rfl rfl rfl ?_; clear M0; intro w' M0) | (refine wpL_sti M0 rfl rfl rfl rfl ?_; clear M0; intro w' M0) | (refine wpL_sth M0 rfl rfl rfl rfl (wr_minus _ _ _) ?_; clear M0; intro w' M0)))
  refine (radd16 _ _ q d p _ HQ.out HF.out Sq.out Sd.out E2.out).mono ?_
  rintro e w1 ⟨tv, rfl, hv, hA⟩
  replace M0 := M0.call hA
  replace HX := Lib.hid (HX.out.below hA)
  replace HY := Lib.hid (HY.out.below hA)
  replace HP := Lib.hid (HP.out.below hA)
  replace HQ := Lib.hid (HQ.out.below hA)
  replace HD := Lib.hid (HD.out.below hA)
  replace HE := Lib.hid (HE.out.below hA)
  replace HF := Lib.hid (HF.out.below hA)
  obtain ⟨aHG, nHG, cHG, rfl, lHG, hz⟩ := hv.nm
  have HG : Hid (Is16 w1 (.slice aHG nHG cHG) (p)) := Lib.hid hz
  have LHG := Lib.hid lHG
  clear lHG hz hv
  clear hA
  go_wp2_with ((with_reducible refine (?_ : Go.wpList _ _ _ (_ :: _) _ _)); (first | go_skip | (refine wpL_ldc M0 rfl rfl rfl ?_) | (refine wpL_lgc M0 rfl rfl rfl ?_) | (refine wpL_stc M0 rfl rfl rfl rfl ?_; clear M0; intro w' M0) | (refine wpL_sti M0 rfl rfl rfl rfl ?_; clear M0; intro w' M0) | (refine wpL_sth M0 rfl rfl rfl rfl (wr_minus _ _ _) ?_; clear M0; intro w' M0)))
  refine (same_yes _ _ p _ HG.out HP.out Sp.out).mono ?_
  rintro e w1 ⟨rfl, hA⟩
  replace M0 := M0.call hA
  replace HX := Lib.hid (HX.out.below hA)
  replace HY := Lib.hid (HY.out.below hA)
  replace HP := Lib.hid (HP.out.below hA)
  replace HQ := Lib.hid (HQ.out.below hA)
  replace HD := Lib.hid (HD.out.below hA)
  replace HE := Lib.hid (HE.out.below hA)
  replace HF := Lib.hid (HF.out.below hA)
  replace HG := Lib.hid (HG.out.below hA)
  clear hA
  clear HE
  clear HF
  clear HG
  have hz2 : z = ((nHP : Int) == 0) := len16_b LHP.out Z1.out
  go_wp2_with ((with_reducible refine (?_ : Go.wpList _ _ _ (_ :: _) _ _)); (first | go_skip | (refine wpL_ldc M0 rfl rfl rfl ?_) | (refine wpL_lgc M0 rfl rfl rfl ?_) | (refine wpL_stc M0 rfl rfl rfl rfl ?_; clear M0; intro w' M0) | (refine wpL_sti M0 rfl rfl rfl rfl ?_; clear M0; intro w' M0) | (refine wpL_sth M0 rfl rfl rfl rfl (wr_minus _ _ _) ?_; clear M0; intro w' M0)))
  refine (zero16 _ p z _ HX.out Sp.out Z1.out).mono ?_
  rintro e w1 ⟨rfl, hA⟩
  replace M0 := M0.call hA
  replace HX := Lib.hid (HX.out.below hA)
  replace HY := Lib.hid (HY.out.below hA)
  replace HP := Lib.hid (HP.out.below hA)
  replace HQ := Lib.hid (HQ.out.below hA)
  replace HD := Lib.hid (HD.out.below hA)
  clear hA
  go_wp2_with ((with_reducible refine (?_ : Go.wpList _ _ _ (_ :: _) _ _)); (first | go_skip | (refine wpL_ldc M0 rfl rfl rfl ?_) | (refine wpL_lgc M0 rfl rfl rfl ?_) | (refine wpL_stc M0 rfl rfl rfl rfl ?_; clear M0; intro w' M0) | (refine wpL_sti M0 rfl rfl rfl rfl ?_; clear M0; intro w' M0) | (refine wpL_sth M0 rfl rfl rfl rfl (wr_minus _ _ _) ?_; clear M0; intro w' M0)))
  refine (WK.out _).mono ?_
  rintro e w1 ⟨rfl, hA⟩
  replace M0 := M0.call hA
  replace HX := Lib.hid (HX.out.below hA)
  replace HY := Lib.hid (HY.out.below hA)
  replace HP := Lib.hid (HP.out.below hA)
  replace HQ := Lib.hid (HQ.out.below hA)
  replace HD := Lib.hid (HD.out.below hA)
  clear hA
  go_wp2_with ((with_reducible refine (?_ : Go.wpList _ _ _ (_ :: _) _ _)); (first | go_skip | (refine wpL_ldc M0 rfl rfl rfl ?_) | (refine wpL_lgc M0 rfl rfl rfl ?_) | (refine wpL_stc M0 rfl rfl rfl rfl ?_; clear M0; intro w' M0) | (refine wpL_sti M0 rfl rfl rfl rfl ?_; clear M0; intro w' M0) | (refine wpL_sth M0 rfl rfl rfl rfl (wr_minus _ _ _) ?_; clear M0; intro w' M0)))
  go_ret
  exact ⟨rfl, M0.below⟩

set_option maxRecDepth 20000 in
set_option maxHeartbeats 6400000 in
theorem sums_eq (a : Option Addr) (n ca : Nat) (b : Option Addr) (m cb : Nat) (p q s d : Nat) (z : Bool) (wk : Works) (w : World) (IA : In16 a n ca w p) (IB : In16 b m cb w q) (hn : n ≤ 20) (hm : m ≤ 20) (hs : Sm s) (hd : Sm d) (h1 : p + q = s) (h2 : p + d = q) (h3 : p + d = q ∨ q + d = p) (hl1 : decide (p < q) = false) (hl2 : decide (q < p) = false) (hc : cmpN p q = 0) (hz1 : decide (p = 0) = z) :
    Calls Tryd.prog 3 #[.slice a n ca, .slice b m cb] w fun e w' => e = .returned (.bool true) ∧ Below w.heap.size w w' := by
  have CA := Lib.hid IA.from_
  have DA := Lib.hid IA.of_
  have CB := Lib.hid IB.from_
  have DB := Lib.hid IB.of_
  have Sp := Lib.hid IA.sm
  have Sq := Lib.hid IB.sm
  have Ss := Lib.hid hs
  have Sd := Lib.hid hd
  have E1 := Lib.hid h1
  have E2 := Lib.hid h2
  have E3 := Lib.hid h3
  have L1 := Lib.hid hl1
  have L2 := Lib.hid hl2
  have EC := Lib.hid hc
  have Z1 := Lib.hid hz1
  clear IA IB hs hd h1 h2 h3 hl1 hl2 hc hz1
  have WK := Lib.hid wk
  clear wk
  have M0 := Mem.start w
  go_enter Tryd.func3, Tryd.ntmps3
  go_wp2_with fail
  refine (light_yes _ _ _ hn).mono ?_
  rintro e w2 ⟨rfl, rfl⟩
  go_wp2_with fail
  refine (light_yes _ _ _ hm).mono ?_
  rintro e w2 ⟨rfl, rfl⟩
  go_wp2_with ((with_reducible refine (?_ : Go.wpList _ _ _ (_ :: _) _ _)); (first | go_skip | (refine wpL_ldc M0 rfl rfl rfl ?_) | (refine wpL_lgc M0 rfl rfl rfl ?_) | (refine wpL_stc M0 rfl rfl rfl rfl ?_; clear M0; intro w' M0) | (refine wpL_sti M0 rfl rfl rfl rfl ?_; clear M0; intro w' M0) | (refine wpL_sth M0 rfl rfl rfl rfl (wr_minus _ _ _) ?_; clear M0; intro w' M0)))
  refine (CA.out _ M0.below).mono ?_
  rintro e w1 ⟨tv, rfl, hv, hA⟩
  replace M0 := M0.call hA
  obtain ⟨aHX, nHX, cHX, rfl, hz⟩ := hv.nm
  have HX : Hid (IsN w1 (.agg #[.slice aHX nHX cHX]) (p)) := Lib.hid hz
  clear hz hv
  clear hA
  go_wp2_with ((with_reducible refine (?_ : Go.wpList _ _ _ (_ :: _) _ _)); (first | go_skip | (refine wpL_ldc M0 rfl rfl rfl ?_) | (refine wpL_lgc M0 rfl rfl rfl ?_) | (refine wpL_stc M0 rfl rfl rfl rfl ?_; clear M0; intro w' M0) | (refine wpL_sti M0 rfl rfl rfl rfl ?_; clear M0; intro w' M0) | (refine wpL_sth M0 rfl rfl rfl rfl (wr_minus _ _ _) ?_; clear M0; intro w' M0)))
  refine (CB.out _ M0.below).mono ?_
  rintro e w1 ⟨tv, rfl, hv, hA⟩
  replace M0 := M0.call hA
  replace HX := Lib.hid (HX.out.below hA)
  obtain ⟨aHY, nHY, cHY, rfl, hz⟩ := hv.nm
  have HY : Hid (IsN w1 (.agg #[.slice aHY nHY cHY]) (q)) := Lib.hid hz
  clear hz hv
  clear hA
  have M10 := Mem.start w1
  go_upto_region 4 with ((with_reducible refine (?_ : Go.wpList _ _ _ (_ :: _) _ _)); (first | go_skip | (refine wpL_bx M10 rfl rfl rfl rfl ?_; clear M10; intro g11 w11 M11) | (refine wpL_alc M10 rfl rfl ?_; clear M10; intro g11 w11 M11) | (refine wpL_ldc M10 rfl rfl rfl ?_) | (refine wpL_lgc M10 rfl rfl rfl ?_) | (refine wpL_stc M10 rfl rfl rfl rfl ?_; clear M10; intro w' M10) | (refine wpL_sti M10 rfl rfl rfl rfl ?_; clear M10; intro w' M10) | (refine wpL_sth M10 rfl rfl rfl rfl (wr_minus _ _ _) ?_; clear M10; intro w' M10) | (refine wpL_bx M11 rfl rfl rfl rfl ?_; clear M11; intro g12 w12 M12) | (refine wpL_alc M11 rfl rfl ?_; clear M11; intro g12 w12 M12) | (refine wpL_ldc M11 rfl rfl rfl ?_) | (refine wpL_lgc M11 rfl rfl rfl ?_) | (refine wpL_stc M11 rfl rfl rfl rfl ?_; clear M11; intro w' M11) | (refine wpL_sti M11 rfl rfl rfl rfl ?_; clear M11; intro w' M11) | (refine wpL_sth M11 rfl rfl rfl rfl (wr_minus _ _ _) ?_; clear M11; intro w' M11) | (refine wpL_ldc M12 rfl rfl rfl ?_) | (refine wpL_lgc M12 rfl rfl rfl ?_) | (refine wpL_stc M12 rfl rfl rfl rfl ?_; clear M12; intro w' M12) | (refine wpL_sti M12 rfl rfl rfl rfl ?_; clear M12; intro w' M12) | (refine wpL_sth M12 rfl rfl rfl rfl (wr_minus _ _ _) ?_; clear M12; intro w' M12)))
  obtain ⟨w1, rfl⟩ : ∃ w1, w1 = w' := ⟨_, rfl⟩
  have hA := M12.below
  replace HX := Lib.hid (HX.out.below hA)
  replace HY := Lib.hid (HY.out.below hA)
  replace M0 : Mem w w1 [(g12, 26, [.slice aHY nHY cHY]), (g11, 26, [.slice aHX nHX cHX])] := Mem.join M0 M12
  clear hA M12
  go_wp2_with ((with_reducible refine (?_ : Go.wpList _ _ _ (_ :: _) _ _)); (first | go_skip | (refine wpL_ldc M0 rfl rfl rfl ?_) | (refine wpL_lgc M0 rfl rfl rfl ?_) | (refine wpL_stc M0 rfl rfl rfl rfl ?_; clear M0; intro w' M0) | (refine wpL_sti M0 rfl rfl rfl rfl ?_; clear M0; intro w' M0) | (refine wpL_sth M0 rfl rfl rfl rfl (wr_minus _ _ _) ?_; clear M0; intro w' M0)))
  refine (DA.out _ M0.below).mono ?_
  rintro e w1 ⟨tv, rfl, hv, hA⟩
  replace M0 := M0.call hA
  replace HX := Lib.hid (HX.out.below hA)
  replace HY := Lib.hid (HY.out.below hA)
  obtain ⟨aHP, nHP, cHP, rfl, lHP, hz⟩ := hv.nm
  have HP : Hid (Is16 w1 (.slice aHP nHP cHP) (p)) := Lib.hid hz
  have LHP := Lib.hid lHP
  clear lHP hz hv
  clear hA
  go_wp2_with ((with_reducible refine (?_ : Go.wpList _ _ _ (_ :: _) _ _)); (first | go_skip | (refine wpL_ldc M0 rfl rfl rfl ?_) | (refine wpL_lgc M0 rfl rfl rfl ?_) | (refine wpL_stc M0 rfl rfl rfl rfl ?_; clear M0; intro w' M0) | (refine wpL_sti M0 rfl rfl rfl rfl ?_; clear M0; intro w' M0) | (refine wpL_sth M0 rfl rfl rfl rfl (wr_minus _ _ _) ?_; clear M0; intro w' M0)))
  refine (DB.out _ M0.below).mono ?_
  rintro e w1 ⟨tv, rfl, hv, hA⟩
  replace M0 := M0.call hA
  replace HX := Lib.hid (HX.out.below hA)
  replace HY := Lib.hid (HY.out.below hA)
  replace HP := Lib.hid (HP.out.below hA)
  obtain ⟨aHQ, nHQ, cHQ, rfl, lHQ, hz⟩ := hv.nm
  have HQ : Hid (Is16 w1 (.slice aHQ nHQ cHQ) (q)) := Lib.hid hz
  have LHQ := Lib.hid lHQ
  clear lHQ hz hv
  clear hA
  go_wp2_with ((with_reducible refine (?_ : Go.wpList _ _ _ (_ :: _) _ _)); (first | go_skip | (refine wpL_ldc M0 rfl rfl rfl ?_) | (refine wpL_lgc M0 rfl rfl rfl ?_) | (refine wpL_stc M0 rfl rfl rfl rfl ?_; clear M0; intro w' M0) | (refine wpL_sti M0 rfl rfl rfl rfl ?_; clear M0; intro w' M0) | (refine wpL_sth M0 rfl rfl rfl rfl (wr_minus _ _ _) ?_; clear M0; intro w' M0)))
  refine (is_yes _ _ p _ HX.out HP.out Sp.out).mono ?_
  rintro e w1 ⟨rfl, hA⟩
  replace M0 := M0.call hA
  replace HX := Lib.hid (HX.out.below hA)
  replace HY := Lib.hid (HY.out.below hA)
  replace HP := Lib.hid (HP.out.below hA)
  replace HQ := Lib.hid (HQ.out.below hA)
  clear hA
  go_wp2_with ((with_reducible refine (?_ : Go.wpList _ _ _ (_ :: _) _ _)); (first | go_skip | (refine wpL_ldc M0 rfl rfl rfl ?_) | (refine wpL_lgc M0 rfl rfl rfl ?_) | (refine wpL_stc M0 rfl rfl rfl rfl ?_; clear M0; intro w' M0) | (refine wpL_sti M0 rfl rfl rfl rfl ?_; clear M0; intro w' M0) | (refine wpL_sth M0 rfl rfl rfl rfl (wr_minus _ _ _) ?_; clear M0; intro w' M0)))
  refine (add16 _ _ p q s _ HX.out HY.out Sp.out Sq.out E1.out).mono ?_
  rintro e w1 ⟨tv, rfl, hv, hA⟩
  replace M0 := M0.call hA
  replace HX := Lib.hid (HX.out.below hA)
  replace HY := Lib.hid (HY.out.below hA)
  replace HP := Lib.hid (HP.out.below hA)
  replace HQ := Lib.hid (HQ.out.below hA)
  obtain ⟨aHS, nHS, cHS, rfl, hz⟩ := hv.nm
  have HS : Hid (IsN w1 (.agg #[.slice aHS nHS cHS]) (s)) := Lib.hid hz
  clear hz hv
  clear hA
  go_wp2_with ((with_reducible refine (?_ : Go.wpList _ _ _ (_ :: _) _ _)); (first | go_skip | (refine wpL_ldc M0 rfl rfl rfl ?_) | (refine wpL_lgc M0 rfl rfl rfl ?_) | (refine wpL_stc M0 rfl rfl rfl rfl ?_; clear M0; intro w' M0) | (refine wpL_sti M0 rfl rfl rfl rfl ?_; clear M0; intro w' M0) | (refine wpL_sth M0 rfl rfl rfl rfl (wr_minus _ _ _) ?_; clear M0; intro w' M0)))
  refine (radd16 _ _ p q s _ HP.out HQ.out Sp.out Sq.out E1.out).mono ?_
  rintro e w1 ⟨tv, rfl, hv, hA⟩
  replace M0 := M0.call hA
  replace HX := Lib.hid (HX.out.below hA)
  replace HY := Lib.hid (HY.out.below hA)
  replace HP := Lib.hid (HP.out.below hA)
  replace HQ := Lib.hid (HQ.out.below hA)
  replace HS := Lib.hid (HS.out.below hA)
  obtain ⟨aHT, nHT, cHT, rfl, lHT, hz⟩ := hv.nm
  have HT : Hid (Is16 w1 (.slice aHT nHT cHT) (s)) := Lib.hid hz
  have LHT := Lib.hid lHT
  clear lHT hz hv
  clear hA
  go_wp2_with ((with_reducible refine (?_ : Go.wpList _ _ _ (_ :: _) _ _)); (first | go_skip | (refine wpL_ldc M0 rfl rfl rfl ?_) | (refine wpL_lgc M0 rfl rfl rfl ?_) | (refine wpL_stc M0 rfl rfl rfl rfl ?_; clear M0; intro w' M0) | (refine wpL_sti M0 rfl rfl rfl rfl ?_; clear M0; intro w' M0) | (refine wpL_sth M0 rfl rfl rfl rfl (wr_minus _ _ _) ?_; clear M0; intro w' M0)))
  refine (is_yes _ _ s _ HS.out HT.out Ss.out).mono ?_
  rintro e w1 ⟨rfl, hA⟩
  replace M0 := M0.call hA
  replace HX := Lib.hid (HX.out.below hA)
  replace HY := Lib.hid (HY.out.below hA)
  replace HP := Lib.hid (HP.out.below hA)
  replace HQ := Lib.hid (HQ.out.below hA)
  replace HS := Lib.hid (HS.out.below hA)
  replace HT := Lib.hid (HT.out.below hA)
  clear hA
  clear HS
  clear HT
  go_wp2_with ((with_reducible refine (?_ : Go.wpList _ _ _ (_ :: _) _ _)); (first | go_skip | (refine wpL_ldc M0 rfl rfl rfl ?_) | (refine wpL_lgc M0 rfl rfl rfl ?_) | (refine wpL_stc M0 rfl rfl rfl rfl ?_; clear M0; intro w' M0) | (refine wpL_sti M0 rfl rfl rfl rfl ?_; clear M0; intro w' M0) | (refine wpL_sth M0 rfl rfl rfl rfl (wr_minus _ _ _) ?_; clear M0; intro w' M0)))
  refine (less16 _ _ p q false _ HP.out HQ.out Sp.out Sq.out L1.out).mono ?_
  rintro e w1 ⟨rfl, hA⟩
  replace M0 := M0.call hA
  replace HX := Lib.hid (HX.out.below hA)
  replace HY := Lib.hid (HY.out.below hA)
  replace HP := Lib.hid (HP.out.below hA)
  replace HQ := Lib.hid (HQ.out.below hA)
  clear hA
  go_wp2_with ((with_reducible refine (?_ : Go.wpList _ _ _ (_ :: _) _ _)); (first | go_skip | (refine wpL_ldc M0 rfl rfl rfl ?_) | (refine wpL_lgc M0 rfl rfl rfl ?_) | (refine wpL_stc M0 rfl rfl rfl rfl ?_; clear M0; intro w' M0) | (refine wpL_sti M0 rfl rfl rfl rfl ?_; clear M0; intro w' M0) | (refine wpL_sth M0 rfl rfl rfl rfl (wr_minus _ _ _) ?_; clear M0; intro w' M0)))
  refine (less16 _ _ q p false _ HQ.out HP.out Sq.out Sp.out L2.out).mono ?_
  rintro e w1 ⟨rfl, hA⟩
  replace M0 := M0.call hA
  replace HX := Lib.hid (HX.out.below hA)
  replace HY := Lib.hid (HY.out.below hA)
  replace HP := Lib.hid (HP.out.below hA)
  replace HQ := Lib.hid (HQ.out.below hA)
  clear hA
  go_wp2_with ((with_reducible refine (?_ : Go.wpList _ _ _ (_ :: _) _ _)); (first | go_skip | (refine wpL_ldc M0 rfl rfl rfl ?_) | (refine wpL_lgc M0 rfl rfl rfl ?_) | (refine wpL_stc M0 rfl rfl rfl rfl ?_; clear M0; intro w' M0) | (refine wpL_sti M0 rfl rfl rfl rfl ?_; clear M0; intro w' M0) | (refine wpL_sth M0 rfl rfl rfl rfl (wr_minus _ _ _) ?_; clear M0; intro w' M0)))
  refine (sub16 _ _ p q d _ HX.out HY.out Sp.out Sq.out E3.out).mono ?_
  rintro e w1 ⟨tv, rfl, hv, hA⟩
  replace M0 := M0.call hA
  replace HX := Lib.hid (HX.out.below hA)
  replace HY := Lib.hid (HY.out.below hA)
  replace HP := Lib.hid (HP.out.below hA)
  replace HQ := Lib.hid (HQ.out.below hA)
  obtain ⟨aHD, nHD, cHD, rfl, hz⟩ := hv.nm
  have HD : Hid (IsN w1 (.agg #[.slice aHD nHD cHD]) (d)) := Lib.hid hz
  clear hz hv
  clear hA
  have M20 := Mem.start w1
  go_upto_region 15 with ((with_reducible refine (?_ : Go.wpList _ _ _ (_ :: _) _ _)); (first | go_skip | (refine wpL_bx M20 rfl rfl rfl rfl ?_; clear M20; intro g21 w21 M21) | (refine wpL_alc M20 rfl rfl ?_; clear M20; intro g21 w21 M21) | (refine wpL_ldc M20 rfl rfl rfl ?_) | (refine wpL_lgc M20 rfl rfl rfl ?_) | (refine wpL_stc M20 rfl rfl rfl rfl ?_; clear M20; intro w' M20) | (refine wpL_sti M20 rfl rfl rfl rfl ?_; clear M20; intro w' M20) | (refine wpL_sth M20 rfl rfl rfl rfl (wr_minus _ _ _) ?_; clear M20; intro w' M20) | (refine wpL_ldc M21 rfl rfl rfl ?_) | (refine wpL_lgc M21 rfl rfl rfl ?_) | (refine wpL_stc M21 rfl rfl rfl rfl ?_; clear M21; intro w' M21) | (refine wpL_sti M21 rfl rfl rfl rfl ?_; clear M21; intro w' M21) | (refine wpL_sth M21 rfl rfl rfl rfl (wr_minus _ _ _) ?_; clear M21; intro w' M21)))
  obtain ⟨w1, rfl⟩ : ∃ w1, w1 = w' := ⟨_, rfl⟩
  have hA := M21.below
  replace HX := Lib.hid (HX.out.below hA)
  replace HY := Lib.hid (HY.out.below hA)
  replace HP := Lib.hid (HP.out.below hA)
  replace HQ := Lib.hid (HQ.out.below hA)
  replace HD := Lib.hid (HD.out.below hA)
  replace M0 : Mem w w1 [(g21, 26, [.slice aHD nHD cHD]), (g12, 26, [.slice aHY nHY cHY]), (g11, 26, [.slice aHX nHX cHX])] := Mem.join M0 M21
  clear hA M21
  go_wp2_with ((with_reducible refine (?_ : Go.wpList _ _ _ (_ :: _) _ _)); (first | go_skip | (refine wpL_ldc M0 rfl rfl rfl ?_) | (refine wpL_lgc M0 rfl rfl rfl ?_) | (refine wpL_stc M0 rfl rfl rfl rfl ?_; clear M0; intro w' M0) | (refine wpL_sti M0 rfl rfl rfl rfl ?_; clear M0; intro w' M0) | (refine wpL_sth M0 rfl rfl rfl rfl (wr_minus _ _ _) ?_; clear M0; intro w' M0)))
  refine (cmp16 _ _ p q (0) _ HX.out HY.out Sp.out Sq.out EC.out).mono ?_
  rintro e w1 ⟨rfl, hA⟩
  replace M0 := M0.call hA
  replace HX := Lib.hid (HX.out.below hA)
  replace HY := Lib.hid (HY.out.below hA)
  replace HP := Lib.hid (HP.out.below hA)
  replace HQ := Lib.hid (HQ.out.below hA)
  replace HD := Lib.hid (HD.out.below hA)
  clear hA
  go_wp2_with ((with_reducible refine (?_ : Go.wpList _ _ _ (_ :: _) _ _)); (first | go_skip | (refine wpL_ldc M0 rfl rfl rfl ?_) | (refine wpL_lgc M0 rfl rfl rfl ?_) | (refine wpL_stc M0 rfl rfl rfl rfl ?_; clear M0; intro w' M0) | (refine wpL_sti M0 rfl rfl rfl rfl ?_; clear M0; intro w' M0) | (refine wpL_sth M0 rfl rfl rfl rfl (wr_minus _ _ _) ?_; clear M0; intro w' M0)))
  refine (parts16 _ d _ HD.out Sd.out).mono ?_
  rintro e w1 ⟨tv, rfl, hv, hA⟩
  replace M0 := M0.call hA
  replace HX := Lib.hid (HX.out.below hA)
  replace HY := Lib.hid (HY.out.below hA)
  replace HP := Lib.hid (HP.out.below hA)
  replace HQ := Lib.hid (HQ.out.below hA)
  replace HD := Lib.hid (HD.out.below hA)
  obtain ⟨aHE, nHE, cHE, rfl, lHE, hz⟩ := hv.nm
  have HE : Hid (Is32 w1 (.slice aHE nHE cHE) (d)) := Lib.hid hz
  clear lHE hz hv
  clear hA
  go_wp2_with ((with_reducible refine (?_ : Go.wpList _ _ _ (_ :: _) _ _)); (first | go_skip | (refine wpL_ldc M0 rfl rfl rfl ?_) | (refine wpL_lgc M0 rfl rfl rfl ?_) | (refine wpL_stc M0 rfl rfl rfl rfl ?_; clear M0; intro w' M0) | (refine wpL_sti M0 rfl rfl rfl rfl ?_; clear M0; intro w' M0) | (refine wpL_sth M0 rfl rfl rfl rfl (wr_minus _ _ _) ?_; clear M0; intro w' M0)))
  refine (rof16 _ d _ HE.out Sd.out).mono ?_
  rintro e w1 ⟨tv, rfl, hv, hA⟩
  replace M0 := M0.call hA
  replace HX := Lib.hid (HX.out.below hA)
  replace HY := Lib.hid (HY.out.below hA)
  replace HP := Lib.hid (HP.out.below hA)
  replace HQ := Lib.hid (HQ.out.below hA)
  replace HD := Lib.hid (HD.out.below hA)
  replace HE := Lib.hid (HE.out.below hA)
  obtain ⟨aHF, nHF, cHF, rfl, lHF, hz⟩ := hv.nm
  have HF : Hid (Is16 w1 (.slice aHF nHF cHF) (d)) := Lib.hid hz
  have LHF := Lib.hid lHF
  clear lHF hz hv
  clear hA
  go_wp2_with ((with_reducible refine (?_ : Go.wpList _ _ _ (_ :: _) _ _)); (first | go_skip | (refine wpL_ldc M0 rfl rfl rfl ?_) | (refine wpL_lgc M0 rfl rfl rfl ?_) | (refine wpL_stc M0 rfl rfl rfl rfl ?_; clear M0; intro w' M0) | (refine wpL_sti M0 rfl rfl rfl rfl ?_; clear M0; intro w' M0) | (refine wpL_sth M0 rfl rfl rfl rfl (wr_minus _ _ _) ?_; clear M0; intro w' M0)))
  refine (radd16 _ _ p d q _ HP.out HF.out Sp.out Sd.out E2.out).mono ?_
  rintro e w1 ⟨tv, rfl, hv, hA⟩
  replace M0 := M0.call hA
  replace HX := Lib.hid (HX.out.below hA)
  replace HY := Lib.hid (HY.out.below hA)
  replace HP := Lib.hid (HP.out.below hA)
  replace HQ := Lib.hid (HQ.out.below hA)
  replace HD := Lib.hid (HD.out.below hA)
  replace HE := Lib.hid (HE.out.below hA)
  replace HF := Lib.hid (HF.out.below hA)
  obtain ⟨aHG, nHG, cHG, rfl, lHG, hz⟩ := hv.nm
  have HG : Hid (Is16 w1 (.slice aHG nHG cHG) (q)) := Lib.hid hz
  have LHG := Lib.hid lHG
  clear lHG hz hv
  clear hA
  go_wp2_with ((with_reducible refine (?_ : Go.wpList _ _ _ (_ :: _) _ _)); (first | go_skip | (refine wpL_ldc M0 rfl rfl rfl ?_) | (refine wpL_lgc M0 rfl rfl rfl ?_) | (refine wpL_stc M0 rfl rfl rfl rfl ?_; clear M0; intro w' M0) | (refine wpL_sti M0 rfl rfl rfl rfl ?_; clear M0; intro w' M0) | (refine wpL_sth M0 rfl rfl rfl rfl (wr_minus _ _ _) ?_; clear M0; intro w' M0)))
  refine (same_yes _ _ q _ HG.out HQ.out Sq.out).mono ?_
  rintro e w1 ⟨rfl, hA⟩
  replace M0 := M0.call hA
  replace HX := Lib.hid (HX.out.below hA)
  replace HY := Lib.hid (HY.out.below hA)
  replace HP := Lib.hid (HP.out.below hA)
  replace HQ := Lib.hid (HQ.out.below hA)
  replace HD := Lib.hid (HD.out.below hA)
  replace HE := Lib.hid (HE.out.below hA)
  replace HF := Lib.hid (HF.out.below hA)
  replace HG := Lib.hid (HG.out.below hA)
  clear hA
  clear HE
  clear HF
  clear HG
  have hz2 : z = ((nHP : Int) == 0) := len16_b LHP.out Z1.out
  go_wp2_with ((with_reducible refine (?_ : Go.wpList _ _ _ (_ :: _) _ _)); (first | go_skip | (refine wpL_ldc M0 rfl rfl rfl ?_) | (refine wpL_lgc M0 rfl rfl rfl ?_) | (refine wpL_stc M0 rfl rfl rfl rfl ?_; clear M0; intro w' M0) | (refine wpL_sti M0 rfl rfl rfl rfl ?_; clear M0; intro w' M0) | (refine wpL_sth M0 rfl rfl rfl rfl (wr_minus _ _ _) ?_; clear M0; intro w' M0)))
  refine (zero16 _ p z _ HX.out Sp.out Z1.out).mono ?_
  rintro e w1 ⟨rfl, hA⟩
  replace M0 := M0.call hA
  replace HX := Lib.hid (HX.out.below hA)
  replace HY := Lib.hid (HY.out.below hA)
  replace HP := Lib.hid (HP.out.below hA)
  replace HQ := Lib.hid (HQ.out.below hA)
  replace HD := Lib.hid (HD.out.below hA)
  clear hA
  go_wp2_with ((with_reducible refine (?_ : Go.wpList _ _ _ (_ :: _) _ _)); (first | go_skip | (refine wpL_ldc M0 rfl rfl rfl ?_) | (refine wpL_lgc M0 rfl rfl rfl ?_) | (refine wpL_stc M0 rfl rfl rfl rfl ?_; clear M0; intro w' M0) | (refine wpL_sti M0 rfl rfl rfl rfl ?_; clear M0; intro w' M0) | (refine wpL_sth M0 rfl rfl rfl rfl (wr_minus _ _ _) ?_; clear M0; intro w' M0)))
  refine (WK.out _).mono ?_
  rintro e w1 ⟨rfl, hA⟩
  replace M0 := M0.call hA
  replace HX := Lib.hid (HX.out.below hA)
  replace HY := Lib.hid (HY.out.below hA)
  replace HP := Lib.hid (HP.out.below hA)
  replace HQ := Lib.hid (HQ.out.below hA)
  replace HD := Lib.hid (HD.out.below hA)
  clear hA
  go_wp2_with ((with_reducible refine (?_ : Go.wpList _ _ _ (_ :: _) _ _)); (first | go_skip | (refine wpL_ldc M0 rfl rfl rfl ?_) | (refine wpL_lgc M0 rfl rfl rfl ?_) | (refine wpL_stc M0 rfl rfl rfl rfl ?_; clear M0; intro w' M0) | (refine wpL_sti M0 rfl rfl rfl rfl ?_; clear M0; intro w' M0) | (refine wpL_sth M0 rfl rfl rfl rfl (wr_minus _ _ _) ?_; clear M0; intro w' M0)))
  go_ret
  exact ⟨rfl, M0.below⟩

theorem sums_any (wk : Works) (a : Option Addr) (n ca : Nat) (b : Option Addr) (m cb : Nat) (zs ys : List Int) (w : World) (sa : Sl w 1 (.slice a n ca) n (zs.map (.int .u32))) (sb : Sl w 1 (.slice b m cb) m (ys.map (.int .u32))) (ha : ∀ z ∈ zs, 0 ≤ z ∧ z < 4294967296) (hb : ∀ z ∈ ys, 0 ≤ z ∧ z < 4294967296) :
    AnsV 3 #[.slice a n ca, .slice b m cb] w (.bool true) := by
  by_cases hn : n ≤ 20
  · by_cases hm : m ≤ 20
    · obtain ⟨p, IA⟩ := in16 sa ha hn
      obtain ⟨q, IB⟩ := in16 sb hb hm
      have l1 := IA.lt
      have l2 := IB.lt
      have hs : Sm (p + q) := sm_of (k := 21) (sm_add l1 l2 rfl) (by decide)
      rcases Nat.lt_trichotomy p q with h | h | h
      · exact sums_lt a n ca b m cb p q (p + q) (q - p) _ wk w IA IB hn hm hs (sm_le l2 (by decide) (by omega)) rfl (by omega) (by omega) (decide_eq_true h) (decide_eq_false (by omega)) (by unfold cmpN; rw [if_pos h]) rfl
      · exact sums_eq a n ca b m cb p q (p + q) (q - p) _ wk w IA IB hn hm hs (sm_le l2 (by decide) (by omega)) rfl (by omega) (by omega) (decide_eq_false (by omega)) (decide_eq_false (by omega)) (by unfold cmpN; rw [if_neg (by omega), if_neg (by omega)]) rfl
      · exact sums_gt a n ca b m cb p q (p + q) (p - q) _ wk w IA IB hn hm hs (sm_le l1 (by decide) (by omega)) rfl (by omega) (by omega) (decide_eq_false (by omega)) (decide_eq_true h) (by unfold cmpN; rw [if_neg (by omega), if_pos h]) rfl
    · exact sums_heavy2 a n ca b m cb wk w hn hm
  · exact sums_heavy1 a n ca b m cb wk w hn
end Go.Proofs.YtghioakpigdagaaDoor
