/-
  NatProducts: the walk.
-/
import Derived.Test.YtghioakpigdagaaDoorSmall16
set_option linter.unusedVariables false
set_option linter.unusedSimpArgs false
namespace Go.Proofs.YtghioakpigdagaaDoor
open Go Go.RowKit Go.Th Go.Th.Dig
set_option maxRecDepth 20000 in
set_option maxHeartbeats 6400000 in
theorem products_heavy1 (a : Option Addr) (n ca : Nat) (b : Option Addr) (m cb : Nat) (x : Nat) (wk : Works) (w : World) (hn : ¬ n ≤ 20) :
    Calls Tryd.prog 4 #[.slice a n ca, .slice b m cb, .int .u64 x] w fun e w' => e = .returned (.bool true) ∧ Below w.heap.size w w' := by
  have WK := Lib.hid wk
  clear wk
  have M0 := Mem.start w
  go_enter Tryd.func4, Tryd.ntmps4
  go_wp2_with fail
  refine (light_no _ _ _ hn).mono ?_
  rintro e w2 ⟨rfl, rfl⟩
  go_wp2_with ((with_reducible refine (?_ : Go.wpList _ _ _ (_ :: _) _ _)); (first | go_skip | (refine wpL_ldc M0 rfl rfl rfl ?_) | (refine wpL_lgc M0 rfl rfl rfl ?_) | (refine wpL_stc M0 rfl rfl rfl rfl ?_; clear M0; intro w' M0) | (refine wpL_sti M0 rfl rfl rfl rfl ?_; clear M0; intro w' M0) | (refine wpL_sth M0 rfl rfl rfl rfl (wr_minus _ _ _) ?_; clear M0; intro w' M0)))
  refine (WK.out _).mono ?_
  rintro e w1 ⟨rfl, hA⟩
  replace M0 := M0.call hA
  clear hA
  go_wp2_with ((with_reducible refine (?_ : Go.wpList _ _ _ (_ :: _) _ _)); (first | go_skip | (refine wpL_ldc M0 rfl rfl rfl ?_) | (refine wpL_lgc M0 rfl rfl rfl ?_) | (refine wpL_stc M0 rfl rfl rfl rfl ?_; clear M0; intro w' M0) | (refine wpL_sti M0 rfl rfl rfl rfl ?_; clear M0; intro w' M0) | (refine wpL_sth M0 rfl rfl rfl rfl (wr_minus _ _ _) ?_; clear M0; intro w' M0)))
  go_ret
  exact ⟨rfl, M0.below⟩

set_option maxRecDepth 20000 in
set_option maxHeartbeats 6400000 in
theorem products_heavy2 (a : Option Addr) (n ca : Nat) (b : Option Addr) (m cb : Nat) (x : Nat) (wk : Works) (w : World) (hn : n ≤ 20) (hm : ¬ m ≤ 20) :
    Calls Tryd.prog 4 #[.slice a n ca, .slice b m cb, .int .u64 x] w fun e w' => e = .returned (.bool true) ∧ Below w.heap.size w w' := by
  have WK := Lib.hid wk
  clear wk
  have M0 := Mem.start w
  go_enter Tryd.func4, Tryd.ntmps4
  go_wp2_with fail
  refine (light_yes _ _ _ hn).mono ?_
  rintro e w2 ⟨rfl, rfl⟩
  go_wp2_with fail
  refine (light_no _ _ _ hm).mono ?_
  rintro e w2 ⟨rfl, rfl⟩
  go_wp2_with ((with_reducible refine (?_ : Go.wpList _ _ _ (_ :: _) _ _)); (first | go_skip | (refine wpL_ldc M0 rfl rfl rfl ?_) | (refine wpL_lgc M0 rfl rfl rfl ?_) | (refine wpL_stc M0 rfl rfl rfl rfl ?_; clear M0; intro w' M0) | (refine wpL_sti M0 rfl rfl rfl rfl ?_; clear M0; intro w' M0) | (refine wpL_sth M0 rfl rfl rfl rfl (wr_minus _ _ _) ?_; clear M0; intro w' M0)))
  refine (WK.out _).mono ?_
  rintro e w1 ⟨rfl, hA⟩
  replace M0 := M0.call hA
  clear hA
  go_wp2_with ((with_reducible refine (?_ : Go.wpList _ _ _ (_ :: _) _ _)); (first | go_skip | (refine wpL_ldc M0 rfl rfl rfl ?_) | (refine wpL_lgc M0 rfl rfl rfl ?_) | (refine wpL_stc M0 rfl rfl rfl rfl ?_; clear M0; intro w' M0) | (refine wpL_sti M0 rfl rfl rfl rfl ?_; clear M0; intro w' M0) | (refine wpL_sth M0 rfl rfl rfl rfl (wr_minus _ _ _) ?_; clear M0; intro w' M0)))
  go_ret
  exact ⟨rfl, M0.below⟩

set_option maxRecDepth 20000 in
set_option maxHeartbeats 6400000 in
theorem products_go (a : Option Addr) (n ca : Nat) (b : Option Addr) (m cb : Nat) (p q s d x : Nat) (wk : Works) (w : World) (IA : In16 a n ca w p) (IB : In16 b m cb w q) (hn : n ≤ 20) (hm : m ≤ 20) (hx : x < 18446744073709551616) (hs : Sm s) (hd : Sm d) (hsx : Sm x) (h1 : p * q = s) (h2 : p * x = d) :
    Calls Tryd.prog 4 #[.slice a n ca, .slice b m cb, .int .u64 x] w fun e w' => e = .returned (.bool true) ∧ Below w.heap.size w w' := by
  have CA := Lib.hid IA.from_
  have DA := Lib.hid IA.of_
  have CB := Lib.hid IB.from_
  have DB := Lib.hid IB.of_
  have Sp := Lib.hid IA.sm
  have Sq := Lib.hid IB.sm
  have Ss := Lib.hid hs
  have Sd := Lib.hid hd
  have Sx := Lib.hid hsx
  have E1 := Lib.hid h1
  have E2 := Lib.hid h2
  have CS := Lib.hid (small16 x hx)
  have CO := Lib.hid (of_any x hx)
  have HLT := Lib.hid hx
  clear IA IB hs hd hsx h1 h2
  have WK := Lib.hid wk
  clear wk
  have M0 := Mem.start w
  go_enter Tryd.func4, Tryd.ntmps4
  go_wp2_with fail
  refine (light_yes _ _ _ hn).mono ?_
  rintro e w2 ⟨rfl, rfl⟩
  go_wp2_with fail
  refine (light_yes _ _ _ hm).mono ?_
  rintro e w2 ⟨rfl, rfl⟩
  go_wp2_with ((with_reducible refine (?_ : Go.wpList _ _ _ (_ :: _) _ _)); (first | go_skip | (refine wpL_ldc M0 rfl rfl rfl ?_) | (refine wpL_lgc M0 rfl rfl rfl ?_) | (refine wpL_stc M0 rfl rfl rfl rfl ?_; clear M0; intro w' M0) | (refine wpL_sti M0 rfl rfl rfl rfl ?_; clear M0; intro w' M0) | (refine wpL_sth M0 rfl rfl rfl rfl (wr_minus _ _ _) ?_; clear M0; intro w' M0)))
  refine (CA.out _ M0.below).mono ?_
  rintro e w1 ⟨tv, rfl, hv, hA⟩
  replace M0 := M0.call hA
  obtain ⟨aHX, nHX, cHX, rfl, hz⟩ := hv.nm
  have HX : Hid (IsN w1 (.agg #[.slice aHX nHX cHX]) (p)) := Lib.hid hz
  clear hz hv
  clear hA
  go_wp2_with ((with_reducible refine (?_ : Go.wpList _ _ _ (_ :: _) _ _)); (first | go_skip | (refine wpL_ldc M0 rfl rfl rfl ?_) | (refine wpL_lgc M0 rfl rfl rfl ?_) | (refine wpL_stc M0 rfl rfl rfl rfl ?_; clear M0; intro w' M0) | (refine wpL_sti M0 rfl rfl rfl rfl ?_; clear M0; intro w' M0) | (refine wpL_sth M0 rfl rfl rfl rfl (wr_minus _ _ _) ?_; clear M0; intro w' M0)))
  refine (CB.out _ M0.below).mono ?_
  rintro e w1 ⟨tv, rfl, hv, hA⟩
  replace M0 := M0.call hA
  replace HX := Lib.hid (HX.out.below hA)
  obtain ⟨aHY, nHY, cHY, rfl, hz⟩ := hv.nm
  have HY : Hid (IsN w1 (.agg #[.slice aHY nHY cHY]) (q)) := Lib.hid hz
  clear hz hv
  clear hA
  have M10 := Mem.start w1
  go_upto_region 4 with ((with_reducible refine (?_ : Go.wpList _ _ _ (_ :: _) _ _)); (first | go_skip | (refine wpL_bx M10 rfl rfl rfl rfl ?_; clear M10; intro g11 w11 M11) | (refine wpL_alc M10 rfl rfl ?_; clear M10; intro g11 w11 M11) | (refine wpL_ldc M10 rfl rfl rfl ?_) | (refine wpL_lgc M10 rfl rfl rfl ?_) | (refine wpL_stc M10 rfl rfl rfl rfl ?_; clear M10; intro w' M10) | (refine wpL_sti M10 rfl rfl rfl rfl ?_; clear M10; intro w' M10) | (refine wpL_sth M10 rfl rfl rfl rfl (wr_minus _ _ _) ?_; clear M10; intro w' M10) | (refine wpL_bx M11 rfl rfl rfl rfl ?_; clear M11; intro g12 w12 M12) | (refine wpL_alc M11 rfl rfl ?_; clear M11; intro g12 w12 M12) | (refine wpL_ldc M11 rfl rfl rfl ?_) | (refine wpL_lgc M11 rfl rfl rfl ?_) | (refine wpL_stc M11 rfl rfl rfl rfl ?_; clear M11; intro w' M11) | (refine wpL_sti M11 rfl rfl rfl rfl ?_; clear M11; intro w' M11) | (refine wpL_sth M11 rfl rfl rfl rfl (wr_minus _ _ _) ?_; clear M11; intro w' M11) | (refine wpL_ldc M12 rfl rfl rfl ?_) | (refine wpL_lgc M12 rfl rfl rfl ?_) | (refine wpL_stc M12 rfl rfl rfl rfl ?_; clear M12; intro w' M12) | (refine wpL_sti M12 rfl rfl rfl rfl ?_; clear M12; intro w' M12) | (refine wpL_sth M12 rfl rfl rfl rfl (wr_minus _ _ _) ?_; clear M12; intro w' M12)))
  obtain ⟨w1, rfl⟩ : ∃ w1, w1 = w' := ⟨_, rfl⟩
  have hA := M12.below
  replace HX := Lib.hid (HX.out.below hA)
  replace HY := Lib.hid (HY.out.below hA)
  replace M0 : Mem w w1 [(g12, 26, [.slice aHY nHY cHY]), (g11, 26, [.slice aHX nHX cHX])] := Mem.join M0 M12
  clear hA M12
  go_wp2_with ((with_reducible refine (?_ : Go.wpList _ _ _ (_ :: _) _ _)); (first | go_skip | (refine wpL_ldc M0 rfl rfl rfl ?_) | (refine wpL_lgc M0 rfl rfl rfl ?_) | (refine wpL_stc M0 rfl rfl rfl rfl ?_; clear M0; intro w' M0) | (refine wpL_sti M0 rfl rfl rfl rfl ?_; clear M0; intro w' M0) | (refine wpL_sth M0 rfl rfl rfl rfl (wr_minus _ _ _) ?_; clear M0; intro w' M0)))
  refine (DA.out _ M0.below).mono ?_
  rintro e w1 ⟨tv, rfl, hv, hA⟩
  replace M0 := M0.call hA
  replace HX := Lib.hid (HX.out.below hA)
  replace HY := Lib.hid (HY.out.below hA)
  obtain ⟨aHP, nHP, cHP, rfl, lHP, hz⟩ := hv.nm
  have HP : Hid (Is16 w1 (.slice aHP nHP cHP) (p)) := Lib.hid hz
  have LHP := Lib.hid lHP
  clear lHP hz hv
  clear hA
  go_wp2_with ((with_reducible refine (?_ : Go.wpList _ _ _ (_ :: _) _ _)); (first | go_skip | (refine wpL_ldc M0 rfl rfl rfl ?_) | (refine wpL_lgc M0 rfl rfl rfl ?_) | (refine wpL_stc M0 rfl rfl rfl rfl ?_; clear M0; intro w' M0) | (refine wpL_sti M0 rfl rfl rfl rfl ?_; clear M0; intro w' M0) | (refine wpL_sth M0 rfl rfl rfl rfl (wr_minus _ _ _) ?_; clear M0; intro w' M0)))
  refine (DB.out _ M0.below).mono ?_
  rintro e w1 ⟨tv, rfl, hv, hA⟩
  replace M0 := M0.call hA
  replace HX := Lib.hid (HX.out.below hA)
  replace HY := Lib.hid (HY.out.below hA)
  replace HP := Lib.hid (HP.out.below hA)
  obtain ⟨aHQ, nHQ, cHQ, rfl, lHQ, hz⟩ := hv.nm
  have HQ : Hid (Is16 w1 (.slice aHQ nHQ cHQ) (q)) := Lib.hid hz
  have LHQ := Lib.hid lHQ
  clear lHQ hz hv
  clear hA
  go_wp2_with ((with_reducible refine (?_ : Go.wpList _ _ _ (_ :: _) _ _)); (first | go_skip | (refine wpL_ldc M0 rfl rfl rfl ?_) | (refine wpL_lgc M0 rfl rfl rfl ?_) | (refine wpL_stc M0 rfl rfl rfl rfl ?_; clear M0; intro w' M0) | (refine wpL_sti M0 rfl rfl rfl rfl ?_; clear M0; intro w' M0) | (refine wpL_sth M0 rfl rfl rfl rfl (wr_minus _ _ _) ?_; clear M0; intro w' M0)))
  refine (CS.out _).mono ?_
  rintro e w1 ⟨tv, rfl, hv, hA⟩
  replace M0 := M0.call hA
  replace HX := Lib.hid (HX.out.below hA)
  replace HY := Lib.hid (HY.out.below hA)
  replace HP := Lib.hid (HP.out.below hA)
  replace HQ := Lib.hid (HQ.out.below hA)
  obtain ⟨aHS, nHS, cHS, rfl, lHS, hz⟩ := hv.nm
  have HS : Hid (Is16 w1 (.slice aHS nHS cHS) (x)) := Lib.hid hz
  have LHS := Lib.hid lHS
  clear lHS hz hv
  clear hA
  go_wp2_with ((with_reducible refine (?_ : Go.wpList _ _ _ (_ :: _) _ _)); (first | go_skip | (refine wpL_ldc M0 rfl rfl rfl ?_) | (refine wpL_lgc M0 rfl rfl rfl ?_) | (refine wpL_stc M0 rfl rfl rfl rfl ?_; clear M0; intro w' M0) | (refine wpL_sti M0 rfl rfl rfl rfl ?_; clear M0; intro w' M0) | (refine wpL_sth M0 rfl rfl rfl rfl (wr_minus _ _ _) ?_; clear M0; intro w' M0)))
  refine (mul16 _ _ p q s _ HX.out HY.out Sp.out Sq.out E1.out).mono ?_
  rintro e w1 ⟨tv, rfl, hv, hA⟩
  replace M0 := M0.call hA
  replace HX := Lib.hid (HX.out.below hA)
  replace HY := Lib.hid (HY.out.below hA)
  replace HP := Lib.hid (HP.out.below hA)
  replace HQ := Lib.hid (HQ.out.below hA)
  replace HS := Lib.hid (HS.out.below hA)
  obtain ⟨aHM, nHM, cHM, rfl, hz⟩ := hv.nm
  have HM : Hid (IsN w1 (.agg #[.slice aHM nHM cHM]) (s)) := Lib.hid hz
  clear hz hv
  clear hA
  go_wp2_with ((with_reducible refine (?_ : Go.wpList _ _ _ (_ :: _) _ _)); (first | go_skip | (refine wpL_ldc M0 rfl rfl rfl ?_) | (refine wpL_lgc M0 rfl rfl rfl ?_) | (refine wpL_stc M0 rfl rfl rfl rfl ?_; clear M0; intro w' M0) | (refine wpL_sti M0 rfl rfl rfl rfl ?_; clear M0; intro w' M0) | (refine wpL_sth M0 rfl rfl rfl rfl (wr_minus _ _ _) ?_; clear M0; intro w' M0)))
  refine (rmul16 _ _ p q s _ HP.out HQ.out Sp.out Sq.out E1.out).mono ?_
  rintro e w1 ⟨tv, rfl, hv, hA⟩
  replace M0 := M0.call hA
  replace HX := Lib.hid (HX.out.below hA)
  replace HY := Lib.hid (HY.out.below hA)
  replace HP := Lib.hid (HP.out.below hA)
  replace HQ := Lib.hid (HQ.out.below hA)
  replace HS := Lib.hid (HS.out.below hA)
  replace HM := Lib.hid (HM.out.below hA)
  obtain ⟨aHN, nHN, cHN, rfl, lHN, hz⟩ := hv.nm
  have HN : Hid (Is16 w1 (.slice aHN nHN cHN) (s)) := Lib.hid hz
  have LHN := Lib.hid lHN
  clear lHN hz hv
  clear hA
  go_wp2_with ((with_reducible refine (?_ : Go.wpList _ _ _ (_ :: _) _ _)); (first | go_skip | (refine wpL_ldc M0 rfl rfl rfl ?_) | (refine wpL_lgc M0 rfl rfl rfl ?_) | (refine wpL_stc M0 rfl rfl rfl rfl ?_; clear M0; intro w' M0) | (refine wpL_sti M0 rfl rfl rfl rfl ?_; clear M0; intro w' M0) | (refine wpL_sth M0 rfl rfl rfl rfl (wr_minus _ _ _) ?_; clear M0; intro w' M0)))
  refine (is_yes _ _ s _ HM.out HN.out Ss.out).mono ?_
  rintro e w1 ⟨rfl, hA⟩
  replace M0 := M0.call hA
  replace HX := Lib.hid (HX.out.below hA)
  replace HY := Lib.hid (HY.out.below hA)
  replace HP := Lib.hid (HP.out.below hA)
  replace HQ := Lib.hid (HQ.out.below hA)
  replace HS := Lib.hid (HS.out.below hA)
  replace HM := Lib.hid (HM.out.below hA)
  replace HN := Lib.hid (HN.out.below hA)
  clear hA
  clear HM
  clear HN
  go_wp2_with ((with_reducible refine (?_ : Go.wpList _ _ _ (_ :: _) _ _)); (first | go_skip | (refine wpL_ldc M0 rfl rfl rfl ?_) | (refine wpL_lgc M0 rfl rfl rfl ?_) | (refine wpL_stc M0 rfl rfl rfl rfl ?_; clear M0; intro w' M0) | (refine wpL_sti M0 rfl rfl rfl rfl ?_; clear M0; intro w' M0) | (refine wpL_sth M0 rfl rfl rfl rfl (wr_minus _ _ _) ?_; clear M0; intro w' M0)))
  refine (times16 _ p x d _ HX.out Sp.out HLT.out E2.out).mono ?_
  rintro e w1 ⟨tv, rfl, hv, hA⟩
  replace M0 := M0.call hA
  replace HX := Lib.hid (HX.out.below hA)
  replace HY := Lib.hid (HY.out.below hA)
  replace HP := Lib.hid (HP.out.below hA)
  replace HQ := Lib.hid (HQ.out.below hA)
  replace HS := Lib.hid (HS.out.below hA)
  obtain ⟨aHM, nHM, cHM, rfl, hz⟩ := hv.nm
  have HM : Hid (IsN w1 (.agg #[.slice aHM nHM cHM]) (d)) := Lib.hid hz
  clear hz hv
  clear hA
  go_wp2_with ((with_reducible refine (?_ : Go.wpList _ _ _ (_ :: _) _ _)); (first | go_skip | (refine wpL_ldc M0 rfl rfl rfl ?_) | (refine wpL_lgc M0 rfl rfl rfl ?_) | (refine wpL_stc M0 rfl rfl rfl rfl ?_; clear M0; intro w' M0) | (refine wpL_sti M0 rfl rfl rfl rfl ?_; clear M0; intro w' M0) | (refine wpL_sth M0 rfl rfl rfl rfl (wr_minus _ _ _) ?_; clear M0; intro w' M0)))
  refine (rmul16 _ _ p x d _ HP.out HS.out Sp.out Sx.out E2.out).mono ?_
  rintro e w1 ⟨tv, rfl, hv, hA⟩
  replace M0 := M0.call hA
  replace HX := Lib.hid (HX.out.below hA)
  replace HY := Lib.hid (HY.out.below hA)
  replace HP := Lib.hid (HP.out.below hA)
  replace HQ := Lib.hid (HQ.out.below hA)
  replace HS := Lib.hid (HS.out.below hA)
  replace HM := Lib.hid (HM.out.below hA)
  obtain ⟨aHN, nHN, cHN, rfl, lHN, hz⟩ := hv.nm
  have HN : Hid (Is16 w1 (.slice aHN nHN cHN) (d)) := Lib.hid hz
  have LHN := Lib.hid lHN
  clear lHN hz hv
  clear hA
  go_wp2_with ((with_reducible refine (?_ : Go.wpList _ _ _ (_ :: _) _ _)); (first | go_skip | (refine wpL_ldc M0 rfl rfl rfl ?_) | (refine wpL_lgc M0 rfl rfl rfl ?_) | (refine wpL_stc M0 rfl rfl rfl rfl ?_; clear M0; intro w' M0) | (refine wpL_sti M0 rfl rfl rfl rfl ?_; clear M0; intro w' M0) | (refine wpL_sth M0 rfl rfl rfl rfl (wr_minus _ _ _) ?_; clear M0; intro w' M0)))
  refine (is_yes _ _ d _ HM.out HN.out Sd.out).mono ?_
  rintro e w1 ⟨rfl, hA⟩
  replace M0 := M0.call hA
  replace HX := Lib.hid (HX.out.below hA)
  replace HY := Lib.hid (HY.out.below hA)
  replace HP := Lib.hid (HP.out.below hA)
  replace HQ := Lib.hid (HQ.out.below hA)
  replace HS := Lib.hid (HS.out.below hA)
  replace HM := Lib.hid (HM.out.below hA)
  replace HN := Lib.hid (HN.out.below hA)
  clear hA
  clear HM
  clear HN
  go_wp2_with ((with_reducible refine (?_ : Go.wpList _ _ _ (_ :: _) _ _)); (first | go_skip | (refine wpL_ldc M0 rfl rfl rfl ?_) | (refine wpL_lgc M0 rfl rfl rfl ?_) | (refine wpL_stc M0 rfl rfl rfl rfl ?_; clear M0; intro w' M0) | (refine wpL_sti M0 rfl rfl rfl rfl ?_; clear M0; intro w' M0) | (refine wpL_sth M0 rfl rfl rfl rfl (wr_minus _ _ _) ?_; clear M0; intro w' M0)))
  refine (CO.out _).mono ?_
  rintro e w1 ⟨tv, rfl, hv, hA⟩
  replace M0 := M0.call hA
  replace HX := Lib.hid (HX.out.below hA)
  replace HY := Lib.hid (HY.out.below hA)
  replace HP := Lib.hid (HP.out.below hA)
  replace HQ := Lib.hid (HQ.out.below hA)
  replace HS := Lib.hid (HS.out.below hA)
  obtain ⟨aHM, nHM, cHM, rfl, hz⟩ := hv.nm
  have HM : Hid (IsN w1 (.agg #[.slice aHM nHM cHM]) (x)) := Lib.hid hz
  clear hz hv
  clear hA
  go_wp2_with ((with_reducible refine (?_ : Go.wpList _ _ _ (_ :: _) _ _)); (first | go_skip | (refine wpL_ldc M0 rfl rfl rfl ?_) | (refine wpL_lgc M0 rfl rfl rfl ?_) | (refine wpL_stc M0 rfl rfl rfl rfl ?_; clear M0; intro w' M0) | (refine wpL_sti M0 rfl rfl rfl rfl ?_; clear M0; intro w' M0) | (refine wpL_sth M0 rfl rfl rfl rfl (wr_minus _ _ _) ?_; clear M0; intro w' M0)))
  refine (is_yes _ _ x _ HM.out HS.out Sx.out).mono ?_
  rintro e w1 ⟨rfl, hA⟩
  replace M0 := M0.call hA
  replace HX := Lib.hid (HX.out.below hA)
  replace HY := Lib.hid (HY.out.below hA)
  replace HP := Lib.hid (HP.out.below hA)
  replace HQ := Lib.hid (HQ.out.below hA)
  replace HS := Lib.hid (HS.out.below hA)
  replace HM := Lib.hid (HM.out.below hA)
  clear hA
  go_wp2_with ((with_reducible refine (?_ : Go.wpList _ _ _ (_ :: _) _ _)); (first | go_skip | (refine wpL_ldc M0 rfl rfl rfl ?_) | (refine wpL_lgc M0 rfl rfl rfl ?_) | (refine wpL_stc M0 rfl rfl rfl rfl ?_; clear M0; intro w' M0) | (refine wpL_sti M0 rfl rfl rfl rfl ?_; clear M0; intro w' M0) | (refine wpL_sth M0 rfl rfl rfl rfl (wr_minus _ _ _) ?_; clear M0; intro w' M0)))
  refine (WK.out _).mono ?_
  rintro e w1 ⟨rfl, hA⟩
  replace M0 := M0.call hA
  replace HX := Lib.hid (HX.out.below hA)
  replace HY := Lib.hid (HY.out.below hA)
  replace HP := Lib.hid (HP.out.below hA)
  replace HQ := Lib.hid (HQ.out.below hA)
  replace HS := Lib.hid (HS.out.below hA)
  replace HM := Lib.hid (HM.out.below hA)
  clear hA
  go_wp2_with ((with_reducible refine (?_ : Go.wpList _ _ _ (_ :: _) _ _)); (first | go_skip | (refine wpL_ldc M0 rfl rfl rfl ?_) | (refine wpL_lgc M0 rfl rfl rfl ?_) | (refine wpL_stc M0 rfl rfl rfl rfl ?_; clear M0; intro w' M0) | (refine wpL_sti M0 rfl rfl rfl rfl ?_; clear M0; intro w' M0) | (refine wpL_sth M0 rfl rfl rfl rfl (wr_minus _ _ _) ?_; clear M0; intro w' M0)))
  go_ret
  exact ⟨rfl, M0.below⟩

theorem products_any (wk : Works)(a : Option Addr) (n ca : Nat) (b : Option Addr) (m cb : Nat) (zs ys : List Int) (x : Nat) (hx : x < 18446744073709551616) (w : World) (sa : Sl w 1 (.slice a n ca) n (zs.map (.int .u32))) (sb : Sl w 1 (.slice b m cb) m (ys.map (.int .u32))) (ha : ∀ z ∈ zs, 0 ≤ z ∧ z < 4294967296) (hb : ∀ z ∈ ys, 0 ≤ z ∧ z < 4294967296) :
    AnsV 4 #[.slice a n ca, .slice b m cb, .int .u64 x] w (.bool true) := by
  by_cases hn : n ≤ 20
  · by_cases hm : m ≤ 20
    · obtain ⟨p, IA⟩ := in16 sa ha hn
      obtain ⟨q, IB⟩ := in16 sb hb hm
      have l1 := IA.lt
      have l2 := IB.lt
      have hx2 : x < 4294967296 ^ 2 := by simpa using hx
      exact products_go a n ca b m cb p q (p * q) (p * x) x wk w IA IB hn hm hx (sm_of (k := 40) (sm_mul l1 l2 (by decide)) (by decide)) (sm_of (k := 22) (sm_mul l1 hx2 (by decide)) (by decide)) (sm_of hx2 (by decide)) rfl rfl
    · exact products_heavy2 a n ca b m cb x wk w hn hm
  · exact products_heavy1 a n ca b m cb x wk w hn
end Go.Proofs.YtghioakpigdagaaDoor
