/-
  NatDivides: the walk.
-/
import Derived.Test.YtghioakpigdagaaDoorLaw16m
set_option linter.unusedVariables false
set_option linter.unusedSimpArgs false
namespace Go.Proofs.YtghioakpigdagaaDoor
open Go Go.RowKit Go.Th Go.Th.Dig
set_option maxRecDepth 20000 in
set_option maxHeartbeats 6400000 in
theorem divides_heavy1 (a : Option Addr) (n ca : Nat) (b : Option Addr) (m cb : Nat) (wk : Works) (w : World) (hn : ¬ n ≤ 20) :
    Calls Tryd.prog 5 #[.slice a n ca, .slice b m cb] w fun e w' => e = .returned (.bool true) ∧ Below w.heap.size w w' := by
  have WK := Lib.hid wk
  clear wk
  have M0 := Mem.start w
  go_enter Tryd.func5, Tryd.ntmps5
  go_wp2_with fail
  refine (light_no _ _ _ hn).mono ?_
  rintro e w2 ⟨rfl, rfl⟩
  go_wp2_with ((with_reducible refine (?_ : Go.wpList _ _ _ (_ :: _) _ _)); (first | go_skip | (refine wpL_ldc M0 rfl rfl rfl ?_) | (refine wpL_lgc M0 rfl rfl rfl ?_) | (refine wpL_stc M0 rfl rfl rfl rfl ?_; clear M0; intro w' M0) | (refine wpL_sti M0 rfl rfl rfl rfl ?_; clear M0; intro w' M0) | (refine wpL_sth M0 rfl rfl rfl rfl (wr_minus _ _ _) ?_; clear M0; intro w' M0)))
  refine (WK.out _).mono ?_
  rintro e w1 ⟨rfl, hA⟩
  replace M0 := M0.call hA
  clear hA
  go_wp2_with ((with_reducible refine (?_ : Go.wpList _ _ _ (_ :: _) _ _)); (first | go_skip | (refine wpL_ldc M0 rfl rfl rfl ?_) | (refine wpL_lgc M0 rfl rfl rfl ?_) | (refine wpL_stc M0 rfl rfl rfl rfl ?_; clear M0; intro w' M0) | (refine wpL_sti M0 rfl rfl rfl rfl ?_; clear M0; intro w' M0) | (refine wpL_sth M0 rfl rfl rfl rfl (wr_minus _ _ _) ?_; clear M0; intro w' M0)))
  go_ret
  exact ⟨rfl, M0.below⟩

set_option maxRecDepth 20000 in
set_option maxHeartbeats 6400000 in
theorem divides_heavy2 (a : Option Addr) (n ca : Nat) (b : Option Addr) (m cb : Nat) (wk : Works) (w : World) (hn : n ≤ 20) (hm : ¬ m ≤ 20) :
    Calls Tryd.prog 5 #[.slice a n ca, .slice b m cb] w fun e w' => e = .returned (.bool true) ∧ Below w.heap.size w w' := by
  have WK := Lib.hid wk
  clear wk
  have M0 := Mem.start w
  go_enter Tryd.func5, Tryd.ntmps5
  go_wp2_with fail
  refine (light_yes _ _ _ hn).mono ?_
  rintro e w2 ⟨rfl, rfl⟩
  go_wp2_with fail
  refine (light_no _ _ _ hm).mono ?_
  rintro e w2 ⟨rfl, rfl⟩
  go_wp2_with ((with_reducible refine (?_ : Go.wpList _ _ _ (_ :: _) _ _)); (first | go_skip | (refine wpL_ldc M0 rfl rfl rfl ?_) | (refine wpL_lgc M0 rfl rfl rfl ?_) | (refine wpL_stc M0 rfl rfl rfl rfl ?_; clear M0; intro w' M0) | (refine wpL_sti M0 rfl rfl rfl rfl ?_; clear M0; intro w' M0) | (refine wpL_sth M0 rfl rfl rfl rfl (wr_minus _ _ _) ?_; clear M0; intro w' M0)))
  refine (WK.out _).mono ?_
  rintro e w1 ⟨rfl, hA⟩
  replace M0 := M0.call hA
  clear hA
  go_wp2_with ((with_reducible refine (?_ : Go.wpList _ _ _ (_ :: _) _ _)); (first | go_skip | (refine wpL_ldc M0 rfl rfl rfl ?_) | (refine wpL_lgc M0 rfl rfl rfl ?_) | (refine wpL_stc M0 rfl rfl rfl rfl ?_; clear M0; intro w' M0) | (refine wpL_sti M0 rfl rfl rfl rfl ?_; clear M0; intro w' M0) | (refine wpL_sth M0 rfl rfl rfl rfl (wr_minus _ _ _) ?_; clear M0; intro w' M0)))
  go_ret
  exact ⟨rfl, M0.below⟩

set_option maxRecDepth 20000 in
set_option maxHeartbeats 6400000 in
theorem divides_zero (a : Option Addr) (n ca : Nat) (b : Option Addr) (m cb : Nat) (p q u v : Nat) (wk : Works) (w : World) (IA : In16 a n ca w p) (IB : In16 b m cb w q) (hn : n ≤ 20) (hm : m ≤ 20) (hu : Sm u) (hv : Sm v) (h1 : p / q = u) (h2 : p % q = v) (hz : q = 0) (h3 : decide (u = 0) = true) (h4 : v = p) :
    Calls Tryd.prog 5 #[.slice a n ca, .slice b m cb] w fun e w' => e = .returned (.bool true) ∧ Below w.heap.size w w' := by
  have CA := Lib.hid IA.from_
  have DA := Lib.hid IA.of_
  have CB := Lib.hid IB.from_
  have DB := Lib.hid IB.of_
  have Sp := Lib.hid IA.sm
  have Sq := Lib.hid IB.sm
  have Su := Lib.hid hu
  have Sv := Lib.hid hv
  have E1 := Lib.hid h1
  have E2 := Lib.hid h2
  clear IA IB hu hv h1 h2
  have Z := Lib.hid hz
  have E3 := Lib.hid h3
  have E4 := Lib.hid h4
  clear hz h3 h4
  have WK := Lib.hid wk
  clear wk
  have M0 := Mem.start w
  go_enter Tryd.func5, Tryd.ntmps5
  go_wp2_with fail
  refine (light_yes _ _ _ hn).mono ?_
  rintro e w2 ⟨rfl, rfl⟩
  go_wp2_with fail
  refine (light_yes _ _ _ hm).mono ?_
  rintro e w2 ⟨rfl, rfl⟩
  go_wp2_with ((with_reducible refine (?_ : Go.wpList _ _ _ (_ :: _) _ _)); (first | go_skip | (refine wpL_ldc M0 rfl rfl rfl ?_) | (refine wpL_lgc M0 rfl rfl rfl ?_) | (refine wpL_stc M0 rfl rfl rfl rfl ?_; clear M0; intro w' M0) | (refine wpL_sti M0 rfl rfl rfl rfl ?_; clear M0; intro w' M0) | (refine wpL_sth M0 rfl rfl rfl rfl (wr_minus _ _ _) ?_; clear M0; intro w' M0)))
  refine (CA.out _ M0.below).mono ?_
  rintro e w1 ⟨tv, rfl, hv, hA⟩
  replace M0 := M0.call hA
  obtain ⟨aHX, nHX, cHX, rfl, hz⟩ := hv.nm
  have HX : Hid (IsN w1 (.agg #[.slice aHX nHX cHX]) (p)) := Lib.hid hz
  clear hz hv
  clear hA
  go_wp2_with ((with_reducible refine (?_ : Go.wpList _ _ _ (_ :: _) _ _)); (first | go_skip | (refine wpL_ldc M0 rfl rfl rfl ?_) | (refine wpL_lgc M0 rfl rfl rfl ?_) | (refine wpL_stc M0 rfl rfl rfl rfl ?_; clear M0; intro w' M0) | (refine wpL_sti M0 rfl rfl rfl rfl ?_; clear M0; intro w' M0) | (refine wpL_sth M0 rfl rfl rfl rfl (wr_minus _ _ _) ?_; clear M0; intro w' M0)))
  refine (CB.out _ M0.below).mono ?_
  rintro e w1 ⟨tv, rfl, hv, hA⟩
  replace M0 := M0.call hA
  replace HX := Lib.hid (HX.out.below hA)
  obtain ⟨aHY, nHY, cHY, rfl, hz⟩ := hv.nm
  have HY : Hid (IsN w1 (.agg #[.slice aHY nHY cHY]) (q)) := Lib.hid hz
  clear hz hv
  clear hA
  have M10 := Mem.start w1
  go_upto_region 4 with ((with_reducible refine (?_ : Go.wpList _ _ _ (_ :: _) _ _)); (first | go_skip | (refine wpL_bx M10 rfl rfl rfl rfl ?_; clear M10; intro g11 w11 M11) | (refine wpL_alc M10 rfl rfl ?_; clear M10; intro g11 w11 M11) | (refine wpL_ldc M10 rfl rfl rfl ?_) | (refine wpL_lgc M10 rfl rfl rfl ?_) | (refine wpL_stc M10 rfl rfl rfl rfl ?_; clear M10; intro w' M10) | (refine wpL_sti M10 rfl rfl rfl rfl ?_; clear M10; intro w' M10) | (refine wpL_sth M10 rfl rfl rfl rfl (wr_minus _ _ _) ?_; clear M10; intro w' M10) | (refine wpL_bx M11 rfl rfl rfl rfl ?_; clear M11; intro g12 w12 M12) | (refine wpL_alc M11 rfl rfl ?_; clear M11; intro g12 w12 M12) | (refine wpL_ldc M11 rfl rfl rfl ?_) | (refine wpL_lgc M11 rfl rfl rfl ?_) | (refine wpL_stc M11 rfl rfl rfl rfl ?_; clear M11; intro w' M11) | (refine wpL_sti M11 rfl rfl rfl rfl ?_; clear M11; intro w' M11) | (refine wpL_sth M11 rfl rfl rfl rfl (wr_minus _ _ _) ?_; clear M11; intro w' M11) | (refine wpL_ldc M12 rfl rfl rfl ?_) | (refine wpL_lgc M12 rfl rfl rfl ?_) | (refine wpL_stc M12 rfl rfl rfl rfl ?_; clear M12; intro w' M12) | (refine wpL_sti M12 rfl rfl rfl rfl ?_; clear M12; intro w' M12) | (refine wpL_sth M12 rfl rfl rfl rfl (wr_minus _ _ _) ?_; clear M12; intro w' M12)))
  obtain ⟨w1, rfl⟩ : ∃ w1, w1 = w' := ⟨_, rfl⟩
  have hA := M12.below
  replace HX := Lib.hid (HX.out.below hA)
  replace HY := Lib.hid (HY.out.below hA)
  replace M0 : Mem w w1 [(g12, 26, [.slice aHY nHY cHY]), (g11, 26, [.slice aHX nHX cHX])] := Mem.join M0 M12
  clear hA M12
  go_wp2_with ((with_reducible refine (?_ : Go.wpList _ _ _ (_ :: _) _ _)); (first | go_skip | (refine wpL_ldc M0 rfl rfl rfl ?_) | (refine wpL_lgc M0 rfl rfl rfl ?_) | (refine wpL_stc M0 rfl rfl rfl rfl ?_; clear M0; intro w' M0) | (refine wpL_sti M0 rfl rfl rfl rfl ?_; clear M0; intro w' M0) | (refine wpL_sth M0 rfl rfl rfl rfl (wr_minus _ _ _) ?_; clear M0; intro w' M0)))
  refine (div16 _ _ p q u v _ HX.out HY.out Sp.out Sq.out E1.out E2.out).mono ?_
  rintro e w1 ⟨tv, tu, rfl, hv, hu, hA⟩
  replace M0 := M0.call hA
  replace HX := Lib.hid (HX.out.below hA)
  replace HY := Lib.hid (HY.out.below hA)
  obtain ⟨aHU, nHU, cHU, rfl, hz⟩ := hv.nm
  have HU : Hid (IsN w1 (.agg #[.slice aHU nHU cHU]) (u)) := Lib.hid hz
  clear hz hv
  obtain ⟨aHV, nHV, cHV, rfl, hz⟩ := hu.nm
  have HV : Hid (IsN w1 (.agg #[.slice aHV nHV cHV]) (v)) := Lib.hid hz
  clear hz hu
  clear hA
  have M20 := Mem.start w1
  go_upto_region 5 with ((with_reducible refine (?_ : Go.wpList _ _ _ (_ :: _) _ _)); (first | go_skip | (refine wpL_bx M20 rfl rfl rfl rfl ?_; clear M20; intro g21 w21 M21) | (refine wpL_alc M20 rfl rfl ?_; clear M20; intro g21 w21 M21) | (refine wpL_ldc M20 rfl rfl rfl ?_) | (refine wpL_lgc M20 rfl rfl rfl ?_) | (refine wpL_stc M20 rfl rfl rfl rfl ?_; clear M20; intro w' M20) | (refine wpL_sti M20 rfl rfl rfl rfl ?_; clear M20; intro w' M20) | (refine wpL_sth M20 rfl rfl rfl rfl (wr_minus _ _ _) ?_; clear M20; intro w' M20) | (refine wpL_bx M21 rfl rfl rfl rfl ?_; clear M21; intro g22 w22 M22) | (refine wpL_alc M21 rfl rfl ?_; clear M21; intro g22 w22 M22) | (refine wpL_ldc M21 rfl rfl rfl ?_) | (refine wpL_lgc M21 rfl rfl rfl ?_) | (refine wpL_stc M21 rfl rfl rfl rfl ?_; clear M21; intro w' M21) | (refine wpL_sti M21 rfl rfl rfl rfl ?_; clear M21; intro w' M21) | (refine wpL_sth M21 rfl rfl rfl rfl (wr_minus _ _ _) ?_; clear M21; intro w' M21) | (refine wpL_ldc M22 rfl rfl rfl ?_) | (refine wpL_lgc M22 rfl rfl rfl ?_) | (refine wpL_stc M22 rfl rfl rfl rfl ?_; clear M22; intro w' M22) | (refine wpL_sti M22 rfl rfl rfl rfl ?_; clear M22; intro w' M22) | (refine wpL_sth M22 rfl rfl rfl rfl (wr_minus _ _ _) ?_; clear M22; intro w' M22)))
  obtain ⟨w1, rfl⟩ : ∃ w1, w1 = w' := ⟨_, rfl⟩
  have hA := M22.below
  replace HX := Lib.hid (HX.out.below hA)
  replace HY := Lib.hid (HY.out.below hA)
  replace HU := Lib.hid (HU.out.below hA)
  replace HV := Lib.hid (HV.out.below hA)
  replace M0 : Mem w w1 [(g22, 26, [.slice aHV nHV cHV]), (g21, 26, [.slice aHU nHU cHU]), (g12, 26, [.slice aHY nHY cHY]), (g11, 26, [.slice aHX nHX cHX])] := Mem.join M0 M22
  clear hA M22
  go_wp2_with ((with_reducible refine (?_ : Go.wpList _ _ _ (_ :: _) _ _)); (first | go_skip | (refine wpL_ldc M0 rfl rfl rfl ?_) | (refine wpL_lgc M0 rfl rfl rfl ?_) | (refine wpL_stc M0 rfl rfl rfl rfl ?_; clear M0; intro w' M0) | (refine wpL_sti M0 rfl rfl rfl rfl ?_; clear M0; intro w' M0) | (refine wpL_sth M0 rfl rfl rfl rfl (wr_minus _ _ _) ?_; clear M0; intro w' M0)))
  refine (DA.out _ M0.below).mono ?_
  rintro e w1 ⟨tv, rfl, hv, hA⟩
  replace M0 := M0.call hA
  replace HX := Lib.hid (HX.out.below hA)
  replace HY := Lib.hid (HY.out.below hA)
  replace HU := Lib.hid (HU.out.below hA)
  replace HV := Lib.hid (HV.out.below hA)
  obtain ⟨aHP, nHP, cHP, rfl, lHP, hz⟩ := hv.nm
  have HP : Hid (Is16 w1 (.slice aHP nHP cHP) (p)) := Lib.hid hz
  have LHP := Lib.hid lHP
  clear lHP hz hv
  clear hA
  go_wp2_with ((with_reducible refine (?_ : Go.wpList _ _ _ (_ :: _) _ _)); (first | go_skip | (refine wpL_ldc M0 rfl rfl rfl ?_) | (refine wpL_lgc M0 rfl rfl rfl ?_) | (refine wpL_stc M0 rfl rfl rfl rfl ?_; clear M0; intro w' M0) | (refine wpL_sti M0 rfl rfl rfl rfl ?_; clear M0; intro w' M0) | (refine wpL_sth M0 rfl rfl rfl rfl (wr_minus _ _ _) ?_; clear M0; intro w' M0)))
  refine (DB.out _ M0.below).mono ?_
  rintro e w1 ⟨tv, rfl, hv, hA⟩
  replace M0 := M0.call hA
  replace HX := Lib.hid (HX.out.below hA)
  replace HY := Lib.hid (HY.out.below hA)
  replace HU := Lib.hid (HU.out.below hA)
  replace HV := Lib.hid (HV.out.below hA)
  replace HP := Lib.hid (HP.out.below hA)
  obtain ⟨aHQ, nHQ, cHQ, rfl, lHQ, hz⟩ := hv.nm
  have HQ : Hid (Is16 w1 (.slice aHQ nHQ cHQ) (q)) := Lib.hid hz
  have LHQ := Lib.hid lHQ
  clear lHQ hz hv
  clear hA
  have hz2 : (nHQ : Int) = 0 := by have h1 := len16_z LHQ.out; have h2 := Z.out; omega
  go_wp2_with ((with_reducible refine (?_ : Go.wpList _ _ _ (_ :: _) _ _)); (first | go_skip | (refine wpL_ldc M0 rfl rfl rfl ?_) | (refine wpL_lgc M0 rfl rfl rfl ?_) | (refine wpL_stc M0 rfl rfl rfl rfl ?_; clear M0; intro w' M0) | (refine wpL_sti M0 rfl rfl rfl rfl ?_; clear M0; intro w' M0) | (refine wpL_sth M0 rfl rfl rfl rfl (wr_minus _ _ _) ?_; clear M0; intro w' M0)))
  refine (zero16 _ u true _ HU.out Su.out E3.out).mono ?_
  rintro e w1 ⟨rfl, hA⟩
  replace M0 := M0.call hA
  replace HX := Lib.hid (HX.out.below hA)
  replace HY := Lib.hid (HY.out.below hA)
  replace HU := Lib.hid (HU.out.below hA)
  replace HV := Lib.hid (HV.out.below hA)
  replace HP := Lib.hid (HP.out.below hA)
  replace HQ := Lib.hid (HQ.out.below hA)
  clear hA
  try clear hz2
  go_wp2_with ((with_reducible refine (?_ : Go.wpList _ _ _ (_ :: _) _ _)); (first | go_skip | (refine wpL_ldc M0 rfl rfl rfl ?_) | (refine wpL_lgc M0 rfl rfl rfl ?_) | (refine wpL_stc M0 rfl rfl rfl rfl ?_; clear M0; intro w' M0) | (refine wpL_sti M0 rfl rfl rfl rfl ?_; clear M0; intro w' M0) | (refine wpL_sth M0 rfl rfl rfl rfl (wr_minus _ _ _) ?_; clear M0; intro w' M0)))
  refine (is_yes _ _ p _ (E4.out ▸ HV.out) HP.out Sp.out).mono ?_
  rintro e w1 ⟨rfl, hA⟩
  replace M0 := M0.call hA
  replace HX := Lib.hid (HX.out.below hA)
  replace HY := Lib.hid (HY.out.below hA)
  replace HU := Lib.hid (HU.out.below hA)
  replace HV := Lib.hid (HV.out.below hA)
  replace HP := Lib.hid (HP.out.below hA)
  replace HQ := Lib.hid (HQ.out.below hA)
  clear hA
  go_wp2_with ((with_reducible refine (?_ : Go.wpList _ _ _ (_ :: _) _ _)); (first | go_skip | (refine wpL_ldc M0 rfl rfl rfl ?_) | (refine wpL_lgc M0 rfl rfl rfl ?_) | (refine wpL_stc M0 rfl rfl rfl rfl ?_; clear M0; intro w' M0) | (refine wpL_sti M0 rfl rfl rfl rfl ?_; clear M0; intro w' M0) | (refine wpL_sth M0 rfl rfl rfl rfl (wr_minus _ _ _) ?_; clear M0; intro w' M0)))
  refine (WK.out _).mono ?_
  rintro e w1 ⟨rfl, hA⟩
  replace M0 := M0.call hA
  replace HX := Lib.hid (HX.out.below hA)
  replace HY := Lib.hid (HY.out.below hA)
  replace HU := Lib.hid (HU.out.below hA)
  replace HV := Lib.hid (HV.out.below hA)
  replace HP := Lib.hid (HP.out.below hA)
  replace HQ := Lib.hid (HQ.out.below hA)
  clear hA
  go_wp2_with ((with_reducible refine (?_ : Go.wpList _ _ _ (_ :: _) _ _)); (first | go_skip | (refine wpL_ldc M0 rfl rfl rfl ?_) | (refine wpL_lgc M0 rfl rfl rfl ?_) | (refine wpL_stc M0 rfl rfl rfl rfl ?_; clear M0; intro w' M0) | (refine wpL_sti M0 rfl rfl rfl rfl ?_; clear M0; intro w' M0) | (refine wpL_sth M0 rfl rfl rfl rfl (wr_minus _ _ _) ?_; clear M0; intro w' M0)))
  go_ret
  exact ⟨rfl, M0.below⟩

set_option maxRecDepth 20000 in
set_option maxHeartbeats 6400000 in
theorem divides_go (a : Option Addr) (n ca : Nat) (b : Option Addr) (m cb : Nat) (p q u v k : Nat) (wk : Works) (w : World) (IA : In16 a n ca w p) (IB : In16 b m cb w q) (hn : n ≤ 20) (hm : m ≤ 20) (hu : Sm u) (hv : Sm v) (h1 : p / q = u) (h2 : p % q = v) (hz : ¬ q = 0) (hk : Sm k) (h3 : u * q = k) (h4 : k + v = p) (h5 : decide (v < q) = true) :
    Calls Tryd.prog 5 #[.slice a n ca, .slice b m cb] w fun e w' => e = .returned (.bool true) ∧ Below w.heap.size w w' := by
  have CA := Lib.hid IA.from_
  have DA := Lib.hid IA.of_
  have CB := Lib.hid IB.from_
  have DB := Lib.hid IB.of_
  have Sp := Lib.hid IA.sm
  have Sq := Lib.hid IB.sm
  have Su := Lib.hid hu
  have Sv := Lib.hid hv
  have E1 := Lib.hid h1
  have E2 := Lib.hid h2
  clear IA IB hu hv h1 h2
  have Z := Lib.hid hz
  have Sk := Lib.hid hk
  have E3 := Lib.hid h3
  have E4 := Lib.hid h4
  have E5 := Lib.hid h5
  clear hz hk h3 h4 h5
  have WK := Lib.hid wk
  clear wk
  have M0 := Mem.start w
  go_enter Tryd.func5, Tryd.ntmps5
  go_wp2_with fail
  refine (light_yes _ _ _ hn).mono ?_
  rintro e w2 ⟨rfl, rfl⟩
  go_wp2_with fail
  refine (light_yes _ _ _ hm).mono ?_
  rintro e w2 ⟨rfl, rfl⟩
  go_wp2_with ((with_reducible refine (?_ : Go.wpList _ _ _ (_ :: _) _ _)); (first | go_skip | (refine wpL_ldc M0 rfl rfl rfl ?_) | (refine wpL_lgc M0 rfl rfl rfl ?_) | (refine wpL_stc M0 rfl rfl rfl rfl ?_; clear M0; intro w' M0) | (refine wpL_sti M0 rfl rfl rfl rfl ?_; clear M0; intro w' M0) | (refine wpL_sth M0 rfl rfl rfl rfl (wr_minus _ _ _) ?_; clear M0; intro w' M0)))
  refine (CA.out _ M0.below).mono ?_
  rintro e w1 ⟨tv, rfl, hv, hA⟩
  replace M0 := M0.call hA
  obtain ⟨aHX, nHX, cHX, rfl, hz⟩ := hv.nm
  have HX : Hid (IsN w1 (.agg #[.slice aHX nHX cHX]) (p)) := Lib.hid hz
  clear hz hv
  clear hA
  go_wp2_with ((with_reducible refine (?_ : Go.wpList _ _ _ (_ :: _) _ _)); (first | go_skip | (refine wpL_ldc M0 rfl rfl rfl ?_) | (refine wpL_lgc M0 rfl rfl rfl ?_) | (refine wpL_stc M0 rfl rfl rfl rfl ?_; clear M0; intro w' M0) | (refine wpL_sti M0 rfl rfl rfl rfl ?_; clear M0; intro w' M0) | (refine wpL_sth M0 rfl rfl rfl rfl (wr_minus _ _ _) ?_; clear M0; intro w' M0)))
  refine (CB.out _ M0.below).mono ?_
  rintro e w1 ⟨tv, rfl, hv, hA⟩
  replace M0 := M0.call hA
  replace HX := Lib.hid (HX.out.below hA)
  obtain ⟨aHY, nHY, cHY, rfl, hz⟩ := hv.nm
  have HY : Hid (IsN w1 (.agg #[.slice aHY nHY cHY]) (q)) := Lib.hid hz
  clear hz hv
  clear hA
  have M10 := Mem.start w1
  go_upto_region 4 with ((with_reducible refine (?_ : Go.wpList _ _ _ (_ :: _) _ _)); (first | go_skip | (refine wpL_bx M10 rfl rfl rfl rfl ?_; clear M10; intro g11 w11 M11) | (refine wpL_alc M10 rfl rfl ?_; clear M10; intro g11 w11 M11) | (refine wpL_ldc M10 rfl rfl rfl ?_) | (refine wpL_lgc M10 rfl rfl rfl ?_) | (refine wpL_stc M10 rfl rfl rfl rfl ?_; clear M10; intro w' M10) | (refine wpL_sti M10 rfl rfl rfl rfl ?_; clear M10; intro w' M10) | (refine wpL_sth M10 rfl rfl rfl rfl (wr_minus _ _ _) ?_; clear M10; intro w' M10) | (refine wpL_bx M11 rfl rfl rfl rfl ?_; clear M11; intro g12 w12 M12) | (refine wpL_alc M11 rfl rfl ?_; clear M11; intro g12 w12 M12) | (refine wpL_ldc M11 rfl rfl rfl ?_) | (refine wpL_lgc M11 rfl rfl rfl ?_) | (refine wpL_stc M11 rfl rfl rfl rfl ?_; clear M11; intro w' M11) | (refine wpL_sti M11 rfl rfl rfl rfl ?_; clear M11; intro w' M11) | (refine wpL_sth M11 rfl rfl rfl rfl (wr_minus _ _ _) ?_; clear M11; intro w' M11) | (refine wpL_ldc M12 rfl rfl rfl ?_) | (refine wpL_lgc M12 rfl rfl rfl ?_) | (refine wpL_stc M12 rfl rfl rfl rfl ?_; clear M12; intro w' M12) | (refine wpL_sti M12 rfl rfl rfl rfl ?_; clear M12; intro w' M12) | (refine wpL_sth M12 rfl rfl rfl rfl (wr_minus _ _ _) ?_; clear M12; intro w' M12)))
  obtain ⟨w1, rfl⟩ : ∃ w1, w1 = w' := ⟨_, rfl⟩
  have hA := M12.below
  replace HX := Lib.hid (HX.out.below hA)
  replace HY := Lib.hid (HY.out.below hA)
  replace M0 : Mem w w1 [(g12, 26, [.slice aHY nHY cHY]), (g11, 26, [.slice aHX nHX cHX])] := Mem.join M0 M12
  clear hA M12
  go_wp2_with ((with_reducible refine (?_ : Go.wpList _ _ _ (_ :: _) _ _)); (first | go_skip | (refine wpL_ldc M0 rfl rfl rfl ?_) | (refine wpL_lgc M0 rfl rfl rfl ?_) | (refine wpL_stc M0 rfl rfl rfl rfl ?_; clear M0; intro w' M0) | (refine wpL_sti M0 rfl rfl rfl rfl ?_; clear M0; intro w' M0) | (refine wpL_sth M0 rfl rfl rfl rfl (wr_minus _ _ _) ?_; clear M0; intro w' M0)))
  refine (div16 _ _ p q u v _ HX.out HY.out Sp.out Sq.out E1.out E2.out).mono ?_
  rintro e w1 ⟨tv, tu, rfl, hv, hu, hA⟩
  replace M0 := M0.call hA
  replace HX := Lib.hid (HX.out.below hA)
  replace HY := Lib.hid (HY.out.below hA)
  obtain ⟨aHU, nHU, cHU, rfl, hz⟩ := hv.nm
  have HU : Hid (IsN w1 (.agg #[.slice aHU nHU cHU]) (u)) := Lib.hid hz
  clear hz hv
  obtain ⟨aHV, nHV, cHV, rfl, hz⟩ := hu.nm
  have HV : Hid (IsN w1 (.agg #[.slice aHV nHV cHV]) (v)) := Lib.hid hz
  clear hz hu
  clear hA
  have M20 := Mem.start w1
  go_upto_region 5 with ((with_reducible refine (?_ : Go.wpList _ _ _ (_ :: _) _ _)); (first | go_skip | (refine wpL_bx M20 rfl rfl rfl rfl ?_; clear M20; intro g21 w21 M21) | (refine wpL_alc M20 rfl rfl ?_; clear M20; intro g21 w21 M21) | (refine wpL_ldc M20 rfl rfl rfl ?_) | (refine wpL_lgc M20 rfl rfl rfl ?_) | (refine wpL_stc M20 rfl rfl rfl rfl ?_; clear M20; intro w' M20) | (refine wpL_sti M20 rfl rfl rfl rfl ?_; clear M20; intro w' M20) | (refine wpL_sth M20 rfl rfl rfl rfl (wr_minus _ _ _) ?_; clear M20; intro w' M20) | (refine wpL_bx M21 rfl rfl rfl rfl ?_; clear M21; intro g22 w22 M22) | (refine wpL_alc M21 rfl rfl ?_; clear M21; intro g22 w22 M22) | (refine wpL_ldc M21 rfl rfl rfl ?_) | (refine wpL_lgc M21 rfl rfl rfl ?_) | (refine wpL_stc M21 rfl rfl rfl rfl ?_; clear M21; intro w' M21) | (refine wpL_sti M21 rfl rfl rfl rfl ?_; clear M21; intro w' M21) | (refine wpL_sth M21 rfl rfl rfl rfl (wr_minus _ _ _) ?_; clear M21; intro w' M21) | (refine wpL_ldc M22 rfl rfl rfl ?_) | (refine wpL_lgc M22 rfl rfl rfl ?_) | (refine wpL_stc M22 rfl rfl rfl rfl ?_; clear M22; intro w' M22) | (refine wpL_sti M22 rfl rfl rfl rfl ?_; clear M22; intro w' M22) | (refine wpL_sth M22 rfl rfl rfl rfl (wr_minus _ _ _) ?_; clear M22; intro w' M22)))
  obtain ⟨w1, rfl⟩ : ∃ w1, w1 = w' := ⟨_, rfl⟩
  have hA := M22.below
  replace HX := Lib.hid (HX.out.below hA)
  replace HY := Lib.hid (HY.out.below hA)
  replace HU := Lib.hid (HU.out.below hA)
  replace HV := Lib.hid (HV.out.below hA)
  replace M0 : Mem w w1 [(g22, 26, [.slice aHV nHV cHV]), (g21, 26, [.slice aHU nHU cHU]), (g12, 26, [.slice aHY nHY cHY]), (g11, 26, [.slice aHX nHX cHX])] := Mem.join M0 M22
  clear hA M22
  go_wp2_with ((with_reducible refine (?_ : Go.wpList _ _ _ (_ :: _) _ _)); (first | go_skip | (refine wpL_ldc M0 rfl rfl rfl ?_) | (refine wpL_lgc M0 rfl rfl rfl ?_) | (refine wpL_stc M0 rfl rfl rfl rfl ?_; clear M0; intro w' M0) | (refine wpL_sti M0 rfl rfl rfl rfl ?_; clear M0; intro w' M0) | (refine wpL_sth M0 rfl rfl rfl rfl (wr_minus _ _ _) ?_; clear M0; intro w' M0)))
  refine (DA.out _ M0.below).mono ?_
  rintro e w1 ⟨tv, rfl, hv, hA⟩
  replace M0 := M0.call hA
  replace HX := Lib.hid (HX.out.below hA)
  replace HY := Lib.hid (HY.out.below hA)
  replace HU := Lib.hid (HU.out.below hA)
  replace HV := Lib.hid (HV.out.below hA)
  obtain ⟨aHP, nHP, cHP, rfl, lHP, hz⟩ := hv.nm
  have HP : Hid (Is16 w1 (.slice aHP nHP cHP) (p)) := Lib.hid hz
  have LHP := Lib.hid lHP
  clear lHP hz hv
  clear hA
  go_wp2_with ((with_reducible refine (?_ : Go.wpList _ _ _ (_ :: _) _ _)); (first | go_skip | (refine wpL_ldc M0 rfl rfl rfl ?_) | (refine wpL_lgc M0 rfl rfl rfl ?_) | (refine wpL_stc M0 rfl rfl rfl rfl ?_; clear M0; intro w' M0) | (refine wpL_sti M0 rfl rfl rfl rfl ?_; clear M0; intro w' M0) | (refine wpL_sth M0 rfl rfl rfl rfl (wr_minus _ _ _) ?_; clear M0; intro w' M0)))
  refine (DB.out _ M0.below).mono ?_
  rintro e w1 ⟨tv, rfl, hv, hA⟩
  replace M0 := M0.call hA
  replace HX := Lib.hid (HX.out.below hA)
  replace HY := Lib.hid (HY.out.below hA)
  replace HU := Lib.hid (HU.out.below hA)
  replace HV := Lib.hid (HV.out.below hA)
  replace HP := Lib.hid (HP.out.below hA)
  obtain ⟨aHQ, nHQ, cHQ, rfl, lHQ, hz⟩ := hv.nm
  have HQ : Hid (Is16 w1 (.slice aHQ nHQ cHQ) (q)) := Lib.hid hz
  have LHQ := Lib.hid lHQ
  clear lHQ hz hv
  clear hA
  have hz2 : ¬ (nHQ : Int) = 0 := by have h1 := len16_z LHQ.out; have h2 := Z.out; omega
  have hz3 : decide ((nHQ : Int) = 0) = false := decide_eq_false hz2
  go_upto_region 8 with ((with_reducible refine (?_ : Go.wpList _ _ _ (_ :: _) _ _)); (first | go_skip | (refine wpL_ldc M0 rfl rfl rfl ?_) | (refine wpL_lgc M0 rfl rfl rfl ?_) | (refine wpL_stc M0 rfl rfl rfl rfl ?_; clear M0; intro w' M0) | (refine wpL_sti M0 rfl rfl rfl rfl ?_; clear M0; intro w' M0) | (refine wpL_sth M0 rfl rfl rfl rfl (wr_minus _ _ _) ?_; clear M0; intro w' M0)))
  clear hz2 hz3
  have hA := drew_below w1
  replace HX := Lib.hid (HX.out.below hA)
  replace HY := Lib.hid (HY.out.below hA)
  replace HU := Lib.hid (HU.out.below hA)
  replace HV := Lib.hid (HV.out.below hA)
  replace HP := Lib.hid (HP.out.below hA)
  replace HQ := Lib.hid (HQ.out.below hA)
  replace M0 := M0.drew
  clear hA
  try simp only [Act.put, List.setIfInBounds_toArray, List.set_cons_zero, List.set_cons_succ, List.getElem_toArray, List.getElem_cons_zero, List.getElem_cons_succ]
  go_cut [11, 12] from 13 (fun s11 s12 wx => ∃ aU nU cU aV nV cV, s11 = .slice aU nU cU ∧ s12 = .slice aV nV cV ∧ Mem w wx [(g22, 26, [.slice aHV nHV cHV]), (g21, 26, [.slice aHU nHU cHU]), (g12, 26, [.slice aHY nHY cHY]), (g11, 26, [.slice aHX nHX cHX])] ∧ Is16 wx (.slice aHP nHP cHP) p ∧ Is16 wx (.slice aHQ nHQ cHQ) q ∧ Is16 wx (.slice aU nU cU) u ∧ Is16 wx (.slice aV nV cV) v)
  case first =>
    try dsimp only [Act.put]
    refine wp_region_held_drew (S := fun w' : World => w'.cell? ⟨g21, 0, none⟩ = some (.slice aHU nHU cHU) ∧ w'.cell? ⟨g22, 0, none⟩ = some (.slice aHV nHV cHV)) (by kernel_rfl) ⟨M0.cell (.tail _ _ _ _ _ (Has.head _ _ _ _)) (i := 0) rfl, M0.cell (Has.head _ _ _ _) (i := 0) rfl⟩ (fun hHeld => ?_)
    refine tkT 0 ?v16001 ?hy16001 hHeld ?rest16001
    case hy16001 => (intro w' hSw; (try dsimp only at hSw); go_simp; (try with_reducible rfl))
    try simp only [Act.put, List.setIfInBounds_toArray, List.set_cons_zero, List.set_cons_succ, List.getElem_toArray, List.getElem_cons_zero, List.getElem_cons_succ]
    refine tkT 3 ?v16002 ?hy16002 hHeld ?rest16002
    case hy16002 => (intro w' hSw; (try dsimp only at hSw); go_simp; (try with_reducible rfl))
    try simp only [Act.put, List.setIfInBounds_toArray, List.set_cons_zero, List.set_cons_succ, List.getElem_toArray, List.getElem_cons_zero, List.getElem_cons_succ]
    refine wpAnyH_ready (rs := [1]) (by kernel_rfl) (by simp) ?_
    refine AllReadyH.cons rfl (fun K hK => ?_) AllReadyH.nil
    go_simp
    refine (parts16 _ u _ HU.out Su.out).mono ?_
    rintro e w1 ⟨tv, rfl, hv, hA⟩
    replace M0 := M0.call hA
    replace HX := Lib.hid (HX.out.below hA)
    replace HY := Lib.hid (HY.out.below hA)
    replace HU := Lib.hid (HU.out.below hA)
    replace HV := Lib.hid (HV.out.below hA)
    replace HP := Lib.hid (HP.out.below hA)
    replace HQ := Lib.hid (HQ.out.below hA)
    obtain ⟨aHK, nHK, cHK, rfl, lHK, hz⟩ := hv.nm
    have HK : Hid (Is32 w1 (.slice aHK nHK cHK) (u)) := Lib.hid hz
    clear lHK hz hv
    clear hA
    try go_wp2_with fail
    clear hHeld
    refine hK.out _ _ ⟨M0.cell (.tail _ _ _ _ _ (Has.head _ _ _ _)) (i := 0) rfl, M0.cell (Has.head _ _ _ _) (i := 0) rfl⟩ (fun hHeld => ?_)
    clear hK K
    try simp only [Act.put, List.setIfInBounds_toArray, List.set_cons_zero, List.set_cons_succ, List.getElem_toArray, List.getElem_cons_zero, List.getElem_cons_succ]
    refine wpAnyH_ready (rs := [2]) (by kernel_rfl) (by simp) ?_
    refine AllReadyH.cons rfl (fun K hK => ?_) AllReadyH.nil
    go_simp
    refine (rof16 _ u _ HK.out Su.out).mono ?_
    rintro e w1 ⟨tv, rfl, hv, hA⟩
    replace M0 := M0.call hA
    replace HX := Lib.hid (HX.out.below hA)
    replace HY := Lib.hid (HY.out.below hA)
    replace HU := Lib.hid (HU.out.below hA)
    replace HV := Lib.hid (HV.out.below hA)
    replace HP := Lib.hid (HP.out.below hA)
    replace HQ := Lib.hid (HQ.out.below hA)
    replace HK := Lib.hid (HK.out.below hA)
    obtain ⟨aHS, nHS, cHS, rfl, lHS, hz⟩ := hv.nm
    have HS : Hid (Is16 w1 (.slice aHS nHS cHS) (u)) := Lib.hid hz
    have LHS := Lib.hid lHS
    clear lHS hz hv
    clear hA
    try go_wp2_with fail
    clear hHeld
    refine hK.out _ _ ⟨M0.cell (.tail _ _ _ _ _ (Has.head _ _ _ _)) (i := 0) rfl, M0.cell (Has.head _ _ _ _) (i := 0) rfl⟩ (fun hHeld => ?_)
    clear hK K
    try simp only [Act.put, List.setIfInBounds_toArray, List.set_cons_zero, List.set_cons_succ, List.getElem_toArray, List.getElem_cons_zero, List.getElem_cons_succ]
    refine wpAnyH_ready (rs := [4]) (by kernel_rfl) (by simp) ?_
    refine AllReadyH.cons rfl (fun K hK => ?_) AllReadyH.nil
    go_simp
    refine (parts16 _ v _ HV.out Sv.out).mono ?_
    rintro e w1 ⟨tv, rfl, hv, hA⟩
    replace M0 := M0.call hA
    replace HX := Lib.hid (HX.out.below hA)
    replace HY := Lib.hid (HY.out.below hA)
    replace HU := Lib.hid (HU.out.below hA)
    replace HV := Lib.hid (HV.out.below hA)
    replace HP := Lib.hid (HP.out.below hA)
    replace HQ := Lib.hid (HQ.out.below hA)
    replace HK := Lib.hid (HK.out.below hA)
    replace HS := Lib.hid (HS.out.below hA)
    obtain ⟨aHL, nHL, cHL, rfl, lHL, hz⟩ := hv.nm
    have HL : Hid (Is32 w1 (.slice aHL nHL cHL) (v)) := Lib.hid hz
    clear lHL hz hv
    clear hA
    try go_wp2_with fail
    clear hHeld
    refine hK.out _ _ ⟨M0.cell (.tail _ _ _ _ _ (Has.head _ _ _ _)) (i := 0) rfl, M0.cell (Has.head _ _ _ _) (i := 0) rfl⟩ (fun hHeld => ?_)
    clear hK K
    try simp only [Act.put, List.setIfInBounds_toArray, List.set_cons_zero, List.set_cons_succ, List.getElem_toArray, List.getElem_cons_zero, List.getElem_cons_succ]
    refine wpAnyH_ready (rs := [5]) (by kernel_rfl) (by simp) ?_
    refine AllReadyH.cons rfl (fun K hK => ?_) AllReadyH.nil
    go_simp
    refine (rof16 _ v _ HL.out Sv.out).mono ?_
    rintro e w1 ⟨tv, rfl, hv, hA⟩
    replace M0 := M0.call hA
    replace HX := Lib.hid (HX.out.below hA)
    replace HY := Lib.hid (HY.out.below hA)
    replace HU := Lib.hid (HU.out.below hA)
    replace HV := Lib.hid (HV.out.below hA)
    replace HP := Lib.hid (HP.out.below hA)
    replace HQ := Lib.hid (HQ.out.below hA)
    replace HK := Lib.hid (HK.out.below hA)
    replace HS := Lib.hid (HS.out.below hA)
    replace HL := Lib.hid (HL.out.below hA)
    obtain ⟨aHT, nHT, cHT, rfl, lHT, hz⟩ := hv.nm
    have HT : Hid (Is16 w1 (.slice aHT nHT cHT) (v)) := Lib.hid hz
    have LHT := Lib.hid lHT
    clear lHT hz hv
    clear hA
    try go_wp2_with fail
    clear hHeld
    refine hK.out _ _ ⟨M0.cell (.tail _ _ _ _ _ (Has.head _ _ _ _)) (i := 0) rfl, M0.cell (Has.head _ _ _ _) (i := 0) rfl⟩ (fun hHeld => ?_)
    clear hK K
    try simp only [Act.put, List.setIfInBounds_toArray, List.set_cons_zero, List.set_cons_succ, List.getElem_toArray, List.getElem_cons_zero, List.getElem_cons_succ]
    refine tkT 6 ?v16003 ?hy16003 hHeld ?rest16003
    case hy16003 => (intro w' hSw; (try dsimp only at hSw); go_simp; (try with_reducible rfl))
    try simp only [Act.put, List.setIfInBounds_toArray, List.set_cons_zero, List.set_cons_succ, List.getElem_toArray, List.getElem_cons_zero, List.getElem_cons_succ]
    refine tkT 7 ?v16004 ?hy16004 hHeld ?rest16004
    case hy16004 => (intro w' hSw; (try dsimp only at hSw); go_simp; (try with_reducible rfl))
    try simp only [Act.put, List.setIfInBounds_toArray, List.set_cons_zero, List.set_cons_succ, List.getElem_toArray, List.getElem_cons_zero, List.getElem_cons_succ]
    refine wpAnyH_done (by kernel_rfl) ?_ _
    go_wp2_with fail
    go_meet
    exact ⟨_, _, _, _, _, _, rfl, rfl, M0, HP.out, HQ.out, HS.out, HT.out⟩
  obtain ⟨aHS, nHS, cHS, aHT, nHT, cHT, rfl, rfl, M1, hP1, hQ1, hS1, hT1⟩ := hcut
  replace M0 := M1
  replace HP := Lib.hid hP1
  replace HQ := Lib.hid hQ1
  have HS := Lib.hid hS1
  have HT := Lib.hid hT1
  clear M1 hP1 hQ1 hS1 hT1 HX HY HU HV
  try simp only [Exit.then, Exit.inBlock]
  go_wp2_with ((with_reducible refine (?_ : Go.wpList _ _ _ (_ :: _) _ _)); (first | go_skip | (refine wpL_ldc M0 rfl rfl rfl ?_) | (refine wpL_lgc M0 rfl rfl rfl ?_) | (refine wpL_stc M0 rfl rfl rfl rfl ?_; clear M0; intro w' M0) | (refine wpL_sti M0 rfl rfl rfl rfl ?_; clear M0; intro w' M0) | (refine wpL_sth M0 rfl rfl rfl rfl (wr_minus _ _ _) ?_; clear M0; intro w' M0)))
  refine (rmul16 _ _ u q k _ HS.out HQ.out Su.out Sq.out E3.out).mono ?_
  rintro e w1 ⟨tv, rfl, hv, hA⟩
  replace M0 := M0.call hA
  replace HP := Lib.hid (HP.out.below hA)
  replace HQ := Lib.hid (HQ.out.below hA)
  replace HS := Lib.hid (HS.out.below hA)
  replace HT := Lib.hid (HT.out.below hA)
  obtain ⟨aHM, nHM, cHM, rfl, lHM, hz⟩ := hv.nm
  have HM : Hid (Is16 w1 (.slice aHM nHM cHM) (k)) := Lib.hid hz
  have LHM := Lib.hid lHM
  clear lHM hz hv
  clear hA
  go_wp2_with ((with_reducible refine (?_ : Go.wpList _ _ _ (_ :: _) _ _)); (first | go_skip | (refine wpL_ldc M0 rfl rfl rfl ?_) | (refine wpL_lgc M0 rfl rfl rfl ?_) | (refine wpL_stc M0 rfl rfl rfl rfl ?_; clear M0; intro w' M0) | (refine wpL_sti M0 rfl rfl rfl rfl ?_; clear M0; intro w' M0) | (refine wpL_sth M0 rfl rfl rfl rfl (wr_minus _ _ _) ?_; clear M0; intro w' M0)))
  refine (radd16 _ _ k v p _ HM.out HT.out Sk.out Sv.out E4.out).mono ?_
  rintro e w1 ⟨tv, rfl, hv, hA⟩
  replace M0 := M0.call hA
  replace HP := Lib.hid (HP.out.below hA)
  replace HQ := Lib.hid (HQ.out.below hA)
  replace HS := Lib.hid (HS.out.below hA)
  replace HT := Lib.hid (HT.out.below hA)
  replace HM := Lib.hid (HM.out.below hA)
  obtain ⟨aHN, nHN, cHN, rfl, lHN, hz⟩ := hv.nm
  have HN : Hid (Is16 w1 (.slice aHN nHN cHN) (p)) := Lib.hid hz
  have LHN := Lib.hid lHN
  clear lHN hz hv
  clear hA
  go_wp2_with ((with_reducible refine (?_ : Go.wpList _ _ _ (_ :: _) _ _)); (first | go_skip | (refine wpL_ldc M0 rfl rfl rfl ?_) | (refine wpL_lgc M0 rfl rfl rfl ?_) | (refine wpL_stc M0 rfl rfl rfl rfl ?_; clear M0; intro w' M0) | (refine wpL_sti M0 rfl rfl rfl rfl ?_; clear M0; intro w' M0) | (refine wpL_sth M0 rfl rfl rfl rfl (wr_minus _ _ _) ?_; clear M0; intro w' M0)))
  refine (same_yes _ _ p _ HN.out HP.out Sp.out).mono ?_
  rintro e w1 ⟨rfl, hA⟩
  replace M0 := M0.call hA
  replace HP := Lib.hid (HP.out.below hA)
  replace HQ := Lib.hid (HQ.out.below hA)
  replace HS := Lib.hid (HS.out.below hA)
  replace HT := Lib.hid (HT.out.below hA)
  replace HM := Lib.hid (HM.out.below hA)
  replace HN := Lib.hid (HN.out.below hA)
  clear hA
  go_wp2_with ((with_reducible refine (?_ : Go.wpList _ _ _ (_ :: _) _ _)); (first | go_skip | (refine wpL_ldc M0 rfl rfl rfl ?_) | (refine wpL_lgc M0 rfl rfl rfl ?_) | (refine wpL_stc M0 rfl rfl rfl rfl ?_; clear M0; intro w' M0) | (refine wpL_sti M0 rfl rfl rfl rfl ?_; clear M0; intro w' M0) | (refine wpL_sth M0 rfl rfl rfl rfl (wr_minus _ _ _) ?_; clear M0; intro w' M0)))
  refine (less16 _ _ v q true _ HT.out HQ.out Sv.out Sq.out E5.out).mono ?_
  rintro e w1 ⟨rfl, hA⟩
  replace M0 := M0.call hA
  replace HP := Lib.hid (HP.out.below hA)
  replace HQ := Lib.hid (HQ.out.below hA)
  replace HS := Lib.hid (HS.out.below hA)
  replace HT := Lib.hid (HT.out.below hA)
  replace HM := Lib.hid (HM.out.below hA)
  replace HN := Lib.hid (HN.out.below hA)
  clear hA
  go_wp2_with ((with_reducible refine (?_ : Go.wpList _ _ _ (_ :: _) _ _)); (first | go_skip | (refine wpL_ldc M0 rfl rfl rfl ?_) | (refine wpL_lgc M0 rfl rfl rfl ?_) | (refine wpL_stc M0 rfl rfl rfl rfl ?_; clear M0; intro w' M0) | (refine wpL_sti M0 rfl rfl rfl rfl ?_; clear M0; intro w' M0) | (refine wpL_sth M0 rfl rfl rfl rfl (wr_minus _ _ _) ?_; clear M0; intro w' M0)))
  refine (WK.out _).mono ?_
  rintro e w1 ⟨rfl, hA⟩
  replace M0 := M0.call hA
  replace HP := Lib.hid (HP.out.below hA)
  replace HQ := Lib.hid (HQ.out.below hA)
  replace HS := Lib.hid (HS.out.below hA)
  replace HT := Lib.hid (HT.out.below hA)
  replace HM := Lib.hid (HM.out.below hA)
  replace HN := Lib.hid (HN.out.below hA)
  clear hA
  go_wp2_with ((with_reducible refine (?_ : Go.wpList _ _ _ (_ :: _) _ _)); (first | go_skip | (refine wpL_ldc M0 rfl rfl rfl ?_) | (refine wpL_lgc M0 rfl rfl rfl ?_) | (refine wpL_stc M0 rfl rfl rfl rfl ?_; clear M0; intro w' M0) | (refine wpL_sti M0 rfl rfl rfl rfl ?_; clear M0; intro w' M0) | (refine wpL_sth M0 rfl rfl rfl rfl (wr_minus _ _ _) ?_; clear M0; intro w' M0)))
  go_ret
  exact ⟨rfl, M0.below⟩

theorem divides_any (wk : Works) (a : Option Addr) (n ca : Nat) (b : Option Addr) (m cb : Nat) (zs ys : List Int) (w : World) (sa : Sl w 1 (.slice a n ca) n (zs.map (.int .u32))) (sb : Sl w 1 (.slice b m cb) m (ys.map (.int .u32))) (ha : ∀ z ∈ zs, 0 ≤ z ∧ z < 4294967296) (hb : ∀ z ∈ ys, 0 ≤ z ∧ z < 4294967296) :
    AnsV 5 #[.slice a n ca, .slice b m cb] w (.bool true) := by
  by_cases hn : n ≤ 20
  · by_cases hm : m ≤ 20
    · obtain ⟨p, IA⟩ := in16 sa ha hn
      obtain ⟨q, IB⟩ := in16 sb hb hm
      have l1 := IA.lt
      have l2 := IB.lt
      have su : Sm (p / q) := sm_le l1 (by decide) (Nat.div_le_self _ _)
      have sv : Sm (p % q) := sm_le l1 (by decide) (Nat.mod_le _ _)
      by_cases hq : q = 0
      · exact divides_zero a n ca b m cb p q (p / q) (p % q) wk w IA IB hn hm su sv rfl rfl hq (by subst hq; simp) (by subst hq; simp)
      · have hd := Nat.div_add_mod p q
        have hc := Nat.mul_comm q (p / q)
        exact divides_go a n ca b m cb p q (p / q) (p % q) (p / q * q) wk w IA IB hn hm su sv rfl rfl hq (sm_le l1 (by decide) (by omega)) rfl (by omega) (decide_eq_true (Nat.mod_lt _ (by omega)))
    · exact divides_heavy2 a n ca b m cb wk w hn hm
  · exact divides_heavy1 a n ca b m cb wk w hn
end Go.Proofs.YtghioakpigdagaaDoor
