/-
  NatShifts: the walk.
-/
import Derived.Test.YtghioakpigdagaaDoorLaw16m
set_option linter.unusedVariables false
set_option linter.unusedSimpArgs false
namespace Go.Proofs.YtghioakpigdagaaDoor
open Go Go.RowKit Go.Th Go.Th.Dig
theorem shlself16 (v : Value) (p : Nat) (w : World) (hp : IsN w v p) (h1 : Sm p) : AnsN 27 #[v, .int .i64 (-1)] w p := shl_self v p (-1) w hp h1.1 (Or.inl (by decide))
theorem shrself16 (v : Value) (p : Nat) (w : World) (hp : IsN w v p) (h1 : Sm p) : AnsN 29 #[v, .int .i64 (-1)] w p := shr_self v p (-1) w hp h1.1 (by decide)
theorem Is16.kept {w w' : World} {v : Value} {p g : Nat} {t : TypeId} {a : Option Addr} {n c : Nat} (h : Is16 w v p) (K : Blk w g t [.slice a n c]) (_ : NoPart [.slice a n c]) (hT : Turned (fun k => k = g) w w') : Is16 w' v p := by
  obtain ⟨a0, cap, rfl, h1, h2, h3, h4, h5⟩ := id h
  refine ⟨a0, cap, rfl, h1, h2, h3, h4, fun j u hu => ?_⟩
  obtain ⟨b, o, ha, hc⟩ := h5 j u hu
  refine ⟨b, o, ha, (hT.cell (p := ⟨b, o + j, none⟩) (World.block_lt_of_cell? w _ hc) (fun e => ?_)).trans hc⟩
  obtain rfl : b = g := e
  obtain ⟨x, _, rfl⟩ := List.mem_map.1 (List.mem_of_getElem? hu)
  unfold Blk at K
  have h2 : (#[Value.slice a n c])[o + j]? = some (.int .i64 (x : Int)) := by simpa [World.cell?, K] using hc
  have h3 := Array.mem_of_getElem? h2
  simp at h3
theorem bits0 (v : Value) (p : Nat) (w : World) (hp : IsN w v p) (h1 : Sm p) (h : nb p = 0) : AnsV 28 #[v] w (.int .i64 0) := bits16 v p 0 w hp h1 h
theorem rpow0 (r : Nat) (w : World) (h : 2 ^ 0 = r) : AnsD 26 #[.int .i64 0] w r := rpow16 0 r w (by decide) h
theorem cmp_same (v u : Value) (p : Nat) (w : World) (hp : IsN w v p) (hq : IsN w u p) (h1 : Sm p) : AnsV 17 #[v, u] w (.int .i64 0) := cmp16 v u p p 0 w hp hq h1 h1 (by unfold cmpN; simp)
set_option maxRecDepth 20000 in
set_option maxHeartbeats 6400000 in
theorem shifts_heavy (a : Option Addr) (n ca : Nat) (s : Nat) (wk : Works) (w : World) (hn : ¬ n ≤ 20) :
    Calls Tryd.prog 6 #[.slice a n ca, .int .u8 s] w fun e w' => e = .returned (.bool true) ∧ Below w.heap.size w w' := by
  have WK := Lib.hid wk
  clear wk
  have M0 := Mem.start w
  go_enter Tryd.func6, Tryd.ntmps6
  go_wp2_with fail
  refine (light_no _ _ _ hn).mono ?_
  rintro e w2 ⟨rfl, rfl⟩
  go_wp2_with ((with_reducible refine (?_ : Go.wpList _ _ _ (_ :: _) _ _)); (first | go_skip | (refine wpL_ldc M0 rfl rfl rfl ?_) | (refine wpL_lgc M0 rfl rfl rfl ?_) | (refine wpL_stc M0 rfl rfl rfl rfl ?_; clear M0; intro w' M0) | (refine wpL_sti M0 rfl rfl rfl rfl ?_; clear M0; intro w' M0) | (refine wpL_sth M0 rfl rfl rfl rfl (wr_minus _ _ _) ?_; clear M0; intro w' M0)))
  refine (WK.out _).mono ?_
  rintro e w1 ⟨rfl, hA⟩
  replace M0 := M0.call hA
  clear hA
  go_wp2_with ((with_reducible refine (?_ : Go.wpList _ _ _ (_ :: _) _ _)); (first | go_skip | (refine wpL_ldc M0 rfl rfl rfl ?_) | (refine wpL_lgc M0 rfl rfl rfl ?_) | (refine wpL_stc M0 rfl rfl rfl rfl ?_; clear M0; intro w' M0) | (refine wpL_sti M0 rfl rfl rfl rfl ?_; clear M0; intro w' M0) | (refine wpL_sth M0 rfl rfl rfl rfl (wr_minus _ _ _) ?_; clear M0; intro w' M0)))
  go_ret
  exact ⟨rfl, M0.below⟩

theorem i64b16 {s : Nat} (h : s < 1000) : wrap64 (s : Int) = (s : Int) := by unfold wrap64; omega
theorem i64s16 {s : Nat} (h : s < 256) : wrap64 (s : Int) = (s : Int) := i64b16 (by omega)
set_option maxRecDepth 20000 in
set_option maxHeartbeats 6400000 in
theorem shifts_go (a : Option Addr) (n ca : Nat) (p s t r v k pb b e pe : Nat) (wk : Works) (w : World) (IA : In16 a n ca w p) (hn : n ≤ 20) (hs : s < 256) (ht : Sm t) (hr : Sm r) (hk : Sm k) (hpb : Sm pb) (h1 : 2 ^ s = t) (h2 : p / t = r) (h3 : p % t = v) (h4 : nb p = b) (h5 : 2 ^ b = pb) (h6 : decide (p < pb) = true) (hkk : Hid (p * 2 ^ s = k)) (hkt : Hid (p * t = k)) (hrr : Hid (p / 2 ^ s = r)) (hpe : Sm pe) (h8 : 2 ^ e = pe) (h10 : b ≤ 640) (h11 : b = 0 ∨ b = e + 1 ∧ decide (p < pe) = false) :
    Calls Tryd.prog 6 #[.slice a n ca, .int .u8 s] w fun e w' => e = .returned (.bool true) ∧ Below w.heap.size w w' := by
  have CA := Lib.hid IA.from_
  have DA := Lib.hid IA.of_
  have Sp := Lib.hid IA.sm
  have St := Lib.hid ht
  have Sr := Lib.hid hr
  have Sk := Lib.hid hk
  have Spb := Lib.hid hpb
  have S1 : Hid (Sm 1) := Lib.hid (sm_of (k := 1) (by decide) (by decide))
  have HS := Lib.hid hs
  have E1 := Lib.hid h1
  have E2 := Lib.hid h2
  have E3 := Lib.hid h3
  have E4 := Lib.hid h4
  have E5 := Lib.hid h5
  have E6 := Lib.hid h6
  have CO := Lib.hid (of_any 1 (by decide))
  clear IA ht hr hk hpb h1 h2 h3 h4 h5 h6
  have E7 : Hid (1 * 2 ^ s = t) := Lib.hid (by have := E1.out; omega)
  have Spe := Lib.hid hpe
  have E8 := Lib.hid h8
  have E10 := Lib.hid h10
  have EB := Lib.hid h11
  clear hpe h8 h10 h11
  have WK := Lib.hid wk
  clear wk
  have M0 := Mem.start w
  go_enter Tryd.func6, Tryd.ntmps6
  go_wp2_with fail
  refine (light_yes _ _ _ hn).mono ?_
  rintro e w2 ⟨rfl, rfl⟩
  go_wp2_with ((with_reducible refine (?_ : Go.wpList _ _ _ (_ :: _) _ _)); (first | go_skip | (refine wpL_ldc M0 rfl rfl rfl ?_) | (refine wpL_lgc M0 rfl rfl rfl ?_) | (refine wpL_stc M0 rfl rfl rfl rfl ?_; clear M0; intro w' M0) | (refine wpL_sti M0 rfl rfl rfl rfl ?_; clear M0; intro w' M0) | (refine wpL_sth M0 rfl rfl rfl rfl (wr_minus _ _ _) ?_; clear M0; intro w' M0)))
  refine (CA.out _ M0.below).mono ?_
  rintro e w1 ⟨tv, rfl, hv, hA⟩
  replace M0 := M0.call hA
  obtain ⟨aHX, nHX, cHX, rfl, hz⟩ := hv.nm
  have HX : Hid (IsN w1 (.agg #[.slice aHX nHX cHX]) (p)) := Lib.hid hz
  clear hz hv
  clear hA
  have M10 := Mem.start w1
  go_upto_region 4 with ((with_reducible refine (?_ : Go.wpList _ _ _ (_ :: _) _ _)); (first | go_skip | (refine wpL_bx M10 rfl rfl rfl rfl ?_; clear M10; intro g11 w11 M11) | (refine wpL_alc M10 rfl rfl ?_; clear M10; intro g11 w11 M11) | (refine wpL_ldc M10 rfl rfl rfl ?_) | (refine wpL_lgc M10 rfl rfl rfl ?_) | (refine wpL_stc M10 rfl rfl rfl rfl ?_; clear M10; intro w' M10) | (refine wpL_sti M10 rfl rfl rfl rfl ?_; clear M10; intro w' M10) | (refine wpL_sth M10 rfl rfl rfl rfl (wr_minus _ _ _) ?_; clear M10; intro w' M10) | (refine wpL_ldc M11 rfl rfl rfl ?_) | (refine wpL_lgc M11 rfl rfl rfl ?_) | (refine wpL_stc M11 rfl rfl rfl rfl ?_; clear M11; intro w' M11) | (refine wpL_sti M11 rfl rfl rfl rfl ?_; clear M11; intro w' M11) | (refine wpL_sth M11 rfl rfl rfl rfl (wr_minus _ _ _) ?_; clear M11; intro w' M11)))
  obtain ⟨w1, rfl⟩ : ∃ w1, w1 = w' := ⟨_, rfl⟩
  have hA := M11.below
  replace HX := Lib.hid (HX.out.below hA)
  replace M0 : Mem w w1 [(g11, 26, [.slice aHX nHX cHX])] := Mem.join M0 M11
  clear hA M11
  go_wp2_with ((with_reducible refine (?_ : Go.wpList _ _ _ (_ :: _) _ _)); (first | go_skip | (refine wpL_ldc M0 rfl rfl rfl ?_) | (refine wpL_lgc M0 rfl rfl rfl ?_) | (refine wpL_stc M0 rfl rfl rfl rfl ?_; clear M0; intro w' M0) | (refine wpL_sti M0 rfl rfl rfl rfl ?_; clear M0; intro w' M0) | (refine wpL_sth M0 rfl rfl rfl rfl (wr_minus _ _ _) ?_; clear M0; intro w' M0)))
  refine (DA.out _ M0.below).mono ?_
  rintro e w1 ⟨tv, rfl, hv, hA⟩
  replace M0 := M0.call hA
  replace HX := Lib.hid (HX.out.below hA)
  obtain ⟨aHP, nHP, cHP, rfl, lHP, hz⟩ := hv.nm
  have HP : Hid (Is16 w1 (.slice aHP nHP cHP) (p)) := Lib.hid hz
  have LHP := Lib.hid lHP
  clear lHP hz hv
  clear hA
  have hsw : IntKind.i64.wrap (s : Int) = (s : Int) := IntWalk.i64_in _ (by have := HS.out; omega)
  have hsw2 : wrap64 (s : Int) = (s : Int) := i64s16 HS.out
  go_wp2_with ((with_reducible refine (?_ : Go.wpList _ _ _ (_ :: _) _ _)); (first | go_skip | (refine wpL_ldc M0 rfl rfl rfl ?_) | (refine wpL_lgc M0 rfl rfl rfl ?_) | (refine wpL_stc M0 rfl rfl rfl rfl ?_; clear M0; intro w' M0) | (refine wpL_sti M0 rfl rfl rfl rfl ?_; clear M0; intro w' M0) | (refine wpL_sth M0 rfl rfl rfl rfl (wr_minus _ _ _) ?_; clear M0; intro w' M0)))
  refine (rpow16 s t _ (by have := HS.out; omega) E1.out).mono ?_
  rintro e w1 ⟨tv, rfl, hv, hA⟩
  replace M0 := M0.call hA
  replace HX := Lib.hid (HX.out.below hA)
  replace HP := Lib.hid (HP.out.below hA)
  obtain ⟨aHT, nHT, cHT, rfl, lHT, hz⟩ := hv.nm
  have HT : Hid (Is16 w1 (.slice aHT nHT cHT) (t)) := Lib.hid hz
  have LHT := Lib.hid lHT
  clear lHT hz hv
  clear hA
  go_upto_region 6 with ((with_reducible refine (?_ : Go.wpList _ _ _ (_ :: _) _ _)); (first | go_skip | (refine wpL_ldc M0 rfl rfl rfl ?_) | (refine wpL_lgc M0 rfl rfl rfl ?_) | (refine wpL_stc M0 rfl rfl rfl rfl ?_; clear M0; intro w' M0) | (refine wpL_sti M0 rfl rfl rfl rfl ?_; clear M0; intro w' M0) | (refine wpL_sth M0 rfl rfl rfl rfl (wr_minus _ _ _) ?_; clear M0; intro w' M0)))
  have hA := drew_below w1
  replace HX := Lib.hid (HX.out.below hA)
  replace HP := Lib.hid (HP.out.below hA)
  replace HT := Lib.hid (HT.out.below hA)
  replace M0 := M0.drew
  clear hA
  try simp only [Act.put, List.setIfInBounds_toArray, List.set_cons_zero, List.set_cons_succ, List.getElem_toArray, List.getElem_cons_zero, List.getElem_cons_succ]
  go_cut [8, 9] from 12 (fun s8 s9 wx => ∃ g2 g3 aQ nQ cQ aR nR cR, s8 = .pointer (some ⟨g2, 0, none⟩) ∧ s9 = .pointer (some ⟨g3, 0, none⟩) ∧ Mem w wx [(g3, 26, [.slice aR nR cR]), (g2, 26, [.slice aQ nQ cQ]), (g11, 26, [.slice aHX nHX cHX])] ∧ IsN wx (.agg #[.slice aHX nHX cHX]) p ∧ Is16 wx (.slice aHP nHP cHP) p ∧ Is16 wx (.slice aHT nHT cHT) t ∧ IsN wx (.agg #[.slice aQ nQ cQ]) r)
  case first =>
    try dsimp only [Act.put]
    refine wp_region_held_drew (S := fun w' : World => w'.cell? ⟨g11, 0, none⟩ = some (.slice aHX nHX cHX)) (by kernel_rfl) (M0.cell (Has.head _ _ _ _) (i := 0) rfl) (fun hHeld => ?_)
    refine tkT 0 ?v16001 ?hy16001 hHeld ?rest16001
    case hy16001 => (intro w' hSw; (try dsimp only at hSw); go_simp; (try with_reducible rfl))
    try simp only [Act.put, List.setIfInBounds_toArray, List.set_cons_zero, List.set_cons_succ, List.getElem_toArray, List.getElem_cons_zero, List.getElem_cons_succ]
    refine tkT 2 ?v16002 ?hy16002 hHeld ?rest16002
    case hy16002 => (intro w' hSw; (try dsimp only at hSw); go_simp; (try with_reducible rfl))
    try simp only [Act.put, List.setIfInBounds_toArray, List.set_cons_zero, List.set_cons_succ, List.getElem_toArray, List.getElem_cons_zero, List.getElem_cons_succ]
    refine tkT 3 ?v16003 ?hy16003 hHeld ?rest16003
    case hy16003 => (intro w' hSw; (try dsimp only at hSw); go_simp; (try with_reducible rfl))
    try simp only [Act.put, List.setIfInBounds_toArray, List.set_cons_zero, List.set_cons_succ, List.getElem_toArray, List.getElem_cons_zero, List.getElem_cons_succ]
    refine wpAnyH_ready (rs := [1, 9, 10]) (by kernel_rfl) (by simp) ?_
    refine AllReadyH.cons rfl (fun K hK => ?_) (AllReadyH.cons rfl (fun K hK => ?_) (AllReadyH.cons rfl (fun K hK => ?_) AllReadyH.nil))
    · go_simp
      refine (CO.out _).mono ?_
      rintro e w1 ⟨tv, rfl, hv, hA⟩
      replace M0 := M0.call hA
      replace HX := Lib.hid (HX.out.below hA)
      replace HP := Lib.hid (HP.out.below hA)
      replace HT := Lib.hid (HT.out.below hA)
      obtain ⟨aHO, nHO, cHO, rfl, hz⟩ := hv.nm
      have HO : Hid (IsN w1 (.agg #[.slice aHO nHO cHO]) (1)) := Lib.hid hz
      clear hz hv
      clear hA
      try go_wp2_with fail
      clear hHeld
      refine hK.out _ _ (M0.cell (Has.head _ _ _ _) (i := 0) rfl) (fun hHeld => ?_)
      clear hK K
      try simp only [Act.put, List.setIfInBounds_toArray, List.set_cons_zero, List.set_cons_succ, List.getElem_toArray, List.getElem_cons_zero, List.getElem_cons_succ]
      refine wpAnyH_ready (rs := [4, 9, 10]) (by kernel_rfl) (by simp) ?_
      refine AllReadyH.cons rfl (fun K hK => ?_) (AllReadyH.cons rfl (fun K hK => ?_) (AllReadyH.cons rfl (fun K hK => ?_) AllReadyH.nil))
      · go_simp
        refine (shl16 _ 1 s t _ HO.out S1.out (by have := HS.out; omega) E7.out).mono ?_
        rintro e w1 ⟨tv, rfl, hv, hA⟩
        replace M0 := M0.call hA
        replace HX := Lib.hid (HX.out.below hA)
        replace HP := Lib.hid (HP.out.below hA)
        replace HT := Lib.hid (HT.out.below hA)
        replace HO := Lib.hid (HO.out.below hA)
        obtain ⟨aHL, nHL, cHL, rfl, hz⟩ := hv.nm
        have HL : Hid (IsN w1 (.agg #[.slice aHL nHL cHL]) (t)) := Lib.hid hz
        clear hz hv
        clear hA
        try go_wp2_with fail
        clear hHeld
        refine hK.out _ _ (M0.cell (Has.head _ _ _ _) (i := 0) rfl) (fun hHeld => ?_)
        clear hK K
        try simp only [Act.put, List.setIfInBounds_toArray, List.set_cons_zero, List.set_cons_succ, List.getElem_toArray, List.getElem_cons_zero, List.getElem_cons_succ]
        refine wpAnyH_ready (rs := [5, 9, 10]) (by kernel_rfl) (by simp) ?_
        refine AllReadyH.cons rfl (fun K hK => ?_) (AllReadyH.cons rfl (fun K hK => ?_) (AllReadyH.cons rfl (fun K hK => ?_) AllReadyH.nil))
        · go_simp
          refine (div16 _ _ p t r v _ HX.out HL.out Sp.out St.out E2.out E3.out).mono ?_
          rintro e w1 ⟨tv, tu, rfl, hv, hu, hA⟩
          replace M0 := M0.call hA
          replace HX := Lib.hid (HX.out.below hA)
          replace HP := Lib.hid (HP.out.below hA)
          replace HT := Lib.hid (HT.out.below hA)
          replace HO := Lib.hid (HO.out.below hA)
          replace HL := Lib.hid (HL.out.below hA)
          obtain ⟨aHQ, nHQ, cHQ, rfl, hz⟩ := hv.nm
          have HQ : Hid (IsN w1 (.agg #[.slice aHQ nHQ cHQ]) (r)) := Lib.hid hz
          clear hz hv
          obtain ⟨aHR, nHR, cHR, rfl, hz⟩ := hu.nm
          have HR : Hid (IsN w1 (.agg #[.slice aHR nHR cHR]) (v)) := Lib.hid hz
          clear hz hu
          clear hA
          try go_wp2_with fail
          clear hHeld
          refine hK.out _ _ (M0.cell (Has.head _ _ _ _) (i := 0) rfl) (fun hHeld => ?_)
          clear hK K
          try simp only [Act.put, List.setIfInBounds_toArray, List.set_cons_zero, List.set_cons_succ, List.getElem_toArray, List.getElem_cons_zero, List.getElem_cons_succ]
          refine tkT 6 ?v16004 ?hy16004 hHeld ?rest16004
          case hy16004 => (intro w' hSw; (try dsimp only at hSw); go_simp; (try with_reducible rfl))
          try simp only [Act.put, List.setIfInBounds_toArray, List.set_cons_zero, List.set_cons_succ, List.getElem_toArray, List.getElem_cons_zero, List.getElem_cons_succ]
          refine tkT 7 ?v16005 ?hy16005 hHeld ?rest16005
          case hy16005 => (intro w' hSw; (try dsimp only at hSw); go_simp; (try with_reducible rfl))
          try simp only [Act.put, List.setIfInBounds_toArray, List.set_cons_zero, List.set_cons_succ, List.getElem_toArray, List.getElem_cons_zero, List.getElem_cons_succ]
          refine tkT 8 ?v16006 ?hy16006 hHeld ?rest16006
          case hy16006 => (intro w' hSw; (try dsimp only at hSw); go_simp; (try with_reducible rfl))
          try simp only [Act.put, List.setIfInBounds_toArray, List.set_cons_zero, List.set_cons_succ, List.getElem_toArray, List.getElem_cons_zero, List.getElem_cons_succ]
          refine wpAnyH_ready (rs := [9, 10]) (by kernel_rfl) (by simp) ?_
          refine AllReadyH.cons rfl (fun K hK => ?_) (AllReadyH.cons rfl (fun K hK => ?_) AllReadyH.nil)
          · rw [if_pos (by rfl)]
            refine wp_al (Mem.start w1) rfl zeroNat16 rfl ?_
            intro g2 w1 M9
            have hA := M9.below
            replace HX := Lib.hid (HX.out.below hA)
            replace HP := Lib.hid (HP.out.below hA)
            replace HT := Lib.hid (HT.out.below hA)
            replace HO := Lib.hid (HO.out.below hA)
            replace HL := Lib.hid (HL.out.below hA)
            replace HQ := Lib.hid (HQ.out.below hA)
            replace HR := Lib.hid (HR.out.below hA)
            replace M0 : Mem w w1 [(g2, 26, [.slice none 0 0]), (g11, 26, [.slice aHX nHX cHX])] := Mem.join M0 M9
            clear hA M9
            clear hHeld
            refine hK.out _ _ (M0.cell (.tail _ _ _ _ _ (Has.head _ _ _ _)) (i := 0) rfl) (fun hHeld => ?_)
            clear hK K
            try simp only [Act.put, List.setIfInBounds_toArray, List.set_cons_zero, List.set_cons_succ, List.getElem_toArray, List.getElem_cons_zero, List.getElem_cons_succ]
            refine wpAnyH_ready (rs := [10]) (by kernel_rfl) (by simp) ?_
            refine AllReadyH.cons rfl (fun K hK => ?_) AllReadyH.nil
            rw [if_pos (by rfl)]
            refine wp_al (Mem.start w1) rfl zeroNat16 rfl ?_
            intro g3 w1 M9
            have hA := M9.below
            replace HX := Lib.hid (HX.out.below hA)
            replace HP := Lib.hid (HP.out.below hA)
            replace HT := Lib.hid (HT.out.below hA)
            replace HO := Lib.hid (HO.out.below hA)
            replace HL := Lib.hid (HL.out.below hA)
            replace HQ := Lib.hid (HQ.out.below hA)
            replace HR := Lib.hid (HR.out.below hA)
            replace M0 : Mem w w1 [(g3, 26, [.slice none 0 0]), (g2, 26, [.slice none 0 0]), (g11, 26, [.slice aHX nHX cHX])] := Mem.join M0 M9
            clear hA M9
            clear hHeld
            refine hK.out _ _ (M0.cell (.tail _ _ _ _ _ (.tail _ _ _ _ _ (Has.head _ _ _ _))) (i := 0) rfl) (fun hHeld => ?_)
            clear hK K
            try simp only [Act.put, List.setIfInBounds_toArray, List.set_cons_zero, List.set_cons_succ, List.getElem_toArray, List.getElem_cons_zero, List.getElem_cons_succ]
            refine wpAnyH_ready (rs := [11]) (by kernel_rfl) (by simp) ?_
            refine AllReadyH.cons rfl (fun K hK => ?_) AllReadyH.nil
            rw [if_pos (by rfl)]
            refine wp_stM (v := (.agg #[.slice aHQ nHQ cHQ])) M0 rfl rfl rfl (wr_nat _ _ _ _) (.tail _ _ _ _ _ _ _ (Upd.head _ _ _ _ _)) ?_
            intro w1 M9 hT9
            replace HX := Lib.hid (HX.out.kept (M0.has (.tail _ _ _ _ _ (Has.head _ _ _ _))) (noPart_sl _ _ _) hT9)
            replace HP := Lib.hid (HP.out.kept (M0.has (.tail _ _ _ _ _ (Has.head _ _ _ _))) (noPart_sl _ _ _) hT9)
            replace HT := Lib.hid (HT.out.kept (M0.has (.tail _ _ _ _ _ (Has.head _ _ _ _))) (noPart_sl _ _ _) hT9)
            replace HO := Lib.hid (HO.out.kept (M0.has (.tail _ _ _ _ _ (Has.head _ _ _ _))) (noPart_sl _ _ _) hT9)
            replace HL := Lib.hid (HL.out.kept (M0.has (.tail _ _ _ _ _ (Has.head _ _ _ _))) (noPart_sl _ _ _) hT9)
            replace HQ := Lib.hid (HQ.out.kept (M0.has (.tail _ _ _ _ _ (Has.head _ _ _ _))) (noPart_sl _ _ _) hT9)
            replace HR := Lib.hid (HR.out.kept (M0.has (.tail _ _ _ _ _ (Has.head _ _ _ _))) (noPart_sl _ _ _) hT9)
            replace M0 := M9
            clear M9 hT9
            clear hHeld
            refine hK.out _ _ (M0.cell (.tail _ _ _ _ _ (.tail _ _ _ _ _ (Has.head _ _ _ _))) (i := 0) rfl) (fun hHeld => ?_)
            clear hK K
            try simp only [Act.put, List.setIfInBounds_toArray, List.set_cons_zero, List.set_cons_succ, List.getElem_toArray, List.getElem_cons_zero, List.getElem_cons_succ]
            refine wpAnyH_ready (rs := [12]) (by kernel_rfl) (by simp) ?_
            refine AllReadyH.cons rfl (fun K hK => ?_) AllReadyH.nil
            rw [if_pos (by rfl)]
            refine wp_stM (v := (.agg #[.slice aHR nHR cHR])) M0 rfl rfl rfl (wr_nat _ _ _ _) (Upd.head _ _ _ _ _) ?_
            intro w1 M9 hT9
            replace HX := Lib.hid (HX.out.kept (M0.has (Has.head _ _ _ _)) (noPart_sl _ _ _) hT9)
            replace HP := Lib.hid (HP.out.kept (M0.has (Has.head _ _ _ _)) (noPart_sl _ _ _) hT9)
            replace HT := Lib.hid (HT.out.kept (M0.has (Has.head _ _ _ _)) (noPart_sl _ _ _) hT9)
            replace HO := Lib.hid (HO.out.kept (M0.has (Has.head _ _ _ _)) (noPart_sl _ _ _) hT9)
            replace HL := Lib.hid (HL.out.kept (M0.has (Has.head _ _ _ _)) (noPart_sl _ _ _) hT9)
            replace HQ := Lib.hid (HQ.out.kept (M0.has (Has.head _ _ _ _)) (noPart_sl _ _ _) hT9)
            replace HR := Lib.hid (HR.out.kept (M0.has (Has.head _ _ _ _)) (noPart_sl _ _ _) hT9)
            replace M0 := M9
            clear M9 hT9
            clear hHeld
            refine hK.out _ _ (M0.cell (.tail _ _ _ _ _ (.tail _ _ _ _ _ (Has.head _ _ _ _))) (i := 0) rfl) (fun hHeld => ?_)
            clear hK K
            try simp only [Act.put, List.setIfInBounds_toArray, List.set_cons_zero, List.set_cons_succ, List.getElem_toArray, List.getElem_cons_zero, List.getElem_cons_succ]
            refine wpAnyH_done (by kernel_rfl) ?_ _
            go_wp2_with fail
            go_meet
            exact ⟨g2, g3, _, _, _, _, _, _, rfl, rfl, M0.perm16 (List.Perm.refl _), HX.out, HP.out, HT.out, HQ.out⟩
          · rw [if_pos (by rfl)]
            refine wp_al (Mem.start w1) rfl zeroNat16 rfl ?_
            intro g3 w1 M9
            have hA := M9.below
            replace HX := Lib.hid (HX.out.below hA)
            replace HP := Lib.hid (HP.out.below hA)
            replace HT := Lib.hid (HT.out.below hA)
            replace HO := Lib.hid (HO.out.below hA)
            replace HL := Lib.hid (HL.out.below hA)
            replace HQ := Lib.hid (HQ.out.below hA)
            replace HR := Lib.hid (HR.out.below hA)
            replace M0 : Mem w w1 [(g3, 26, [.slice none 0 0]), (g11, 26, [.slice aHX nHX cHX])] := Mem.join M0 M9
            clear hA M9
            clear hHeld
            refine hK.out _ _ (M0.cell (.tail _ _ _ _ _ (Has.head _ _ _ _)) (i := 0) rfl) (fun hHeld => ?_)
            clear hK K
            try simp only [Act.put, List.setIfInBounds_toArray, List.set_cons_zero, List.set_cons_succ, List.getElem_toArray, List.getElem_cons_zero, List.getElem_cons_succ]
            refine wpAnyH_ready (rs := [9]) (by kernel_rfl) (by simp) ?_
            refine AllReadyH.cons rfl (fun K hK => ?_) AllReadyH.nil
            rw [if_pos (by rfl)]
            refine wp_al (Mem.start w1) rfl zeroNat16 rfl ?_
            intro g2 w1 M9
            have hA := M9.below
            replace HX := Lib.hid (HX.out.below hA)
            replace HP := Lib.hid (HP.out.below hA)
            replace HT := Lib.hid (HT.out.below hA)
            replace HO := Lib.hid (HO.out.below hA)
            replace HL := Lib.hid (HL.out.below hA)
            replace HQ := Lib.hid (HQ.out.below hA)
            replace HR := Lib.hid (HR.out.below hA)
            replace M0 : Mem w w1 [(g2, 26, [.slice none 0 0]), (g3, 26, [.slice none 0 0]), (g11, 26, [.slice aHX nHX cHX])] := Mem.join M0 M9
            clear hA M9
            clear hHeld
            refine hK.out _ _ (M0.cell (.tail _ _ _ _ _ (.tail _ _ _ _ _ (Has.head _ _ _ _))) (i := 0) rfl) (fun hHeld => ?_)
            clear hK K
            try simp only [Act.put, List.setIfInBounds_toArray, List.set_cons_zero, List.set_cons_succ, List.getElem_toArray, List.getElem_cons_zero, List.getElem_cons_succ]
            refine wpAnyH_ready (rs := [11]) (by kernel_rfl) (by simp) ?_
            refine AllReadyH.cons rfl (fun K hK => ?_) AllReadyH.nil
            rw [if_pos (by rfl)]
            refine wp_stM (v := (.agg #[.slice aHQ nHQ cHQ])) M0 rfl rfl rfl (wr_nat _ _ _ _) (Upd.head _ _ _ _ _) ?_
            intro w1 M9 hT9
            replace HX := Lib.hid (HX.out.kept (M0.has (Has.head _ _ _ _)) (noPart_sl _ _ _) hT9)
            replace HP := Lib.hid (HP.out.kept (M0.has (Has.head _ _ _ _)) (noPart_sl _ _ _) hT9)
            replace HT := Lib.hid (HT.out.kept (M0.has (Has.head _ _ _ _)) (noPart_sl _ _ _) hT9)
            replace HO := Lib.hid (HO.out.kept (M0.has (Has.head _ _ _ _)) (noPart_sl _ _ _) hT9)
            replace HL := Lib.hid (HL.out.kept (M0.has (Has.head _ _ _ _)) (noPart_sl _ _ _) hT9)
            replace HQ := Lib.hid (HQ.out.kept (M0.has (Has.head _ _ _ _)) (noPart_sl _ _ _) hT9)
            replace HR := Lib.hid (HR.out.kept (M0.has (Has.head _ _ _ _)) (noPart_sl _ _ _) hT9)
            replace M0 := M9
            clear M9 hT9
            clear hHeld
            refine hK.out _ _ (M0.cell (.tail _ _ _ _ _ (.tail _ _ _ _ _ (Has.head _ _ _ _))) (i := 0) rfl) (fun hHeld => ?_)
            clear hK K
            try simp only [Act.put, List.setIfInBounds_toArray, List.set_cons_zero, List.set_cons_succ, List.getElem_toArray, List.getElem_cons_zero, List.getElem_cons_succ]
            refine wpAnyH_ready (rs := [12]) (by kernel_rfl) (by simp) ?_
            refine AllReadyH.cons rfl (fun K hK => ?_) AllReadyH.nil
            rw [if_pos (by rfl)]
            refine wp_stM (v := (.agg #[.slice aHR nHR cHR])) M0 rfl rfl rfl (wr_nat _ _ _ _) (.tail _ _ _ _ _ _ _ (Upd.head _ _ _ _ _)) ?_
            intro w1 M9 hT9
            replace HX := Lib.hid (HX.out.kept (M0.has (.tail _ _ _ _ _ (Has.head _ _ _ _))) (noPart_sl _ _ _) hT9)
            replace HP := Lib.hid (HP.out.kept (M0.has (.tail _ _ _ _ _ (Has.head _ _ _ _))) (noPart_sl _ _ _) hT9)
            replace HT := Lib.hid (HT.out.kept (M0.has (.tail _ _ _ _ _ (Has.head _ _ _ _))) (noPart_sl _ _ _) hT9)
            replace HO := Lib.hid (HO.out.kept (M0.has (.tail _ _ _ _ _ (Has.head _ _ _ _))) (noPart_sl _ _ _) hT9)
            replace HL := Lib.hid (HL.out.kept (M0.has (.tail _ _ _ _ _ (Has.head _ _ _ _))) (noPart_sl _ _ _) hT9)
            replace HQ := Lib.hid (HQ.out.kept (M0.has (.tail _ _ _ _ _ (Has.head _ _ _ _))) (noPart_sl _ _ _) hT9)
            replace HR := Lib.hid (HR.out.kept (M0.has (.tail _ _ _ _ _ (Has.head _ _ _ _))) (noPart_sl _ _ _) hT9)
            replace M0 := M9
            clear M9 hT9
            clear hHeld
            refine hK.out _ _ (M0.cell (.tail _ _ _ _ _ (.tail _ _ _ _ _ (Has.head _ _ _ _))) (i := 0) rfl) (fun hHeld => ?_)
            clear hK K
            try simp only [Act.put, List.setIfInBounds_toArray, List.set_cons_zero, List.set_cons_succ, List.getElem_toArray, List.getElem_cons_zero, List.getElem_cons_succ]
            refine wpAnyH_done (by kernel_rfl) ?_ _
            go_wp2_with fail
            go_meet
            exact ⟨g2, g3, _, _, _, _, _, _, rfl, rfl, M0.perm16 (List.Perm.swap _ _ _), HX.out, HP.out, HT.out, HQ.out⟩
        · rw [if_pos (by rfl)]
          refine wp_al (Mem.start w1) rfl zeroNat16 rfl ?_
          intro g2 w1 M9
          have hA := M9.below
          replace HX := Lib.hid (HX.out.below hA)
          replace HP := Lib.hid (HP.out.below hA)
          replace HT := Lib.hid (HT.out.below hA)
          replace HO := Lib.hid (HO.out.below hA)
          replace HL := Lib.hid (HL.out.below hA)
          replace M0 : Mem w w1 [(g2, 26, [.slice none 0 0]), (g11, 26, [.slice aHX nHX cHX])] := Mem.join M0 M9
          clear hA M9
          clear hHeld
          refine hK.out _ _ (M0.cell (.tail _ _ _ _ _ (Has.head _ _ _ _)) (i := 0) rfl) (fun hHeld => ?_)
          clear hK K
          try simp only [Act.put, List.setIfInBounds_toArray, List.set_cons_zero, List.set_cons_succ, List.getElem_toArray, List.getElem_cons_zero, List.getElem_cons_succ]
          refine wpAnyH_ready (rs := [5, 10]) (by kernel_rfl) (by simp) ?_
          refine AllReadyH.cons rfl (fun K hK => ?_) (AllReadyH.cons rfl (fun K hK => ?_) AllReadyH.nil)
          · go_simp
            refine (div16 _ _ p t r v _ HX.out HL.out Sp.out St.out E2.out E3.out).mono ?_
            rintro e w1 ⟨tv, tu, rfl, hv, hu, hA⟩
            replace M0 := M0.call hA
            replace HX := Lib.hid (HX.out.below hA)
            replace HP := Lib.hid (HP.out.below hA)
            replace HT := Lib.hid (HT.out.below hA)
            replace HO := Lib.hid (HO.out.below hA)
            replace HL := Lib.hid (HL.out.below hA)
            obtain ⟨aHQ, nHQ, cHQ, rfl, hz⟩ := hv.nm
            have HQ : Hid (IsN w1 (.agg #[.slice aHQ nHQ cHQ]) (r)) := Lib.hid hz
            clear hz hv
            obtain ⟨aHR, nHR, cHR, rfl, hz⟩ := hu.nm
            have HR : Hid (IsN w1 (.agg #[.slice aHR nHR cHR]) (v)) := Lib.hid hz
            clear hz hu
            clear hA
            try go_wp2_with fail
            clear hHeld
            refine hK.out _ _ (M0.cell (.tail _ _ _ _ _ (Has.head _ _ _ _)) (i := 0) rfl) (fun hHeld => ?_)
            clear hK K
            try simp only [Act.put, List.setIfInBounds_toArray, List.set_cons_zero, List.set_cons_succ, List.getElem_toArray, List.getElem_cons_zero, List.getElem_cons_succ]
            refine tkT 6 ?v16007 ?hy16007 hHeld ?rest16007
            case hy16007 => (intro w' hSw; (try dsimp only at hSw); go_simp; (try with_reducible rfl))
            try simp only [Act.put, List.setIfInBounds_toArray, List.set_cons_zero, List.set_cons_succ, List.getElem_toArray, List.getElem_cons_zero, List.getElem_cons_succ]
            refine tkT 7 ?v16008 ?hy16008 hHeld ?rest16008
            case hy16008 => (intro w' hSw; (try dsimp only at hSw); go_simp; (try with_reducible rfl))
            try simp only [Act.put, List.setIfInBounds_toArray, List.set_cons_zero, List.set_cons_succ, List.getElem_toArray, List.getElem_cons_zero, List.getElem_cons_succ]
            refine tkT 8 ?v16009 ?hy16009 hHeld ?rest16009
            case hy16009 => (intro w' hSw; (try dsimp only at hSw); go_simp; (try with_reducible rfl))
            try simp only [Act.put, List.setIfInBounds_toArray, List.set_cons_zero, List.set_cons_succ, List.getElem_toArray, List.getElem_cons_zero, List.getElem_cons_succ]
            refine wpAnyH_ready (rs := [10]) (by kernel_rfl) (by simp) ?_
            refine AllReadyH.cons rfl (fun K hK => ?_) AllReadyH.nil
            rw [if_pos (by rfl)]
            refine wp_al (Mem.start w1) rfl zeroNat16 rfl ?_
            intro g3 w1 M9
            have hA := M9.below
            replace HX := Lib.hid (HX.out.below hA)
            replace HP := Lib.hid (HP.out.below hA)
            replace HT := Lib.hid (HT.out.below hA)
            replace HO := Lib.hid (HO.out.below hA)
            replace HL := Lib.hid (HL.out.below hA)
            replace HQ := Lib.hid (HQ.out.below hA)
            replace HR := Lib.hid (HR.out.below hA)
            replace M0 : Mem w w1 [(g3, 26, [.slice none 0 0]), (g2, 26, [.slice none 0 0]), (g11, 26, [.slice aHX nHX cHX])] := Mem.join M0 M9
            clear hA M9
            clear hHeld
            refine hK.out _ _ (M0.cell (.tail _ _ _ _ _ (.tail _ _ _ _ _ (Has.head _ _ _ _))) (i := 0) rfl) (fun hHeld => ?_)
            clear hK K
            try simp only [Act.put, List.setIfInBounds_toArray, List.set_cons_zero, List.set_cons_succ, List.getElem_toArray, List.getElem_cons_zero, List.getElem_cons_succ]
            refine wpAnyH_ready (rs := [11]) (by kernel_rfl) (by simp) ?_
            refine AllReadyH.cons rfl (fun K hK => ?_) AllReadyH.nil
            rw [if_pos (by rfl)]
            refine wp_stM (v := (.agg #[.slice aHQ nHQ cHQ])) M0 rfl rfl rfl (wr_nat _ _ _ _) (.tail _ _ _ _ _ _ _ (Upd.head _ _ _ _ _)) ?_
            intro w1 M9 hT9
            replace HX := Lib.hid (HX.out.kept (M0.has (.tail _ _ _ _ _ (Has.head _ _ _ _))) (noPart_sl _ _ _) hT9)
            replace HP := Lib.hid (HP.out.kept (M0.has (.tail _ _ _ _ _ (Has.head _ _ _ _))) (noPart_sl _ _ _) hT9)
            replace HT := Lib.hid (HT.out.kept (M0.has (.tail _ _ _ _ _ (Has.head _ _ _ _))) (noPart_sl _ _ _) hT9)
            replace HO := Lib.hid (HO.out.kept (M0.has (.tail _ _ _ _ _ (Has.head _ _ _ _))) (noPart_sl _ _ _) hT9)
            replace HL := Lib.hid (HL.out.kept (M0.has (.tail _ _ _ _ _ (Has.head _ _ _ _))) (noPart_sl _ _ _) hT9)
            replace HQ := Lib.hid (HQ.out.kept (M0.has (.tail _ _ _ _ _ (Has.head _ _ _ _))) (noPart_sl _ _ _) hT9)
            replace HR := Lib.hid (HR.out.kept (M0.has (.tail _ _ _ _ _ (Has.head _ _ _ _))) (noPart_sl _ _ _) hT9)
            replace M0 := M9
            clear M9 hT9
            clear hHeld
            refine hK.out _ _ (M0.cell (.tail _ _ _ _ _ (.tail _ _ _ _ _ (Has.head _ _ _ _))) (i := 0) rfl) (fun hHeld => ?_)
            clear hK K
            try simp only [Act.put, List.setIfInBounds_toArray, List.set_cons_zero, List.set_cons_succ, List.getElem_toArray, List.getElem_cons_zero, List.getElem_cons_succ]
            refine wpAnyH_ready (rs := [12]) (by kernel_rfl) (by simp) ?_
            refine AllReadyH.cons rfl (fun K hK => ?_) AllReadyH.nil
            rw [if_pos (by rfl)]
            refine wp_stM (v := (.agg #[.slice aHR nHR cHR])) M0 rfl rfl rfl (wr_nat _ _ _ _) (Upd.head _ _ _ _ _) ?_
            intro w1 M9 hT9
            replace HX := Lib.hid (HX.out.kept (M0.has (Has.head _ _ _ _)) (noPart_sl _ _ _) hT9)
            replace HP := Lib.hid (HP.out.kept (M0.has (Has.head _ _ _ _)) (noPart_sl _ _ _) hT9)
            replace HT := Lib.hid (HT.out.kept (M0.has (Has.head _ _ _ _)) (noPart_sl _ _ _) hT9)
            replace HO := Lib.hid (HO.out.kept (M0.has (Has.head _ _ _ _)) (noPart_sl _ _ _) hT9)
            replace HL := Lib.hid (HL.out.kept (M0.has (Has.head _ _ _ _)) (noPart_sl _ _ _) hT9)
            replace HQ := Lib.hid (HQ.out.kept (M0.has (Has.head _ _ _ _)) (noPart_sl _ _ _) hT9)
            replace HR := Lib.hid (HR.out.kept (M0.has (Has.head _ _ _ _)) (noPart_sl _ _ _) hT9)
            replace M0 := M9
            clear M9 hT9
            clear hHeld
            refine hK.out _ _ (M0.cell (.tail _ _ _ _ _ (.tail _ _ _ _ _ (Has.head _ _ _ _))) (i := 0) rfl) (fun hHeld => ?_)
            clear hK K
            try simp only [Act.put, List.setIfInBounds_toArray, List.set_cons_zero, List.set_cons_succ, List.getElem_toArray, List.getElem_cons_zero, List.getElem_cons_succ]
            refine wpAnyH_done (by kernel_rfl) ?_ _
            go_wp2_with fail
            go_meet
            exact ⟨g2, g3, _, _, _, _, _, _, rfl, rfl, M0.perm16 (List.Perm.refl _), HX.out, HP.out, HT.out, HQ.out⟩
          · rw [if_pos (by rfl)]
            refine wp_al (Mem.start w1) rfl zeroNat16 rfl ?_
            intro g3 w1 M9
            have hA := M9.below
            replace HX := Lib.hid (HX.out.below hA)
            replace HP := Lib.hid (HP.out.below hA)
            replace HT := Lib.hid (HT.out.below hA)
            replace HO := Lib.hid (HO.out.below hA)
            replace HL := Lib.hid (HL.out.below hA)
            replace M0 : Mem w w1 [(g3, 26, [.slice none 0 0]), (g2, 26, [.slice none 0 0]), (g11, 26, [.slice aHX nHX cHX])] := Mem.join M0 M9
            clear hA M9
            clear hHeld
            refine hK.out _ _ (M0.cell (.tail _ _ _ _ _ (.tail _ _ _ _ _ (Has.head _ _ _ _))) (i := 0) rfl) (fun hHeld => ?_)
            clear hK K
            try simp only [Act.put, List.setIfInBounds_toArray, List.set_cons_zero, List.set_cons_succ, List.getElem_toArray, List.getElem_cons_zero, List.getElem_cons_succ]
            refine wpAnyH_ready (rs := [5]) (by kernel_rfl) (by simp) ?_
            refine AllReadyH.cons rfl (fun K hK => ?_) AllReadyH.nil
            go_simp
            refine (div16 _ _ p t r v _ HX.out HL.out Sp.out St.out E2.out E3.out).mono ?_
            rintro e w1 ⟨tv, tu, rfl, hv, hu, hA⟩
            replace M0 := M0.call hA
            replace HX := Lib.hid (HX.out.below hA)
            replace HP := Lib.hid (HP.out.below hA)
            replace HT := Lib.hid (HT.out.below hA)
            replace HO := Lib.hid (HO.out.below hA)
            replace HL := Lib.hid (HL.out.below hA)
            obtain ⟨aHQ, nHQ, cHQ, rfl, hz⟩ := hv.nm
            have HQ : Hid (IsN w1 (.agg #[.slice aHQ nHQ cHQ]) (r)) := Lib.hid hz
            clear hz hv
            obtain ⟨aHR, nHR, cHR, rfl, hz⟩ := hu.nm
            have HR : Hid (IsN w1 (.agg #[.slice aHR nHR cHR]) (v)) := Lib.hid hz
            clear hz hu
            clear hA
            try go_wp2_with fail
            clear hHeld
            refine hK.out _ _ (M0.cell (.tail _ _ _ _ _ (.tail _ _ _ _ _ (Has.head _ _ _ _))) (i := 0) rfl) (fun hHeld => ?_)
            clear hK K
            try simp only [Act.put, List.setIfInBounds_toArray, List.set_cons_zero, List.set_cons_succ, List.getElem_toArray, List.getElem_cons_zero, List.getElem_cons_succ]
            refine tkT 6 ?v16010 ?hy16010 hHeld ?rest16010
            case hy16010 => (intro w' hSw; (try dsimp only at hSw); go_simp; (try with_reducible rfl))
            try simp only [Act.put, List.setIfInBounds_toArray, List.set_cons_zero, List.set_cons_succ, List.getElem_toArray, List.getElem_cons_zero, List.getElem_cons_succ]
            refine tkT 7 ?v16011 ?hy16011 hHeld ?rest16011
            case hy16011 => (intro w' hSw; (try dsimp only at hSw); go_simp; (try with_reducible rfl))
            try simp only [Act.put, List.setIfInBounds_toArray, List.set_cons_zero, List.set_cons_succ, List.getElem_toArray, List.getElem_cons_zero, List.getElem_cons_succ]
            refine tkT 8 ?v16012 ?hy16012 hHeld ?rest16012
            case hy16012 => (intro w' hSw; (try dsimp only at hSw); go_simp; (try with_reducible rfl))
            try simp only [Act.put, List.setIfInBounds_toArray, List.set_cons_zero, List.set_cons_succ, List.getElem_toArray, List.getElem_cons_zero, List.getElem_cons_succ]
            refine wpAnyH_ready (rs := [11]) (by kernel_rfl) (by simp) ?_
            refine AllReadyH.cons rfl (fun K hK => ?_) AllReadyH.nil
            rw [if_pos (by rfl)]
            refine wp_stM (v := (.agg #[.slice aHQ nHQ cHQ])) M0 rfl rfl rfl (wr_nat _ _ _ _) (.tail _ _ _ _ _ _ _ (Upd.head _ _ _ _ _)) ?_
            intro w1 M9 hT9
            replace HX := Lib.hid (HX.out.kept (M0.has (.tail _ _ _ _ _ (Has.head _ _ _ _))) (noPart_sl _ _ _) hT9)
            replace HP := Lib.hid (HP.out.kept (M0.has (.tail _ _ _ _ _ (Has.head _ _ _ _))) (noPart_sl _ _ _) hT9)
            replace HT := Lib.hid (HT.out.kept (M0.has (.tail _ _ _ _ _ (Has.head _ _ _ _))) (noPart_sl _ _ _) hT9)
            replace HO := Lib.hid (HO.out.kept (M0.has (.tail _ _ _ _ _ (Has.head _ _ _ _))) (noPart_sl _ _ _) hT9)
            replace HL := Lib.hid (HL.out.kept (M0.has (.tail _ _ _ _ _ (Has.head _ _ _ _))) (noPart_sl _ _ _) hT9)
            replace HQ := Lib.hid (HQ.out.kept (M0.has (.tail _ _ _ _ _ (Has.head _ _ _ _))) (noPart_sl _ _ _) hT9)
            replace HR := Lib.hid (HR.out.kept (M0.has (.tail _ _ _ _ _ (Has.head _ _ _ _))) (noPart_sl _ _ _) hT9)
            replace M0 := M9
            clear M9 hT9
            clear hHeld
            refine hK.out _ _ (M0.cell (.tail _ _ _ _ _ (.tail _ _ _ _ _ (Has.head _ _ _ _))) (i := 0) rfl) (fun hHeld => ?_)
            clear hK K
            try simp only [Act.put, List.setIfInBounds_toArray, List.set_cons_zero, List.set_cons_succ, List.getElem_toArray, List.getElem_cons_zero, List.getElem_cons_succ]
            refine wpAnyH_ready (rs := [12]) (by kernel_rfl) (by simp) ?_
            refine AllReadyH.cons rfl (fun K hK => ?_) AllReadyH.nil
            rw [if_pos (by rfl)]
            refine wp_stM (v := (.agg #[.slice aHR nHR cHR])) M0 rfl rfl rfl (wr_nat _ _ _ _) (Upd.head _ _ _ _ _) ?_
            intro w1 M9 hT9
            replace HX := Lib.hid (HX.out.kept (M0.has (Has.head _ _ _ _)) (noPart_sl _ _ _) hT9)
            replace HP := Lib.hid (HP.out.kept (M0.has (Has.head _ _ _ _)) (noPart_sl _ _ _) hT9)
            replace HT := Lib.hid (HT.out.kept (M0.has (Has.head _ _ _ _)) (noPart_sl _ _ _) hT9)
            replace HO := Lib.hid (HO.out.kept (M0.has (Has.head _ _ _ _)) (noPart_sl _ _ _) hT9)
            replace HL := Lib.hid (HL.out.kept (M0.has (Has.head _ _ _ _)) (noPart_sl _ _ _) hT9)
            replace HQ := Lib.hid (HQ.out.kept (M0.has (Has.head _ _ _ _)) (noPart_sl _ _ _) hT9)
            replace HR := Lib.hid (HR.out.kept (M0.has (Has.head _ _ _ _)) (noPart_sl _ _ _) hT9)
            replace M0 := M9
            clear M9 hT9
            clear hHeld
            refine hK.out _ _ (M0.cell (.tail _ _ _ _ _ (.tail _ _ _ _ _ (Has.head _ _ _ _))) (i := 0) rfl) (fun hHeld => ?_)
            clear hK K
            try simp only [Act.put, List.setIfInBounds_toArray, List.set_cons_zero, List.set_cons_succ, List.getElem_toArray, List.getElem_cons_zero, List.getElem_cons_succ]
            refine wpAnyH_done (by kernel_rfl) ?_ _
            go_wp2_with fail
            go_meet
            exact ⟨g2, g3, _, _, _, _, _, _, rfl, rfl, M0.perm16 (List.Perm.refl _), HX.out, HP.out, HT.out, HQ.out⟩
        · rw [if_pos (by rfl)]
          refine wp_al (Mem.start w1) rfl zeroNat16 rfl ?_
          intro g3 w1 M9
          have hA := M9.below
          replace HX := Lib.hid (HX.out.below hA)
          replace HP := Lib.hid (HP.out.below hA)
          replace HT := Lib.hid (HT.out.below hA)
          replace HO := Lib.hid (HO.out.below hA)
          replace HL := Lib.hid (HL.out.below hA)
          replace M0 : Mem w w1 [(g3, 26, [.slice none 0 0]), (g11, 26, [.slice aHX nHX cHX])] := Mem.join M0 M9
          clear hA M9
          clear hHeld
          refine hK.out _ _ (M0.cell (.tail _ _ _ _ _ (Has.head _ _ _ _)) (i := 0) rfl) (fun hHeld => ?_)
          clear hK K
          try simp only [Act.put, List.setIfInBounds_toArray, List.set_cons_zero, List.set_cons_succ, List.getElem_toArray, List.getElem_cons_zero, List.getElem_cons_succ]
          refine wpAnyH_ready (rs := [5, 9]) (by kernel_rfl) (by simp) ?_
          refine AllReadyH.cons rfl (fun K hK => ?_) (AllReadyH.cons rfl (fun K hK => ?_) AllReadyH.nil)
          · go_simp
            refine (div16 _ _ p t r v _ HX.out HL.out Sp.out St.out E2.out E3.out).mono ?_
            rintro e w1 ⟨tv, tu, rfl, hv, hu, hA⟩
            replace M0 := M0.call hA
            replace HX := Lib.hid (HX.out.below hA)
            replace HP := Lib.hid (HP.out.below hA)
            replace HT := Lib.hid (HT.out.below hA)
            replace HO := Lib.hid (HO.out.below hA)
            replace HL := Lib.hid (HL.out.below hA)
            obtain ⟨aHQ, nHQ, cHQ, rfl, hz⟩ := hv.nm
            have HQ : Hid (IsN w1 (.agg #[.slice aHQ nHQ cHQ]) (r)) := Lib.hid hz
            clear hz hv
            obtain ⟨aHR, nHR, cHR, rfl, hz⟩ := hu.nm
            have HR : Hid (IsN w1 (.agg #[.slice aHR nHR cHR]) (v)) := Lib.hid hz
            clear hz hu
            clear hA
            try go_wp2_with fail
            clear hHeld
            refine hK.out _ _ (M0.cell (.tail _ _ _ _ _ (Has.head _ _ _ _)) (i := 0) rfl) (fun hHeld => ?_)
            clear hK K
            try simp only [Act.put, List.setIfInBounds_toArray, List.set_cons_zero, List.set_cons_succ, List.getElem_toArray, List.getElem_cons_zero, List.getElem_cons_succ]
            refine tkT 6 ?v16013 ?hy16013 hHeld ?rest16013
            case hy16013 => (intro w' hSw; (try dsimp only at hSw); go_simp; (try with_reducible rfl))
            try simp only [Act.put, List.setIfInBounds_toArray, List.set_cons_zero, List.set_cons_succ, List.getElem_toArray, List.getElem_cons_zero, List.getElem_cons_succ]
            refine tkT 7 ?v16014 ?hy16014 hHeld ?rest16014
            case hy16014 => (intro w' hSw; (try dsimp only at hSw); go_simp; (try with_reducible rfl))
            try simp only [Act.put, List.setIfInBounds_toArray, List.set_cons_zero, List.set_cons_succ, List.getElem_toArray, List.getElem_cons_zero, List.getElem_cons_succ]
            refine tkT 8 ?v16015 ?hy16015 hHeld ?rest16015
            case hy16015 => (intro w' hSw; (try dsimp only at hSw); go_simp; (try with_reducible rfl))
            try simp only [Act.put, List.setIfInBounds_toArray, List.set_cons_zero, List.set_cons_succ, List.getElem_toArray, List.getElem_cons_zero, List.getElem_cons_succ]
            refine wpAnyH_ready (rs := [9]) (by kernel_rfl) (by simp) ?_
            refine AllReadyH.cons rfl (fun K hK => ?_) AllReadyH.nil
            rw [if_pos (by rfl)]
            refine wp_al (Mem.start w1) rfl zeroNat16 rfl ?_
            intro g2 w1 M9
            have hA := M9.below
            replace HX := Lib.hid (HX.out.below hA)
            replace HP := Lib.hid (HP.out.below hA)
            replace HT := Lib.hid (HT.out.below hA)
            replace HO := Lib.hid (HO.out.below hA)
            replace HL := Lib.hid (HL.out.below hA)
            replace HQ := Lib.hid (HQ.out.below hA)
            replace HR := Lib.hid (HR.out.below hA)
            replace M0 : Mem w w1 [(g2, 26, [.slice none 0 0]), (g3, 26, [.slice none 0 0]), (g11, 26, [.slice aHX nHX cHX])] := Mem.join M0 M9
            clear hA M9
            clear hHeld
            refine hK.out _ _ (M0.cell (.tail _ _ _ _ _ (.tail _ _ _ _ _ (Has.head _ _ _ _))) (i := 0) rfl) (fun hHeld => ?_)
            clear hK K
            try simp only [Act.put, List.setIfInBounds_toArray, List.set_cons_zero, List.set_cons_succ, List.getElem_toArray, List.getElem_cons_zero, List.getElem_cons_succ]
            refine wpAnyH_ready (rs := [11]) (by kernel_rfl) (by simp) ?_
            refine AllReadyH.cons rfl (fun K hK => ?_) AllReadyH.nil
            rw [if_pos (by rfl)]
            refine wp_stM (v := (.agg #[.slice aHQ nHQ cHQ])) M0 rfl rfl rfl (wr_nat _ _ _ _) (Upd.head _ _ _ _ _) ?_
            intro w1 M9 hT9
            replace HX := Lib.hid (HX.out.kept (M0.has (Has.head _ _ _ _)) (noPart_sl _ _ _) hT9)
            replace HP := Lib.hid (HP.out.kept (M0.has (Has.head _ _ _ _)) (noPart_sl _ _ _) hT9)
            replace HT := Lib.hid (HT.out.kept (M0.has (Has.head _ _ _ _)) (noPart_sl _ _ _) hT9)
            replace HO := Lib.hid (HO.out.kept (M0.has (Has.head _ _ _ _)) (noPart_sl _ _ _) hT9)
            replace HL := Lib.hid (HL.out.kept (M0.has (Has.head _ _ _ _)) (noPart_sl _ _ _) hT9)
            replace HQ := Lib.hid (HQ.out.kept (M0.has (Has.head _ _ _ _)) (noPart_sl _ _ _) hT9)
            replace HR := Lib.hid (HR.out.kept (M0.has (Has.head _ _ _ _)) (noPart_sl _ _ _) hT9)
            replace M0 := M9
            clear M9 hT9
            clear hHeld
            refine hK.out _ _ (M0.cell (.tail _ _ _ _ _ (.tail _ _ _ _ _ (Has.head _ _ _ _))) (i := 0) rfl) (fun hHeld => ?_)
            clear hK K
            try simp only [Act.put, List.setIfInBounds_toArray, List.set_cons_zero, List.set_cons_succ, List.getElem_toArray, List.getElem_cons_zero, List.getElem_cons_succ]
            refine wpAnyH_ready (rs := [12]) (by kernel_rfl) (by simp) ?_
            refine AllReadyH.cons rfl (fun K hK => ?_) AllReadyH.nil
            rw [if_pos (by rfl)]
            refine wp_stM (v := (.agg #[.slice aHR nHR cHR])) M0 rfl rfl rfl (wr_nat _ _ _ _) (.tail _ _ _ _ _ _ _ (Upd.head _ _ _ _ _)) ?_
            intro w1 M9 hT9
            replace HX := Lib.hid (HX.out.kept (M0.has (.tail _ _ _ _ _ (Has.head _ _ _ _))) (noPart_sl _ _ _) hT9)
            replace HP := Lib.hid (HP.out.kept (M0.has (.tail _ _ _ _ _ (Has.head _ _ _ _))) (noPart_sl _ _ _) hT9)
            replace HT := Lib.hid (HT.out.kept (M0.has (.tail _ _ _ _ _ (Has.head _ _ _ _))) (noPart_sl _ _ _) hT9)
            replace HO := Lib.hid (HO.out.kept (M0.has (.tail _ _ _ _ _ (Has.head _ _ _ _))) (noPart_sl _ _ _) hT9)
            replace HL := Lib.hid (HL.out.kept (M0.has (.tail _ _ _ _ _ (Has.head _ _ _ _))) (noPart_sl _ _ _) hT9)
            replace HQ := Lib.hid (HQ.out.kept (M0.has (.tail _ _ _ _ _ (Has.head _ _ _ _))) (noPart_sl _ _ _) hT9)
            replace HR := Lib.hid (HR.out.kept (M0.has (.tail _ _ _ _ _ (Has.head _ _ _ _))) (noPart_sl _ _ _) hT9)
            replace M0 := M9
            clear M9 hT9
            clear hHeld
            refine hK.out _ _ (M0.cell (.tail _ _ _ _ _ (.tail _ _ _ _ _ (Has.head _ _ _ _))) (i := 0) rfl) (fun hHeld => ?_)
            clear hK K
            try simp only [Act.put, List.setIfInBounds_toArray, List.set_cons_zero, List.set_cons_succ, List.getElem_toArray, List.getElem_cons_zero, List.getElem_cons_succ]
            refine wpAnyH_done (by kernel_rfl) ?_ _
            go_wp2_with fail
            go_meet
            exact ⟨g2, g3, _, _, _, _, _, _, rfl, rfl, M0.perm16 (List.Perm.swap _ _ _), HX.out, HP.out, HT.out, HQ.out⟩
          · rw [if_pos (by rfl)]
            refine wp_al (Mem.start w1) rfl zeroNat16 rfl ?_
            intro g2 w1 M9
            have hA := M9.below
            replace HX := Lib.hid (HX.out.below hA)
            replace HP := Lib.hid (HP.out.below hA)
            replace HT := Lib.hid (HT.out.below hA)
            replace HO := Lib.hid (HO.out.below hA)
            replace HL := Lib.hid (HL.out.below hA)
            replace M0 : Mem w w1 [(g2, 26, [.slice none 0 0]), (g3, 26, [.slice none 0 0]), (g11, 26, [.slice aHX nHX cHX])] := Mem.join M0 M9
            clear hA M9
            clear hHeld
            refine hK.out _ _ (M0.cell (.tail _ _ _ _ _ (.tail _ _ _ _ _ (Has.head _ _ _ _))) (i := 0) rfl) (fun hHeld => ?_)
            clear hK K
            try simp only [Act.put, List.setIfInBounds_toArray, List.set_cons_zero, List.set_cons_succ, List.getElem_toArray, List.getElem_cons_zero, List.getElem_cons_succ]
            refine wpAnyH_ready (rs := [5]) (by kernel_rfl) (by simp) ?_
            refine AllReadyH.cons rfl (fun K hK => ?_) AllReadyH.nil
            go_simp
            refine (div16 _ _ p t r v _ HX.out HL.out Sp.out St.out E2.out E3.out).mono ?_
            rintro e w1 ⟨tv, tu, rfl, hv, hu, hA⟩
            replace M0 := M0.call hA
            replace HX := Lib.hid (HX.out.below hA)
            replace HP := Lib.hid (HP.out.below hA)
            replace HT := Lib.hid (HT.out.below hA)
            replace HO := Lib.hid (HO.out.below hA)
            replace HL := Lib.hid (HL.out.below hA)
            obtain ⟨aHQ, nHQ, cHQ, rfl, hz⟩ := hv.nm
            have HQ : Hid (IsN w1 (.agg #[.slice aHQ nHQ cHQ]) (r)) := Lib.hid hz
            clear hz hv
            obtain ⟨aHR, nHR, cHR, rfl, hz⟩ := hu.nm
            have HR : Hid (IsN w1 (.agg #[.slice aHR nHR cHR]) (v)) := Lib.hid hz
            clear hz hu
            clear hA
            try go_wp2_with fail
            clear hHeld
            refine hK.out _ _ (M0.cell (.tail _ _ _ _ _ (.tail _ _ _ _ _ (Has.head _ _ _ _))) (i := 0) rfl) (fun hHeld => ?_)
            clear hK K
            try simp only [Act.put, List.setIfInBounds_toArray, List.set_cons_zero, List.set_cons_succ, List.getElem_toArray, List.getElem_cons_zero, List.getElem_cons_succ]
            refine tkT 6 ?v16016 ?hy16016 hHeld ?rest16016
            case hy16016 => (intro w' hSw; (try dsimp only at hSw); go_simp; (try with_reducible rfl))
            try simp only [Act.put, List.setIfInBounds_toArray, List.set_cons_zero, List.set_cons_succ, List.getElem_toArray, List.getElem_cons_zero, List.getElem_cons_succ]
            refine tkT 7 ?v16017 ?hy16017 hHeld ?rest16017
            case hy16017 => (intro w' hSw; (try dsimp only at hSw); go_simp; (try with_reducible rfl))
            try simp only [Act.put, List.setIfInBounds_toArray, List.set_cons_zero, List.set_cons_succ, List.getElem_toArray, List.getElem_cons_zero, List.getElem_cons_succ]
            refine tkT 8 ?v16018 ?hy16018 hHeld ?rest16018
            case hy16018 => (intro w' hSw; (try dsimp only at hSw); go_simp; (try with_reducible rfl))
            try simp only [Act.put, List.setIfInBounds_toArray, List.set_cons_zero, List.set_cons_succ, List.getElem_toArray, List.getElem_cons_zero, List.getElem_cons_succ]
            refine wpAnyH_ready (rs := [11]) (by kernel_rfl) (by simp) ?_
            refine AllReadyH.cons rfl (fun K hK => ?_) AllReadyH.nil
            rw [if_pos (by rfl)]
            refine wp_stM (v := (.agg #[.slice aHQ nHQ cHQ])) M0 rfl rfl rfl (wr_nat _ _ _ _) (Upd.head _ _ _ _ _) ?_
            intro w1 M9 hT9
            replace HX := Lib.hid (HX.out.kept (M0.has (Has.head _ _ _ _)) (noPart_sl _ _ _) hT9)
            replace HP := Lib.hid (HP.out.kept (M0.has (Has.head _ _ _ _)) (noPart_sl _ _ _) hT9)
            replace HT := Lib.hid (HT.out.kept (M0.has (Has.head _ _ _ _)) (noPart_sl _ _ _) hT9)
            replace HO := Lib.hid (HO.out.kept (M0.has (Has.head _ _ _ _)) (noPart_sl _ _ _) hT9)
            replace HL := Lib.hid (HL.out.kept (M0.has (Has.head _ _ _ _)) (noPart_sl _ _ _) hT9)
            replace HQ := Lib.hid (HQ.out.kept (M0.has (Has.head _ _ _ _)) (noPart_sl _ _ _) hT9)
            replace HR := Lib.hid (HR.out.kept (M0.has (Has.head _ _ _ _)) (noPart_sl _ _ _) hT9)
            replace M0 := M9
            clear M9 hT9
            clear hHeld
            refine hK.out _ _ (M0.cell (.tail _ _ _ _ _ (.tail _ _ _ _ _ (Has.head _ _ _ _))) (i := 0) rfl) (fun hHeld => ?_)
            clear hK K
            try simp only [Act.put, List.setIfInBounds_toArray, List.set_cons_zero, List.set_cons_succ, List.getElem_toArray, List.getElem_cons_zero, List.getElem_cons_succ]
            refine wpAnyH_ready (rs := [12]) (by kernel_rfl) (by simp) ?_
            refine AllReadyH.cons rfl (fun K hK => ?_) AllReadyH.nil
            rw [if_pos (by rfl)]
            refine wp_stM (v := (.agg #[.slice aHR nHR cHR])) M0 rfl rfl rfl (wr_nat _ _ _ _) (.tail _ _ _ _ _ _ _ (Upd.head _ _ _ _ _)) ?_
            intro w1 M9 hT9
            replace HX := Lib.hid (HX.out.kept (M0.has (.tail _ _ _ _ _ (Has.head _ _ _ _))) (noPart_sl _ _ _) hT9)
            replace HP := Lib.hid (HP.out.kept (M0.has (.tail _ _ _ _ _ (Has.head _ _ _ _))) (noPart_sl _ _ _) hT9)
            replace HT := Lib.hid (HT.out.kept (M0.has (.tail _ _ _ _ _ (Has.head _ _ _ _))) (noPart_sl _ _ _) hT9)
            replace HO := Lib.hid (HO.out.kept (M0.has (.tail _ _ _ _ _ (Has.head _ _ _ _))) (noPart_sl _ _ _) hT9)
            replace HL := Lib.hid (HL.out.kept (M0.has (.tail _ _ _ _ _ (Has.head _ _ _ _))) (noPart_sl _ _ _) hT9)
            replace HQ := Lib.hid (HQ.out.kept (M0.has (.tail _ _ _ _ _ (Has.head _ _ _ _))) (noPart_sl _ _ _) hT9)
            replace HR := Lib.hid (HR.out.kept (M0.has (.tail _ _ _ _ _ (Has.head _ _ _ _))) (noPart_sl _ _ _) hT9)
            replace M0 := M9
            clear M9 hT9
            clear hHeld
            refine hK.out _ _ (M0.cell (.tail _ _ _ _ _ (.tail _ _ _ _ _ (Has.head _ _ _ _))) (i := 0) rfl) (fun hHeld => ?_)
            clear hK K
            try simp only [Act.put, List.setIfInBounds_toArray, List.set_cons_zero, List.set_cons_succ, List.getElem_toArray, List.getElem_cons_zero, List.getElem_cons_succ]
            refine wpAnyH_done (by kernel_rfl) ?_ _
            go_wp2_with fail
            go_meet
            exact ⟨g2, g3, _, _, _, _, _, _, rfl, rfl, M0.perm16 (List.Perm.swap _ _ _), HX.out, HP.out, HT.out, HQ.out⟩
      · rw [if_pos (by rfl)]
        refine wp_al (Mem.start w1) rfl zeroNat16 rfl ?_
        intro g2 w1 M9
        have hA := M9.below
        replace HX := Lib.hid (HX.out.below hA)
        replace HP := Lib.hid (HP.out.below hA)
        replace HT := Lib.hid (HT.out.below hA)
        replace HO := Lib.hid (HO.out.below hA)
        replace M0 : Mem w w1 [(g2, 26, [.slice none 0 0]), (g11, 26, [.slice aHX nHX cHX])] := Mem.join M0 M9
        clear hA M9
        clear hHeld
        refine hK.out _ _ (M0.cell (.tail _ _ _ _ _ (Has.head _ _ _ _)) (i := 0) rfl) (fun hHeld => ?_)
        clear hK K
        try simp only [Act.put, List.setIfInBounds_toArray, List.set_cons_zero, List.set_cons_succ, List.getElem_toArray, List.getElem_cons_zero, List.getElem_cons_succ]
        refine wpAnyH_ready (rs := [4, 10]) (by kernel_rfl) (by simp) ?_
        refine AllReadyH.cons rfl (fun K hK => ?_) (AllReadyH.cons rfl (fun K hK => ?_) AllReadyH.nil)
        · go_simp
          refine (shl16 _ 1 s t _ HO.out S1.out (by have := HS.out; omega) E7.out).mono ?_
          rintro e w1 ⟨tv, rfl, hv, hA⟩
          replace M0 := M0.call hA
          replace HX := Lib.hid (HX.out.below hA)
          replace HP := Lib.hid (HP.out.below hA)
          replace HT := Lib.hid (HT.out.below hA)
          replace HO := Lib.hid (HO.out.below hA)
          obtain ⟨aHL, nHL, cHL, rfl, hz⟩ := hv.nm
          have HL : Hid (IsN w1 (.agg #[.slice aHL nHL cHL]) (t)) := Lib.hid hz
          clear hz hv
          clear hA
          try go_wp2_with fail
          clear hHeld
          refine hK.out _ _ (M0.cell (.tail _ _ _ _ _ (Has.head _ _ _ _)) (i := 0) rfl) (fun hHeld => ?_)
          clear hK K
          try simp only [Act.put, List.setIfInBounds_toArray, List.set_cons_zero, List.set_cons_succ, List.getElem_toArray, List.getElem_cons_zero, List.getElem_cons_succ]
          refine wpAnyH_ready (rs := [5, 10]) (by kernel_rfl) (by simp) ?_
          refine AllReadyH.cons rfl (fun K hK => ?_) (AllReadyH.cons rfl (fun K hK => ?_) AllReadyH.nil)
          · go_simp
            refine (div16 _ _ p t r v _ HX.out HL.out Sp.out St.out E2.out E3.out).mono ?_
            rintro e w1 ⟨tv, tu, rfl, hv, hu, hA⟩
            replace M0 := M0.call hA
            replace HX := Lib.hid (HX.out.below hA)
            replace HP := Lib.hid (HP.out.below hA)
            replace HT := Lib.hid (HT.out.below hA)
            replace HO := Lib.hid (HO.out.below hA)
            replace HL := Lib.hid (HL.out.below hA)
            obtain ⟨aHQ, nHQ, cHQ, rfl, hz⟩ := hv.nm
            have HQ : Hid (IsN w1 (.agg #[.slice aHQ nHQ cHQ]) (r)) := Lib.hid hz
            clear hz hv
            obtain ⟨aHR, nHR, cHR, rfl, hz⟩ := hu.nm
            have HR : Hid (IsN w1 (.agg #[.slice aHR nHR cHR]) (v)) := Lib.hid hz
            clear hz hu
            clear hA
            try go_wp2_with fail
            clear hHeld
            refine hK.out _ _ (M0.cell (.tail _ _ _ _ _ (Has.head _ _ _ _)) (i := 0) rfl) (fun hHeld => ?_)
            clear hK K
            try simp only [Act.put, List.setIfInBounds_toArray, List.set_cons_zero, List.set_cons_succ, List.getElem_toArray, List.getElem_cons_zero, List.getElem_cons_succ]
            refine tkT 6 ?v16019 ?hy16019 hHeld ?rest16019
            case hy16019 => (intro w' hSw; (try dsimp only at hSw); go_simp; (try with_reducible rfl))
            try simp only [Act.put, List.setIfInBounds_toArray, List.set_cons_zero, List.set_cons_succ, List.getElem_toArray, List.getElem_cons_zero, List.getElem_cons_succ]
            refine tkT 7 ?v16020 ?hy16020 hHeld ?rest16020
            case hy16020 => (intro w' hSw; (try dsimp only at hSw); go_simp; (try with_reducible rfl))
            try simp only [Act.put, List.setIfInBounds_toArray, List.set_cons_zero, List.set_cons_succ, List.getElem_toArray, List.getElem_cons_zero, List.getElem_cons_succ]
            refine tkT 8 ?v16021 ?hy16021 hHeld ?rest16021
            case hy16021 => (intro w' hSw; (try dsimp only at hSw); go_simp; (try with_reducible rfl))
            try simp only [Act.put, List.setIfInBounds_toArray, List.set_cons_zero, List.set_cons_succ, List.getElem_toArray, List.getElem_cons_zero, List.getElem_cons_succ]
            refine wpAnyH_ready (rs := [10]) (by kernel_rfl) (by simp) ?_
            refine AllReadyH.cons rfl (fun K hK => ?_) AllReadyH.nil
            rw [if_pos (by rfl)]
            refine wp_al (Mem.start w1) rfl zeroNat16 rfl ?_
            intro g3 w1 M9
            have hA := M9.below
            replace HX := Lib.hid (HX.out.below hA)
            replace HP := Lib.hid (HP.out.below hA)
            replace HT := Lib.hid (HT.out.below hA)
            replace HO := Lib.hid (HO.out.below hA)
            replace HL := Lib.hid (HL.out.below hA)
            replace HQ := Lib.hid (HQ.out.below hA)
            replace HR := Lib.hid (HR.out.below hA)
            replace M0 : Mem w w1 [(g3, 26, [.slice none 0 0]), (g2, 26, [.slice none 0 0]), (g11, 26, [.slice aHX nHX cHX])] := Mem.join M0 M9
            clear hA M9
            clear hHeld
            refine hK.out _ _ (M0.cell (.tail _ _ _ _ _ (.tail _ _ _ _ _ (Has.head _ _ _ _))) (i := 0) rfl) (fun hHeld => ?_)
            clear hK K
            try simp only [Act.put, List.setIfInBounds_toArray, List.set_cons_zero, List.set_cons_succ, List.getElem_toArray, List.getElem_cons_zero, List.getElem_cons_succ]
            refine wpAnyH_ready (rs := [11]) (by kernel_rfl) (by simp) ?_
            refine AllReadyH.cons rfl (fun K hK => ?_) AllReadyH.nil
            rw [if_pos (by rfl)]
            refine wp_stM (v := (.agg #[.slice aHQ nHQ cHQ])) M0 rfl rfl rfl (wr_nat _ _ _ _) (.tail _ _ _ _ _ _ _ (Upd.head _ _ _ _ _)) ?_
            intro w1 M9 hT9
            replace HX := Lib.hid (HX.out.kept (M0.has (.tail _ _ _ _ _ (Has.head _ _ _ _))) (noPart_sl _ _ _) hT9)
            replace HP := Lib.hid (HP.out.kept (M0.has (.tail _ _ _ _ _ (Has.head _ _ _ _))) (noPart_sl _ _ _) hT9)
            replace HT := Lib.hid (HT.out.kept (M0.has (.tail _ _ _ _ _ (Has.head _ _ _ _))) (noPart_sl _ _ _) hT9)
            replace HO := Lib.hid (HO.out.kept (M0.has (.tail _ _ _ _ _ (Has.head _ _ _ _))) (noPart_sl _ _ _) hT9)
            replace HL := Lib.hid (HL.out.kept (M0.has (.tail _ _ _ _ _ (Has.head _ _ _ _))) (noPart_sl _ _ _) hT9)
            replace HQ := Lib.hid (HQ.out.kept (M0.has (.tail _ _ _ _ _ (Has.head _ _ _ _))) (noPart_sl _ _ _) hT9)
            replace HR := Lib.hid (HR.out.kept (M0.has (.tail _ _ _ _ _ (Has.head _ _ _ _))) (noPart_sl _ _ _) hT9)
            replace M0 := M9
            clear M9 hT9
            clear hHeld
            refine hK.out _ _ (M0.cell (.tail _ _ _ _ _ (.tail _ _ _ _ _ (Has.head _ _ _ _))) (i := 0) rfl) (fun hHeld => ?_)
            clear hK K
            try simp only [Act.put, List.setIfInBounds_toArray, List.set_cons_zero, List.set_cons_succ, List.getElem_toArray, List.getElem_cons_zero, List.getElem_cons_succ]
            refine wpAnyH_ready (rs := [12]) (by kernel_rfl) (by simp) ?_
            refine AllReadyH.cons rfl (fun K hK => ?_) AllReadyH.nil
            rw [if_pos (by rfl)]
            refine wp_stM (v := (.agg #[.slice aHR nHR cHR])) M0 rfl rfl rfl (wr_nat _ _ _ _) (Upd.head _ _ _ _ _) ?_
            intro w1 M9 hT9
            replace HX := Lib.hid (HX.out.kept (M0.has (Has.head _ _ _ _)) (noPart_sl _ _ _) hT9)
            replace HP := Lib.hid (HP.out.kept (M0.has (Has.head _ _ _ _)) (noPart_sl _ _ _) hT9)
            replace HT := Lib.hid (HT.out.kept (M0.has (Has.head _ _ _ _)) (noPart_sl _ _ _) hT9)
            replace HO := Lib.hid (HO.out.kept (M0.has (Has.head _ _ _ _)) (noPart_sl _ _ _) hT9)
            replace HL := Lib.hid (HL.out.kept (M0.has (Has.head _ _ _ _)) (noPart_sl _ _ _) hT9)
            replace HQ := Lib.hid (HQ.out.kept (M0.has (Has.head _ _ _ _)) (noPart_sl _ _ _) hT9)
            replace HR := Lib.hid (HR.out.kept (M0.has (Has.head _ _ _ _)) (noPart_sl _ _ _) hT9)
            replace M0 := M9
            clear M9 hT9
            clear hHeld
            refine hK.out _ _ (M0.cell (.tail _ _ _ _ _ (.tail _ _ _ _ _ (Has.head _ _ _ _))) (i := 0) rfl) (fun hHeld => ?_)
            clear hK K
            try simp only [Act.put, List.setIfInBounds_toArray, List.set_cons_zero, List.set_cons_succ, List.getElem_toArray, List.getElem_cons_zero, List.getElem_cons_succ]
            refine wpAnyH_done (by kernel_rfl) ?_ _
            go_wp2_with fail
            go_meet
            exact ⟨g2, g3, _, _, _, _, _, _, rfl, rfl, M0.perm16 (List.Perm.refl _), HX.out, HP.out, HT.out, HQ.out⟩
          · rw [if_pos (by rfl)]
            refine wp_al (Mem.start w1) rfl zeroNat16 rfl ?_
            intro g3 w1 M9
            have hA := M9.below
            replace HX := Lib.hid (HX.out.below hA)
            replace HP := Lib.hid (HP.out.below hA)
            replace HT := Lib.hid (HT.out.below hA)
            replace HO := Lib.hid (HO.out.below hA)
            replace HL := Lib.hid (HL.out.below hA)
            replace M0 : Mem w w1 [(g3, 26, [.slice none 0 0]), (g2, 26, [.slice none 0 0]), (g11, 26, [.slice aHX nHX cHX])] := Mem.join M0 M9
            clear hA M9
            clear hHeld
            refine hK.out _ _ (M0.cell (.tail _ _ _ _ _ (.tail _ _ _ _ _ (Has.head _ _ _ _))) (i := 0) rfl) (fun hHeld => ?_)
            clear hK K
            try simp only [Act.put, List.setIfInBounds_toArray, List.set_cons_zero, List.set_cons_succ, List.getElem_toArray, List.getElem_cons_zero, List.getElem_cons_succ]
            refine wpAnyH_ready (rs := [5]) (by kernel_rfl) (by simp) ?_
            refine AllReadyH.cons rfl (fun K hK => ?_) AllReadyH.nil
            go_simp
            refine (div16 _ _ p t r v _ HX.out HL.out Sp.out St.out E2.out E3.out).mono ?_
            rintro e w1 ⟨tv, tu, rfl, hv, hu, hA⟩
            replace M0 := M0.call hA
            replace HX := Lib.hid (HX.out.below hA)
            replace HP := Lib.hid (HP.out.below hA)
            replace HT := Lib.hid (HT.out.below hA)
            replace HO := Lib.hid (HO.out.below hA)
            replace HL := Lib.hid (HL.out.below hA)
            obtain ⟨aHQ, nHQ, cHQ, rfl, hz⟩ := hv.nm
            have HQ : Hid (IsN w1 (.agg #[.slice aHQ nHQ cHQ]) (r)) := Lib.hid hz
            clear hz hv
            obtain ⟨aHR, nHR, cHR, rfl, hz⟩ := hu.nm
            have HR : Hid (IsN w1 (.agg #[.slice aHR nHR cHR]) (v)) := Lib.hid hz
            clear hz hu
            clear hA
            try go_wp2_with fail
            clear hHeld
            refine hK.out _ _ (M0.cell (.tail _ _ _ _ _ (.tail _ _ _ _ _ (Has.head _ _ _ _))) (i := 0) rfl) (fun hHeld => ?_)
            clear hK K
            try simp only [Act.put, List.setIfInBounds_toArray, List.set_cons_zero, List.set_cons_succ, List.getElem_toArray, List.getElem_cons_zero, List.getElem_cons_succ]
            refine tkT 6 ?v16022 ?hy16022 hHeld ?rest16022
            case hy16022 => (intro w' hSw; (try dsimp only at hSw); go_simp; (try with_reducible rfl))
            try simp only [Act.put, List.setIfInBounds_toArray, List.set_cons_zero, List.set_cons_succ, List.getElem_toArray, List.getElem_cons_zero, List.getElem_cons_succ]
            refine tkT 7 ?v16023 ?hy16023 hHeld ?rest16023
            case hy16023 => (intro w' hSw; (try dsimp only at hSw); go_simp; (try with_reducible rfl))
            try simp only [Act.put, List.setIfInBounds_toArray, List.set_cons_zero, List.set_cons_succ, List.getElem_toArray, List.getElem_cons_zero, List.getElem_cons_succ]
            refine tkT 8 ?v16024 ?hy16024 hHeld ?rest16024
            case hy16024 => (intro w' hSw; (try dsimp only at hSw); go_simp; (try with_reducible rfl))
            try simp only [Act.put, List.setIfInBounds_toArray, List.set_cons_zero, List.set_cons_succ, List.getElem_toArray, List.getElem_cons_zero, List.getElem_cons_succ]
            refine wpAnyH_ready (rs := [11]) (by kernel_rfl) (by simp) ?_
            refine AllReadyH.cons rfl (fun K hK => ?_) AllReadyH.nil
            rw [if_pos (by rfl)]
            refine wp_stM (v := (.agg #[.slice aHQ nHQ cHQ])) M0 rfl rfl rfl (wr_nat _ _ _ _) (.tail _ _ _ _ _ _ _ (Upd.head _ _ _ _ _)) ?_
            intro w1 M9 hT9
            replace HX := Lib.hid (HX.out.kept (M0.has (.tail _ _ _ _ _ (Has.head _ _ _ _))) (noPart_sl _ _ _) hT9)
            replace HP := Lib.hid (HP.out.kept (M0.has (.tail _ _ _ _ _ (Has.head _ _ _ _))) (noPart_sl _ _ _) hT9)
            replace HT := Lib.hid (HT.out.kept (M0.has (.tail _ _ _ _ _ (Has.head _ _ _ _))) (noPart_sl _ _ _) hT9)
            replace HO := Lib.hid (HO.out.kept (M0.has (.tail _ _ _ _ _ (Has.head _ _ _ _))) (noPart_sl _ _ _) hT9)
            replace HL := Lib.hid (HL.out.kept (M0.has (.tail _ _ _ _ _ (Has.head _ _ _ _))) (noPart_sl _ _ _) hT9)
            replace HQ := Lib.hid (HQ.out.kept (M0.has (.tail _ _ _ _ _ (Has.head _ _ _ _))) (noPart_sl _ _ _) hT9)
            replace HR := Lib.hid (HR.out.kept (M0.has (.tail _ _ _ _ _ (Has.head _ _ _ _))) (noPart_sl _ _ _) hT9)
            replace M0 := M9
            clear M9 hT9
            clear hHeld
            refine hK.out _ _ (M0.cell (.tail _ _ _ _ _ (.tail _ _ _ _ _ (Has.head _ _ _ _))) (i := 0) rfl) (fun hHeld => ?_)
            clear hK K
            try simp only [Act.put, List.setIfInBounds_toArray, List.set_cons_zero, List.set_cons_succ, List.getElem_toArray, List.getElem_cons_zero, List.getElem_cons_succ]
            refine wpAnyH_ready (rs := [12]) (by kernel_rfl) (by simp) ?_
            refine AllReadyH.cons rfl (fun K hK => ?_) AllReadyH.nil
            rw [if_pos (by rfl)]
            refine wp_stM (v := (.agg #[.slice aHR nHR cHR])) M0 rfl rfl rfl (wr_nat _ _ _ _) (Upd.head _ _ _ _ _) ?_
            intro w1 M9 hT9
            replace HX := Lib.hid (HX.out.kept (M0.has (Has.head _ _ _ _)) (noPart_sl _ _ _) hT9)
            replace HP := Lib.hid (HP.out.kept (M0.has (Has.head _ _ _ _)) (noPart_sl _ _ _) hT9)
            replace HT := Lib.hid (HT.out.kept (M0.has (Has.head _ _ _ _)) (noPart_sl _ _ _) hT9)
            replace HO := Lib.hid (HO.out.kept (M0.has (Has.head _ _ _ _)) (noPart_sl _ _ _) hT9)
            replace HL := Lib.hid (HL.out.kept (M0.has (Has.head _ _ _ _)) (noPart_sl _ _ _) hT9)
            replace HQ := Lib.hid (HQ.out.kept (M0.has (Has.head _ _ _ _)) (noPart_sl _ _ _) hT9)
            replace HR := Lib.hid (HR.out.kept (M0.has (Has.head _ _ _ _)) (noPart_sl _ _ _) hT9)
            replace M0 := M9
            clear M9 hT9
            clear hHeld
            refine hK.out _ _ (M0.cell (.tail _ _ _ _ _ (.tail _ _ _ _ _ (Has.head _ _ _ _))) (i := 0) rfl) (fun hHeld => ?_)
            clear hK K
            try simp only [Act.put, List.setIfInBounds_toArray, List.set_cons_zero, List.set_cons_succ, List.getElem_toArray, List.getElem_cons_zero, List.getElem_cons_succ]
            refine wpAnyH_done (by kernel_rfl) ?_ _
            go_wp2_with fail
            go_meet
            exact ⟨g2, g3, _, _, _, _, _, _, rfl, rfl, M0.perm16 (List.Perm.refl _), HX.out, HP.out, HT.out, HQ.out⟩
        · rw [if_pos (by rfl)]
          refine wp_al (Mem.start w1) rfl zeroNat16 rfl ?_
          intro g3 w1 M9
          have hA := M9.below
          replace HX := Lib.hid (HX.out.below hA)
          replace HP := Lib.hid (HP.out.below hA)
          replace HT := Lib.hid (HT.out.below hA)
          replace HO := Lib.hid (HO.out.below hA)
          replace M0 : Mem w w1 [(g3, 26, [.slice none 0 0]), (g2, 26, [.slice none 0 0]), (g11, 26, [.slice aHX nHX cHX])] := Mem.join M0 M9
          clear hA M9
          clear hHeld
          refine hK.out _ _ (M0.cell (.tail _ _ _ _ _ (.tail _ _ _ _ _ (Has.head _ _ _ _))) (i := 0) rfl) (fun hHeld => ?_)
          clear hK K
          try simp only [Act.put, List.setIfInBounds_toArray, List.set_cons_zero, List.set_cons_succ, List.getElem_toArray, List.getElem_cons_zero, List.getElem_cons_succ]
          refine wpAnyH_ready (rs := [4]) (by kernel_rfl) (by simp) ?_
          refine AllReadyH.cons rfl (fun K hK => ?_) AllReadyH.nil
          go_simp
          refine (shl16 _ 1 s t _ HO.out S1.out (by have := HS.out; omega) E7.out).mono ?_
          rintro e w1 ⟨tv, rfl, hv, hA⟩
          replace M0 := M0.call hA
          replace HX := Lib.hid (HX.out.below hA)
          replace HP := Lib.hid (HP.out.below hA)
          replace HT := Lib.hid (HT.out.below hA)
          replace HO := Lib.hid (HO.out.below hA)
          obtain ⟨aHL, nHL, cHL, rfl, hz⟩ := hv.nm
          have HL : Hid (IsN w1 (.agg #[.slice aHL nHL cHL]) (t)) := Lib.hid hz
          clear hz hv
          clear hA
          try go_wp2_with fail
          clear hHeld
          refine hK.out _ _ (M0.cell (.tail _ _ _ _ _ (.tail _ _ _ _ _ (Has.head _ _ _ _))) (i := 0) rfl) (fun hHeld => ?_)
          clear hK K
          try simp only [Act.put, List.setIfInBounds_toArray, List.set_cons_zero, List.set_cons_succ, List.getElem_toArray, List.getElem_cons_zero, List.getElem_cons_succ]
          refine wpAnyH_ready (rs := [5]) (by kernel_rfl) (by simp) ?_
          refine AllReadyH.cons rfl (fun K hK => ?_) AllReadyH.nil
          go_simp
          refine (div16 _ _ p t r v _ HX.out HL.out Sp.out St.out E2.out E3.out).mono ?_
          rintro e w1 ⟨tv, tu, rfl, hv, hu, hA⟩
          replace M0 := M0.call hA
          replace HX := Lib.hid (HX.out.below hA)
          replace HP := Lib.hid (HP.out.below hA)
          replace HT := Lib.hid (HT.out.below hA)
          replace HO := Lib.hid (HO.out.below hA)
          replace HL := Lib.hid (HL.out.below hA)
          obtain ⟨aHQ, nHQ, cHQ, rfl, hz⟩ := hv.nm
          have HQ : Hid (IsN w1 (.agg #[.slice aHQ nHQ cHQ]) (r)) := Lib.hid hz
          clear hz hv
          obtain ⟨aHR, nHR, cHR, rfl, hz⟩ := hu.nm
          have HR : Hid (IsN w1 (.agg #[.slice aHR nHR cHR]) (v)) := Lib.hid hz
          clear hz hu
          clear hA
          try go_wp2_with fail
          clear hHeld
          refine hK.out _ _ (M0.cell (.tail _ _ _ _ _ (.tail _ _ _ _ _ (Has.head _ _ _ _))) (i := 0) rfl) (fun hHeld => ?_)
          clear hK K
          try simp only [Act.put, List.setIfInBounds_toArray, List.set_cons_zero, List.set_cons_succ, List.getElem_toArray, List.getElem_cons_zero, List.getElem_cons_succ]
          refine tkT 6 ?v16025 ?hy16025 hHeld ?rest16025
          case hy16025 => (intro w' hSw; (try dsimp only at hSw); go_simp; (try with_reducible rfl))
          try simp only [Act.put, List.setIfInBounds_toArray, List.set_cons_zero, List.set_cons_succ, List.getElem_toArray, List.getElem_cons_zero, List.getElem_cons_succ]
          refine tkT 7 ?v16026 ?hy16026 hHeld ?rest16026
          case hy16026 => (intro w' hSw; (try dsimp only at hSw); go_simp; (try with_reducible rfl))
          try simp only [Act.put, List.setIfInBounds_toArray, List.set_cons_zero, List.set_cons_succ, List.getElem_toArray, List.getElem_cons_zero, List.getElem_cons_succ]
          refine tkT 8 ?v16027 ?hy16027 hHeld ?rest16027
          case hy16027 => (intro w' hSw; (try dsimp only at hSw); go_simp; (try with_reducible rfl))
          try simp only [Act.put, List.setIfInBounds_toArray, List.set_cons_zero, List.set_cons_succ, List.getElem_toArray, List.getElem_cons_zero, List.getElem_cons_succ]
          refine wpAnyH_ready (rs := [11]) (by kernel_rfl) (by simp) ?_
          refine AllReadyH.cons rfl (fun K hK => ?_) AllReadyH.nil
          rw [if_pos (by rfl)]
          refine wp_stM (v := (.agg #[.slice aHQ nHQ cHQ])) M0 rfl rfl rfl (wr_nat _ _ _ _) (.tail _ _ _ _ _ _ _ (Upd.head _ _ _ _ _)) ?_
          intro w1 M9 hT9
          replace HX := Lib.hid (HX.out.kept (M0.has (.tail _ _ _ _ _ (Has.head _ _ _ _))) (noPart_sl _ _ _) hT9)
          replace HP := Lib.hid (HP.out.kept (M0.has (.tail _ _ _ _ _ (Has.head _ _ _ _))) (noPart_sl _ _ _) hT9)
          replace HT := Lib.hid (HT.out.kept (M0.has (.tail _ _ _ _ _ (Has.head _ _ _ _))) (noPart_sl _ _ _) hT9)
          replace HO := Lib.hid (HO.out.kept (M0.has (.tail _ _ _ _ _ (Has.head _ _ _ _))) (noPart_sl _ _ _) hT9)
          replace HL := Lib.hid (HL.out.kept (M0.has (.tail _ _ _ _ _ (Has.head _ _ _ _))) (noPart_sl _ _ _) hT9)
          replace HQ := Lib.hid (HQ.out.kept (M0.has (.tail _ _ _ _ _ (Has.head _ _ _ _))) (noPart_sl _ _ _) hT9)
          replace HR := Lib.hid (HR.out.kept (M0.has (.tail _ _ _ _ _ (Has.head _ _ _ _))) (noPart_sl _ _ _) hT9)
          replace M0 := M9
          clear M9 hT9
          clear hHeld
          refine hK.out _ _ (M0.cell (.tail _ _ _ _ _ (.tail _ _ _ _ _ (Has.head _ _ _ _))) (i := 0) rfl) (fun hHeld => ?_)
          clear hK K
          try simp only [Act.put, List.setIfInBounds_toArray, List.set_cons_zero, List.set_cons_succ, List.getElem_toArray, List.getElem_cons_zero, List.getElem_cons_succ]
          refine wpAnyH_ready (rs := [12]) (by kernel_rfl) (by simp) ?_
          refine AllReadyH.cons rfl (fun K hK => ?_) AllReadyH.nil
          rw [if_pos (by rfl)]
          refine wp_stM (v := (.agg #[.slice aHR nHR cHR])) M0 rfl rfl rfl (wr_nat _ _ _ _) (Upd.head _ _ _ _ _) ?_
          intro w1 M9 hT9
          replace HX := Lib.hid (HX.out.kept (M0.has (Has.head _ _ _ _)) (noPart_sl _ _ _) hT9)
          replace HP := Lib.hid (HP.out.kept (M0.has (Has.head _ _ _ _)) (noPart_sl _ _ _) hT9)
          replace HT := Lib.hid (HT.out.kept (M0.has (Has.head _ _ _ _)) (noPart_sl _ _ _) hT9)
          replace HO := Lib.hid (HO.out.kept (M0.has (Has.head _ _ _ _)) (noPart_sl _ _ _) hT9)
          replace HL := Lib.hid (HL.out.kept (M0.has (Has.head _ _ _ _)) (noPart_sl _ _ _) hT9)
          replace HQ := Lib.hid (HQ.out.kept (M0.has (Has.head _ _ _ _)) (noPart_sl _ _ _) hT9)
          replace HR := Lib.hid (HR.out.kept (M0.has (Has.head _ _ _ _)) (noPart_sl _ _ _) hT9)
          replace M0 := M9
          clear M9 hT9
          clear hHeld
          refine hK.out _ _ (M0.cell (.tail _ _ _ _ _ (.tail _ _ _ _ _ (Has.head _ _ _ _))) (i := 0) rfl) (fun hHeld => ?_)
          clear hK K
          try simp only [Act.put, List.setIfInBounds_toArray, List.set_cons_zero, List.set_cons_succ, List.getElem_toArray, List.getElem_cons_zero, List.getElem_cons_succ]
          refine wpAnyH_done (by kernel_rfl) ?_ _
          go_wp2_with fail
          go_meet
          exact ⟨g2, g3, _, _, _, _, _, _, rfl, rfl, M0.perm16 (List.Perm.refl _), HX.out, HP.out, HT.out, HQ.out⟩
      · rw [if_pos (by rfl)]
        refine wp_al (Mem.start w1) rfl zeroNat16 rfl ?_
        intro g3 w1 M9
        have hA := M9.below
        replace HX := Lib.hid (HX.out.below hA)
        replace HP := Lib.hid (HP.out.below hA)
        replace HT := Lib.hid (HT.out.below hA)
        replace HO := Lib.hid (HO.out.below hA)
        replace M0 : Mem w w1 [(g3, 26, [.slice none 0 0]), (g11, 26, [.slice aHX nHX cHX])] := Mem.join M0 M9
        clear hA M9
        clear hHeld
        refine hK.out _ _ (M0.cell (.tail _ _ _ _ _ (Has.head _ _ _ _)) (i := 0) rfl) (fun hHeld => ?_)
        clear hK K
        try simp only [Act.put, List.setIfInBounds_toArray, List.set_cons_zero, List.set_cons_succ, List.getElem_toArray, List.getElem_cons_zero, List.getElem_cons_succ]
        refine wpAnyH_ready (rs := [4, 9]) (by kernel_rfl) (by simp) ?_
        refine AllReadyH.cons rfl (fun K hK => ?_) (AllReadyH.cons rfl (fun K hK => ?_) AllReadyH.nil)
        · go_simp
          refine (shl16 _ 1 s t _ HO.out S1.out (by have := HS.out; omega) E7.out).mono ?_
          rintro e w1 ⟨tv, rfl, hv, hA⟩
          replace M0 := M0.call hA
          replace HX := Lib.hid (HX.out.below hA)
          replace HP := Lib.hid (HP.out.below hA)
          replace HT := Lib.hid (HT.out.below hA)
          replace HO := Lib.hid (HO.out.below hA)
          obtain ⟨aHL, nHL, cHL, rfl, hz⟩ := hv.nm
          have HL : Hid (IsN w1 (.agg #[.slice aHL nHL cHL]) (t)) := Lib.hid hz
          clear hz hv
          clear hA
          try go_wp2_with fail
          clear hHeld
          refine hK.out _ _ (M0.cell (.tail _ _ _ _ _ (Has.head _ _ _ _)) (i := 0) rfl) (fun hHeld => ?_)
          clear hK K
          try simp only [Act.put, List.setIfInBounds_toArray, List.set_cons_zero, List.set_cons_succ, List.getElem_toArray, List.getElem_cons_zero, List.getElem_cons_succ]
          refine wpAnyH_ready (rs := [5, 9]) (by kernel_rfl) (by simp) ?_
          refine AllReadyH.cons rfl (fun K hK => ?_) (AllReadyH.cons rfl (fun K hK => ?_) AllReadyH.nil)
          · go_simp
            refine (div16 _ _ p t r v _ HX.out HL.out Sp.out St.out E2.out E3.out).mono ?_
            rintro e w1 ⟨tv, tu, rfl, hv, hu, hA⟩
            replace M0 := M0.call hA
            replace HX := Lib.hid (HX.out.below hA)
            replace HP := Lib.hid (HP.out.below hA)
            replace HT := Lib.hid (HT.out.below hA)
            replace HO := Lib.hid (HO.out.below hA)
            replace HL := Lib.hid (HL.out.below hA)
            obtain ⟨aHQ, nHQ, cHQ, rfl, hz⟩ := hv.nm
            have HQ : Hid (IsN w1 (.agg #[.slice aHQ nHQ cHQ]) (r)) := Lib.hid hz
            clear hz hv
            obtain ⟨aHR, nHR, cHR, rfl, hz⟩ := hu.nm
            have HR : Hid (IsN w1 (.agg #[.slice aHR nHR cHR]) (v)) := Lib.hid hz
            clear hz hu
            clear hA
            try go_wp2_with fail
            clear hHeld
            refine hK.out _ _ (M0.cell (.tail _ _ _ _ _ (Has.head _ _ _ _)) (i := 0) rfl) (fun hHeld => ?_)
            clear hK K
            try simp only [Act.put, List.setIfInBounds_toArray, List.set_cons_zero, List.set_cons_succ, List.getElem_toArray, List.getElem_cons_zero, List.getElem_cons_succ]
            refine tkT 6 ?v16028 ?hy16028 hHeld ?rest16028
            case hy16028 => (intro w' hSw; (try dsimp only at hSw); go_simp; (try with_reducible rfl))
            try simp only [Act.put, List.setIfInBounds_toArray, List.set_cons_zero, List.set_cons_succ, List.getElem_toArray, List.getElem_cons_zero, List.getElem_cons_succ]
            refine tkT 7 ?v16029 ?hy16029 hHeld ?rest16029
            case hy16029 => (intro w' hSw; (try dsimp only at hSw); go_simp; (try with_reducible rfl))
            try simp only [Act.put, List.setIfInBounds_toArray, List.set_cons_zero, List.set_cons_succ, List.getElem_toArray, List.getElem_cons_zero, List.getElem_cons_succ]
            refine tkT 8 ?v16030 ?hy16030 hHeld ?rest16030
            case hy16030 => (intro w' hSw; (try dsimp only at hSw); go_simp; (try with_reducible rfl))
            try simp only [Act.put, List.setIfInBounds_toArray, List.set_cons_zero, List.set_cons_succ, List.getElem_toArray, List.getElem_cons_zero, List.getElem_cons_succ]
            refine wpAnyH_ready (rs := [9]) (by kernel_rfl) (by simp) ?_
            refine AllReadyH.cons rfl (fun K hK => ?_) AllReadyH.nil
            rw [if_pos (by rfl)]
            refine wp_al (Mem.start w1) rfl zeroNat16 rfl ?_
            intro g2 w1 M9
            have hA := M9.below
            replace HX := Lib.hid (HX.out.below hA)
            replace HP := Lib.hid (HP.out.below hA)
            replace HT := Lib.hid (HT.out.below hA)
            replace HO := Lib.hid (HO.out.below hA)
            replace HL := Lib.hid (HL.out.below hA)
            replace HQ := Lib.hid (HQ.out.below hA)
            replace HR := Lib.hid (HR.out.below hA)
            replace M0 : Mem w w1 [(g2, 26, [.slice none 0 0]), (g3, 26, [.slice none 0 0]), (g11, 26, [.slice aHX nHX cHX])] := Mem.join M0 M9
            clear hA M9
            clear hHeld
            refine hK.out _ _ (M0.cell (.tail _ _ _ _ _ (.tail _ _ _ _ _ (Has.head _ _ _ _))) (i := 0) rfl) (fun hHeld => ?_)
            clear hK K
            try simp only [Act.put, List.setIfInBounds_toArray, List.set_cons_zero, List.set_cons_succ, List.getElem_toArray, List.getElem_cons_zero, List.getElem_cons_succ]
            refine wpAnyH_ready (rs := [11]) (by kernel_rfl) (by simp) ?_
            refine AllReadyH.cons rfl (fun K hK => ?_) AllReadyH.nil
            rw [if_pos (by rfl)]
            refine wp_stM (v := (.agg #[.slice aHQ nHQ cHQ])) M0 rfl rfl rfl (wr_nat _ _ _ _) (Upd.head _ _ _ _ _) ?_
            intro w1 M9 hT9
            replace HX := Lib.hid (HX.out.kept (M0.has (Has.head _ _ _ _)) (noPart_sl _ _ _) hT9)
            replace HP := Lib.hid (HP.out.kept (M0.has (Has.head _ _ _ _)) (noPart_sl _ _ _) hT9)
            replace HT := Lib.hid (HT.out.kept (M0.has (Has.head _ _ _ _)) (noPart_sl _ _ _) hT9)
            replace HO := Lib.hid (HO.out.kept (M0.has (Has.head _ _ _ _)) (noPart_sl _ _ _) hT9)
            replace HL := Lib.hid (HL.out.kept (M0.has (Has.head _ _ _ _)) (noPart_sl _ _ _) hT9)
            replace HQ := Lib.hid (HQ.out.kept (M0.has (Has.head _ _ _ _)) (noPart_sl _ _ _) hT9)
            replace HR := Lib.hid (HR.out.kept (M0.has (Has.head _ _ _ _)) (noPart_sl _ _ _) hT9)
            replace M0 := M9
            clear M9 hT9
            clear hHeld
            refine hK.out _ _ (M0.cell (.tail _ _ _ _ _ (.tail _ _ _ _ _ (Has.head _ _ _ _))) (i := 0) rfl) (fun hHeld => ?_)
            clear hK K
            try simp only [Act.put, List.setIfInBounds_toArray, List.set_cons_zero, List.set_cons_succ, List.getElem_toArray, List.getElem_cons_zero, List.getElem_cons_succ]
            refine wpAnyH_ready (rs := [12]) (by kernel_rfl) (by simp) ?_
            refine AllReadyH.cons rfl (fun K hK => ?_) AllReadyH.nil
            rw [if_pos (by rfl)]
            refine wp_stM (v := (.agg #[.slice aHR nHR cHR])) M0 rfl rfl rfl (wr_nat _ _ _ _) (.tail _ _ _ _ _ _ _ (Upd.head _ _ _ _ _)) ?_
            intro w1 M9 hT9
            replace HX := Lib.hid (HX.out.kept (M0.has (.tail _ _ _ _ _ (Has.head _ _ _ _))) (noPart_sl _ _ _) hT9)
            replace HP := Lib.hid (HP.out.kept (M0.has (.tail _ _ _ _ _ (Has.head _ _ _ _))) (noPart_sl _ _ _) hT9)
            replace HT := Lib.hid (HT.out.kept (M0.has (.tail _ _ _ _ _ (Has.head _ _ _ _))) (noPart_sl _ _ _) hT9)
            replace HO := Lib.hid (HO.out.kept (M0.has (.tail _ _ _ _ _ (Has.head _ _ _ _))) (noPart_sl _ _ _) hT9)
            replace HL := Lib.hid (HL.out.kept (M0.has (.tail _ _ _ _ _ (Has.head _ _ _ _))) (noPart_sl _ _ _) hT9)
            replace HQ := Lib.hid (HQ.out.kept (M0.has (.tail _ _ _ _ _ (Has.head _ _ _ _))) (noPart_sl _ _ _) hT9)
            replace HR := Lib.hid (HR.out.kept (M0.has (.tail _ _ _ _ _ (Has.head _ _ _ _))) (noPart_sl _ _ _) hT9)
            replace M0 := M9
            clear M9 hT9
            clear hHeld
            refine hK.out _ _ (M0.cell (.tail _ _ _ _ _ (.tail _ _ _ _ _ (Has.head _ _ _ _))) (i := 0) rfl) (fun hHeld => ?_)
            clear hK K
            try simp only [Act.put, List.setIfInBounds_toArray, List.set_cons_zero, List.set_cons_succ, List.getElem_toArray, List.getElem_cons_zero, List.getElem_cons_succ]
            refine wpAnyH_done (by kernel_rfl) ?_ _
            go_wp2_with fail
            go_meet
            exact ⟨g2, g3, _, _, _, _, _, _, rfl, rfl, M0.perm16 (List.Perm.swap _ _ _), HX.out, HP.out, HT.out, HQ.out⟩
          · rw [if_pos (by rfl)]
            refine wp_al (Mem.start w1) rfl zeroNat16 rfl ?_
            intro g2 w1 M9
            have hA := M9.below
            replace HX := Lib.hid (HX.out.below hA)
            replace HP := Lib.hid (HP.out.below hA)
            replace HT := Lib.hid (HT.out.below hA)
            replace HO := Lib.hid (HO.out.below hA)
            replace HL := Lib.hid (HL.out.below hA)
            replace M0 : Mem w w1 [(g2, 26, [.slice none 0 0]), (g3, 26, [.slice none 0 0]), (g11, 26, [.slice aHX nHX cHX])] := Mem.join M0 M9
            clear hA M9
            clear hHeld
            refine hK.out _ _ (M0.cell (.tail _ _ _ _ _ (.tail _ _ _ _ _ (Has.head _ _ _ _))) (i := 0) rfl) (fun hHeld => ?_)
            clear hK K
            try simp only [Act.put, List.setIfInBounds_toArray, List.set_cons_zero, List.set_cons_succ, List.getElem_toArray, List.getElem_cons_zero, List.getElem_cons_succ]
            refine wpAnyH_ready (rs := [5]) (by kernel_rfl) (by simp) ?_
            refine AllReadyH.cons rfl (fun K hK => ?_) AllReadyH.nil
            go_simp
            refine (div16 _ _ p t r v _ HX.out HL.out Sp.out St.out E2.out E3.out).mono ?_
            rintro e w1 ⟨tv, tu, rfl, hv, hu, hA⟩
            replace M0 := M0.call hA
            replace HX := Lib.hid (HX.out.below hA)
            replace HP := Lib.hid (HP.out.below hA)
            replace HT := Lib.hid (HT.out.below hA)
            replace HO := Lib.hid (HO.out.below hA)
            replace HL := Lib.hid (HL.out.below hA)
            obtain ⟨aHQ, nHQ, cHQ, rfl, hz⟩ := hv.nm
            have HQ : Hid (IsN w1 (.agg #[.slice aHQ nHQ cHQ]) (r)) := Lib.hid hz
            clear hz hv
            obtain ⟨aHR, nHR, cHR, rfl, hz⟩ := hu.nm
            have HR : Hid (IsN w1 (.agg #[.slice aHR nHR cHR]) (v)) := Lib.hid hz
            clear hz hu
            clear hA
            try go_wp2_with fail
            clear hHeld
            refine hK.out _ _ (M0.cell (.tail _ _ _ _ _ (.tail _ _ _ _ _ (Has.head _ _ _ _))) (i := 0) rfl) (fun hHeld => ?_)
            clear hK K
            try simp only [Act.put, List.setIfInBounds_toArray, List.set_cons_zero, List.set_cons_succ, List.getElem_toArray, List.getElem_cons_zero, List.getElem_cons_succ]
            refine tkT 6 ?v16031 ?hy16031 hHeld ?rest16031
            case hy16031 => (intro w' hSw; (try dsimp only at hSw); go_simp; (try with_reducible rfl))
            try simp only [Act.put, List.setIfInBounds_toArray, List.set_cons_zero, List.set_cons_succ, List.getElem_toArray, List.getElem_cons_zero, List.getElem_cons_succ]
            refine tkT 7 ?v16032 ?hy16032 hHeld ?rest16032
            case hy16032 => (intro w' hSw; (try dsimp only at hSw); go_simp; (try with_reducible rfl))
            try simp only [Act.put, List.setIfInBounds_toArray, List.set_cons_zero, List.set_cons_succ, List.getElem_toArray, List.getElem_cons_zero, List.getElem_cons_succ]
            refine tkT 8 ?v16033 ?hy16033 hHeld ?rest16033
            case hy16033 => (intro w' hSw; (try dsimp only at hSw); go_simp; (try with_reducible rfl))
            try simp only [Act.put, List.setIfInBounds_toArray, List.set_cons_zero, List.set_cons_succ, List.getElem_toArray, List.getElem_cons_zero, List.getElem_cons_succ]
            refine wpAnyH_ready (rs := [11]) (by kernel_rfl) (by simp) ?_
            refine AllReadyH.cons rfl (fun K hK => ?_) AllReadyH.nil
            rw [if_pos (by rfl)]
            refine wp_stM (v := (.agg #[.slice aHQ nHQ cHQ])) M0 rfl rfl rfl (wr_nat _ _ _ _) (Upd.head _ _ _ _ _) ?_
            intro w1 M9 hT9
            replace HX := Lib.hid (HX.out.kept (M0.has (Has.head _ _ _ _)) (noPart_sl _ _ _) hT9)
            replace HP := Lib.hid (HP.out.kept (M0.has (Has.head _ _ _ _)) (noPart_sl _ _ _) hT9)
            replace HT := Lib.hid (HT.out.kept (M0.has (Has.head _ _ _ _)) (noPart_sl _ _ _) hT9)
            replace HO := Lib.hid (HO.out.kept (M0.has (Has.head _ _ _ _)) (noPart_sl _ _ _) hT9)
            replace HL := Lib.hid (HL.out.kept (M0.has (Has.head _ _ _ _)) (noPart_sl _ _ _) hT9)
            replace HQ := Lib.hid (HQ.out.kept (M0.has (Has.head _ _ _ _)) (noPart_sl _ _ _) hT9)
            replace HR := Lib.hid (HR.out.kept (M0.has (Has.head _ _ _ _)) (noPart_sl _ _ _) hT9)
            replace M0 := M9
            clear M9 hT9
            clear hHeld
            refine hK.out _ _ (M0.cell (.tail _ _ _ _ _ (.tail _ _ _ _ _ (Has.head _ _ _ _))) (i := 0) rfl) (fun hHeld => ?_)
            clear hK K
            try simp only [Act.put, List.setIfInBounds_toArray, List.set_cons_zero, List.set_cons_succ, List.getElem_toArray, List.getElem_cons_zero, List.getElem_cons_succ]
            refine wpAnyH_ready (rs := [12]) (by kernel_rfl) (by simp) ?_
            refine AllReadyH.cons rfl (fun K hK => ?_) AllReadyH.nil
            rw [if_pos (by rfl)]
            refine wp_stM (v := (.agg #[.slice aHR nHR cHR])) M0 rfl rfl rfl (wr_nat _ _ _ _) (.tail _ _ _ _ _ _ _ (Upd.head _ _ _ _ _)) ?_
            intro w1 M9 hT9
            replace HX := Lib.hid (HX.out.kept (M0.has (.tail _ _ _ _ _ (Has.head _ _ _ _))) (noPart_sl _ _ _) hT9)
            replace HP := Lib.hid (HP.out.kept (M0.has (.tail _ _ _ _ _ (Has.head _ _ _ _))) (noPart_sl _ _ _) hT9)
            replace HT := Lib.hid (HT.out.kept (M0.has (.tail _ _ _ _ _ (Has.head _ _ _ _))) (noPart_sl _ _ _) hT9)
            replace HO := Lib.hid (HO.out.kept (M0.has (.tail _ _ _ _ _ (Has.head _ _ _ _))) (noPart_sl _ _ _) hT9)
            replace HL := Lib.hid (HL.out.kept (M0.has (.tail _ _ _ _ _ (Has.head _ _ _ _))) (noPart_sl _ _ _) hT9)
            replace HQ := Lib.hid (HQ.out.kept (M0.has (.tail _ _ _ _ _ (Has.head _ _ _ _))) (noPart_sl _ _ _) hT9)
            replace HR := Lib.hid (HR.out.kept (M0.has (.tail _ _ _ _ _ (Has.head _ _ _ _))) (noPart_sl _ _ _) hT9)
            replace M0 := M9
            clear M9 hT9
            clear hHeld
            refine hK.out _ _ (M0.cell (.tail _ _ _ _ _ (.tail _ _ _ _ _ (Has.head _ _ _ _))) (i := 0) rfl) (fun hHeld => ?_)
            clear hK K
            try simp only [Act.put, List.setIfInBounds_toArray, List.set_cons_zero, List.set_cons_succ, List.getElem_toArray, List.getElem_cons_zero, List.getElem_cons_succ]
            refine wpAnyH_done (by kernel_rfl) ?_ _
            go_wp2_with fail
            go_meet
            exact ⟨g2, g3, _, _, _, _, _, _, rfl, rfl, M0.perm16 (List.Perm.swap _ _ _), HX.out, HP.out, HT.out, HQ.out⟩
        · rw [if_pos (by rfl)]
          refine wp_al (Mem.start w1) rfl zeroNat16 rfl ?_
          intro g2 w1 M9
          have hA := M9.below
          replace HX := Lib.hid (HX.out.below hA)
          replace HP := Lib.hid (HP.out.below hA)
          replace HT := Lib.hid (HT.out.below hA)
          replace HO := Lib.hid (HO.out.below hA)
          replace M0 : Mem w w1 [(g2, 26, [.slice none 0 0]), (g3, 26, [.slice none 0 0]), (g11, 26, [.slice aHX nHX cHX])] := Mem.join M0 M9
          clear hA M9
          clear hHeld
          refine hK.out _ _ (M0.cell (.tail _ _ _ _ _ (.tail _ _ _ _ _ (Has.head _ _ _ _))) (i := 0) rfl) (fun hHeld => ?_)
          clear hK K
          try simp only [Act.put, List.setIfInBounds_toArray, List.set_cons_zero, List.set_cons_succ, List.getElem_toArray, List.getElem_cons_zero, List.getElem_cons_succ]
          refine wpAnyH_ready (rs := [4]) (by kernel_rfl) (by simp) ?_
          refine AllReadyH.cons rfl (fun K hK => ?_) AllReadyH.nil
          go_simp
          refine (shl16 _ 1 s t _ HO.out S1.out (by have := HS.out; omega) E7.out).mono ?_
          rintro e w1 ⟨tv, rfl, hv, hA⟩
          replace M0 := M0.call hA
          replace HX := Lib.hid (HX.out.below hA)
          replace HP := Lib.hid (HP.out.below hA)
          replace HT := Lib.hid (HT.out.below hA)
          replace HO := Lib.hid (HO.out.below hA)
          obtain ⟨aHL, nHL, cHL, rfl, hz⟩ := hv.nm
          have HL : Hid (IsN w1 (.agg #[.slice aHL nHL cHL]) (t)) := Lib.hid hz
          clear hz hv
          clear hA
          try go_wp2_with fail
          clear hHeld
          refine hK.out _ _ (M0.cell (.tail _ _ _ _ _ (.tail _ _ _ _ _ (Has.head _ _ _ _))) (i := 0) rfl) (fun hHeld => ?_)
          clear hK K
          try simp only [Act.put, List.setIfInBounds_toArray, List.set_cons_zero, List.set_cons_succ, List.getElem_toArray, List.getElem_cons_zero, List.getElem_cons_succ]
          refine wpAnyH_ready (rs := [5]) (by kernel_rfl) (by simp) ?_
          refine AllReadyH.cons rfl (fun K hK => ?_) AllReadyH.nil
          go_simp
          refine (div16 _ _ p t r v _ HX.out HL.out Sp.out St.out E2.out E3.out).mono ?_
          rintro e w1 ⟨tv, tu, rfl, hv, hu, hA⟩
          replace M0 := M0.call hA
          replace HX := Lib.hid (HX.out.below hA)
          replace HP := Lib.hid (HP.out.below hA)
          replace HT := Lib.hid (HT.out.below hA)
          replace HO := Lib.hid (HO.out.below hA)
          replace HL := Lib.hid (HL.out.below hA)
          obtain ⟨aHQ, nHQ, cHQ, rfl, hz⟩ := hv.nm
          have HQ : Hid (IsN w1 (.agg #[.slice aHQ nHQ cHQ]) (r)) := Lib.hid hz
          clear hz hv
          obtain ⟨aHR, nHR, cHR, rfl, hz⟩ := hu.nm
          have HR : Hid (IsN w1 (.agg #[.slice aHR nHR cHR]) (v)) := Lib.hid hz
          clear hz hu
          clear hA
          try go_wp2_with fail
          clear hHeld
          refine hK.out _ _ (M0.cell (.tail _ _ _ _ _ (.tail _ _ _ _ _ (Has.head _ _ _ _))) (i := 0) rfl) (fun hHeld => ?_)
          clear hK K
          try simp only [Act.put, List.setIfInBounds_toArray, List.set_cons_zero, List.set_cons_succ, List.getElem_toArray, List.getElem_cons_zero, List.getElem_cons_succ]
          refine tkT 6 ?v16034 ?hy16034 hHeld ?rest16034
          case hy16034 => (intro w' hSw; (try dsimp only at hSw); go_simp; (try with_reducible rfl))
          try simp only [Act.put, List.setIfInBounds_toArray, List.set_cons_zero, List.set_cons_succ, List.getElem_toArray, List.getElem_cons_zero, List.getElem_cons_succ]
          refine tkT 7 ?v16035 ?hy16035 hHeld ?rest16035
          case hy16035 => (intro w' hSw; (try dsimp only at hSw); go_simp; (try with_reducible rfl))
          try simp only [Act.put, List.setIfInBounds_toArray, List.set_cons_zero, List.set_cons_succ, List.getElem_toArray, List.getElem_cons_zero, List.getElem_cons_succ]
          refine tkT 8 ?v16036 ?hy16036 hHeld ?rest16036
          case hy16036 => (intro w' hSw; (try dsimp only at hSw); go_simp; (try with_reducible rfl))
          try simp only [Act.put, List.setIfInBounds_toArray, List.set_cons_zero, List.set_cons_succ, List.getElem_toArray, List.getElem_cons_zero, List.getElem_cons_succ]
          refine wpAnyH_ready (rs := [11]) (by kernel_rfl) (by simp) ?_
          refine AllReadyH.cons rfl (fun K hK => ?_) AllReadyH.nil
          rw [if_pos (by rfl)]
          refine wp_stM (v := (.agg #[.slice aHQ nHQ cHQ])) M0 rfl rfl rfl (wr_nat _ _ _ _) (Upd.head _ _ _ _ _) ?_
          intro w1 M9 hT9
          replace HX := Lib.hid (HX.out.kept (M0.has (Has.head _ _ _ _)) (noPart_sl _ _ _) hT9)
          replace HP := Lib.hid (HP.out.kept (M0.has (Has.head _ _ _ _)) (noPart_sl _ _ _) hT9)
          replace HT := Lib.hid (HT.out.kept (M0.has (Has.head _ _ _ _)) (noPart_sl _ _ _) hT9)
          replace HO := Lib.hid (HO.out.kept (M0.has (Has.head _ _ _ _)) (noPart_sl _ _ _) hT9)
          replace HL := Lib.hid (HL.out.kept (M0.has (Has.head _ _ _ _)) (noPart_sl _ _ _) hT9)
          replace HQ := Lib.hid (HQ.out.kept (M0.has (Has.head _ _ _ _)) (noPart_sl _ _ _) hT9)
          replace HR := Lib.hid (HR.out.kept (M0.has (Has.head _ _ _ _)) (noPart_sl _ _ _) hT9)
          replace M0 := M9
          clear M9 hT9
          clear hHeld
          refine hK.out _ _ (M0.cell (.tail _ _ _ _ _ (.tail _ _ _ _ _ (Has.head _ _ _ _))) (i := 0) rfl) (fun hHeld => ?_)
          clear hK K
          try simp only [Act.put, List.setIfInBounds_toArray, List.set_cons_zero, List.set_cons_succ, List.getElem_toArray, List.getElem_cons_zero, List.getElem_cons_succ]
          refine wpAnyH_ready (rs := [12]) (by kernel_rfl) (by simp) ?_
          refine AllReadyH.cons rfl (fun K hK => ?_) AllReadyH.nil
          rw [if_pos (by rfl)]
          refine wp_stM (v := (.agg #[.slice aHR nHR cHR])) M0 rfl rfl rfl (wr_nat _ _ _ _) (.tail _ _ _ _ _ _ _ (Upd.head _ _ _ _ _)) ?_
          intro w1 M9 hT9
          replace HX := Lib.hid (HX.out.kept (M0.has (.tail _ _ _ _ _ (Has.head _ _ _ _))) (noPart_sl _ _ _) hT9)
          replace HP := Lib.hid (HP.out.kept (M0.has (.tail _ _ _ _ _ (Has.head _ _ _ _))) (noPart_sl _ _ _) hT9)
          replace HT := Lib.hid (HT.out.kept (M0.has (.tail _ _ _ _ _ (Has.head _ _ _ _))) (noPart_sl _ _ _) hT9)
          replace HO := Lib.hid (HO.out.kept (M0.has (.tail _ _ _ _ _ (Has.head _ _ _ _))) (noPart_sl _ _ _) hT9)
          replace HL := Lib.hid (HL.out.kept (M0.has (.tail _ _ _ _ _ (Has.head _ _ _ _))) (noPart_sl _ _ _) hT9)
          replace HQ := Lib.hid (HQ.out.kept (M0.has (.tail _ _ _ _ _ (Has.head _ _ _ _))) (noPart_sl _ _ _) hT9)
          replace HR := Lib.hid (HR.out.kept (M0.has (.tail _ _ _ _ _ (Has.head _ _ _ _))) (noPart_sl _ _ _) hT9)
          replace M0 := M9
          clear M9 hT9
          clear hHeld
          refine hK.out _ _ (M0.cell (.tail _ _ _ _ _ (.tail _ _ _ _ _ (Has.head _ _ _ _))) (i := 0) rfl) (fun hHeld => ?_)
          clear hK K
          try simp only [Act.put, List.setIfInBounds_toArray, List.set_cons_zero, List.set_cons_succ, List.getElem_toArray, List.getElem_cons_zero, List.getElem_cons_succ]
          refine wpAnyH_done (by kernel_rfl) ?_ _
          go_wp2_with fail
          go_meet
          exact ⟨g2, g3, _, _, _, _, _, _, rfl, rfl, M0.perm16 (List.Perm.swap _ _ _), HX.out, HP.out, HT.out, HQ.out⟩
    · rw [if_pos (by rfl)]
      refine wp_al (Mem.start w1.drew) rfl zeroNat16 rfl ?_
      intro g2 w1 M9
      have hA := M9.below
      replace HX := Lib.hid (HX.out.below hA)
      replace HP := Lib.hid (HP.out.below hA)
      replace HT := Lib.hid (HT.out.below hA)
      replace M0 : Mem w w1 [(g2, 26, [.slice none 0 0]), (g11, 26, [.slice aHX nHX cHX])] := Mem.join M0 M9
      clear hA M9
      clear hHeld
      refine hK.out _ _ (M0.cell (.tail _ _ _ _ _ (Has.head _ _ _ _)) (i := 0) rfl) (fun hHeld => ?_)
      clear hK K
      try simp only [Act.put, List.setIfInBounds_toArray, List.set_cons_zero, List.set_cons_succ, List.getElem_toArray, List.getElem_cons_zero, List.getElem_cons_succ]
      refine wpAnyH_ready (rs := [1, 10]) (by kernel_rfl) (by simp) ?_
      refine AllReadyH.cons rfl (fun K hK => ?_) (AllReadyH.cons rfl (fun K hK => ?_) AllReadyH.nil)
      · go_simp
        refine (CO.out _).mono ?_
        rintro e w1 ⟨tv, rfl, hv, hA⟩
        replace M0 := M0.call hA
        replace HX := Lib.hid (HX.out.below hA)
        replace HP := Lib.hid (HP.out.below hA)
        replace HT := Lib.hid (HT.out.below hA)
        obtain ⟨aHO, nHO, cHO, rfl, hz⟩ := hv.nm
        have HO : Hid (IsN w1 (.agg #[.slice aHO nHO cHO]) (1)) := Lib.hid hz
        clear hz hv
        clear hA
        try go_wp2_with fail
        clear hHeld
        refine hK.out _ _ (M0.cell (.tail _ _ _ _ _ (Has.head _ _ _ _)) (i := 0) rfl) (fun hHeld => ?_)
        clear hK K
        try simp only [Act.put, List.setIfInBounds_toArray, List.set_cons_zero, List.set_cons_succ, List.getElem_toArray, List.getElem_cons_zero, List.getElem_cons_succ]
        refine wpAnyH_ready (rs := [4, 10]) (by kernel_rfl) (by simp) ?_
        refine AllReadyH.cons rfl (fun K hK => ?_) (AllReadyH.cons rfl (fun K hK => ?_) AllReadyH.nil)
        · go_simp
          refine (shl16 _ 1 s t _ HO.out S1.out (by have := HS.out; omega) E7.out).mono ?_
          rintro e w1 ⟨tv, rfl, hv, hA⟩
          replace M0 := M0.call hA
          replace HX := Lib.hid (HX.out.below hA)
          replace HP := Lib.hid (HP.out.below hA)
          replace HT := Lib.hid (HT.out.below hA)
          replace HO := Lib.hid (HO.out.below hA)
          obtain ⟨aHL, nHL, cHL, rfl, hz⟩ := hv.nm
          have HL : Hid (IsN w1 (.agg #[.slice aHL nHL cHL]) (t)) := Lib.hid hz
          clear hz hv
          clear hA
          try go_wp2_with fail
          clear hHeld
          refine hK.out _ _ (M0.cell (.tail _ _ _ _ _ (Has.head _ _ _ _)) (i := 0) rfl) (fun hHeld => ?_)
          clear hK K
          try simp only [Act.put, List.setIfInBounds_toArray, List.set_cons_zero, List.set_cons_succ, List.getElem_toArray, List.getElem_cons_zero, List.getElem_cons_succ]
          refine wpAnyH_ready (rs := [5, 10]) (by kernel_rfl) (by simp) ?_
          refine AllReadyH.cons rfl (fun K hK => ?_) (AllReadyH.cons rfl (fun K hK => ?_) AllReadyH.nil)
          · go_simp
            refine (div16 _ _ p t r v _ HX.out HL.out Sp.out St.out E2.out E3.out).mono ?_
            rintro e w1 ⟨tv, tu, rfl, hv, hu, hA⟩
            replace M0 := M0.call hA
            replace HX := Lib.hid (HX.out.below hA)
            replace HP := Lib.hid (HP.out.below hA)
            replace HT := Lib.hid (HT.out.below hA)
            replace HO := Lib.hid (HO.out.below hA)
            replace HL := Lib.hid (HL.out.below hA)
            obtain ⟨aHQ, nHQ, cHQ, rfl, hz⟩ := hv.nm
            have HQ : Hid (IsN w1 (.agg #[.slice aHQ nHQ cHQ]) (r)) := Lib.hid hz
            clear hz hv
            obtain ⟨aHR, nHR, cHR, rfl, hz⟩ := hu.nm
            have HR : Hid (IsN w1 (.agg #[.slice aHR nHR cHR]) (v)) := Lib.hid hz
            clear hz hu
            clear hA
            try go_wp2_with fail
            clear hHeld
            refine hK.out _ _ (M0.cell (.tail _ _ _ _ _ (Has.head _ _ _ _)) (i := 0) rfl) (fun hHeld => ?_)
            clear hK K
            try simp only [Act.put, List.setIfInBounds_toArray, List.set_cons_zero, List.set_cons_succ, List.getElem_toArray, List.getElem_cons_zero, List.getElem_cons_succ]
            refine tkT 6 ?v16037 ?hy16037 hHeld ?rest16037
            case hy16037 => (intro w' hSw; (try dsimp only at hSw); go_simp; (try with_reducible rfl))
            try simp only [Act.put, List.setIfInBounds_toArray, List.set_cons_zero, List.set_cons_succ, List.getElem_toArray, List.getElem_cons_zero, List.getElem_cons_succ]
            refine tkT 7 ?v16038 ?hy16038 hHeld ?rest16038
            case hy16038 => (intro w' hSw; (try dsimp only at hSw); go_simp; (try with_reducible rfl))
            try simp only [Act.put, List.setIfInBounds_toArray, List.set_cons_zero, List.set_cons_succ, List.getElem_toArray, List.getElem_cons_zero, List.getElem_cons_succ]
            refine tkT 8 ?v16039 ?hy16039 hHeld ?rest16039
            case hy16039 => (intro w' hSw; (try dsimp only at hSw); go_simp; (try with_reducible rfl))
            try simp only [Act.put, List.setIfInBounds_toArray, List.set_cons_zero, List.set_cons_succ, List.getElem_toArray, List.getElem_cons_zero, List.getElem_cons_succ]
            refine wpAnyH_ready (rs := [10]) (by kernel_rfl) (by simp) ?_
            refine AllReadyH.cons rfl (fun K hK => ?_) AllReadyH.nil
            rw [if_pos (by rfl)]
            refine wp_al (Mem.start w1) rfl zeroNat16 rfl ?_
            intro g3 w1 M9
            have hA := M9.below
            replace HX := Lib.hid (HX.out.below hA)
            replace HP := Lib.hid (HP.out.below hA)
            replace HT := Lib.hid (HT.out.below hA)
            replace HO := Lib.hid (HO.out.below hA)
            replace HL := Lib.hid (HL.out.below hA)
            replace HQ := Lib.hid (HQ.out.below hA)
            replace HR := Lib.hid (HR.out.below hA)
            replace M0 : Mem w w1 [(g3, 26, [.slice none 0 0]), (g2, 26, [.slice none 0 0]), (g11, 26, [.slice aHX nHX cHX])] := Mem.join M0 M9
            clear hA M9
            clear hHeld
            refine hK.out _ _ (M0.cell (.tail _ _ _ _ _ (.tail _ _ _ _ _ (Has.head _ _ _ _))) (i := 0) rfl) (fun hHeld => ?_)
            clear hK K
            try simp only [Act.put, List.setIfInBounds_toArray, List.set_cons_zero, List.set_cons_succ, List.getElem_toArray, List.getElem_cons_zero, List.getElem_cons_succ]
            refine wpAnyH_ready (rs := [11]) (by kernel_rfl) (by simp) ?_
            refine AllReadyH.cons rfl (fun K hK => ?_) AllReadyH.nil
            rw [if_pos (by rfl)]
            refine wp_stM (v := (.agg #[.slice aHQ nHQ cHQ])) M0 rfl rfl rfl (wr_nat _ _ _ _) (.tail _ _ _ _ _ _ _ (Upd.head _ _ _ _ _)) ?_
            intro w1 M9 hT9
            replace HX := Lib.hid (HX.out.kept (M0.has (.tail _ _ _ _ _ (Has.head _ _ _ _))) (noPart_sl _ _ _) hT9)
            replace HP := Lib.hid (HP.out.kept (M0.has (.tail _ _ _ _ _ (Has.head _ _ _ _))) (noPart_sl _ _ _) hT9)
            replace HT := Lib.hid (HT.out.kept (M0.has (.tail _ _ _ _ _ (Has.head _ _ _ _))) (noPart_sl _ _ _) hT9)
            replace HO := Lib.hid (HO.out.kept (M0.has (.tail _ _ _ _ _ (Has.head _ _ _ _))) (noPart_sl _ _ _) hT9)
            replace HL := Lib.hid (HL.out.kept (M0.has (.tail _ _ _ _ _ (Has.head _ _ _ _))) (noPart_sl _ _ _) hT9)
            replace HQ := Lib.hid (HQ.out.kept (M0.has (.tail _ _ _ _ _ (Has.head _ _ _ _))) (noPart_sl _ _ _) hT9)
            replace HR := Lib.hid (HR.out.kept (M0.has (.tail _ _ _ _ _ (Has.head _ _ _ _))) (noPart_sl _ _ _) hT9)
            replace M0 := M9
            clear M9 hT9
            clear hHeld
            refine hK.out _ _ (M0.cell (.tail _ _ _ _ _ (.tail _ _ _ _ _ (Has.head _ _ _ _))) (i := 0) rfl) (fun hHeld => ?_)
            clear hK K
            try simp only [Act.put, List.setIfInBounds_toArray, List.set_cons_zero, List.set_cons_succ, List.getElem_toArray, List.getElem_cons_zero, List.getElem_cons_succ]
            refine wpAnyH_ready (rs := [12]) (by kernel_rfl) (by simp) ?_
            refine AllReadyH.cons rfl (fun K hK => ?_) AllReadyH.nil
            rw [if_pos (by rfl)]
            refine wp_stM (v := (.agg #[.slice aHR nHR cHR])) M0 rfl rfl rfl (wr_nat _ _ _ _) (Upd.head _ _ _ _ _) ?_
            intro w1 M9 hT9
            replace HX := Lib.hid (HX.out.kept (M0.has (Has.head _ _ _ _)) (noPart_sl _ _ _) hT9)
            replace HP := Lib.hid (HP.out.kept (M0.has (Has.head _ _ _ _)) (noPart_sl _ _ _) hT9)
            replace HT := Lib.hid (HT.out.kept (M0.has (Has.head _ _ _ _)) (noPart_sl _ _ _) hT9)
            replace HO := Lib.hid (HO.out.kept (M0.has (Has.head _ _ _ _)) (noPart_sl _ _ _) hT9)
            replace HL := Lib.hid (HL.out.kept (M0.has (Has.head _ _ _ _)) (noPart_sl _ _ _) hT9)
            replace HQ := Lib.hid (HQ.out.kept (M0.has (Has.head _ _ _ _)) (noPart_sl _ _ _) hT9)
            replace HR := Lib.hid (HR.out.kept (M0.has (Has.head _ _ _ _)) (noPart_sl _ _ _) hT9)
            replace M0 := M9
            clear M9 hT9
            clear hHeld
            refine hK.out _ _ (M0.cell (.tail _ _ _ _ _ (.tail _ _ _ _ _ (Has.head _ _ _ _))) (i := 0) rfl) (fun hHeld => ?_)
            clear hK K
            try simp only [Act.put, List.setIfInBounds_toArray, List.set_cons_zero, List.set_cons_succ, List.getElem_toArray, List.getElem_cons_zero, List.getElem_cons_succ]
            refine wpAnyH_done (by kernel_rfl) ?_ _
            go_wp2_with fail
            go_meet
            exact ⟨g2, g3, _, _, _, _, _, _, rfl, rfl, M0.perm16 (List.Perm.refl _), HX.out, HP.out, HT.out, HQ.out⟩
          · rw [if_pos (by rfl)]
            refine wp_al (Mem.start w1) rfl zeroNat16 rfl ?_
            intro g3 w1 M9
            have hA := M9.below
            replace HX := Lib.hid (HX.out.below hA)
            replace HP := Lib.hid (HP.out.below hA)
            replace HT := Lib.hid (HT.out.below hA)
            replace HO := Lib.hid (HO.out.below hA)
            replace HL := Lib.hid (HL.out.below hA)
            replace M0 : Mem w w1 [(g3, 26, [.slice none 0 0]), (g2, 26, [.slice none 0 0]), (g11, 26, [.slice aHX nHX cHX])] := Mem.join M0 M9
            clear hA M9
            clear hHeld
            refine hK.out _ _ (M0.cell (.tail _ _ _ _ _ (.tail _ _ _ _ _ (Has.head _ _ _ _))) (i := 0) rfl) (fun hHeld => ?_)
            clear hK K
            try simp only [Act.put, List.setIfInBounds_toArray, List.set_cons_zero, List.set_cons_succ, List.getElem_toArray, List.getElem_cons_zero, List.getElem_cons_succ]
            refine wpAnyH_ready (rs := [5]) (by kernel_rfl) (by simp) ?_
            refine AllReadyH.cons rfl (fun K hK => ?_) AllReadyH.nil
            go_simp
            refine (div16 _ _ p t r v _ HX.out HL.out Sp.out St.out E2.out E3.out).mono ?_
            rintro e w1 ⟨tv, tu, rfl, hv, hu, hA⟩
            replace M0 := M0.call hA
            replace HX := Lib.hid (HX.out.below hA)
            replace HP := Lib.hid (HP.out.below hA)
            replace HT := Lib.hid (HT.out.below hA)
            replace HO := Lib.hid (HO.out.below hA)
            replace HL := Lib.hid (HL.out.below hA)
            obtain ⟨aHQ, nHQ, cHQ, rfl, hz⟩ := hv.nm
            have HQ : Hid (IsN w1 (.agg #[.slice aHQ nHQ cHQ]) (r)) := Lib.hid hz
            clear hz hv
            obtain ⟨aHR, nHR, cHR, rfl, hz⟩ := hu.nm
            have HR : Hid (IsN w1 (.agg #[.slice aHR nHR cHR]) (v)) := Lib.hid hz
            clear hz hu
            clear hA
            try go_wp2_with fail
            clear hHeld
            refine hK.out _ _ (M0.cell (.tail _ _ _ _ _ (.tail _ _ _ _ _ (Has.head _ _ _ _))) (i := 0) rfl) (fun hHeld => ?_)
            clear hK K
            try simp only [Act.put, List.setIfInBounds_toArray, List.set_cons_zero, List.set_cons_succ, List.getElem_toArray, List.getElem_cons_zero, List.getElem_cons_succ]
            refine tkT 6 ?v16040 ?hy16040 hHeld ?rest16040
            case hy16040 => (intro w' hSw; (try dsimp only at hSw); go_simp; (try with_reducible rfl))
            try simp only [Act.put, List.setIfInBounds_toArray, List.set_cons_zero, List.set_cons_succ, List.getElem_toArray, List.getElem_cons_zero, List.getElem_cons_succ]
            refine tkT 7 ?v16041 ?hy16041 hHeld ?rest16041
            case hy16041 => (intro w' hSw; (try dsimp only at hSw); go_simp; (try with_reducible rfl))
            try simp only [Act.put, List.setIfInBounds_toArray, List.set_cons_zero, List.set_cons_succ, List.getElem_toArray, List.getElem_cons_zero, List.getElem_cons_succ]
            refine tkT 8 ?v16042 ?hy16042 hHeld ?rest16042
            case hy16042 => (intro w' hSw; (try dsimp only at hSw); go_simp; (try with_reducible rfl))
            try simp only [Act.put, List.setIfInBounds_toArray, List.set_cons_zero, List.set_cons_succ, List.getElem_toArray, List.getElem_cons_zero, List.getElem_cons_succ]
            refine wpAnyH_ready (rs := [11]) (by kernel_rfl) (by simp) ?_
            refine AllReadyH.cons rfl (fun K hK => ?_) AllReadyH.nil
            rw [if_pos (by rfl)]
            refine wp_stM (v := (.agg #[.slice aHQ nHQ cHQ])) M0 rfl rfl rfl (wr_nat _ _ _ _) (.tail _ _ _ _ _ _ _ (Upd.head _ _ _ _ _)) ?_
            intro w1 M9 hT9
            replace HX := Lib.hid (HX.out.kept (M0.has (.tail _ _ _ _ _ (Has.head _ _ _ _))) (noPart_sl _ _ _) hT9)
            replace HP := Lib.hid (HP.out.kept (M0.has (.tail _ _ _ _ _ (Has.head _ _ _ _))) (noPart_sl _ _ _) hT9)
            replace HT := Lib.hid (HT.out.kept (M0.has (.tail _ _ _ _ _ (Has.head _ _ _ _))) (noPart_sl _ _ _) hT9)
            replace HO := Lib.hid (HO.out.kept (M0.has (.tail _ _ _ _ _ (Has.head _ _ _ _))) (noPart_sl _ _ _) hT9)
            replace HL := Lib.hid (HL.out.kept (M0.has (.tail _ _ _ _ _ (Has.head _ _ _ _))) (noPart_sl _ _ _) hT9)
            replace HQ := Lib.hid (HQ.out.kept (M0.has (.tail _ _ _ _ _ (Has.head _ _ _ _))) (noPart_sl _ _ _) hT9)
            replace HR := Lib.hid (HR.out.kept (M0.has (.tail _ _ _ _ _ (Has.head _ _ _ _))) (noPart_sl _ _ _) hT9)
            replace M0 := M9
            clear M9 hT9
            clear hHeld
            refine hK.out _ _ (M0.cell (.tail _ _ _ _ _ (.tail _ _ _ _ _ (Has.head _ _ _ _))) (i := 0) rfl) (fun hHeld => ?_)
            clear hK K
            try simp only [Act.put, List.setIfInBounds_toArray, List.set_cons_zero, List.set_cons_succ, List.getElem_toArray, List.getElem_cons_zero, List.getElem_cons_succ]
            refine wpAnyH_ready (rs := [12]) (by kernel_rfl) (by simp) ?_
            refine AllReadyH.cons rfl (fun K hK => ?_) AllReadyH.nil
            rw [if_pos (by rfl)]
            refine wp_stM (v := (.agg #[.slice aHR nHR cHR])) M0 rfl rfl rfl (wr_nat _ _ _ _) (Upd.head _ _ _ _ _) ?_
            intro w1 M9 hT9
            replace HX := Lib.hid (HX.out.kept (M0.has (Has.head _ _ _ _)) (noPart_sl _ _ _) hT9)
            replace HP := Lib.hid (HP.out.kept (M0.has (Has.head _ _ _ _)) (noPart_sl _ _ _) hT9)
            replace HT := Lib.hid (HT.out.kept (M0.has (Has.head _ _ _ _)) (noPart_sl _ _ _) hT9)
            replace HO := Lib.hid (HO.out.kept (M0.has (Has.head _ _ _ _)) (noPart_sl _ _ _) hT9)
            replace HL := Lib.hid (HL.out.kept (M0.has (Has.head _ _ _ _)) (noPart_sl _ _ _) hT9)
            replace HQ := Lib.hid (HQ.out.kept (M0.has (Has.head _ _ _ _)) (noPart_sl _ _ _) hT9)
            replace HR := Lib.hid (HR.out.kept (M0.has (Has.head _ _ _ _)) (noPart_sl _ _ _) hT9)
            replace M0 := M9
            clear M9 hT9
            clear hHeld
            refine hK.out _ _ (M0.cell (.tail _ _ _ _ _ (.tail _ _ _ _ _ (Has.head _ _ _ _))) (i := 0) rfl) (fun hHeld => ?_)
            clear hK K
            try simp only [Act.put, List.setIfInBounds_toArray, List.set_cons_zero, List.set_cons_succ, List.getElem_toArray, List.getElem_cons_zero, List.getElem_cons_succ]
            refine wpAnyH_done (by kernel_rfl) ?_ _
            go_wp2_with fail
            go_meet
            exact ⟨g2, g3, _, _, _, _, _, _, rfl, rfl, M0.perm16 (List.Perm.refl _), HX.out, HP.out, HT.out, HQ.out⟩
        · rw [if_pos (by rfl)]
          refine wp_al (Mem.start w1) rfl zeroNat16 rfl ?_
          intro g3 w1 M9
          have hA := M9.below
          replace HX := Lib.hid (HX.out.below hA)
          replace HP := Lib.hid (HP.out.below hA)
          replace HT := Lib.hid (HT.out.below hA)
          replace HO := Lib.hid (HO.out.below hA)
          replace M0 : Mem w w1 [(g3, 26, [.slice none 0 0]), (g2, 26, [.slice none 0 0]), (g11, 26, [.slice aHX nHX cHX])] := Mem.join M0 M9
          clear hA M9
          clear hHeld
          refine hK.out _ _ (M0.cell (.tail _ _ _ _ _ (.tail _ _ _ _ _ (Has.head _ _ _ _))) (i := 0) rfl) (fun hHeld => ?_)
          clear hK K
          try simp only [Act.put, List.setIfInBounds_toArray, List.set_cons_zero, List.set_cons_succ, List.getElem_toArray, List.getElem_cons_zero, List.getElem_cons_succ]
          refine wpAnyH_ready (rs := [4]) (by kernel_rfl) (by simp) ?_
          refine AllReadyH.cons rfl (fun K hK => ?_) AllReadyH.nil
          go_simp
          refine (shl16 _ 1 s t _ HO.out S1.out (by have := HS.out; omega) E7.out).mono ?_
          rintro e w1 ⟨tv, rfl, hv, hA⟩
          replace M0 := M0.call hA
          replace HX := Lib.hid (HX.out.below hA)
          replace HP := Lib.hid (HP.out.below hA)
          replace HT := Lib.hid (HT.out.below hA)
          replace HO := Lib.hid (HO.out.below hA)
          obtain ⟨aHL, nHL, cHL, rfl, hz⟩ := hv.nm
          have HL : Hid (IsN w1 (.agg #[.slice aHL nHL cHL]) (t)) := Lib.hid hz
          clear hz hv
          clear hA
          try go_wp2_with fail
          clear hHeld
          refine hK.out _ _ (M0.cell (.tail _ _ _ _ _ (.tail _ _ _ _ _ (Has.head _ _ _ _))) (i := 0) rfl) (fun hHeld => ?_)
          clear hK K
          try simp only [Act.put, List.setIfInBounds_toArray, List.set_cons_zero, List.set_cons_succ, List.getElem_toArray, List.getElem_cons_zero, List.getElem_cons_succ]
          refine wpAnyH_ready (rs := [5]) (by kernel_rfl) (by simp) ?_
          refine AllReadyH.cons rfl (fun K hK => ?_) AllReadyH.nil
          go_simp
          refine (div16 _ _ p t r v _ HX.out HL.out Sp.out St.out E2.out E3.out).mono ?_
          rintro e w1 ⟨tv, tu, rfl, hv, hu, hA⟩
          replace M0 := M0.call hA
          replace HX := Lib.hid (HX.out.below hA)
          replace HP := Lib.hid (HP.out.below hA)
          replace HT := Lib.hid (HT.out.below hA)
          replace HO := Lib.hid (HO.out.below hA)
          replace HL := Lib.hid (HL.out.below hA)
          obtain ⟨aHQ, nHQ, cHQ, rfl, hz⟩ := hv.nm
          have HQ : Hid (IsN w1 (.agg #[.slice aHQ nHQ cHQ]) (r)) := Lib.hid hz
          clear hz hv
          obtain ⟨aHR, nHR, cHR, rfl, hz⟩ := hu.nm
          have HR : Hid (IsN w1 (.agg #[.slice aHR nHR cHR]) (v)) := Lib.hid hz
          clear hz hu
          clear hA
          try go_wp2_with fail
          clear hHeld
          refine hK.out _ _ (M0.cell (.tail _ _ _ _ _ (.tail _ _ _ _ _ (Has.head _ _ _ _))) (i := 0) rfl) (fun hHeld => ?_)
          clear hK K
          try simp only [Act.put, List.setIfInBounds_toArray, List.set_cons_zero, List.set_cons_succ, List.getElem_toArray, List.getElem_cons_zero, List.getElem_cons_succ]
          refine tkT 6 ?v16043 ?hy16043 hHeld ?rest16043
          case hy16043 => (intro w' hSw; (try dsimp only at hSw); go_simp; (try with_reducible rfl))
          try simp only [Act.put, List.setIfInBounds_toArray, List.set_cons_zero, List.set_cons_succ, List.getElem_toArray, List.getElem_cons_zero, List.getElem_cons_succ]
          refine tkT 7 ?v16044 ?hy16044 hHeld ?rest16044
          case hy16044 => (intro w' hSw; (try dsimp only at hSw); go_simp; (try with_reducible rfl))
          try simp only [Act.put, List.setIfInBounds_toArray, List.set_cons_zero, List.set_cons_succ, List.getElem_toArray, List.getElem_cons_zero, List.getElem_cons_succ]
          refine tkT 8 ?v16045 ?hy16045 hHeld ?rest16045
          case hy16045 => (intro w' hSw; (try dsimp only at hSw); go_simp; (try with_reducible rfl))
          try simp only [Act.put, List.setIfInBounds_toArray, List.set_cons_zero, List.set_cons_succ, List.getElem_toArray, List.getElem_cons_zero, List.getElem_cons_succ]
          refine wpAnyH_ready (rs := [11]) (by kernel_rfl) (by simp) ?_
          refine AllReadyH.cons rfl (fun K hK => ?_) AllReadyH.nil
          rw [if_pos (by rfl)]
          refine wp_stM (v := (.agg #[.slice aHQ nHQ cHQ])) M0 rfl rfl rfl (wr_nat _ _ _ _) (.tail _ _ _ _ _ _ _ (Upd.head _ _ _ _ _)) ?_
          intro w1 M9 hT9
          replace HX := Lib.hid (HX.out.kept (M0.has (.tail _ _ _ _ _ (Has.head _ _ _ _))) (noPart_sl _ _ _) hT9)
          replace HP := Lib.hid (HP.out.kept (M0.has (.tail _ _ _ _ _ (Has.head _ _ _ _))) (noPart_sl _ _ _) hT9)
          replace HT := Lib.hid (HT.out.kept (M0.has (.tail _ _ _ _ _ (Has.head _ _ _ _))) (noPart_sl _ _ _) hT9)
          replace HO := Lib.hid (HO.out.kept (M0.has (.tail _ _ _ _ _ (Has.head _ _ _ _))) (noPart_sl _ _ _) hT9)
          replace HL := Lib.hid (HL.out.kept (M0.has (.tail _ _ _ _ _ (Has.head _ _ _ _))) (noPart_sl _ _ _) hT9)
          replace HQ := Lib.hid (HQ.out.kept (M0.has (.tail _ _ _ _ _ (Has.head _ _ _ _))) (noPart_sl _ _ _) hT9)
          replace HR := Lib.hid (HR.out.kept (M0.has (.tail _ _ _ _ _ (Has.head _ _ _ _))) (noPart_sl _ _ _) hT9)
          replace M0 := M9
          clear M9 hT9
          clear hHeld
          refine hK.out _ _ (M0.cell (.tail _ _ _ _ _ (.tail _ _ _ _ _ (Has.head _ _ _ _))) (i := 0) rfl) (fun hHeld => ?_)
          clear hK K
          try simp only [Act.put, List.setIfInBounds_toArray, List.set_cons_zero, List.set_cons_succ, List.getElem_toArray, List.getElem_cons_zero, List.getElem_cons_succ]
          refine wpAnyH_ready (rs := [12]) (by kernel_rfl) (by simp) ?_
          refine AllReadyH.cons rfl (fun K hK => ?_) AllReadyH.nil
          rw [if_pos (by rfl)]
          refine wp_stM (v := (.agg #[.slice aHR nHR cHR])) M0 rfl rfl rfl (wr_nat _ _ _ _) (Upd.head _ _ _ _ _) ?_
          intro w1 M9 hT9
          replace HX := Lib.hid (HX.out.kept (M0.has (Has.head _ _ _ _)) (noPart_sl _ _ _) hT9)
          replace HP := Lib.hid (HP.out.kept (M0.has (Has.head _ _ _ _)) (noPart_sl _ _ _) hT9)
          replace HT := Lib.hid (HT.out.kept (M0.has (Has.head _ _ _ _)) (noPart_sl _ _ _) hT9)
          replace HO := Lib.hid (HO.out.kept (M0.has (Has.head _ _ _ _)) (noPart_sl _ _ _) hT9)
          replace HL := Lib.hid (HL.out.kept (M0.has (Has.head _ _ _ _)) (noPart_sl _ _ _) hT9)
          replace HQ := Lib.hid (HQ.out.kept (M0.has (Has.head _ _ _ _)) (noPart_sl _ _ _) hT9)
          replace HR := Lib.hid (HR.out.kept (M0.has (Has.head _ _ _ _)) (noPart_sl _ _ _) hT9)
          replace M0 := M9
          clear M9 hT9
          clear hHeld
          refine hK.out _ _ (M0.cell (.tail _ _ _ _ _ (.tail _ _ _ _ _ (Has.head _ _ _ _))) (i := 0) rfl) (fun hHeld => ?_)
          clear hK K
          try simp only [Act.put, List.setIfInBounds_toArray, List.set_cons_zero, List.set_cons_succ, List.getElem_toArray, List.getElem_cons_zero, List.getElem_cons_succ]
          refine wpAnyH_done (by kernel_rfl) ?_ _
          go_wp2_with fail
          go_meet
          exact ⟨g2, g3, _, _, _, _, _, _, rfl, rfl, M0.perm16 (List.Perm.refl _), HX.out, HP.out, HT.out, HQ.out⟩
      · rw [if_pos (by rfl)]
        refine wp_al (Mem.start w1) rfl zeroNat16 rfl ?_
        intro g3 w1 M9
        have hA := M9.below
        replace HX := Lib.hid (HX.out.below hA)
        replace HP := Lib.hid (HP.out.below hA)
        replace HT := Lib.hid (HT.out.below hA)
        replace M0 : Mem w w1 [(g3, 26, [.slice none 0 0]), (g2, 26, [.slice none 0 0]), (g11, 26, [.slice aHX nHX cHX])] := Mem.join M0 M9
        clear hA M9
        clear hHeld
        refine hK.out _ _ (M0.cell (.tail _ _ _ _ _ (.tail _ _ _ _ _ (Has.head _ _ _ _))) (i := 0) rfl) (fun hHeld => ?_)
        clear hK K
        try simp only [Act.put, List.setIfInBounds_toArray, List.set_cons_zero, List.set_cons_succ, List.getElem_toArray, List.getElem_cons_zero, List.getElem_cons_succ]
        refine wpAnyH_ready (rs := [1]) (by kernel_rfl) (by simp) ?_
        refine AllReadyH.cons rfl (fun K hK => ?_) AllReadyH.nil
        go_simp
        refine (CO.out _).mono ?_
        rintro e w1 ⟨tv, rfl, hv, hA⟩
        replace M0 := M0.call hA
        replace HX := Lib.hid (HX.out.below hA)
        replace HP := Lib.hid (HP.out.below hA)
        replace HT := Lib.hid (HT.out.below hA)
        obtain ⟨aHO, nHO, cHO, rfl, hz⟩ := hv.nm
        have HO : Hid (IsN w1 (.agg #[.slice aHO nHO cHO]) (1)) := Lib.hid hz
        clear hz hv
        clear hA
        try go_wp2_with fail
        clear hHeld
        refine hK.out _ _ (M0.cell (.tail _ _ _ _ _ (.tail _ _ _ _ _ (Has.head _ _ _ _))) (i := 0) rfl) (fun hHeld => ?_)
        clear hK K
        try simp only [Act.put, List.setIfInBounds_toArray, List.set_cons_zero, List.set_cons_succ, List.getElem_toArray, List.getElem_cons_zero, List.getElem_cons_succ]
        refine wpAnyH_ready (rs := [4]) (by kernel_rfl) (by simp) ?_
        refine AllReadyH.cons rfl (fun K hK => ?_) AllReadyH.nil
        go_simp
        refine (shl16 _ 1 s t _ HO.out S1.out (by have := HS.out; omega) E7.out).mono ?_
        rintro e w1 ⟨tv, rfl, hv, hA⟩
        replace M0 := M0.call hA
        replace HX := Lib.hid (HX.out.below hA)
        replace HP := Lib.hid (HP.out.below hA)
        replace HT := Lib.hid (HT.out.below hA)
        replace HO := Lib.hid (HO.out.below hA)
        obtain ⟨aHL, nHL, cHL, rfl, hz⟩ := hv.nm
        have HL : Hid (IsN w1 (.agg #[.slice aHL nHL cHL]) (t)) := Lib.hid hz
        clear hz hv
        clear hA
        try go_wp2_with fail
        clear hHeld
        refine hK.out _ _ (M0.cell (.tail _ _ _ _ _ (.tail _ _ _ _ _ (Has.head _ _ _ _))) (i := 0) rfl) (fun hHeld => ?_)
        clear hK K
        try simp only [Act.put, List.setIfInBounds_toArray, List.set_cons_zero, List.set_cons_succ, List.getElem_toArray, List.getElem_cons_zero, List.getElem_cons_succ]
        refine wpAnyH_ready (rs := [5]) (by kernel_rfl) (by simp) ?_
        refine AllReadyH.cons rfl (fun K hK => ?_) AllReadyH.nil
        go_simp
        refine (div16 _ _ p t r v _ HX.out HL.out Sp.out St.out E2.out E3.out).mono ?_
        rintro e w1 ⟨tv, tu, rfl, hv, hu, hA⟩
        replace M0 := M0.call hA
        replace HX := Lib.hid (HX.out.below hA)
        replace HP := Lib.hid (HP.out.below hA)
        replace HT := Lib.hid (HT.out.below hA)
        replace HO := Lib.hid (HO.out.below hA)
        replace HL := Lib.hid (HL.out.below hA)
        obtain ⟨aHQ, nHQ, cHQ, rfl, hz⟩ := hv.nm
        have HQ : Hid (IsN w1 (.agg #[.slice aHQ nHQ cHQ]) (r)) := Lib.hid hz
        clear hz hv
        obtain ⟨aHR, nHR, cHR, rfl, hz⟩ := hu.nm
        have HR : Hid (IsN w1 (.agg #[.slice aHR nHR cHR]) (v)) := Lib.hid hz
        clear hz hu
        clear hA
        try go_wp2_with fail
        clear hHeld
        refine hK.out _ _ (M0.cell (.tail _ _ _ _ _ (.tail _ _ _ _ _ (Has.head _ _ _ _))) (i := 0) rfl) (fun hHeld => ?_)
        clear hK K
        try simp only [Act.put, List.setIfInBounds_toArray, List.set_cons_zero, List.set_cons_succ, List.getElem_toArray, List.getElem_cons_zero, List.getElem_cons_succ]
        refine tkT 6 ?v16046 ?hy16046 hHeld ?rest16046
        case hy16046 => (intro w' hSw; (try dsimp only at hSw); go_simp; (try with_reducible rfl))
        try simp only [Act.put, List.setIfInBounds_toArray, List.set_cons_zero, List.set_cons_succ, List.getElem_toArray, List.getElem_cons_zero, List.getElem_cons_succ]
        refine tkT 7 ?v16047 ?hy16047 hHeld ?rest16047
        case hy16047 => (intro w' hSw; (try dsimp only at hSw); go_simp; (try with_reducible rfl))
        try simp only [Act.put, List.setIfInBounds_toArray, List.set_cons_zero, List.set_cons_succ, List.getElem_toArray, List.getElem_cons_zero, List.getElem_cons_succ]
        refine tkT 8 ?v16048 ?hy16048 hHeld ?rest16048
        case hy16048 => (intro w' hSw; (try dsimp only at hSw); go_simp; (try with_reducible rfl))
        try simp only [Act.put, List.setIfInBounds_toArray, List.set_cons_zero, List.set_cons_succ, List.getElem_toArray, List.getElem_cons_zero, List.getElem_cons_succ]
        refine wpAnyH_ready (rs := [11]) (by kernel_rfl) (by simp) ?_
        refine AllReadyH.cons rfl (fun K hK => ?_) AllReadyH.nil
        rw [if_pos (by rfl)]
        refine wp_stM (v := (.agg #[.slice aHQ nHQ cHQ])) M0 rfl rfl rfl (wr_nat _ _ _ _) (.tail _ _ _ _ _ _ _ (Upd.head _ _ _ _ _)) ?_
        intro w1 M9 hT9
        replace HX := Lib.hid (HX.out.kept (M0.has (.tail _ _ _ _ _ (Has.head _ _ _ _))) (noPart_sl _ _ _) hT9)
        replace HP := Lib.hid (HP.out.kept (M0.has (.tail _ _ _ _ _ (Has.head _ _ _ _))) (noPart_sl _ _ _) hT9)
        replace HT := Lib.hid (HT.out.kept (M0.has (.tail _ _ _ _ _ (Has.head _ _ _ _))) (noPart_sl _ _ _) hT9)
        replace HO := Lib.hid (HO.out.kept (M0.has (.tail _ _ _ _ _ (Has.head _ _ _ _))) (noPart_sl _ _ _) hT9)
        replace HL := Lib.hid (HL.out.kept (M0.has (.tail _ _ _ _ _ (Has.head _ _ _ _))) (noPart_sl _ _ _) hT9)
        replace HQ := Lib.hid (HQ.out.kept (M0.has (.tail _ _ _ _ _ (Has.head _ _ _ _))) (noPart_sl _ _ _) hT9)
        replace HR := Lib.hid (HR.out.kept (M0.has (.tail _ _ _ _ _ (Has.head _ _ _ _))) (noPart_sl _ _ _) hT9)
        replace M0 := M9
        clear M9 hT9
        clear hHeld
        refine hK.out _ _ (M0.cell (.tail _ _ _ _ _ (.tail _ _ _ _ _ (Has.head _ _ _ _))) (i := 0) rfl) (fun hHeld => ?_)
        clear hK K
        try simp only [Act.put, List.setIfInBounds_toArray, List.set_cons_zero, List.set_cons_succ, List.getElem_toArray, List.getElem_cons_zero, List.getElem_cons_succ]
        refine wpAnyH_ready (rs := [12]) (by kernel_rfl) (by simp) ?_
        refine AllReadyH.cons rfl (fun K hK => ?_) AllReadyH.nil
        rw [if_pos (by rfl)]
        refine wp_stM (v := (.agg #[.slice aHR nHR cHR])) M0 rfl rfl rfl (wr_nat _ _ _ _) (Upd.head _ _ _ _ _) ?_
        intro w1 M9 hT9
        replace HX := Lib.hid (HX.out.kept (M0.has (Has.head _ _ _ _)) (noPart_sl _ _ _) hT9)
        replace HP := Lib.hid (HP.out.kept (M0.has (Has.head _ _ _ _)) (noPart_sl _ _ _) hT9)
        replace HT := Lib.hid (HT.out.kept (M0.has (Has.head _ _ _ _)) (noPart_sl _ _ _) hT9)
        replace HO := Lib.hid (HO.out.kept (M0.has (Has.head _ _ _ _)) (noPart_sl _ _ _) hT9)
        replace HL := Lib.hid (HL.out.kept (M0.has (Has.head _ _ _ _)) (noPart_sl _ _ _) hT9)
        replace HQ := Lib.hid (HQ.out.kept (M0.has (Has.head _ _ _ _)) (noPart_sl _ _ _) hT9)
        replace HR := Lib.hid (HR.out.kept (M0.has (Has.head _ _ _ _)) (noPart_sl _ _ _) hT9)
        replace M0 := M9
        clear M9 hT9
        clear hHeld
        refine hK.out _ _ (M0.cell (.tail _ _ _ _ _ (.tail _ _ _ _ _ (Has.head _ _ _ _))) (i := 0) rfl) (fun hHeld => ?_)
        clear hK K
        try simp only [Act.put, List.setIfInBounds_toArray, List.set_cons_zero, List.set_cons_succ, List.getElem_toArray, List.getElem_cons_zero, List.getElem_cons_succ]
        refine wpAnyH_done (by kernel_rfl) ?_ _
        go_wp2_with fail
        go_meet
        exact ⟨g2, g3, _, _, _, _, _, _, rfl, rfl, M0.perm16 (List.Perm.refl _), HX.out, HP.out, HT.out, HQ.out⟩
    · rw [if_pos (by rfl)]
      refine wp_al (Mem.start w1.drew) rfl zeroNat16 rfl ?_
      intro g3 w1 M9
      have hA := M9.below
      replace HX := Lib.hid (HX.out.below hA)
      replace HP := Lib.hid (HP.out.below hA)
      replace HT := Lib.hid (HT.out.below hA)
      replace M0 : Mem w w1 [(g3, 26, [.slice none 0 0]), (g11, 26, [.slice aHX nHX cHX])] := Mem.join M0 M9
      clear hA M9
      clear hHeld
      refine hK.out _ _ (M0.cell (.tail _ _ _ _ _ (Has.head _ _ _ _)) (i := 0) rfl) (fun hHeld => ?_)
      clear hK K
      try simp only [Act.put, List.setIfInBounds_toArray, List.set_cons_zero, List.set_cons_succ, List.getElem_toArray, List.getElem_cons_zero, List.getElem_cons_succ]
      refine wpAnyH_ready (rs := [1, 9]) (by kernel_rfl) (by simp) ?_
      refine AllReadyH.cons rfl (fun K hK => ?_) (AllReadyH.cons rfl (fun K hK => ?_) AllReadyH.nil)
      · go_simp
        refine (CO.out _).mono ?_
        rintro e w1 ⟨tv, rfl, hv, hA⟩
        replace M0 := M0.call hA
        replace HX := Lib.hid (HX.out.below hA)
        replace HP := Lib.hid (HP.out.below hA)
        replace HT := Lib.hid (HT.out.below hA)
        obtain ⟨aHO, nHO, cHO, rfl, hz⟩ := hv.nm
        have HO : Hid (IsN w1 (.agg #[.slice aHO nHO cHO]) (1)) := Lib.hid hz
        clear hz hv
        clear hA
        try go_wp2_with fail
        clear hHeld
        refine hK.out _ _ (M0.cell (.tail _ _ _ _ _ (Has.head _ _ _ _)) (i := 0) rfl) (fun hHeld => ?_)
        clear hK K
        try simp only [Act.put, List.setIfInBounds_toArray, List.set_cons_zero, List.set_cons_succ, List.getElem_toArray, List.getElem_cons_zero, List.getElem_cons_succ]
        refine wpAnyH_ready (rs := [4, 9]) (by kernel_rfl) (by simp) ?_
        refine AllReadyH.cons rfl (fun K hK => ?_) (AllReadyH.cons rfl (fun K hK => ?_) AllReadyH.nil)
        · go_simp
          refine (shl16 _ 1 s t _ HO.out S1.out (by have := HS.out; omega) E7.out).mono ?_
          rintro e w1 ⟨tv, rfl, hv, hA⟩
          replace M0 := M0.call hA
          replace HX := Lib.hid (HX.out.below hA)
          replace HP := Lib.hid (HP.out.below hA)
          replace HT := Lib.hid (HT.out.below hA)
          replace HO := Lib.hid (HO.out.below hA)
          obtain ⟨aHL, nHL, cHL, rfl, hz⟩ := hv.nm
          have HL : Hid (IsN w1 (.agg #[.slice aHL nHL cHL]) (t)) := Lib.hid hz
          clear hz hv
          clear hA
          try go_wp2_with fail
          clear hHeld
          refine hK.out _ _ (M0.cell (.tail _ _ _ _ _ (Has.head _ _ _ _)) (i := 0) rfl) (fun hHeld => ?_)
          clear hK K
          try simp only [Act.put, List.setIfInBounds_toArray, List.set_cons_zero, List.set_cons_succ, List.getElem_toArray, List.getElem_cons_zero, List.getElem_cons_succ]
          refine wpAnyH_ready (rs := [5, 9]) (by kernel_rfl) (by simp) ?_
          refine AllReadyH.cons rfl (fun K hK => ?_) (AllReadyH.cons rfl (fun K hK => ?_) AllReadyH.nil)
          · go_simp
            refine (div16 _ _ p t r v _ HX.out HL.out Sp.out St.out E2.out E3.out).mono ?_
            rintro e w1 ⟨tv, tu, rfl, hv, hu, hA⟩
            replace M0 := M0.call hA
            replace HX := Lib.hid (HX.out.below hA)
            replace HP := Lib.hid (HP.out.below hA)
            replace HT := Lib.hid (HT.out.below hA)
            replace HO := Lib.hid (HO.out.below hA)
            replace HL := Lib.hid (HL.out.below hA)
            obtain ⟨aHQ, nHQ, cHQ, rfl, hz⟩ := hv.nm
            have HQ : Hid (IsN w1 (.agg #[.slice aHQ nHQ cHQ]) (r)) := Lib.hid hz
            clear hz hv
            obtain ⟨aHR, nHR, cHR, rfl, hz⟩ := hu.nm
            have HR : Hid (IsN w1 (.agg #[.slice aHR nHR cHR]) (v)) := Lib.hid hz
            clear hz hu
            clear hA
            try go_wp2_with fail
            clear hHeld
            refine hK.out _ _ (M0.cell (.tail _ _ _ _ _ (Has.head _ _ _ _)) (i := 0) rfl) (fun hHeld => ?_)
            clear hK K
            try simp only [Act.put, List.setIfInBounds_toArray, List.set_cons_zero, List.set_cons_succ, List.getElem_toArray, List.getElem_cons_zero, List.getElem_cons_succ]
            refine tkT 6 ?v16049 ?hy16049 hHeld ?rest16049
            case hy16049 => (intro w' hSw; (try dsimp only at hSw); go_simp; (try with_reducible rfl))
            try simp only [Act.put, List.setIfInBounds_toArray, List.set_cons_zero, List.set_cons_succ, List.getElem_toArray, List.getElem_cons_zero, List.getElem_cons_succ]
            refine tkT 7 ?v16050 ?hy16050 hHeld ?rest16050
            case hy16050 => (intro w' hSw; (try dsimp only at hSw); go_simp; (try with_reducible rfl))
            try simp only [Act.put, List.setIfInBounds_toArray, List.set_cons_zero, List.set_cons_succ, List.getElem_toArray, List.getElem_cons_zero, List.getElem_cons_succ]
            refine tkT 8 ?v16051 ?hy16051 hHeld ?rest16051
            case hy16051 => (intro w' hSw; (try dsimp only at hSw); go_simp; (try with_reducible rfl))
            try simp only [Act.put, List.setIfInBounds_toArray, List.set_cons_zero, List.set_cons_succ, List.getElem_toArray, List.getElem_cons_zero, List.getElem_cons_succ]
            refine wpAnyH_ready (rs := [9]) (by kernel_rfl) (by simp) ?_
            refine AllReadyH.cons rfl (fun K hK => ?_) AllReadyH.nil
            rw [if_pos (by rfl)]
            refine wp_al (Mem.start w1) rfl zeroNat16 rfl ?_
            intro g2 w1 M9
            have hA := M9.below
            replace HX := Lib.hid (HX.out.below hA)
            replace HP := Lib.hid (HP.out.below hA)
            replace HT := Lib.hid (HT.out.below hA)
            replace HO := Lib.hid (HO.out.below hA)
            replace HL := Lib.hid (HL.out.below hA)
            replace HQ := Lib.hid (HQ.out.below hA)
            replace HR := Lib.hid (HR.out.below hA)
            replace M0 : Mem w w1 [(g2, 26, [.slice none 0 0]), (g3, 26, [.slice none 0 0]), (g11, 26, [.slice aHX nHX cHX])] := Mem.join M0 M9
            clear hA M9
            clear hHeld
            refine hK.out _ _ (M0.cell (.tail _ _ _ _ _ (.tail _ _ _ _ _ (Has.head _ _ _ _))) (i := 0) rfl) (fun hHeld => ?_)
            clear hK K
            try simp only [Act.put, List.setIfInBounds_toArray, List.set_cons_zero, List.set_cons_succ, List.getElem_toArray, List.getElem_cons_zero, List.getElem_cons_succ]
            refine wpAnyH_ready (rs := [11]) (by kernel_rfl) (by simp) ?_
            refine AllReadyH.cons rfl (fun K hK => ?_) AllReadyH.nil
            rw [if_pos (by rfl)]
            refine wp_stM (v := (.agg #[.slice aHQ nHQ cHQ])) M0 rfl rfl rfl (wr_nat _ _ _ _) (Upd.head _ _ _ _ _) ?_
            intro w1 M9 hT9
            replace HX := Lib.hid (HX.out.kept (M0.has (Has.head _ _ _ _)) (noPart_sl _ _ _) hT9)
            replace HP := Lib.hid (HP.out.kept (M0.has (Has.head _ _ _ _)) (noPart_sl _ _ _) hT9)
            replace HT := Lib.hid (HT.out.kept (M0.has (Has.head _ _ _ _)) (noPart_sl _ _ _) hT9)
            replace HO := Lib.hid (HO.out.kept (M0.has (Has.head _ _ _ _)) (noPart_sl _ _ _) hT9)
            replace HL := Lib.hid (HL.out.kept (M0.has (Has.head _ _ _ _)) (noPart_sl _ _ _) hT9)
            replace HQ := Lib.hid (HQ.out.kept (M0.has (Has.head _ _ _ _)) (noPart_sl _ _ _) hT9)
            replace HR := Lib.hid (HR.out.kept (M0.has (Has.head _ _ _ _)) (noPart_sl _ _ _) hT9)
            replace M0 := M9
            clear M9 hT9
            clear hHeld
            refine hK.out _ _ (M0.cell (.tail _ _ _ _ _ (.tail _ _ _ _ _ (Has.head _ _ _ _))) (i := 0) rfl) (fun hHeld => ?_)
            clear hK K
            try simp only [Act.put, List.setIfInBounds_toArray, List.set_cons_zero, List.set_cons_succ, List.getElem_toArray, List.getElem_cons_zero, List.getElem_cons_succ]
            refine wpAnyH_ready (rs := [12]) (by kernel_rfl) (by simp) ?_
            refine AllReadyH.cons rfl (fun K hK => ?_) AllReadyH.nil
            rw [if_pos (by rfl)]
            refine wp_stM (v := (.agg #[.slice aHR nHR cHR])) M0 rfl rfl rfl (wr_nat _ _ _ _) (.tail _ _ _ _ _ _ _ (Upd.head _ _ _ _ _)) ?_
            intro w1 M9 hT9
            replace HX := Lib.hid (HX.out.kept (M0.has (.tail _ _ _ _ _ (Has.head _ _ _ _))) (noPart_sl _ _ _) hT9)
            replace HP := Lib.hid (HP.out.kept (M0.has (.tail _ _ _ _ _ (Has.head _ _ _ _))) (noPart_sl _ _ _) hT9)
            replace HT := Lib.hid (HT.out.kept (M0.has (.tail _ _ _ _ _ (Has.head _ _ _ _))) (noPart_sl _ _ _) hT9)
            replace HO := Lib.hid (HO.out.kept (M0.has (.tail _ _ _ _ _ (Has.head _ _ _ _))) (noPart_sl _ _ _) hT9)
            replace HL := Lib.hid (HL.out.kept (M0.has (.tail _ _ _ _ _ (Has.head _ _ _ _))) (noPart_sl _ _ _) hT9)
            replace HQ := Lib.hid (HQ.out.kept (M0.has (.tail _ _ _ _ _ (Has.head _ _ _ _))) (noPart_sl _ _ _) hT9)
            replace HR := Lib.hid (HR.out.kept (M0.has (.tail _ _ _ _ _ (Has.head _ _ _ _))) (noPart_sl _ _ _) hT9)
            replace M0 := M9
            clear M9 hT9
            clear hHeld
            refine hK.out _ _ (M0.cell (.tail _ _ _ _ _ (.tail _ _ _ _ _ (Has.head _ _ _ _))) (i := 0) rfl) (fun hHeld => ?_)
            clear hK K
            try simp only [Act.put, List.setIfInBounds_toArray, List.set_cons_zero, List.set_cons_succ, List.getElem_toArray, List.getElem_cons_zero, List.getElem_cons_succ]
            refine wpAnyH_done (by kernel_rfl) ?_ _
            go_wp2_with fail
            go_meet
            exact ⟨g2, g3, _, _, _, _, _, _, rfl, rfl, M0.perm16 (List.Perm.swap _ _ _), HX.out, HP.out, HT.out, HQ.out⟩
          · rw [if_pos (by rfl)]
            refine wp_al (Mem.start w1) rfl zeroNat16 rfl ?_
            intro g2 w1 M9
            have hA := M9.below
            replace HX := Lib.hid (HX.out.below hA)
            replace HP := Lib.hid (HP.out.below hA)
            replace HT := Lib.hid (HT.out.below hA)
            replace HO := Lib.hid (HO.out.below hA)
            replace HL := Lib.hid (HL.out.below hA)
            replace M0 : Mem w w1 [(g2, 26, [.slice none 0 0]), (g3, 26, [.slice none 0 0]), (g11, 26, [.slice aHX nHX cHX])] := Mem.join M0 M9
            clear hA M9
            clear hHeld
            refine hK.out _ _ (M0.cell (.tail _ _ _ _ _ (.tail _ _ _ _ _ (Has.head _ _ _ _))) (i := 0) rfl) (fun hHeld => ?_)
            clear hK K
            try simp only [Act.put, List.setIfInBounds_toArray, List.set_cons_zero, List.set_cons_succ, List.getElem_toArray, List.getElem_cons_zero, List.getElem_cons_succ]
            refine wpAnyH_ready (rs := [5]) (by kernel_rfl) (by simp) ?_
            refine AllReadyH.cons rfl (fun K hK => ?_) AllReadyH.nil
            go_simp
            refine (div16 _ _ p t r v _ HX.out HL.out Sp.out St.out E2.out E3.out).mono ?_
            rintro e w1 ⟨tv, tu, rfl, hv, hu, hA⟩
            replace M0 := M0.call hA
            replace HX := Lib.hid (HX.out.below hA)
            replace HP := Lib.hid (HP.out.below hA)
            replace HT := Lib.hid (HT.out.below hA)
            replace HO := Lib.hid (HO.out.below hA)
            replace HL := Lib.hid (HL.out.below hA)
            obtain ⟨aHQ, nHQ, cHQ, rfl, hz⟩ := hv.nm
            have HQ : Hid (IsN w1 (.agg #[.slice aHQ nHQ cHQ]) (r)) := Lib.hid hz
            clear hz hv
            obtain ⟨aHR, nHR, cHR, rfl, hz⟩ := hu.nm
            have HR : Hid (IsN w1 (.agg #[.slice aHR nHR cHR]) (v)) := Lib.hid hz
            clear hz hu
            clear hA
            try go_wp2_with fail
            clear hHeld
            refine hK.out _ _ (M0.cell (.tail _ _ _ _ _ (.tail _ _ _ _ _ (Has.head _ _ _ _))) (i := 0) rfl) (fun hHeld => ?_)
            clear hK K
            try simp only [Act.put, List.setIfInBounds_toArray, List.set_cons_zero, List.set_cons_succ, List.getElem_toArray, List.getElem_cons_zero, List.getElem_cons_succ]
            refine tkT 6 ?v16052 ?hy16052 hHeld ?rest16052
            case hy16052 => (intro w' hSw; (try dsimp only at hSw); go_simp; (try with_reducible rfl))
            try simp only [Act.put, List.setIfInBounds_toArray, List.set_cons_zero, List.set_cons_succ, List.getElem_toArray, List.getElem_cons_zero, List.getElem_cons_succ]
            refine tkT 7 ?v16053 ?hy16053 hHeld ?rest16053
            case hy16053 => (intro w' hSw; (try dsimp only at hSw); go_simp; (try with_reducible rfl))
            try simp only [Act.put, List.setIfInBounds_toArray, List.set_cons_zero, List.set_cons_succ, List.getElem_toArray, List.getElem_cons_zero, List.getElem_cons_succ]
            refine tkT 8 ?v16054 ?hy16054 hHeld ?rest16054
            case hy16054 => (intro w' hSw; (try dsimp only at hSw); go_simp; (try with_reducible rfl))
            try simp only [Act.put, List.setIfInBounds_toArray, List.set_cons_zero, List.set_cons_succ, List.getElem_toArray, List.getElem_cons_zero, List.getElem_cons_succ]
            refine wpAnyH_ready (rs := [11]) (by kernel_rfl) (by simp) ?_
            refine AllReadyH.cons rfl (fun K hK => ?_) AllReadyH.nil
            rw [if_pos (by rfl)]
            refine wp_stM (v := (.agg #[.slice aHQ nHQ cHQ])) M0 rfl rfl rfl (wr_nat _ _ _ _) (Upd.head _ _ _ _ _) ?_
            intro w1 M9 hT9
            replace HX := Lib.hid (HX.out.kept (M0.has (Has.head _ _ _ _)) (noPart_sl _ _ _) hT9)
            replace HP := Lib.hid (HP.out.kept (M0.has (Has.head _ _ _ _)) (noPart_sl _ _ _) hT9)
            replace HT := Lib.hid (HT.out.kept (M0.has (Has.head _ _ _ _)) (noPart_sl _ _ _) hT9)
            replace HO := Lib.hid (HO.out.kept (M0.has (Has.head _ _ _ _)) (noPart_sl _ _ _) hT9)
            replace HL := Lib.hid (HL.out.kept (M0.has (Has.head _ _ _ _)) (noPart_sl _ _ _) hT9)
            replace HQ := Lib.hid (HQ.out.kept (M0.has (Has.head _ _ _ _)) (noPart_sl _ _ _) hT9)
            replace HR := Lib.hid (HR.out.kept (M0.has (Has.head _ _ _ _)) (noPart_sl _ _ _) hT9)
            replace M0 := M9
            clear M9 hT9
            clear hHeld
            refine hK.out _ _ (M0.cell (.tail _ _ _ _ _ (.tail _ _ _ _ _ (Has.head _ _ _ _))) (i := 0) rfl) (fun hHeld => ?_)
            clear hK K
            try simp only [Act.put, List.setIfInBounds_toArray, List.set_cons_zero, List.set_cons_succ, List.getElem_toArray, List.getElem_cons_zero, List.getElem_cons_succ]
            refine wpAnyH_ready (rs := [12]) (by kernel_rfl) (by simp) ?_
            refine AllReadyH.cons rfl (fun K hK => ?_) AllReadyH.nil
            rw [if_pos (by rfl)]
            refine wp_stM (v := (.agg #[.slice aHR nHR cHR])) M0 rfl rfl rfl (wr_nat _ _ _ _) (.tail _ _ _ _ _ _ _ (Upd.head _ _ _ _ _)) ?_
            intro w1 M9 hT9
            replace HX := Lib.hid (HX.out.kept (M0.has (.tail _ _ _ _ _ (Has.head _ _ _ _))) (noPart_sl _ _ _) hT9)
            replace HP := Lib.hid (HP.out.kept (M0.has (.tail _ _ _ _ _ (Has.head _ _ _ _))) (noPart_sl _ _ _) hT9)
            replace HT := Lib.hid (HT.out.kept (M0.has (.tail _ _ _ _ _ (Has.head _ _ _ _))) (noPart_sl _ _ _) hT9)
            replace HO := Lib.hid (HO.out.kept (M0.has (.tail _ _ _ _ _ (Has.head _ _ _ _))) (noPart_sl _ _ _) hT9)
            replace HL := Lib.hid (HL.out.kept (M0.has (.tail _ _ _ _ _ (Has.head _ _ _ _))) (noPart_sl _ _ _) hT9)
            replace HQ := Lib.hid (HQ.out.kept (M0.has (.tail _ _ _ _ _ (Has.head _ _ _ _))) (noPart_sl _ _ _) hT9)
            replace HR := Lib.hid (HR.out.kept (M0.has (.tail _ _ _ _ _ (Has.head _ _ _ _))) (noPart_sl _ _ _) hT9)
            replace M0 := M9
            clear M9 hT9
            clear hHeld
            refine hK.out _ _ (M0.cell (.tail _ _ _ _ _ (.tail _ _ _ _ _ (Has.head _ _ _ _))) (i := 0) rfl) (fun hHeld => ?_)
            clear hK K
            try simp only [Act.put, List.setIfInBounds_toArray, List.set_cons_zero, List.set_cons_succ, List.getElem_toArray, List.getElem_cons_zero, List.getElem_cons_succ]
            refine wpAnyH_done (by kernel_rfl) ?_ _
            go_wp2_with fail
            go_meet
            exact ⟨g2, g3, _, _, _, _, _, _, rfl, rfl, M0.perm16 (List.Perm.swap _ _ _), HX.out, HP.out, HT.out, HQ.out⟩
        · rw [if_pos (by rfl)]
          refine wp_al (Mem.start w1) rfl zeroNat16 rfl ?_
          intro g2 w1 M9
          have hA := M9.below
          replace HX := Lib.hid (HX.out.below hA)
          replace HP := Lib.hid (HP.out.below hA)
          replace HT := Lib.hid (HT.out.below hA)
          replace HO := Lib.hid (HO.out.below hA)
          replace M0 : Mem w w1 [(g2, 26, [.slice none 0 0]), (g3, 26, [.slice none 0 0]), (g11, 26, [.slice aHX nHX cHX])] := Mem.join M0 M9
          clear hA M9
          clear hHeld
          refine hK.out _ _ (M0.cell (.tail _ _ _ _ _ (.tail _ _ _ _ _ (Has.head _ _ _ _))) (i := 0) rfl) (fun hHeld => ?_)
          clear hK K
          try simp only [Act.put, List.setIfInBounds_toArray, List.set_cons_zero, List.set_cons_succ, List.getElem_toArray, List.getElem_cons_zero, List.getElem_cons_succ]
          refine wpAnyH_ready (rs := [4]) (by kernel_rfl) (by simp) ?_
          refine AllReadyH.cons rfl (fun K hK => ?_) AllReadyH.nil
          go_simp
          refine (shl16 _ 1 s t _ HO.out S1.out (by have := HS.out; omega) E7.out).mono ?_
          rintro e w1 ⟨tv, rfl, hv, hA⟩
          replace M0 := M0.call hA
          replace HX := Lib.hid (HX.out.below hA)
          replace HP := Lib.hid (HP.out.below hA)
          replace HT := Lib.hid (HT.out.below hA)
          replace HO := Lib.hid (HO.out.below hA)
          obtain ⟨aHL, nHL, cHL, rfl, hz⟩ := hv.nm
          have HL : Hid (IsN w1 (.agg #[.slice aHL nHL cHL]) (t)) := Lib.hid hz
          clear hz hv
          clear hA
          try go_wp2_with fail
          clear hHeld
          refine hK.out _ _ (M0.cell (.tail _ _ _ _ _ (.tail _ _ _ _ _ (Has.head _ _ _ _))) (i := 0) rfl) (fun hHeld => ?_)
          clear hK K
          try simp only [Act.put, List.setIfInBounds_toArray, List.set_cons_zero, List.set_cons_succ, List.getElem_toArray, List.getElem_cons_zero, List.getElem_cons_succ]
          refine wpAnyH_ready (rs := [5]) (by kernel_rfl) (by simp) ?_
          refine AllReadyH.cons rfl (fun K hK => ?_) AllReadyH.nil
          go_simp
          refine (div16 _ _ p t r v _ HX.out HL.out Sp.out St.out E2.out E3.out).mono ?_
          rintro e w1 ⟨tv, tu, rfl, hv, hu, hA⟩
          replace M0 := M0.call hA
          replace HX := Lib.hid (HX.out.below hA)
          replace HP := Lib.hid (HP.out.below hA)
          replace HT := Lib.hid (HT.out.below hA)
          replace HO := Lib.hid (HO.out.below hA)
          replace HL := Lib.hid (HL.out.below hA)
          obtain ⟨aHQ, nHQ, cHQ, rfl, hz⟩ := hv.nm
          have HQ : Hid (IsN w1 (.agg #[.slice aHQ nHQ cHQ]) (r)) := Lib.hid hz
          clear hz hv
          obtain ⟨aHR, nHR, cHR, rfl, hz⟩ := hu.nm
          have HR : Hid (IsN w1 (.agg #[.slice aHR nHR cHR]) (v)) := Lib.hid hz
          clear hz hu
          clear hA
          try go_wp2_with fail
          clear hHeld
          refine hK.out _ _ (M0.cell (.tail _ _ _ _ _ (.tail _ _ _ _ _ (Has.head _ _ _ _))) (i := 0) rfl) (fun hHeld => ?_)
          clear hK K
          try simp only [Act.put, List.setIfInBounds_toArray, List.set_cons_zero, List.set_cons_succ, List.getElem_toArray, List.getElem_cons_zero, List.getElem_cons_succ]
          refine tkT 6 ?v16055 ?hy16055 hHeld ?rest16055
          case hy16055 => (intro w' hSw; (try dsimp only at hSw); go_simp; (try with_reducible rfl))
          try simp only [Act.put, List.setIfInBounds_toArray, List.set_cons_zero, List.set_cons_succ, List.getElem_toArray, List.getElem_cons_zero, List.getElem_cons_succ]
          refine tkT 7 ?v16056 ?hy16056 hHeld ?rest16056
          case hy16056 => (intro w' hSw; (try dsimp only at hSw); go_simp; (try with_reducible rfl))
          try simp only [Act.put, List.setIfInBounds_toArray, List.set_cons_zero, List.set_cons_succ, List.getElem_toArray, List.getElem_cons_zero, List.getElem_cons_succ]
          refine tkT 8 ?v16057 ?hy16057 hHeld ?rest16057
          case hy16057 => (intro w' hSw; (try dsimp only at hSw); go_simp; (try with_reducible rfl))
          try simp only [Act.put, List.setIfInBounds_toArray, List.set_cons_zero, List.set_cons_succ, List.getElem_toArray, List.getElem_cons_zero, List.getElem_cons_succ]
          refine wpAnyH_ready (rs := [11]) (by kernel_rfl) (by simp) ?_
          refine AllReadyH.cons rfl (fun K hK => ?_) AllReadyH.nil
          rw [if_pos (by rfl)]
          refine wp_stM (v := (.agg #[.slice aHQ nHQ cHQ])) M0 rfl rfl rfl (wr_nat _ _ _ _) (Upd.head _ _ _ _ _) ?_
          intro w1 M9 hT9
          replace HX := Lib.hid (HX.out.kept (M0.has (Has.head _ _ _ _)) (noPart_sl _ _ _) hT9)
          replace HP := Lib.hid (HP.out.kept (M0.has (Has.head _ _ _ _)) (noPart_sl _ _ _) hT9)
          replace HT := Lib.hid (HT.out.kept (M0.has (Has.head _ _ _ _)) (noPart_sl _ _ _) hT9)
          replace HO := Lib.hid (HO.out.kept (M0.has (Has.head _ _ _ _)) (noPart_sl _ _ _) hT9)
          replace HL := Lib.hid (HL.out.kept (M0.has (Has.head _ _ _ _)) (noPart_sl _ _ _) hT9)
          replace HQ := Lib.hid (HQ.out.kept (M0.has (Has.head _ _ _ _)) (noPart_sl _ _ _) hT9)
          replace HR := Lib.hid (HR.out.kept (M0.has (Has.head _ _ _ _)) (noPart_sl _ _ _) hT9)
          replace M0 := M9
          clear M9 hT9
          clear hHeld
          refine hK.out _ _ (M0.cell (.tail _ _ _ _ _ (.tail _ _ _ _ _ (Has.head _ _ _ _))) (i := 0) rfl) (fun hHeld => ?_)
          clear hK K
          try simp only [Act.put, List.setIfInBounds_toArray, List.set_cons_zero, List.set_cons_succ, List.getElem_toArray, List.getElem_cons_zero, List.getElem_cons_succ]
          refine wpAnyH_ready (rs := [12]) (by kernel_rfl) (by simp) ?_
          refine AllReadyH.cons rfl (fun K hK => ?_) AllReadyH.nil
          rw [if_pos (by rfl)]
          refine wp_stM (v := (.agg #[.slice aHR nHR cHR])) M0 rfl rfl rfl (wr_nat _ _ _ _) (.tail _ _ _ _ _ _ _ (Upd.head _ _ _ _ _)) ?_
          intro w1 M9 hT9
          replace HX := Lib.hid (HX.out.kept (M0.has (.tail _ _ _ _ _ (Has.head _ _ _ _))) (noPart_sl _ _ _) hT9)
          replace HP := Lib.hid (HP.out.kept (M0.has (.tail _ _ _ _ _ (Has.head _ _ _ _))) (noPart_sl _ _ _) hT9)
          replace HT := Lib.hid (HT.out.kept (M0.has (.tail _ _ _ _ _ (Has.head _ _ _ _))) (noPart_sl _ _ _) hT9)
          replace HO := Lib.hid (HO.out.kept (M0.has (.tail _ _ _ _ _ (Has.head _ _ _ _))) (noPart_sl _ _ _) hT9)
          replace HL := Lib.hid (HL.out.kept (M0.has (.tail _ _ _ _ _ (Has.head _ _ _ _))) (noPart_sl _ _ _) hT9)
          replace HQ := Lib.hid (HQ.out.kept (M0.has (.tail _ _ _ _ _ (Has.head _ _ _ _))) (noPart_sl _ _ _) hT9)
          replace HR := Lib.hid (HR.out.kept (M0.has (.tail _ _ _ _ _ (Has.head _ _ _ _))) (noPart_sl _ _ _) hT9)
          replace M0 := M9
          clear M9 hT9
          clear hHeld
          refine hK.out _ _ (M0.cell (.tail _ _ _ _ _ (.tail _ _ _ _ _ (Has.head _ _ _ _))) (i := 0) rfl) (fun hHeld => ?_)
          clear hK K
          try simp only [Act.put, List.setIfInBounds_toArray, List.set_cons_zero, List.set_cons_succ, List.getElem_toArray, List.getElem_cons_zero, List.getElem_cons_succ]
          refine wpAnyH_done (by kernel_rfl) ?_ _
          go_wp2_with fail
          go_meet
          exact ⟨g2, g3, _, _, _, _, _, _, rfl, rfl, M0.perm16 (List.Perm.swap _ _ _), HX.out, HP.out, HT.out, HQ.out⟩
      · rw [if_pos (by rfl)]
        refine wp_al (Mem.start w1) rfl zeroNat16 rfl ?_
        intro g2 w1 M9
        have hA := M9.below
        replace HX := Lib.hid (HX.out.below hA)
        replace HP := Lib.hid (HP.out.below hA)
        replace HT := Lib.hid (HT.out.below hA)
        replace M0 : Mem w w1 [(g2, 26, [.slice none 0 0]), (g3, 26, [.slice none 0 0]), (g11, 26, [.slice aHX nHX cHX])] := Mem.join M0 M9
        clear hA M9
        clear hHeld
        refine hK.out _ _ (M0.cell (.tail _ _ _ _ _ (.tail _ _ _ _ _ (Has.head _ _ _ _))) (i := 0) rfl) (fun hHeld => ?_)
        clear hK K
        try simp only [Act.put, List.setIfInBounds_toArray, List.set_cons_zero, List.set_cons_succ, List.getElem_toArray, List.getElem_cons_zero, List.getElem_cons_succ]
        refine wpAnyH_ready (rs := [1]) (by kernel_rfl) (by simp) ?_
        refine AllReadyH.cons rfl (fun K hK => ?_) AllReadyH.nil
        go_simp
        refine (CO.out _).mono ?_
        rintro e w1 ⟨tv, rfl, hv, hA⟩
        replace M0 := M0.call hA
        replace HX := Lib.hid (HX.out.below hA)
        replace HP := Lib.hid (HP.out.below hA)
        replace HT := Lib.hid (HT.out.below hA)
        obtain ⟨aHO, nHO, cHO, rfl, hz⟩ := hv.nm
        have HO : Hid (IsN w1 (.agg #[.slice aHO nHO cHO]) (1)) := Lib.hid hz
        clear hz hv
        clear hA
        try go_wp2_with fail
        clear hHeld
        refine hK.out _ _ (M0.cell (.tail _ _ _ _ _ (.tail _ _ _ _ _ (Has.head _ _ _ _))) (i := 0) rfl) (fun hHeld => ?_)
        clear hK K
        try simp only [Act.put, List.setIfInBounds_toArray, List.set_cons_zero, List.set_cons_succ, List.getElem_toArray, List.getElem_cons_zero, List.getElem_cons_succ]
        refine wpAnyH_ready (rs := [4]) (by kernel_rfl) (by simp) ?_
        refine AllReadyH.cons rfl (fun K hK => ?_) AllReadyH.nil
        go_simp
        refine (shl16 _ 1 s t _ HO.out S1.out (by have := HS.out; omega) E7.out).mono ?_
        rintro e w1 ⟨tv, rfl, hv, hA⟩
        replace M0 := M0.call hA
        replace HX := Lib.hid (HX.out.below hA)
        replace HP := Lib.hid (HP.out.below hA)
        replace HT := Lib.hid (HT.out.below hA)
        replace HO := Lib.hid (HO.out.below hA)
        obtain ⟨aHL, nHL, cHL, rfl, hz⟩ := hv.nm
        have HL : Hid (IsN w1 (.agg #[.slice aHL nHL cHL]) (t)) := Lib.hid hz
        clear hz hv
        clear hA
        try go_wp2_with fail
        clear hHeld
        refine hK.out _ _ (M0.cell (.tail _ _ _ _ _ (.tail _ _ _ _ _ (Has.head _ _ _ _))) (i := 0) rfl) (fun hHeld => ?_)
        clear hK K
        try simp only [Act.put, List.setIfInBounds_toArray, List.set_cons_zero, List.set_cons_succ, List.getElem_toArray, List.getElem_cons_zero, List.getElem_cons_succ]
        refine wpAnyH_ready (rs := [5]) (by kernel_rfl) (by simp) ?_
        refine AllReadyH.cons rfl (fun K hK => ?_) AllReadyH.nil
        go_simp
        refine (div16 _ _ p t r v _ HX.out HL.out Sp.out St.out E2.out E3.out).mono ?_
        rintro e w1 ⟨tv, tu, rfl, hv, hu, hA⟩
        replace M0 := M0.call hA
        replace HX := Lib.hid (HX.out.below hA)
        replace HP := Lib.hid (HP.out.below hA)
        replace HT := Lib.hid (HT.out.below hA)
        replace HO := Lib.hid (HO.out.below hA)
        replace HL := Lib.hid (HL.out.below hA)
        obtain ⟨aHQ, nHQ, cHQ, rfl, hz⟩ := hv.nm
        have HQ : Hid (IsN w1 (.agg #[.slice aHQ nHQ cHQ]) (r)) := Lib.hid hz
        clear hz hv
        obtain ⟨aHR, nHR, cHR, rfl, hz⟩ := hu.nm
        have HR : Hid (IsN w1 (.agg #[.slice aHR nHR cHR]) (v)) := Lib.hid hz
        clear hz hu
        clear hA
        try go_wp2_with fail
        clear hHeld
        refine hK.out _ _ (M0.cell (.tail _ _ _ _ _ (.tail _ _ _ _ _ (Has.head _ _ _ _))) (i := 0) rfl) (fun hHeld => ?_)
        clear hK K
        try simp only [Act.put, List.setIfInBounds_toArray, List.set_cons_zero, List.set_cons_succ, List.getElem_toArray, List.getElem_cons_zero, List.getElem_cons_succ]
        refine tkT 6 ?v16058 ?hy16058 hHeld ?rest16058
        case hy16058 => (intro w' hSw; (try dsimp only at hSw); go_simp; (try with_reducible rfl))
        try simp only [Act.put, List.setIfInBounds_toArray, List.set_cons_zero, List.set_cons_succ, List.getElem_toArray, List.getElem_cons_zero, List.getElem_cons_succ]
        refine tkT 7 ?v16059 ?hy16059 hHeld ?rest16059
        case hy16059 => (intro w' hSw; (try dsimp only at hSw); go_simp; (try with_reducible rfl))
        try simp only [Act.put, List.setIfInBounds_toArray, List.set_cons_zero, List.set_cons_succ, List.getElem_toArray, List.getElem_cons_zero, List.getElem_cons_succ]
        refine tkT 8 ?v16060 ?hy16060 hHeld ?rest16060
        case hy16060 => (intro w' hSw; (try dsimp only at hSw); go_simp; (try with_reducible rfl))
        try simp only [Act.put, List.setIfInBounds_toArray, List.set_cons_zero, List.set_cons_succ, List.getElem_toArray, List.getElem_cons_zero, List.getElem_cons_succ]
        refine wpAnyH_ready (rs := [11]) (by kernel_rfl) (by simp) ?_
        refine AllReadyH.cons rfl (fun K hK => ?_) AllReadyH.nil
        rw [if_pos (by rfl)]
        refine wp_stM (v := (.agg #[.slice aHQ nHQ cHQ])) M0 rfl rfl rfl (wr_nat _ _ _ _) (Upd.head _ _ _ _ _) ?_
        intro w1 M9 hT9
        replace HX := Lib.hid (HX.out.kept (M0.has (Has.head _ _ _ _)) (noPart_sl _ _ _) hT9)
        replace HP := Lib.hid (HP.out.kept (M0.has (Has.head _ _ _ _)) (noPart_sl _ _ _) hT9)
        replace HT := Lib.hid (HT.out.kept (M0.has (Has.head _ _ _ _)) (noPart_sl _ _ _) hT9)
        replace HO := Lib.hid (HO.out.kept (M0.has (Has.head _ _ _ _)) (noPart_sl _ _ _) hT9)
        replace HL := Lib.hid (HL.out.kept (M0.has (Has.head _ _ _ _)) (noPart_sl _ _ _) hT9)
        replace HQ := Lib.hid (HQ.out.kept (M0.has (Has.head _ _ _ _)) (noPart_sl _ _ _) hT9)
        replace HR := Lib.hid (HR.out.kept (M0.has (Has.head _ _ _ _)) (noPart_sl _ _ _) hT9)
        replace M0 := M9
        clear M9 hT9
        clear hHeld
        refine hK.out _ _ (M0.cell (.tail _ _ _ _ _ (.tail _ _ _ _ _ (Has.head _ _ _ _))) (i := 0) rfl) (fun hHeld => ?_)
        clear hK K
        try simp only [Act.put, List.setIfInBounds_toArray, List.set_cons_zero, List.set_cons_succ, List.getElem_toArray, List.getElem_cons_zero, List.getElem_cons_succ]
        refine wpAnyH_ready (rs := [12]) (by kernel_rfl) (by simp) ?_
        refine AllReadyH.cons rfl (fun K hK => ?_) AllReadyH.nil
        rw [if_pos (by rfl)]
        refine wp_stM (v := (.agg #[.slice aHR nHR cHR])) M0 rfl rfl rfl (wr_nat _ _ _ _) (.tail _ _ _ _ _ _ _ (Upd.head _ _ _ _ _)) ?_
        intro w1 M9 hT9
        replace HX := Lib.hid (HX.out.kept (M0.has (.tail _ _ _ _ _ (Has.head _ _ _ _))) (noPart_sl _ _ _) hT9)
        replace HP := Lib.hid (HP.out.kept (M0.has (.tail _ _ _ _ _ (Has.head _ _ _ _))) (noPart_sl _ _ _) hT9)
        replace HT := Lib.hid (HT.out.kept (M0.has (.tail _ _ _ _ _ (Has.head _ _ _ _))) (noPart_sl _ _ _) hT9)
        replace HO := Lib.hid (HO.out.kept (M0.has (.tail _ _ _ _ _ (Has.head _ _ _ _))) (noPart_sl _ _ _) hT9)
        replace HL := Lib.hid (HL.out.kept (M0.has (.tail _ _ _ _ _ (Has.head _ _ _ _))) (noPart_sl _ _ _) hT9)
        replace HQ := Lib.hid (HQ.out.kept (M0.has (.tail _ _ _ _ _ (Has.head _ _ _ _))) (noPart_sl _ _ _) hT9)
        replace HR := Lib.hid (HR.out.kept (M0.has (.tail _ _ _ _ _ (Has.head _ _ _ _))) (noPart_sl _ _ _) hT9)
        replace M0 := M9
        clear M9 hT9
        clear hHeld
        refine hK.out _ _ (M0.cell (.tail _ _ _ _ _ (.tail _ _ _ _ _ (Has.head _ _ _ _))) (i := 0) rfl) (fun hHeld => ?_)
        clear hK K
        try simp only [Act.put, List.setIfInBounds_toArray, List.set_cons_zero, List.set_cons_succ, List.getElem_toArray, List.getElem_cons_zero, List.getElem_cons_succ]
        refine wpAnyH_done (by kernel_rfl) ?_ _
        go_wp2_with fail
        go_meet
        exact ⟨g2, g3, _, _, _, _, _, _, rfl, rfl, M0.perm16 (List.Perm.swap _ _ _), HX.out, HP.out, HT.out, HQ.out⟩
  obtain ⟨g2, g3, aHQ, nHQ, cHQ, aHR, nHR, cHR, rfl, rfl, M1, hX1, hP1, hT1, hQ1⟩ := hcut
  replace M0 := M1
  replace HX := Lib.hid hX1
  replace HP := Lib.hid hP1
  replace HT := Lib.hid hT1
  have HQ := Lib.hid hQ1
  clear M1 hX1 hP1 hT1 hQ1
  try simp only [Exit.then, Exit.inBlock]
  rcases EB.out with hbz | ⟨hbe, hpe9⟩
  · clear EB
    subst hbz
    go_wp2_with ((with_reducible refine (?_ : Go.wpList _ _ _ (_ :: _) _ _)); (first | go_skip | (refine wpL_ldc M0 rfl rfl rfl ?_) | (refine wpL_lgc M0 rfl rfl rfl ?_) | (refine wpL_stc M0 rfl rfl rfl rfl ?_; clear M0; intro w' M0) | (refine wpL_sti M0 rfl rfl rfl rfl ?_; clear M0; intro w' M0) | (refine wpL_sth M0 rfl rfl rfl rfl (wr_minus _ _ _) ?_; clear M0; intro w' M0)))
    refine (bits0 _ p _ HX.out Sp.out E4.out).mono ?_
    rintro e w1 ⟨rfl, hA⟩
    replace M0 := M0.call hA
    replace HX := Lib.hid (HX.out.below hA)
    replace HP := Lib.hid (HP.out.below hA)
    replace HT := Lib.hid (HT.out.below hA)
    replace HQ := Lib.hid (HQ.out.below hA)
    clear hA
    go_wp2_with ((with_reducible refine (?_ : Go.wpList _ _ _ (_ :: _) _ _)); (first | go_skip | (refine wpL_ldc M0 rfl rfl rfl ?_) | (refine wpL_lgc M0 rfl rfl rfl ?_) | (refine wpL_stc M0 rfl rfl rfl rfl ?_; clear M0; intro w' M0) | (refine wpL_sti M0 rfl rfl rfl rfl ?_; clear M0; intro w' M0) | (refine wpL_sth M0 rfl rfl rfl rfl (wr_minus _ _ _) ?_; clear M0; intro w' M0)))
    refine (rpow0 pb _ E5.out).mono ?_
    rintro e w1 ⟨tv, rfl, hv, hA⟩
    replace M0 := M0.call hA
    replace HX := Lib.hid (HX.out.below hA)
    replace HP := Lib.hid (HP.out.below hA)
    replace HT := Lib.hid (HT.out.below hA)
    replace HQ := Lib.hid (HQ.out.below hA)
    obtain ⟨aHB, nHB, cHB, rfl, lHB, hz⟩ := hv.nm
    have HB : Hid (Is16 w1 (.slice aHB nHB cHB) (pb)) := Lib.hid hz
    have LHB := Lib.hid lHB
    clear lHB hz hv
    clear hA
    go_wp2_with ((with_reducible refine (?_ : Go.wpList _ _ _ (_ :: _) _ _)); (first | go_skip | (refine wpL_ldc M0 rfl rfl rfl ?_) | (refine wpL_lgc M0 rfl rfl rfl ?_) | (refine wpL_stc M0 rfl rfl rfl rfl ?_; clear M0; intro w' M0) | (refine wpL_sti M0 rfl rfl rfl rfl ?_; clear M0; intro w' M0) | (refine wpL_sth M0 rfl rfl rfl rfl (wr_minus _ _ _) ?_; clear M0; intro w' M0)))
    refine (less16 _ _ p pb true _ HP.out HB.out Sp.out Spb.out E6.out).mono ?_
    rintro e w1 ⟨rfl, hA⟩
    replace M0 := M0.call hA
    replace HX := Lib.hid (HX.out.below hA)
    replace HP := Lib.hid (HP.out.below hA)
    replace HT := Lib.hid (HT.out.below hA)
    replace HQ := Lib.hid (HQ.out.below hA)
    replace HB := Lib.hid (HB.out.below hA)
    clear hA
    clear HB
    go_upto_region 11 with fail
    have hA := drew_below w1
    replace HX := Lib.hid (HX.out.below hA)
    replace HP := Lib.hid (HP.out.below hA)
    replace HT := Lib.hid (HT.out.below hA)
    replace HQ := Lib.hid (HQ.out.below hA)
    replace M0 := M0.drew
    clear hA
    refine wp_region_held_drew (S := (fun w' : World => w'.cell? ⟨g11, 0, none⟩ = some (.slice aHX nHX cHX) ∧ w'.cell? ⟨g2, 0, none⟩ = some (.slice aHQ nHQ cHQ))) (by kernel_rfl) (⟨M0.cell (.tail _ _ _ _ _ (.tail _ _ _ _ _ (Has.head _ _ _ _))) (i := 0) rfl, M0.cell (.tail _ _ _ _ _ (Has.head _ _ _ _)) (i := 0) rfl⟩) (fun hHeld => ?_)
    refine tkT 0 ?v1 ?hy1 hHeld ?rest1 (hw := by kernel_rfl)
    case hy1 => (intro w' hSw; (try dsimp only at hSw); go_simp; (try with_reducible rfl))
    try simp only [Act.put, puts]
    refine tkT 1 ?v2 ?hy2 hHeld ?rest2 (hw := by kernel_rfl)
    case hy2 => (intro w' hSw; (try dsimp only at hSw); go_simp; (try with_reducible rfl))
    try simp only [Act.put, puts]
    refine tkT 2 ?v3 ?hy3 hHeld ?rest3 (hw := by kernel_rfl)
    case hy3 => (intro w' hSw; (try dsimp only at hSw); go_simp; (try with_reducible rfl))
    try simp only [Act.put, puts]
    refine tkT 4 ?v4 ?hy4 hHeld ?rest4 (hw := by kernel_rfl)
    case hy4 => (intro w' hSw; (try dsimp only at hSw); go_simp; (try with_reducible rfl))
    try simp only [Act.put, puts]
    refine tkT 5 ?v5 ?hy5 hHeld ?rest5 (hw := by kernel_rfl)
    case hy5 => (intro w' hSw; (try dsimp only at hSw); go_simp; (try with_reducible rfl))
    try simp only [Act.put, puts]
    refine wpAnyH_ready (rs := [3]) (by kernel_rfl) (by simp) ?_
    refine AllReadyH.cons rfl (fun K hK => ?_) AllReadyH.nil
    go_simp
    refine (shl16 _ p s k _ HX.out Sp.out (by have := HS.out; omega) hkk.out).mono ?_
    rintro e w1 ⟨tv, rfl, hv, hA⟩
    replace M0 := M0.call hA
    replace HX := Lib.hid (HX.out.below hA)
    replace HP := Lib.hid (HP.out.below hA)
    replace HT := Lib.hid (HT.out.below hA)
    replace HQ := Lib.hid (HQ.out.below hA)
    obtain ⟨aHK, nHK, cHK, rfl, hz⟩ := hv.nm
    have HK : Hid (IsN w1 (.agg #[.slice aHK nHK cHK]) (k)) := Lib.hid hz
    clear hz hv
    clear hA
    clear hHeld
    try go_wp2_with fail
    refine hK.out _ _ (⟨M0.cell (.tail _ _ _ _ _ (.tail _ _ _ _ _ (Has.head _ _ _ _))) (i := 0) rfl, M0.cell (.tail _ _ _ _ _ (Has.head _ _ _ _)) (i := 0) rfl⟩) (fun hHeld => ?_)
    clear hK K
    try simp only [Act.put, puts]
    refine wpAnyH_ready (rs := [6]) (by kernel_rfl) (by simp) ?_
    refine AllReadyH.cons rfl (fun K hK => ?_) AllReadyH.nil
    go_simp
    refine (rmul16 _ _ p t k _ HP.out HT.out Sp.out St.out hkt.out).mono ?_
    rintro e w1 ⟨tv, rfl, hv, hA⟩
    replace M0 := M0.call hA
    replace HX := Lib.hid (HX.out.below hA)
    replace HP := Lib.hid (HP.out.below hA)
    replace HT := Lib.hid (HT.out.below hA)
    replace HQ := Lib.hid (HQ.out.below hA)
    replace HK := Lib.hid (HK.out.below hA)
    obtain ⟨aHM, nHM, cHM, rfl, lHM, hz⟩ := hv.nm
    have HM : Hid (Is16 w1 (.slice aHM nHM cHM) (k)) := Lib.hid hz
    have LHM := Lib.hid lHM
    clear lHM hz hv
    clear hA
    clear hHeld
    try go_wp2_with fail
    refine hK.out _ _ (⟨M0.cell (.tail _ _ _ _ _ (.tail _ _ _ _ _ (Has.head _ _ _ _))) (i := 0) rfl, M0.cell (.tail _ _ _ _ _ (Has.head _ _ _ _)) (i := 0) rfl⟩) (fun hHeld => ?_)
    clear hK K
    try simp only [Act.put, puts]
    refine wpAnyH_ready (rs := [7]) (by kernel_rfl) (by simp) ?_
    refine AllReadyH.cons rfl (fun K hK => ?_) AllReadyH.nil
    go_simp
    refine (is_yes _ _ k _ HK.out HM.out Sk.out).mono ?_
    rintro e w1 ⟨rfl, hA⟩
    replace M0 := M0.call hA
    replace HX := Lib.hid (HX.out.below hA)
    replace HP := Lib.hid (HP.out.below hA)
    replace HT := Lib.hid (HT.out.below hA)
    replace HQ := Lib.hid (HQ.out.below hA)
    replace HK := Lib.hid (HK.out.below hA)
    replace HM := Lib.hid (HM.out.below hA)
    clear hA
    clear HK
    clear HM
    clear hHeld
    try go_wp2_with fail
    refine hK.out _ _ (⟨M0.cell (.tail _ _ _ _ _ (.tail _ _ _ _ _ (Has.head _ _ _ _))) (i := 0) rfl, M0.cell (.tail _ _ _ _ _ (Has.head _ _ _ _)) (i := 0) rfl⟩) (fun hHeld => ?_)
    clear hK K
    try simp only [Act.put, puts]
    refine tkT 8 ?v9 ?hy9 hHeld ?rest9 (hw := by kernel_rfl)
    case hy9 => (intro w' hSw; (try dsimp only at hSw); go_simp; (try with_reducible rfl))
    try simp only [Act.put, puts]
    refine tkT 9 ?v10 ?hy10 hHeld ?rest10 (hw := by kernel_rfl)
    case hy10 => (intro w' hSw; (try dsimp only at hSw); go_simp; (try with_reducible rfl))
    try simp only [Act.put, puts]
    refine tkT 10 ?v11 ?hy11 hHeld ?rest11 (hw := by kernel_rfl)
    case hy11 => (intro w' hSw; (try dsimp only at hSw); go_simp; (try with_reducible rfl))
    try simp only [Act.put, puts]
    refine tkT 11 ?v12 ?hy12 hHeld ?rest12 (hw := by kernel_rfl)
    case hy12 => (intro w' hSw; (try dsimp only at hSw); go_simp; (try with_reducible rfl))
    try simp only [Act.put, puts]
    refine tkT 13 ?v13 ?hy13 hHeld ?rest13 (hw := by kernel_rfl)
    case hy13 => (intro w' hSw; (try dsimp only at hSw); go_simp; (try with_reducible rfl))
    try simp only [Act.put, puts]
    refine wpAnyH_ready (rs := [12]) (by kernel_rfl) (by simp) ?_
    refine AllReadyH.cons rfl (fun K hK => ?_) AllReadyH.nil
    go_simp
    refine (shr16 _ p s r _ HX.out Sp.out (by have := HS.out; omega) hrr.out).mono ?_
    rintro e w1 ⟨tv, rfl, hv, hA⟩
    replace M0 := M0.call hA
    replace HX := Lib.hid (HX.out.below hA)
    replace HP := Lib.hid (HP.out.below hA)
    replace HT := Lib.hid (HT.out.below hA)
    replace HQ := Lib.hid (HQ.out.below hA)
    obtain ⟨aHK, nHK, cHK, rfl, hz⟩ := hv.nm
    have HK : Hid (IsN w1 (.agg #[.slice aHK nHK cHK]) (r)) := Lib.hid hz
    clear hz hv
    clear hA
    clear hHeld
    try go_wp2_with fail
    refine hK.out _ _ (⟨M0.cell (.tail _ _ _ _ _ (.tail _ _ _ _ _ (Has.head _ _ _ _))) (i := 0) rfl, M0.cell (.tail _ _ _ _ _ (Has.head _ _ _ _)) (i := 0) rfl⟩) (fun hHeld => ?_)
    clear hK K
    try simp only [Act.put, puts]
    refine wpAnyH_ready (rs := [14]) (by kernel_rfl) (by simp) ?_
    refine AllReadyH.cons rfl (fun K hK => ?_) AllReadyH.nil
    go_simp
    refine (cmp_same _ _ r _ HK.out HQ.out Sr.out).mono ?_
    rintro e w1 ⟨rfl, hA⟩
    replace M0 := M0.call hA
    replace HX := Lib.hid (HX.out.below hA)
    replace HP := Lib.hid (HP.out.below hA)
    replace HT := Lib.hid (HT.out.below hA)
    replace HQ := Lib.hid (HQ.out.below hA)
    replace HK := Lib.hid (HK.out.below hA)
    clear hA
    clear HK
    clear hHeld
    try go_wp2_with fail
    refine hK.out _ _ (⟨M0.cell (.tail _ _ _ _ _ (.tail _ _ _ _ _ (Has.head _ _ _ _))) (i := 0) rfl, M0.cell (.tail _ _ _ _ _ (Has.head _ _ _ _)) (i := 0) rfl⟩) (fun hHeld => ?_)
    clear hK K
    try simp only [Act.put, puts]
    refine tkT 15 ?v16 ?hy16 hHeld ?rest16 (hw := by kernel_rfl)
    case hy16 => (intro w' hSw; (try dsimp only at hSw); go_simp; (try with_reducible rfl))
    try simp only [Act.put, puts]
    refine tkT 16 ?v17 ?hy17 hHeld ?rest17 (hw := by kernel_rfl)
    case hy17 => (intro w' hSw; (try dsimp only at hSw); go_simp; (try with_reducible rfl))
    try simp only [Act.put, puts]
    refine tkT 17 ?v18 ?hy18 hHeld ?rest18 (hw := by kernel_rfl)
    case hy18 => (intro w' hSw; (try dsimp only at hSw); go_simp; (try with_reducible rfl))
    try simp only [Act.put, puts]
    refine tkT 18 ?v19 ?hy19 hHeld ?rest19 (hw := by kernel_rfl)
    case hy19 => (intro w' hSw; (try dsimp only at hSw); go_simp; (try with_reducible rfl))
    try simp only [Act.put, puts]
    refine tkT 19 ?v20 ?hy20 hHeld ?rest20 (hw := by kernel_rfl)
    case hy20 => (intro w' hSw; (try dsimp only at hSw); go_simp; (try with_reducible rfl))
    try simp only [Act.put, puts]
    refine tkT 20 ?v21 ?hy21 hHeld ?rest21 (hw := by kernel_rfl)
    case hy21 => (intro w' hSw; (try dsimp only at hSw); go_simp; (try with_reducible rfl))
    try simp only [Act.put, puts]
    refine tkT 21 ?v22 ?hy22 hHeld ?rest22 (hw := by kernel_rfl)
    case hy22 => (intro w' hSw; (try dsimp only at hSw); go_simp; (try with_reducible rfl))
    try simp only [Act.put, puts]
    refine tkT 23 ?v23 ?hy23 hHeld ?rest23 (hw := by kernel_rfl)
    case hy23 => (intro w' hSw; (try dsimp only at hSw); go_simp; (try with_reducible rfl))
    try simp only [Act.put, puts]
    refine wpAnyH_ready (rs := [22]) (by kernel_rfl) (by simp) ?_
    refine AllReadyH.cons rfl (fun K hK => ?_) AllReadyH.nil
    go_simp
    refine (shlself16 _ p _ HX.out Sp.out).mono ?_
    rintro e w1 ⟨tv, rfl, hv, hA⟩
    replace M0 := M0.call hA
    replace HX := Lib.hid (HX.out.below hA)
    replace HP := Lib.hid (HP.out.below hA)
    replace HT := Lib.hid (HT.out.below hA)
    replace HQ := Lib.hid (HQ.out.below hA)
    obtain ⟨aHK, nHK, cHK, rfl, hz⟩ := hv.nm
    have HK : Hid (IsN w1 (.agg #[.slice aHK nHK cHK]) (p)) := Lib.hid hz
    clear hz hv
    clear hA
    clear hHeld
    try go_wp2_with fail
    refine hK.out _ _ (⟨M0.cell (.tail _ _ _ _ _ (.tail _ _ _ _ _ (Has.head _ _ _ _))) (i := 0) rfl, M0.cell (.tail _ _ _ _ _ (Has.head _ _ _ _)) (i := 0) rfl⟩) (fun hHeld => ?_)
    clear hK K
    try simp only [Act.put, puts]
    refine wpAnyH_ready (rs := [24]) (by kernel_rfl) (by simp) ?_
    refine AllReadyH.cons rfl (fun K hK => ?_) AllReadyH.nil
    go_simp
    refine (cmp_same _ _ p _ HK.out HX.out Sp.out).mono ?_
    rintro e w1 ⟨rfl, hA⟩
    replace M0 := M0.call hA
    replace HX := Lib.hid (HX.out.below hA)
    replace HP := Lib.hid (HP.out.below hA)
    replace HT := Lib.hid (HT.out.below hA)
    replace HQ := Lib.hid (HQ.out.below hA)
    replace HK := Lib.hid (HK.out.below hA)
    clear hA
    clear HK
    clear hHeld
    try go_wp2_with fail
    refine hK.out _ _ (⟨M0.cell (.tail _ _ _ _ _ (.tail _ _ _ _ _ (Has.head _ _ _ _))) (i := 0) rfl, M0.cell (.tail _ _ _ _ _ (Has.head _ _ _ _)) (i := 0) rfl⟩) (fun hHeld => ?_)
    clear hK K
    try simp only [Act.put, puts]
    refine tkT 25 ?v26 ?hy26 hHeld ?rest26 (hw := by kernel_rfl)
    case hy26 => (intro w' hSw; (try dsimp only at hSw); go_simp; (try with_reducible rfl))
    try simp only [Act.put, puts]
    refine tkT 26 ?v27 ?hy27 hHeld ?rest27 (hw := by kernel_rfl)
    case hy27 => (intro w' hSw; (try dsimp only at hSw); go_simp; (try with_reducible rfl))
    try simp only [Act.put, puts]
    refine tkT 27 ?v28 ?hy28 hHeld ?rest28 (hw := by kernel_rfl)
    case hy28 => (intro w' hSw; (try dsimp only at hSw); go_simp; (try with_reducible rfl))
    try simp only [Act.put, puts]
    refine tkT 28 ?v29 ?hy29 hHeld ?rest29 (hw := by kernel_rfl)
    case hy29 => (intro w' hSw; (try dsimp only at hSw); go_simp; (try with_reducible rfl))
    try simp only [Act.put, puts]
    refine tkT 30 ?v30 ?hy30 hHeld ?rest30 (hw := by kernel_rfl)
    case hy30 => (intro w' hSw; (try dsimp only at hSw); go_simp; (try with_reducible rfl))
    try simp only [Act.put, puts]
    refine wpAnyH_ready (rs := [29]) (by kernel_rfl) (by simp) ?_
    refine AllReadyH.cons rfl (fun K hK => ?_) AllReadyH.nil
    go_simp
    refine (shrself16 _ p _ HX.out Sp.out).mono ?_
    rintro e w1 ⟨tv, rfl, hv, hA⟩
    replace M0 := M0.call hA
    replace HX := Lib.hid (HX.out.below hA)
    replace HP := Lib.hid (HP.out.below hA)
    replace HT := Lib.hid (HT.out.below hA)
    replace HQ := Lib.hid (HQ.out.below hA)
    obtain ⟨aHK, nHK, cHK, rfl, hz⟩ := hv.nm
    have HK : Hid (IsN w1 (.agg #[.slice aHK nHK cHK]) (p)) := Lib.hid hz
    clear hz hv
    clear hA
    clear hHeld
    try go_wp2_with fail
    refine hK.out _ _ (⟨M0.cell (.tail _ _ _ _ _ (.tail _ _ _ _ _ (Has.head _ _ _ _))) (i := 0) rfl, M0.cell (.tail _ _ _ _ _ (Has.head _ _ _ _)) (i := 0) rfl⟩) (fun hHeld => ?_)
    clear hK K
    try simp only [Act.put, puts]
    refine wpAnyH_ready (rs := [31]) (by kernel_rfl) (by simp) ?_
    refine AllReadyH.cons rfl (fun K hK => ?_) AllReadyH.nil
    go_simp
    refine (cmp_same _ _ p _ HK.out HX.out Sp.out).mono ?_
    rintro e w1 ⟨rfl, hA⟩
    replace M0 := M0.call hA
    replace HX := Lib.hid (HX.out.below hA)
    replace HP := Lib.hid (HP.out.below hA)
    replace HT := Lib.hid (HT.out.below hA)
    replace HQ := Lib.hid (HQ.out.below hA)
    replace HK := Lib.hid (HK.out.below hA)
    clear hA
    clear HK
    clear hHeld
    try go_wp2_with fail
    refine hK.out _ _ (⟨M0.cell (.tail _ _ _ _ _ (.tail _ _ _ _ _ (Has.head _ _ _ _))) (i := 0) rfl, M0.cell (.tail _ _ _ _ _ (Has.head _ _ _ _)) (i := 0) rfl⟩) (fun hHeld => ?_)
    clear hK K
    try simp only [Act.put, puts]
    refine tkT 32 ?v33 ?hy33 hHeld ?rest33 (hw := by kernel_rfl)
    case hy33 => (intro w' hSw; (try dsimp only at hSw); go_simp; (try with_reducible rfl))
    try simp only [Act.put, puts]
    refine tkT 33 ?v34 ?hy34 hHeld ?rest34 (hw := by kernel_rfl)
    case hy34 => (intro w' hSw; (try dsimp only at hSw); go_simp; (try with_reducible rfl))
    try simp only [Act.put, puts]
    refine tkT 34 ?v35 ?hy35 hHeld ?rest35 (hw := by kernel_rfl)
    case hy35 => (intro w' hSw; (try dsimp only at hSw); go_simp; (try with_reducible rfl))
    try simp only [Act.put, puts]
    refine wpAnyH_ready (rs := [35]) (by kernel_rfl) (by simp) ?_
    refine AllReadyH.cons rfl (fun K hK => ?_) AllReadyH.nil
    go_simp
    refine (WK.out _).mono ?_
    rintro e w1 ⟨rfl, hA⟩
    replace M0 := M0.call hA
    replace HX := Lib.hid (HX.out.below hA)
    replace HP := Lib.hid (HP.out.below hA)
    replace HT := Lib.hid (HT.out.below hA)
    replace HQ := Lib.hid (HQ.out.below hA)
    clear hA
    clear hHeld
    try go_wp2_with fail
    refine hK.out _ _ (⟨M0.cell (.tail _ _ _ _ _ (.tail _ _ _ _ _ (Has.head _ _ _ _))) (i := 0) rfl, M0.cell (.tail _ _ _ _ _ (Has.head _ _ _ _)) (i := 0) rfl⟩) (fun hHeld => ?_)
    clear hK K
    try simp only [Act.put, puts]
    refine tkT 36 ?v37 ?hy37 hHeld ?rest37 (hw := by kernel_rfl)
    case hy37 => (intro w' hSw; (try dsimp only at hSw); go_simp; (try with_reducible rfl))
    try simp only [Act.put, puts]
    refine tkT 37 ?v38 ?hy38 hHeld ?rest38 (hw := by kernel_rfl)
    case hy38 => (intro w' hSw; (try dsimp only at hSw); go_simp; (try with_reducible rfl))
    try simp only [Act.put, puts]
    refine wpAnyH_done (by kernel_rfl) ?_ _
    go_simp
    go_wp2_with fail
    go_ret
    exact ⟨rfl, M0.below⟩
  · have HE10 := Lib.hid hbe
    have E9 := Lib.hid hpe9
    clear hbe hpe9 EB
    go_wp2_with ((with_reducible refine (?_ : Go.wpList _ _ _ (_ :: _) _ _)); (first | go_skip | (refine wpL_ldc M0 rfl rfl rfl ?_) | (refine wpL_lgc M0 rfl rfl rfl ?_) | (refine wpL_stc M0 rfl rfl rfl rfl ?_; clear M0; intro w' M0) | (refine wpL_sti M0 rfl rfl rfl rfl ?_; clear M0; intro w' M0) | (refine wpL_sth M0 rfl rfl rfl rfl (wr_minus _ _ _) ?_; clear M0; intro w' M0)))
    refine (bits16 _ p b _ HX.out Sp.out E4.out).mono ?_
    rintro e w1 ⟨rfl, hA⟩
    replace M0 := M0.call hA
    replace HX := Lib.hid (HX.out.below hA)
    replace HP := Lib.hid (HP.out.below hA)
    replace HT := Lib.hid (HT.out.below hA)
    replace HQ := Lib.hid (HQ.out.below hA)
    clear hA
    have hb1 : decide ((b : Int) < 0) = false := decide_eq_false (by omega)
    have hb2 : decide ((640 : Int) < (b : Int)) = false := decide_eq_false (by have := E10.out; omega)
    have hb3 : ¬ (b : Int) = 0 := by have := HE10.out; omega
    have hb4 : decide ((b : Int) = 0) = false := decide_eq_false hb3
    have hb5 : (b : Int) - 1 = (e : Int) := by have := HE10.out; omega
    have hb6 : wrap64 ((b : Int) - 1) = (e : Int) := by rw [hb5]; exact i64b16 (by have := E10.out; have := HE10.out; omega)
    have hb7 : wrap64 (e : Int) = (e : Int) := i64b16 (by have := E10.out; have := HE10.out; omega)
    go_wp2_with ((with_reducible refine (?_ : Go.wpList _ _ _ (_ :: _) _ _)); (first | go_skip | (refine wpL_ldc M0 rfl rfl rfl ?_) | (refine wpL_lgc M0 rfl rfl rfl ?_) | (refine wpL_stc M0 rfl rfl rfl rfl ?_; clear M0; intro w' M0) | (refine wpL_sti M0 rfl rfl rfl rfl ?_; clear M0; intro w' M0) | (refine wpL_sth M0 rfl rfl rfl rfl (wr_minus _ _ _) ?_; clear M0; intro w' M0)))
    refine (rpow16 b pb _ (by have := E10.out; omega) E5.out).mono ?_
    rintro e w1 ⟨tv, rfl, hv, hA⟩
    replace M0 := M0.call hA
    replace HX := Lib.hid (HX.out.below hA)
    replace HP := Lib.hid (HP.out.below hA)
    replace HT := Lib.hid (HT.out.below hA)
    replace HQ := Lib.hid (HQ.out.below hA)
    obtain ⟨aHB, nHB, cHB, rfl, lHB, hz⟩ := hv.nm
    have HB : Hid (Is16 w1 (.slice aHB nHB cHB) (pb)) := Lib.hid hz
    have LHB := Lib.hid lHB
    clear lHB hz hv
    clear hA
    go_wp2_with ((with_reducible refine (?_ : Go.wpList _ _ _ (_ :: _) _ _)); (first | go_skip | (refine wpL_ldc M0 rfl rfl rfl ?_) | (refine wpL_lgc M0 rfl rfl rfl ?_) | (refine wpL_stc M0 rfl rfl rfl rfl ?_; clear M0; intro w' M0) | (refine wpL_sti M0 rfl rfl rfl rfl ?_; clear M0; intro w' M0) | (refine wpL_sth M0 rfl rfl rfl rfl (wr_minus _ _ _) ?_; clear M0; intro w' M0)))
    refine (less16 _ _ p pb true _ HP.out HB.out Sp.out Spb.out E6.out).mono ?_
    rintro e w1 ⟨rfl, hA⟩
    replace M0 := M0.call hA
    replace HX := Lib.hid (HX.out.below hA)
    replace HP := Lib.hid (HP.out.below hA)
    replace HT := Lib.hid (HT.out.below hA)
    replace HQ := Lib.hid (HQ.out.below hA)
    replace HB := Lib.hid (HB.out.below hA)
    clear hA
    go_wp2_with ((with_reducible refine (?_ : Go.wpList _ _ _ (_ :: _) _ _)); (first | go_skip | (refine wpL_ldc M0 rfl rfl rfl ?_) | (refine wpL_lgc M0 rfl rfl rfl ?_) | (refine wpL_stc M0 rfl rfl rfl rfl ?_; clear M0; intro w' M0) | (refine wpL_sti M0 rfl rfl rfl rfl ?_; clear M0; intro w' M0) | (refine wpL_sth M0 rfl rfl rfl rfl (wr_minus _ _ _) ?_; clear M0; intro w' M0)))
    refine (rpow16 e pe _ (by have := E10.out; have := HE10.out; omega) E8.out).mono ?_
    rintro e w1 ⟨tv, rfl, hv, hA⟩
    replace M0 := M0.call hA
    replace HX := Lib.hid (HX.out.below hA)
    replace HP := Lib.hid (HP.out.below hA)
    replace HT := Lib.hid (HT.out.below hA)
    replace HQ := Lib.hid (HQ.out.below hA)
    replace HB := Lib.hid (HB.out.below hA)
    obtain ⟨aHE, nHE, cHE, rfl, lHE, hz⟩ := hv.nm
    have HE : Hid (Is16 w1 (.slice aHE nHE cHE) (pe)) := Lib.hid hz
    have LHE := Lib.hid lHE
    clear lHE hz hv
    clear hA
    go_wp2_with ((with_reducible refine (?_ : Go.wpList _ _ _ (_ :: _) _ _)); (first | go_skip | (refine wpL_ldc M0 rfl rfl rfl ?_) | (refine wpL_lgc M0 rfl rfl rfl ?_) | (refine wpL_stc M0 rfl rfl rfl rfl ?_; clear M0; intro w' M0) | (refine wpL_sti M0 rfl rfl rfl rfl ?_; clear M0; intro w' M0) | (refine wpL_sth M0 rfl rfl rfl rfl (wr_minus _ _ _) ?_; clear M0; intro w' M0)))
    refine (less16 _ _ p pe false _ HP.out HE.out Sp.out Spe.out E9.out).mono ?_
    rintro e w1 ⟨rfl, hA⟩
    replace M0 := M0.call hA
    replace HX := Lib.hid (HX.out.below hA)
    replace HP := Lib.hid (HP.out.below hA)
    replace HT := Lib.hid (HT.out.below hA)
    replace HQ := Lib.hid (HQ.out.below hA)
    replace HB := Lib.hid (HB.out.below hA)
    replace HE := Lib.hid (HE.out.below hA)
    clear hA
    clear HE
    clear HB
    go_upto_region 11 with ((with_reducible refine (?_ : Go.wpList _ _ _ (_ :: _) _ _)); (first | go_skip | (refine wpL_ldc M0 rfl rfl rfl ?_) | (refine wpL_lgc M0 rfl rfl rfl ?_) | (refine wpL_stc M0 rfl rfl rfl rfl ?_; clear M0; intro w' M0) | (refine wpL_sti M0 rfl rfl rfl rfl ?_; clear M0; intro w' M0) | (refine wpL_sth M0 rfl rfl rfl rfl (wr_minus _ _ _) ?_; clear M0; intro w' M0)))
    clear hb1 hb2 hb3 hb4 hb5 hb6 hb7
    have hA := drew_below w1
    replace HX := Lib.hid (HX.out.below hA)
    replace HP := Lib.hid (HP.out.below hA)
    replace HT := Lib.hid (HT.out.below hA)
    replace HQ := Lib.hid (HQ.out.below hA)
    replace M0 := M0.drew
    clear hA
    refine wp_region_held_drew (S := (fun w' : World => w'.cell? ⟨g11, 0, none⟩ = some (.slice aHX nHX cHX) ∧ w'.cell? ⟨g2, 0, none⟩ = some (.slice aHQ nHQ cHQ))) (by kernel_rfl) (⟨M0.cell (.tail _ _ _ _ _ (.tail _ _ _ _ _ (Has.head _ _ _ _))) (i := 0) rfl, M0.cell (.tail _ _ _ _ _ (Has.head _ _ _ _)) (i := 0) rfl⟩) (fun hHeld => ?_)
    refine tkT 0 ?v39 ?hy39 hHeld ?rest39 (hw := by kernel_rfl)
    case hy39 => (intro w' hSw; (try dsimp only at hSw); go_simp; (try with_reducible rfl))
    try simp only [Act.put, puts]
    refine tkT 1 ?v40 ?hy40 hHeld ?rest40 (hw := by kernel_rfl)
    case hy40 => (intro w' hSw; (try dsimp only at hSw); go_simp; (try with_reducible rfl))
    try simp only [Act.put, puts]
    refine tkT 2 ?v41 ?hy41 hHeld ?rest41 (hw := by kernel_rfl)
    case hy41 => (intro w' hSw; (try dsimp only at hSw); go_simp; (try with_reducible rfl))
    try simp only [Act.put, puts]
    refine tkT 4 ?v42 ?hy42 hHeld ?rest42 (hw := by kernel_rfl)
    case hy42 => (intro w' hSw; (try dsimp only at hSw); go_simp; (try with_reducible rfl))
    try simp only [Act.put, puts]
    refine tkT 5 ?v43 ?hy43 hHeld ?rest43 (hw := by kernel_rfl)
    case hy43 => (intro w' hSw; (try dsimp only at hSw); go_simp; (try with_reducible rfl))
    try simp only [Act.put, puts]
    refine wpAnyH_ready (rs := [3]) (by kernel_rfl) (by simp) ?_
    refine AllReadyH.cons rfl (fun K hK => ?_) AllReadyH.nil
    go_simp
    refine (shl16 _ p s k _ HX.out Sp.out (by have := HS.out; omega) hkk.out).mono ?_
    rintro e w1 ⟨tv, rfl, hv, hA⟩
    replace M0 := M0.call hA
    replace HX := Lib.hid (HX.out.below hA)
    replace HP := Lib.hid (HP.out.below hA)
    replace HT := Lib.hid (HT.out.below hA)
    replace HQ := Lib.hid (HQ.out.below hA)
    obtain ⟨aHK, nHK, cHK, rfl, hz⟩ := hv.nm
    have HK : Hid (IsN w1 (.agg #[.slice aHK nHK cHK]) (k)) := Lib.hid hz
    clear hz hv
    clear hA
    clear hHeld
    try go_wp2_with fail
    refine hK.out _ _ (⟨M0.cell (.tail _ _ _ _ _ (.tail _ _ _ _ _ (Has.head _ _ _ _))) (i := 0) rfl, M0.cell (.tail _ _ _ _ _ (Has.head _ _ _ _)) (i := 0) rfl⟩) (fun hHeld => ?_)
    clear hK K
    try simp only [Act.put, puts]
    refine wpAnyH_ready (rs := [6]) (by kernel_rfl) (by simp) ?_
    refine AllReadyH.cons rfl (fun K hK => ?_) AllReadyH.nil
    go_simp
    refine (rmul16 _ _ p t k _ HP.out HT.out Sp.out St.out hkt.out).mono ?_
    rintro e w1 ⟨tv, rfl, hv, hA⟩
    replace M0 := M0.call hA
    replace HX := Lib.hid (HX.out.below hA)
    replace HP := Lib.hid (HP.out.below hA)
    replace HT := Lib.hid (HT.out.below hA)
    replace HQ := Lib.hid (HQ.out.below hA)
    replace HK := Lib.hid (HK.out.below hA)
    obtain ⟨aHM, nHM, cHM, rfl, lHM, hz⟩ := hv.nm
    have HM : Hid (Is16 w1 (.slice aHM nHM cHM) (k)) := Lib.hid hz
    have LHM := Lib.hid lHM
    clear lHM hz hv
    clear hA
    clear hHeld
    try go_wp2_with fail
    refine hK.out _ _ (⟨M0.cell (.tail _ _ _ _ _ (.tail _ _ _ _ _ (Has.head _ _ _ _))) (i := 0) rfl, M0.cell (.tail _ _ _ _ _ (Has.head _ _ _ _)) (i := 0) rfl⟩) (fun hHeld => ?_)
    clear hK K
    try simp only [Act.put, puts]
    refine wpAnyH_ready (rs := [7]) (by kernel_rfl) (by simp) ?_
    refine AllReadyH.cons rfl (fun K hK => ?_) AllReadyH.nil
    go_simp
    refine (is_yes _ _ k _ HK.out HM.out Sk.out).mono ?_
    rintro e w1 ⟨rfl, hA⟩
    replace M0 := M0.call hA
    replace HX := Lib.hid (HX.out.below hA)
    replace HP := Lib.hid (HP.out.below hA)
    replace HT := Lib.hid (HT.out.below hA)
    replace HQ := Lib.hid (HQ.out.below hA)
    replace HK := Lib.hid (HK.out.below hA)
    replace HM := Lib.hid (HM.out.below hA)
    clear hA
    clear HK
    clear HM
    clear hHeld
    try go_wp2_with fail
    refine hK.out _ _ (⟨M0.cell (.tail _ _ _ _ _ (.tail _ _ _ _ _ (Has.head _ _ _ _))) (i := 0) rfl, M0.cell (.tail _ _ _ _ _ (Has.head _ _ _ _)) (i := 0) rfl⟩) (fun hHeld => ?_)
    clear hK K
    try simp only [Act.put, puts]
    refine tkT 8 ?v47 ?hy47 hHeld ?rest47 (hw := by kernel_rfl)
    case hy47 => (intro w' hSw; (try dsimp only at hSw); go_simp; (try with_reducible rfl))
    try simp only [Act.put, puts]
    refine tkT 9 ?v48 ?hy48 hHeld ?rest48 (hw := by kernel_rfl)
    case hy48 => (intro w' hSw; (try dsimp only at hSw); go_simp; (try with_reducible rfl))
    try simp only [Act.put, puts]
    refine tkT 10 ?v49 ?hy49 hHeld ?rest49 (hw := by kernel_rfl)
    case hy49 => (intro w' hSw; (try dsimp only at hSw); go_simp; (try with_reducible rfl))
    try simp only [Act.put, puts]
    refine tkT 11 ?v50 ?hy50 hHeld ?rest50 (hw := by kernel_rfl)
    case hy50 => (intro w' hSw; (try dsimp only at hSw); go_simp; (try with_reducible rfl))
    try simp only [Act.put, puts]
    refine tkT 13 ?v51 ?hy51 hHeld ?rest51 (hw := by kernel_rfl)
    case hy51 => (intro w' hSw; (try dsimp only at hSw); go_simp; (try with_reducible rfl))
    try simp only [Act.put, puts]
    refine wpAnyH_ready (rs := [12]) (by kernel_rfl) (by simp) ?_
    refine AllReadyH.cons rfl (fun K hK => ?_) AllReadyH.nil
    go_simp
    refine (shr16 _ p s r _ HX.out Sp.out (by have := HS.out; omega) hrr.out).mono ?_
    rintro e w1 ⟨tv, rfl, hv, hA⟩
    replace M0 := M0.call hA
    replace HX := Lib.hid (HX.out.below hA)
    replace HP := Lib.hid (HP.out.below hA)
    replace HT := Lib.hid (HT.out.below hA)
    replace HQ := Lib.hid (HQ.out.below hA)
    obtain ⟨aHK, nHK, cHK, rfl, hz⟩ := hv.nm
    have HK : Hid (IsN w1 (.agg #[.slice aHK nHK cHK]) (r)) := Lib.hid hz
    clear hz hv
    clear hA
    clear hHeld
    try go_wp2_with fail
    refine hK.out _ _ (⟨M0.cell (.tail _ _ _ _ _ (.tail _ _ _ _ _ (Has.head _ _ _ _))) (i := 0) rfl, M0.cell (.tail _ _ _ _ _ (Has.head _ _ _ _)) (i := 0) rfl⟩) (fun hHeld => ?_)
    clear hK K
    try simp only [Act.put, puts]
    refine wpAnyH_ready (rs := [14]) (by kernel_rfl) (by simp) ?_
    refine AllReadyH.cons rfl (fun K hK => ?_) AllReadyH.nil
    go_simp
    refine (cmp_same _ _ r _ HK.out HQ.out Sr.out).mono ?_
    rintro e w1 ⟨rfl, hA⟩
    replace M0 := M0.call hA
    replace HX := Lib.hid (HX.out.below hA)
    replace HP := Lib.hid (HP.out.below hA)
    replace HT := Lib.hid (HT.out.below hA)
    replace HQ := Lib.hid (HQ.out.below hA)
    replace HK := Lib.hid (HK.out.below hA)
    clear hA
    clear HK
    clear hHeld
    try go_wp2_with fail
    refine hK.out _ _ (⟨M0.cell (.tail _ _ _ _ _ (.tail _ _ _ _ _ (Has.head _ _ _ _))) (i := 0) rfl, M0.cell (.tail _ _ _ _ _ (Has.head _ _ _ _)) (i := 0) rfl⟩) (fun hHeld => ?_)
    clear hK K
    try simp only [Act.put, puts]
    refine tkT 15 ?v54 ?hy54 hHeld ?rest54 (hw := by kernel_rfl)
    case hy54 => (intro w' hSw; (try dsimp only at hSw); go_simp; (try with_reducible rfl))
    try simp only [Act.put, puts]
    refine tkT 16 ?v55 ?hy55 hHeld ?rest55 (hw := by kernel_rfl)
    case hy55 => (intro w' hSw; (try dsimp only at hSw); go_simp; (try with_reducible rfl))
    try simp only [Act.put, puts]
    refine tkT 17 ?v56 ?hy56 hHeld ?rest56 (hw := by kernel_rfl)
    case hy56 => (intro w' hSw; (try dsimp only at hSw); go_simp; (try with_reducible rfl))
    try simp only [Act.put, puts]
    refine tkT 18 ?v57 ?hy57 hHeld ?rest57 (hw := by kernel_rfl)
    case hy57 => (intro w' hSw; (try dsimp only at hSw); go_simp; (try with_reducible rfl))
    try simp only [Act.put, puts]
    refine tkT 19 ?v58 ?hy58 hHeld ?rest58 (hw := by kernel_rfl)
    case hy58 => (intro w' hSw; (try dsimp only at hSw); go_simp; (try with_reducible rfl))
    try simp only [Act.put, puts]
    refine tkT 20 ?v59 ?hy59 hHeld ?rest59 (hw := by kernel_rfl)
    case hy59 => (intro w' hSw; (try dsimp only at hSw); go_simp; (try with_reducible rfl))
    try simp only [Act.put, puts]
    refine tkT 21 ?v60 ?hy60 hHeld ?rest60 (hw := by kernel_rfl)
    case hy60 => (intro w' hSw; (try dsimp only at hSw); go_simp; (try with_reducible rfl))
    try simp only [Act.put, puts]
    refine tkT 23 ?v61 ?hy61 hHeld ?rest61 (hw := by kernel_rfl)
    case hy61 => (intro w' hSw; (try dsimp only at hSw); go_simp; (try with_reducible rfl))
    try simp only [Act.put, puts]
    refine wpAnyH_ready (rs := [22]) (by kernel_rfl) (by simp) ?_
    refine AllReadyH.cons rfl (fun K hK => ?_) AllReadyH.nil
    go_simp
    refine (shlself16 _ p _ HX.out Sp.out).mono ?_
    rintro e w1 ⟨tv, rfl, hv, hA⟩
    replace M0 := M0.call hA
    replace HX := Lib.hid (HX.out.below hA)
    replace HP := Lib.hid (HP.out.below hA)
    replace HT := Lib.hid (HT.out.below hA)
    replace HQ := Lib.hid (HQ.out.below hA)
    obtain ⟨aHK, nHK, cHK, rfl, hz⟩ := hv.nm
    have HK : Hid (IsN w1 (.agg #[.slice aHK nHK cHK]) (p)) := Lib.hid hz
    clear hz hv
    clear hA
    clear hHeld
    try go_wp2_with fail
    refine hK.out _ _ (⟨M0.cell (.tail _ _ _ _ _ (.tail _ _ _ _ _ (Has.head _ _ _ _))) (i := 0) rfl, M0.cell (.tail _ _ _ _ _ (Has.head _ _ _ _)) (i := 0) rfl⟩) (fun hHeld => ?_)
    clear hK K
    try simp only [Act.put, puts]
    refine wpAnyH_ready (rs := [24]) (by kernel_rfl) (by simp) ?_
    refine AllReadyH.cons rfl (fun K hK => ?_) AllReadyH.nil
    go_simp
    refine (cmp_same _ _ p _ HK.out HX.out Sp.out).mono ?_
    rintro e w1 ⟨rfl, hA⟩
    replace M0 := M0.call hA
    replace HX := Lib.hid (HX.out.below hA)
    replace HP := Lib.hid (HP.out.below hA)
    replace HT := Lib.hid (HT.out.below hA)
    replace HQ := Lib.hid (HQ.out.below hA)
    replace HK := Lib.hid (HK.out.below hA)
    clear hA
    clear HK
    clear hHeld
    try go_wp2_with fail
    refine hK.out _ _ (⟨M0.cell (.tail _ _ _ _ _ (.tail _ _ _ _ _ (Has.head _ _ _ _))) (i := 0) rfl, M0.cell (.tail _ _ _ _ _ (Has.head _ _ _ _)) (i := 0) rfl⟩) (fun hHeld => ?_)
    clear hK K
    try simp only [Act.put, puts]
    refine tkT 25 ?v64 ?hy64 hHeld ?rest64 (hw := by kernel_rfl)
    case hy64 => (intro w' hSw; (try dsimp only at hSw); go_simp; (try with_reducible rfl))
    try simp only [Act.put, puts]
    refine tkT 26 ?v65 ?hy65 hHeld ?rest65 (hw := by kernel_rfl)
    case hy65 => (intro w' hSw; (try dsimp only at hSw); go_simp; (try with_reducible rfl))
    try simp only [Act.put, puts]
    refine tkT 27 ?v66 ?hy66 hHeld ?rest66 (hw := by kernel_rfl)
    case hy66 => (intro w' hSw; (try dsimp only at hSw); go_simp; (try with_reducible rfl))
    try simp only [Act.put, puts]
    refine tkT 28 ?v67 ?hy67 hHeld ?rest67 (hw := by kernel_rfl)
    case hy67 => (intro w' hSw; (try dsimp only at hSw); go_simp; (try with_reducible rfl))
    try simp only [Act.put, puts]
    refine tkT 30 ?v68 ?hy68 hHeld ?rest68 (hw := by kernel_rfl)
    case hy68 => (intro w' hSw; (try dsimp only at hSw); go_simp; (try with_reducible rfl))
    try simp only [Act.put, puts]
    refine wpAnyH_ready (rs := [29]) (by kernel_rfl) (by simp) ?_
    refine AllReadyH.cons rfl (fun K hK => ?_) AllReadyH.nil
    go_simp
    refine (shrself16 _ p _ HX.out Sp.out).mono ?_
    rintro e w1 ⟨tv, rfl, hv, hA⟩
    replace M0 := M0.call hA
    replace HX := Lib.hid (HX.out.below hA)
    replace HP := Lib.hid (HP.out.below hA)
    replace HT := Lib.hid (HT.out.below hA)
    replace HQ := Lib.hid (HQ.out.below hA)
    obtain ⟨aHK, nHK, cHK, rfl, hz⟩ := hv.nm
    have HK : Hid (IsN w1 (.agg #[.slice aHK nHK cHK]) (p)) := Lib.hid hz
    clear hz hv
    clear hA
    clear hHeld
    try go_wp2_with fail
    refine hK.out _ _ (⟨M0.cell (.tail _ _ _ _ _ (.tail _ _ _ _ _ (Has.head _ _ _ _))) (i := 0) rfl, M0.cell (.tail _ _ _ _ _ (Has.head _ _ _ _)) (i := 0) rfl⟩) (fun hHeld => ?_)
    clear hK K
    try simp only [Act.put, puts]
    refine wpAnyH_ready (rs := [31]) (by kernel_rfl) (by simp) ?_
    refine AllReadyH.cons rfl (fun K hK => ?_) AllReadyH.nil
    go_simp
    refine (cmp_same _ _ p _ HK.out HX.out Sp.out).mono ?_
    rintro e w1 ⟨rfl, hA⟩
    replace M0 := M0.call hA
    replace HX := Lib.hid (HX.out.below hA)
    replace HP := Lib.hid (HP.out.below hA)
    replace HT := Lib.hid (HT.out.below hA)
    replace HQ := Lib.hid (HQ.out.below hA)
    replace HK := Lib.hid (HK.out.below hA)
    clear hA
    clear HK
    clear hHeld
    try go_wp2_with fail
    refine hK.out _ _ (⟨M0.cell (.tail _ _ _ _ _ (.tail _ _ _ _ _ (Has.head _ _ _ _))) (i := 0) rfl, M0.cell (.tail _ _ _ _ _ (Has.head _ _ _ _)) (i := 0) rfl⟩) (fun hHeld => ?_)
    clear hK K
    try simp only [Act.put, puts]
    refine tkT 32 ?v71 ?hy71 hHeld ?rest71 (hw := by kernel_rfl)
    case hy71 => (intro w' hSw; (try dsimp only at hSw); go_simp; (try with_reducible rfl))
    try simp only [Act.put, puts]
    refine tkT 33 ?v72 ?hy72 hHeld ?rest72 (hw := by kernel_rfl)
    case hy72 => (intro w' hSw; (try dsimp only at hSw); go_simp; (try with_reducible rfl))
    try simp only [Act.put, puts]
    refine tkT 34 ?v73 ?hy73 hHeld ?rest73 (hw := by kernel_rfl)
    case hy73 => (intro w' hSw; (try dsimp only at hSw); go_simp; (try with_reducible rfl))
    try simp only [Act.put, puts]
    refine wpAnyH_ready (rs := [35]) (by kernel_rfl) (by simp) ?_
    refine AllReadyH.cons rfl (fun K hK => ?_) AllReadyH.nil
    go_simp
    refine (WK.out _).mono ?_
    rintro e w1 ⟨rfl, hA⟩
    replace M0 := M0.call hA
    replace HX := Lib.hid (HX.out.below hA)
    replace HP := Lib.hid (HP.out.below hA)
    replace HT := Lib.hid (HT.out.below hA)
    replace HQ := Lib.hid (HQ.out.below hA)
    clear hA
    clear hHeld
    try go_wp2_with fail
    refine hK.out _ _ (⟨M0.cell (.tail _ _ _ _ _ (.tail _ _ _ _ _ (Has.head _ _ _ _))) (i := 0) rfl, M0.cell (.tail _ _ _ _ _ (Has.head _ _ _ _)) (i := 0) rfl⟩) (fun hHeld => ?_)
    clear hK K
    try simp only [Act.put, puts]
    refine tkT 36 ?v75 ?hy75 hHeld ?rest75 (hw := by kernel_rfl)
    case hy75 => (intro w' hSw; (try dsimp only at hSw); go_simp; (try with_reducible rfl))
    try simp only [Act.put, puts]
    refine tkT 37 ?v76 ?hy76 hHeld ?rest76 (hw := by kernel_rfl)
    case hy76 => (intro w' hSw; (try dsimp only at hSw); go_simp; (try with_reducible rfl))
    try simp only [Act.put, puts]
    refine wpAnyH_done (by kernel_rfl) ?_ _
    go_simp
    go_wp2_with fail
    go_ret
    exact ⟨rfl, M0.below⟩

end Go.Proofs.YtghioakpigdagaaDoor
