/-
  The law's example.
-/
import Derived.Test.YtghioakpigdagaaDoorNatFa
set_option linter.unusedVariables false
set_option linter.unusedSimpArgs false
namespace Go.Proofs.YtghioakpigdagaaDoor
open Go Go.RowKit Go.Th Go.Th.Dig
theorem zeroNat : (Tryd.prog.info? 26).map (·.zero) = some (some (.agg #[.slice none 0 0])) := by kernel_rfl
theorem tx_55340232221128654848 : strOf (txt 55340232221128654848) = ⟨#[53, 53, 51, 52, 48, 50, 51, 50, 50, 50, 49, 49, 50, 56, 54, 53, 52, 56, 52, 56]⟩ := by rw [txt_of (l := [8, 4, 8, 4, 5, 6, 8, 2, 1, 1, 2, 2, 2, 3, 2, 0, 4, 3, 5, 5]) (by decide) (by decide) (by decide) (by decide)]; rfl
theorem tx_55340232221128654 : strOf (txt 55340232221128654) = ⟨#[53, 53, 51, 52, 48, 50, 51, 50, 50, 50, 49, 49, 50, 56, 54, 53, 52]⟩ := by rw [txt_of (l := [4, 5, 6, 8, 2, 1, 1, 2, 2, 2, 3, 2, 0, 4, 3, 5, 5]) (by decide) (by decide) (by decide) (by decide)]; rfl
theorem tx_848 : strOf (txt 848) = ⟨#[56, 52, 56]⟩ := by rw [txt_of (l := [8, 4, 8]) (by decide) (by decide) (by decide) (by decide)]; rfl
theorem tx_2 : strOf (txt 2) = ⟨#[50]⟩ := by rw [txt_of (l := [2]) (by decide) (by decide) (by decide) (by decide)]; rfl
theorem tx_12 : strOf (txt 12) = ⟨#[49, 50]⟩ := by rw [txt_of (l := [2, 1]) (by decide) (by decide) (by decide) (by decide)]; rfl
theorem tx_3298534883328 : strOf (txt 3298534883328) = ⟨#[51, 50, 57, 56, 53, 51, 52, 56, 56, 51, 51, 50, 56]⟩ := by rw [txt_of (l := [8, 2, 3, 3, 8, 8, 4, 3, 5, 8, 9, 2, 3]) (by decide) (by decide) (by decide) (by decide)]; rfl
theorem tx_3 : strOf (txt 3) = ⟨#[51]⟩ := by rw [txt_of (l := [3]) (by decide) (by decide) (by decide) (by decide)]; rfl
theorem tx_0 : strOf (txt 0) = ⟨#[48]⟩ := rfl
theorem ln_0 : len32 0 ≤ 1000 := len_le (k := 3) (by decide) (by decide)
theorem ln_1 : len32 1 ≤ 1000 := len_le (k := 3) (by decide) (by decide)
theorem ln_2 : len32 2 ≤ 1000 := len_le (k := 3) (by decide) (by decide)
theorem ln_3 : len32 3 ≤ 1000 := len_le (k := 3) (by decide) (by decide)
theorem ln_5 : len32 5 ≤ 1000 := len_le (k := 3) (by decide) (by decide)
theorem ln_12 : len32 12 ≤ 1000 := len_le (k := 3) (by decide) (by decide)
theorem ln_848 : len32 848 ≤ 1000 := len_le (k := 3) (by decide) (by decide)
theorem ln_1000 : len32 1000 ≤ 1000 := len_le (k := 3) (by decide) (by decide)
theorem ln_3298534883328 : len32 3298534883328 ≤ 1000 := len_le (k := 3) (by decide) (by decide)
theorem ln_55340232221128654 : len32 55340232221128654 ≤ 1000 := len_le (k := 3) (by decide) (by decide)
theorem ln_9223372036854775808 : len32 9223372036854775808 ≤ 1000 := len_le (k := 3) (by decide) (by decide)
theorem ln_18446744073709551615 : len32 18446744073709551615 ≤ 1000 := len_le (k := 3) (by decide) (by decide)
theorem ln_55340232221128654848 : len32 55340232221128654848 ≤ 1000 := len_le (k := 3) (by decide) (by decide)
theorem of_9223372036854775808 (w : World) : Calls Tryd.prog 24 #[.int .u64 9223372036854775808] w fun e w' => ∃ v, e = .returned v ∧ IsN w' v 9223372036854775808 ∧ Below w.heap.size w w' := of_any 9223372036854775808 (by decide) w
theorem of_1000 (w : World) : Calls Tryd.prog 24 #[.int .u64 1000] w fun e w' => ∃ v, e = .returned v ∧ IsN w' v 1000 ∧ Below w.heap.size w w' := of_any 1000 (by decide) w
theorem of_18446744073709551615 (w : World) : Calls Tryd.prog 24 #[.int .u64 18446744073709551615] w fun e w' => ∃ v, e = .returned v ∧ IsN w' v 18446744073709551615 ∧ Below w.heap.size w w' := of_any 18446744073709551615 (by decide) w
theorem of_5 (w : World) : Calls Tryd.prog 24 #[.int .u64 5] w fun e w' => ∃ v, e = .returned v ∧ IsN w' v 5 ∧ Below w.heap.size w w' := of_any 5 (by decide) w
theorem of_3 (w : World) : Calls Tryd.prog 24 #[.int .u64 3] w fun e w' => ∃ v, e = .returned v ∧ IsN w' v 3 ∧ Below w.heap.size w w' := of_any 3 (by decide) w
theorem of_1 (w : World) : Calls Tryd.prog 24 #[.int .u64 1] w fun e w' => ∃ v, e = .returned v ∧ IsN w' v 1 ∧ Below w.heap.size w w' := of_any 1 (by decide) w
theorem of_2 (w : World) : Calls Tryd.prog 24 #[.int .u64 2] w fun e w' => ∃ v, e = .returned v ∧ IsN w' v 2 ∧ Below w.heap.size w w' := of_any 2 (by decide) w
theorem of_0 (w : World) : Calls Tryd.prog 24 #[.int .u64 0] w fun e w' => ∃ v, e = .returned v ∧ IsN w' v 0 ∧ Below w.heap.size w w' := of_any 0 (by decide) w
theorem bits_told (v : Value) (p b : Nat) (w : World) (hp : IsN w v p) (h1 : len32 p ≤ 1000) (hb : nb p = b) :
    Calls Tryd.prog 28 #[v] w fun e w' => e = .returned (.int .i64 b) ∧ Below w.heap.size w w' := by
  subst hb
  exact bits_any16 v p w hp (by omega)
theorem uint_told (v : Value) (p x : Nat) (b : Bool) (w : World) (hp : IsN w v p) (h1 : len32 p ≤ 1000) (hx : (if p < 18446744073709551616 then p else 0) = x) (hb : decide (p < 18446744073709551616) = b) :
    Calls Tryd.prog 30 #[v] w fun e w' => e = .returned (.tuple #[.int .u64 x, .bool b]) ∧ Below w.heap.size w w' := by
  subst hx hb
  exact uint_any v p w hp (by omega)
theorem cmp_told (v u : Value) (p q : Nat) (c : Int) (w : World) (hp : IsN w v p) (hq : IsN w u q) (h1 : len32 p ≤ 1000) (h2 : len32 q ≤ 1000) (hc : cmpN p q = c) :
    Calls Tryd.prog 17 #[v, u] w fun e w' => e = .returned (.int .i64 c) ∧ Below w.heap.size w w' := by
  subst hc
  exact cmp_any v u p q w hp hq (by omega) (by omega)
theorem zero_told (v : Value) (p : Nat) (b : Bool) (w : World) (hp : IsN w v p) (h1 : len32 p ≤ 1000) (hb : decide (p = 0) = b) :
    Calls Tryd.prog 20 #[v] w fun e w' => e = .returned (.bool b) ∧ Below w.heap.size w w' := by
  subst hb
  exact zero_any v p w hp (by omega)
theorem sum_told (a b : Option Addr) (n m ca cb : Nat) (w : World) (hp : IsN w (.agg #[.slice a n ca]) 1) (hq : IsN w (.agg #[.slice b m cb]) 2) :
    Calls Tryd.prog 33 #[.slice (some ⟨w.heap.size, 0, none⟩) 2 2] (w.alloc (.cells #[.slice a n ca, .slice b m cb] 26)) fun e w' => ∃ t, e = .returned t ∧ IsN w' t 3 ∧ Below (w.alloc (.cells #[.slice a n ca, .slice b m cb] 26)).heap.size (w.alloc (.cells #[.slice a n ca, .slice b m cb] 26)) w' := by
  have C := sum_any _ 2 2 _ [1, 2] _ (nats_pair hp hq) (by decide) (fun k => by match k with
    | 0 => exact ln_1
    | 1 => exact ln_2
    | k + 2 => exact Nat.zero_le _)
  exact C
theorem from_told (w : World) :
    Calls Tryd.prog 10 #[.slice (some ⟨w.heap.size, 0, none⟩) 2 2] (w.alloc (.cells #[.int .u32 1, .int .u32 0] 38)) fun e w' => ∃ t, e = .returned t ∧ IsN w' t 1 ∧ Below (w.alloc (.cells #[.int .u32 1, .int .u32 0] 38)).heap.size (w.alloc (.cells #[.int .u32 1, .int .u32 0] 38)) w' := by
  have C := from_any _ 2 2 [1, 0] _ (sl_lit2 w (.int .u32 1) (.int .u32 0) 38) (by decide) (by decide)
  exact C
theorem parts_told (v : Value) (w : World) (hp : IsN w v 1) :
    Calls Tryd.prog 19 #[v] w fun e w' => ∃ a cap, e = .returned (.slice a 1 cap) ∧ Below w.heap.size w w' := by
  refine (parts_any v 1 w hp (by decide)).mono ?_
  rintro e w' ⟨a, cap, h1, _, h3⟩
  exact ⟨a, cap, h1, h3⟩

set_option maxRecDepth 20000 in
set_option maxHeartbeats 16000000 in
theorem works_any16 (w : World) : Calls Tryd.prog 9 #[] w fun e w' => e = .returned (.bool true) ∧ Below w.heap.size w w' := by
  have M0 := Mem.start w
  go_enter Tryd.func9, Tryd.ntmps9
  go_wp2_with ((with_reducible refine (?_ : Go.wpList _ _ _ (_ :: _) _ _)); (first | go_skip | (refine wpL_ldc M0 rfl rfl rfl ?_) | (refine wpL_lgc M0 rfl rfl rfl ?_) | (refine wpL_stc M0 rfl rfl rfl rfl ?_; clear M0; intro w' M0) | (refine wpL_sti M0 rfl rfl rfl rfl ?_; clear M0; intro w' M0) | (refine wpL_sth M0 rfl rfl rfl rfl (wr_minus _ _ _) ?_; clear M0; intro w' M0)))
  refine (of_9223372036854775808 _).mono ?_
  rintro e w1 ⟨tv, rfl, hv, hA⟩
  replace M0 := M0.call hA
  obtain ⟨aH0, nH0, cH0, rfl, hz⟩ := hv.nm
  have H0 : Hid (IsN w1 (.agg #[.slice aH0 nH0 cH0]) (9223372036854775808)) := Lib.hid hz
  clear hz hv
  clear hA
  go_wp2_with ((with_reducible refine (?_ : Go.wpList _ _ _ (_ :: _) _ _)); (first | go_skip | (refine wpL_ldc M0 rfl rfl rfl ?_) | (refine wpL_lgc M0 rfl rfl rfl ?_) | (refine wpL_stc M0 rfl rfl rfl rfl ?_; clear M0; intro w' M0) | (refine wpL_sti M0 rfl rfl rfl rfl ?_; clear M0; intro w' M0) | (refine wpL_sth M0 rfl rfl rfl rfl (wr_minus _ _ _) ?_; clear M0; intro w' M0)))
  refine (times_any16 _ 9223372036854775808 6 _ H0.out ln_9223372036854775808 (by decide)).mono ?_
  rintro e w1 ⟨tv, rfl, hv, hA⟩
  replace M0 := M0.call hA
  replace H0 := Lib.hid (H0.out.below hA)
  obtain ⟨aHA, nHA, cHA, rfl, hz⟩ := hv.nm
  have HA : Hid (IsN w1 (.agg #[.slice aHA nHA cHA]) (55340232221128654848)) := Lib.hid hz
  clear hz hv
  clear hA
  clear H0
  have M10 := Mem.start w1
  go_upto_region 2 with ((with_reducible refine (?_ : Go.wpList _ _ _ (_ :: _) _ _)); (first | go_skip | (refine wpL_bx M10 rfl rfl rfl rfl ?_; clear M10; intro g11 w11 M11) | (refine wpL_alc M10 rfl rfl ?_; clear M10; intro g11 w11 M11) | (refine wpL_ldc M10 rfl rfl rfl ?_) | (refine wpL_lgc M10 rfl rfl rfl ?_) | (refine wpL_stc M10 rfl rfl rfl rfl ?_; clear M10; intro w' M10) | (refine wpL_sti M10 rfl rfl rfl rfl ?_; clear M10; intro w' M10) | (refine wpL_sth M10 rfl rfl rfl rfl (wr_minus _ _ _) ?_; clear M10; intro w' M10) | (refine wpL_ldc M11 rfl rfl rfl ?_) | (refine wpL_lgc M11 rfl rfl rfl ?_) | (refine wpL_stc M11 rfl rfl rfl rfl ?_; clear M11; intro w' M11) | (refine wpL_sti M11 rfl rfl rfl rfl ?_; clear M11; intro w' M11) | (refine wpL_sth M11 rfl rfl rfl rfl (wr_minus _ _ _) ?_; clear M11; intro w' M11)))
  obtain ⟨w1, rfl⟩ : ∃ w1, w1 = w' := ⟨_, rfl⟩
  have hA := M11.below
  replace HA := Lib.hid (HA.out.below hA)
  replace M0 : Mem w w1 [(g11, 26, [.slice aHA nHA cHA])] := Mem.join M0 M11
  clear hA M11
  have hA := drew_below w1
  replace HA := Lib.hid (HA.out.below hA)
  replace M0 := M0.drew
  clear hA
  try simp only [Act.put, List.setIfInBounds_toArray, List.set_cons_zero, List.set_cons_succ, List.getElem_toArray, List.getElem_cons_zero, List.getElem_cons_succ]
  go_cut [2, 3] from 8 (fun s2 s3 wx => ∃ g2 g3 aQ nQ cQ aR nR cR, s2 = .pointer (some ⟨g2, 0, none⟩) ∧ s3 = .pointer (some ⟨g3, 0, none⟩) ∧ Mem w wx [(g3, 26, [.slice aR nR cR]), (g2, 26, [.slice aQ nQ cQ]), (g11, 26, [.slice aHA nHA cHA])] ∧ IsN wx (.agg #[.slice aHA nHA cHA]) 55340232221128654848 ∧ IsN wx (.agg #[.slice aQ nQ cQ]) 55340232221128654 ∧ IsN wx (.agg #[.slice aR nR cR]) 848)
  case first =>
    try dsimp only [Act.put]
    refine wp_region_held_drew (S := fun w' : World => w'.cell? ⟨g11, 0, none⟩ = some (.slice aHA nHA cHA)) (by kernel_rfl) (M0.cell (Has.head _ _ _ _) (i := 0) rfl) (fun hHeld => ?_)
    refine tkT 0 ?v16001 ?hy16001 hHeld ?rest16001
    case hy16001 => (intro w' hSw; (try dsimp only at hSw); go_simp; (try with_reducible rfl))
    try simp only [Act.put, List.setIfInBounds_toArray, List.set_cons_zero, List.set_cons_succ, List.getElem_toArray, List.getElem_cons_zero, List.getElem_cons_succ]
    refine wpAnyH_ready (rs := [1, 6, 7]) (by kernel_rfl) (by simp) ?_
    refine AllReadyH.cons rfl (fun K hK => ?_) (AllReadyH.cons rfl (fun K hK => ?_) (AllReadyH.cons rfl (fun K hK => ?_) AllReadyH.nil))
    · go_simp
      refine (of_1000 _).mono ?_
      rintro e w1 ⟨tv, rfl, hv, hA⟩
      replace M0 := M0.call hA
      replace HA := Lib.hid (HA.out.below hA)
      obtain ⟨aHK, nHK, cHK, rfl, hz⟩ := hv.nm
      have HK : Hid (IsN w1 (.agg #[.slice aHK nHK cHK]) (1000)) := Lib.hid hz
      clear hz hv
      clear hA
      try go_wp2_with fail
      clear hHeld
      refine hK.out _ _ (M0.cell (Has.head _ _ _ _) (i := 0) rfl) (fun hHeld => ?_)
      clear hK K
      try simp only [Act.put, List.setIfInBounds_toArray, List.set_cons_zero, List.set_cons_succ, List.getElem_toArray, List.getElem_cons_zero, List.getElem_cons_succ]
      refine wpAnyH_ready (rs := [2, 6, 7]) (by kernel_rfl) (by simp) ?_
      refine AllReadyH.cons rfl (fun K hK => ?_) (AllReadyH.cons rfl (fun K hK => ?_) (AllReadyH.cons rfl (fun K hK => ?_) AllReadyH.nil))
      · go_simp
        refine (div_any16 _ _ 55340232221128654848 1000 _ HA.out HK.out ln_55340232221128654848 ln_1000).mono ?_
        rintro e w1 ⟨tv, tu, rfl, hv, hu, hA⟩
        replace M0 := M0.call hA
        replace HA := Lib.hid (HA.out.below hA)
        replace HK := Lib.hid (HK.out.below hA)
        obtain ⟨aHQ, nHQ, cHQ, rfl, hz⟩ := hv.nm
        have HQ : Hid (IsN w1 (.agg #[.slice aHQ nHQ cHQ]) (55340232221128654)) := Lib.hid hz
        clear hz hv
        obtain ⟨aHR, nHR, cHR, rfl, hz⟩ := hu.nm
        have HR : Hid (IsN w1 (.agg #[.slice aHR nHR cHR]) (848)) := Lib.hid hz
        clear hz hu
        clear hA
        try go_wp2_with fail
        clear hHeld
        refine hK.out _ _ (M0.cell (Has.head _ _ _ _) (i := 0) rfl) (fun hHeld => ?_)
        clear hK K
        try simp only [Act.put, List.setIfInBounds_toArray, List.set_cons_zero, List.set_cons_succ, List.getElem_toArray, List.getElem_cons_zero, List.getElem_cons_succ]
        refine tkT 3 ?v16002 ?hy16002 hHeld ?rest16002
        case hy16002 => (intro w' hSw; (try dsimp only at hSw); go_simp; (try with_reducible rfl))
        try simp only [Act.put, List.setIfInBounds_toArray, List.set_cons_zero, List.set_cons_succ, List.getElem_toArray, List.getElem_cons_zero, List.getElem_cons_succ]
        refine tkT 4 ?v16003 ?hy16003 hHeld ?rest16003
        case hy16003 => (intro w' hSw; (try dsimp only at hSw); go_simp; (try with_reducible rfl))
        try simp only [Act.put, List.setIfInBounds_toArray, List.set_cons_zero, List.set_cons_succ, List.getElem_toArray, List.getElem_cons_zero, List.getElem_cons_succ]
        refine tkT 5 ?v16004 ?hy16004 hHeld ?rest16004
        case hy16004 => (intro w' hSw; (try dsimp only at hSw); go_simp; (try with_reducible rfl))
        try simp only [Act.put, List.setIfInBounds_toArray, List.set_cons_zero, List.set_cons_succ, List.getElem_toArray, List.getElem_cons_zero, List.getElem_cons_succ]
        refine wpAnyH_ready (rs := [6, 7]) (by kernel_rfl) (by simp) ?_
        refine AllReadyH.cons rfl (fun K hK => ?_) (AllReadyH.cons rfl (fun K hK => ?_) AllReadyH.nil)
        · rw [if_pos (by rfl)]
          refine wp_al (Mem.start w1) rfl zeroNat rfl ?_
          intro g2 w1 M9
          have hA := M9.below
          replace HA := Lib.hid (HA.out.below hA)
          replace HK := Lib.hid (HK.out.below hA)
          replace HQ := Lib.hid (HQ.out.below hA)
          replace HR := Lib.hid (HR.out.below hA)
          replace M0 : Mem w w1 [(g2, 26, [.slice none 0 0]), (g11, 26, [.slice aHA nHA cHA])] := Mem.join M0 M9
          clear hA M9
          clear hHeld
          refine hK.out _ _ (M0.cell (.tail _ _ _ _ _ (Has.head _ _ _ _)) (i := 0) rfl) (fun hHeld => ?_)
          clear hK K
          try simp only [Act.put, List.setIfInBounds_toArray, List.set_cons_zero, List.set_cons_succ, List.getElem_toArray, List.getElem_cons_zero, List.getElem_cons_succ]
          refine wpAnyH_ready (rs := [7]) (by kernel_rfl) (by simp) ?_
          refine AllReadyH.cons rfl (fun K hK => ?_) AllReadyH.nil
          rw [if_pos (by rfl)]
          refine wp_al (Mem.start w1) rfl zeroNat rfl ?_
          intro g3 w1 M9
          have hA := M9.below
          replace HA := Lib.hid (HA.out.below hA)
          replace HK := Lib.hid (HK.out.below hA)
          replace HQ := Lib.hid (HQ.out.below hA)
          replace HR := Lib.hid (HR.out.below hA)
          replace M0 : Mem w w1 [(g3, 26, [.slice none 0 0]), (g2, 26, [.slice none 0 0]), (g11, 26, [.slice aHA nHA cHA])] := Mem.join M0 M9
          clear hA M9
          clear hHeld
          refine hK.out _ _ (M0.cell (.tail _ _ _ _ _ (.tail _ _ _ _ _ (Has.head _ _ _ _))) (i := 0) rfl) (fun hHeld => ?_)
          clear hK K
          try simp only [Act.put, List.setIfInBounds_toArray, List.set_cons_zero, List.set_cons_succ, List.getElem_toArray, List.getElem_cons_zero, List.getElem_cons_succ]
          refine wpAnyH_ready (rs := [8]) (by kernel_rfl) (by simp) ?_
          refine AllReadyH.cons rfl (fun K hK => ?_) AllReadyH.nil
          rw [if_pos (by rfl)]
          refine wp_stM (v := (.agg #[.slice aHQ nHQ cHQ])) M0 rfl rfl rfl (wr_nat _ _ _ _) (.tail _ _ _ _ _ _ _ (Upd.head _ _ _ _ _)) ?_
          intro w1 M9 hT9
          replace HA := Lib.hid (HA.out.kept (M0.has (.tail _ _ _ _ _ (Has.head _ _ _ _))) (noPart_sl _ _ _) hT9)
          replace HK := Lib.hid (HK.out.kept (M0.has (.tail _ _ _ _ _ (Has.head _ _ _ _))) (noPart_sl _ _ _) hT9)
          replace HQ := Lib.hid (HQ.out.kept (M0.has (.tail _ _ _ _ _ (Has.head _ _ _ _))) (noPart_sl _ _ _) hT9)
          replace HR := Lib.hid (HR.out.kept (M0.has (.tail _ _ _ _ _ (Has.head _ _ _ _))) (noPart_sl _ _ _) hT9)
          replace M0 := M9
          clear M9 hT9
          clear hHeld
          refine hK.out _ _ (M0.cell (.tail _ _ _ _ _ (.tail _ _ _ _ _ (Has.head _ _ _ _))) (i := 0) rfl) (fun hHeld => ?_)
          clear hK K
          try simp only [Act.put, List.setIfInBounds_toArray, List.set_cons_zero, List.set_cons_succ, List.getElem_toArray, List.getElem_cons_zero, List.getElem_cons_succ]
          refine wpAnyH_ready (rs := [9]) (by kernel_rfl) (by simp) ?_
          refine AllReadyH.cons rfl (fun K hK => ?_) AllReadyH.nil
          rw [if_pos (by rfl)]
          refine wp_stM (v := (.agg #[.slice aHR nHR cHR])) M0 rfl rfl rfl (wr_nat _ _ _ _) (Upd.head _ _ _ _ _) ?_
          intro w1 M9 hT9
          replace HA := Lib.hid (HA.out.kept (M0.has (Has.head _ _ _ _)) (noPart_sl _ _ _) hT9)
          replace HK := Lib.hid (HK.out.kept (M0.has (Has.head _ _ _ _)) (noPart_sl _ _ _) hT9)
          replace HQ := Lib.hid (HQ.out.kept (M0.has (Has.head _ _ _ _)) (noPart_sl _ _ _) hT9)
          replace HR := Lib.hid (HR.out.kept (M0.has (Has.head _ _ _ _)) (noPart_sl _ _ _) hT9)
          replace M0 := M9
          clear M9 hT9
          clear hHeld
          refine hK.out _ _ (M0.cell (.tail _ _ _ _ _ (.tail _ _ _ _ _ (Has.head _ _ _ _))) (i := 0) rfl) (fun hHeld => ?_)
          clear hK K
          try simp only [Act.put, List.setIfInBounds_toArray, List.set_cons_zero, List.set_cons_succ, List.getElem_toArray, List.getElem_cons_zero, List.getElem_cons_succ]
          refine wpAnyH_done (by kernel_rfl) ?_ _
          go_wp2_with fail
          go_meet
          exact ⟨g2, g3, _, _, _, _, _, _, rfl, rfl, M0.perm16 (List.Perm.refl _), HA.out, HQ.out, HR.out⟩
        · rw [if_pos (by rfl)]
          refine wp_al (Mem.start w1) rfl zeroNat rfl ?_
          intro g3 w1 M9
          have hA := M9.below
          replace HA := Lib.hid (HA.out.below hA)
          replace HK := Lib.hid (HK.out.below hA)
          replace HQ := Lib.hid (HQ.out.below hA)
          replace HR := Lib.hid (HR.out.below hA)
          replace M0 : Mem w w1 [(g3, 26, [.slice none 0 0]), (g11, 26, [.slice aHA nHA cHA])] := Mem.join M0 M9
          clear hA M9
          clear hHeld
          refine hK.out _ _ (M0.cell (.tail _ _ _ _ _ (Has.head _ _ _ _)) (i := 0) rfl) (fun hHeld => ?_)
          clear hK K
          try simp only [Act.put, List.setIfInBounds_toArray, List.set_cons_zero, List.set_cons_succ, List.getElem_toArray, List.getElem_cons_zero, List.getElem_cons_succ]
          refine wpAnyH_ready (rs := [6]) (by kernel_rfl) (by simp) ?_
          refine AllReadyH.cons rfl (fun K hK => ?_) AllReadyH.nil
          rw [if_pos (by rfl)]
          refine wp_al (Mem.start w1) rfl zeroNat rfl ?_
          intro g2 w1 M9
          have hA := M9.below
          replace HA := Lib.hid (HA.out.below hA)
          replace HK := Lib.hid (HK.out.below hA)
          replace HQ := Lib.hid (HQ.out.below hA)
          replace HR := Lib.hid (HR.out.below hA)
          replace M0 : Mem w w1 [(g2, 26, [.slice none 0 0]), (g3, 26, [.slice none 0 0]), (g11, 26, [.slice aHA nHA cHA])] := Mem.join M0 M9
          clear hA M9
          clear hHeld
          refine hK.out _ _ (M0.cell (.tail _ _ _ _ _ (.tail _ _ _ _ _ (Has.head _ _ _ _))) (i := 0) rfl) (fun hHeld => ?_)
          clear hK K
          try simp only [Act.put, List.setIfInBounds_toArray, List.set_cons_zero, List.set_cons_succ, List.getElem_toArray, List.getElem_cons_zero, List.getElem_cons_succ]
          refine wpAnyH_ready (rs := [8]) (by kernel_rfl) (by simp) ?_
          refine AllReadyH.cons rfl (fun K hK => ?_) AllReadyH.nil
          rw [if_pos (by rfl)]
          refine wp_stM (v := (.agg #[.slice aHQ nHQ cHQ])) M0 rfl rfl rfl (wr_nat _ _ _ _) (Upd.head _ _ _ _ _) ?_
          intro w1 M9 hT9
          replace HA := Lib.hid (HA.out.kept (M0.has (Has.head _ _ _ _)) (noPart_sl _ _ _) hT9)
          replace HK := Lib.hid (HK.out.kept (M0.has (Has.head _ _ _ _)) (noPart_sl _ _ _) hT9)
          replace HQ := Lib.hid (HQ.out.kept (M0.has (Has.head _ _ _ _)) (noPart_sl _ _ _) hT9)
          replace HR := Lib.hid (HR.out.kept (M0.has (Has.head _ _ _ _)) (noPart_sl _ _ _) hT9)
          replace M0 := M9
          clear M9 hT9
          clear hHeld
          refine hK.out _ _ (M0.cell (.tail _ _ _ _ _ (.tail _ _ _ _ _ (Has.head _ _ _ _))) (i := 0) rfl) (fun hHeld => ?_)
          clear hK K
          try simp only [Act.put, List.setIfInBounds_toArray, List.set_cons_zero, List.set_cons_succ, List.getElem_toArray, List.getElem_cons_zero, List.getElem_cons_succ]
          refine wpAnyH_ready (rs := [9]) (by kernel_rfl) (by simp) ?_
          refine AllReadyH.cons rfl (fun K hK => ?_) AllReadyH.nil
          rw [if_pos (by rfl)]
          refine wp_stM (v := (.agg #[.slice aHR nHR cHR])) M0 rfl rfl rfl (wr_nat _ _ _ _) (.tail _ _ _ _ _ _ _ (Upd.head _ _ _ _ _)) ?_
          intro w1 M9 hT9
          replace HA := Lib.hid (HA.out.kept (M0.has (.tail _ _ _ _ _ (Has.head _ _ _ _))) (noPart_sl _ _ _) hT9)
          replace HK := Lib.hid (HK.out.kept (M0.has (.tail _ _ _ _ _ (Has.head _ _ _ _))) (noPart_sl _ _ _) hT9)
          replace HQ := Lib.hid (HQ.out.kept (M0.has (.tail _ _ _ _ _ (Has.head _ _ _ _))) (noPart_sl _ _ _) hT9)
          replace HR := Lib.hid (HR.out.kept (M0.has (.tail _ _ _ _ _ (Has.head _ _ _ _))) (noPart_sl _ _ _) hT9)
          replace M0 := M9
          clear M9 hT9
          clear hHeld
          refine hK.out _ _ (M0.cell (.tail _ _ _ _ _ (.tail _ _ _ _ _ (Has.head _ _ _ _))) (i := 0) rfl) (fun hHeld => ?_)
          clear hK K
          try simp only [Act.put, List.setIfInBounds_toArray, List.set_cons_zero, List.set_cons_succ, List.getElem_toArray, List.getElem_cons_zero, List.getElem_cons_succ]
          refine wpAnyH_done (by kernel_rfl) ?_ _
          go_wp2_with fail
          go_meet
          exact ⟨g2, g3, _, _, _, _, _, _, rfl, rfl, M0.perm16 (List.Perm.swap _ _ _), HA.out, HQ.out, HR.out⟩
      · rw [if_pos (by rfl)]
        refine wp_al (Mem.start w1) rfl zeroNat rfl ?_
        intro g2 w1 M9
        have hA := M9.below
        replace HA := Lib.hid (HA.out.below hA)
        replace HK := Lib.hid (HK.out.below hA)
        replace M0 : Mem w w1 [(g2, 26, [.slice none 0 0]), (g11, 26, [.slice aHA nHA cHA])] := Mem.join M0 M9
        clear hA M9
        clear hHeld
        refine hK.out _ _ (M0.cell (.tail _ _ _ _ _ (Has.head _ _ _ _)) (i := 0) rfl) (fun hHeld => ?_)
        clear hK K
        try simp only [Act.put, List.setIfInBounds_toArray, List.set_cons_zero, List.set_cons_succ, List.getElem_toArray, List.getElem_cons_zero, List.getElem_cons_succ]
        refine wpAnyH_ready (rs := [2, 7]) (by kernel_rfl) (by simp) ?_
        refine AllReadyH.cons rfl (fun K hK => ?_) (AllReadyH.cons rfl (fun K hK => ?_) AllReadyH.nil)
        · go_simp
          refine (div_any16 _ _ 55340232221128654848 1000 _ HA.out HK.out ln_55340232221128654848 ln_1000).mono ?_
          rintro e w1 ⟨tv, tu, rfl, hv, hu, hA⟩
          replace M0 := M0.call hA
          replace HA := Lib.hid (HA.out.below hA)
          replace HK := Lib.hid (HK.out.below hA)
          obtain ⟨aHQ, nHQ, cHQ, rfl, hz⟩ := hv.nm
          have HQ : Hid (IsN w1 (.agg #[.slice aHQ nHQ cHQ]) (55340232221128654)) := Lib.hid hz
          clear hz hv
          obtain ⟨aHR, nHR, cHR, rfl, hz⟩ := hu.nm
          have HR : Hid (IsN w1 (.agg #[.slice aHR nHR cHR]) (848)) := Lib.hid hz
          clear hz hu
          clear hA
          try go_wp2_with fail
          clear hHeld
          refine hK.out _ _ (M0.cell (.tail _ _ _ _ _ (Has.head _ _ _ _)) (i := 0) rfl) (fun hHeld => ?_)
          clear hK K
          try simp only [Act.put, List.setIfInBounds_toArray, List.set_cons_zero, List.set_cons_succ, List.getElem_toArray, List.getElem_cons_zero, List.getElem_cons_succ]
          refine tkT 3 ?v16005 ?hy16005 hHeld ?rest16005
          case hy16005 => (intro w' hSw; (try dsimp only at hSw); go_simp; (try with_reducible rfl))
          try simp only [Act.put, List.setIfInBounds_toArray, List.set_cons_zero, List.set_cons_succ, List.getElem_toArray, List.getElem_cons_zero, List.getElem_cons_succ]
          refine tkT 4 ?v16006 ?hy16006 hHeld ?rest16006
          case hy16006 => (intro w' hSw; (try dsimp only at hSw); go_simp; (try with_reducible rfl))
          try simp only [Act.put, List.setIfInBounds_toArray, List.set_cons_zero, List.set_cons_succ, List.getElem_toArray, List.getElem_cons_zero, List.getElem_cons_succ]
          refine tkT 5 ?v16007 ?hy16007 hHeld ?rest16007
          case hy16007 => (intro w' hSw; (try dsimp only at hSw); go_simp; (try with_reducible rfl))
          try simp only [Act.put, List.setIfInBounds_toArray, List.set_cons_zero, List.set_cons_succ, List.getElem_toArray, List.getElem_cons_zero, List.getElem_cons_succ]
          refine wpAnyH_ready (rs := [7]) (by kernel_rfl) (by simp) ?_
          refine AllReadyH.cons rfl (fun K hK => ?_) AllReadyH.nil
          rw [if_pos (by rfl)]
          refine wp_al (Mem.start w1) rfl zeroNat rfl ?_
          intro g3 w1 M9
          have hA := M9.below
          replace HA := Lib.hid (HA.out.below hA)
          replace HK := Lib.hid (HK.out.below hA)
          replace HQ := Lib.hid (HQ.out.below hA)
          replace HR := Lib.hid (HR.out.below hA)
          replace M0 : Mem w w1 [(g3, 26, [.slice none 0 0]), (g2, 26, [.slice none 0 0]), (g11, 26, [.slice aHA nHA cHA])] := Mem.join M0 M9
          clear hA M9
          clear hHeld
          refine hK.out _ _ (M0.cell (.tail _ _ _ _ _ (.tail _ _ _ _ _ (Has.head _ _ _ _))) (i := 0) rfl) (fun hHeld => ?_)
          clear hK K
          try simp only [Act.put, List.setIfInBounds_toArray, List.set_cons_zero, List.set_cons_succ, List.getElem_toArray, List.getElem_cons_zero, List.getElem_cons_succ]
          refine wpAnyH_ready (rs := [8]) (by kernel_rfl) (by simp) ?_
          refine AllReadyH.cons rfl (fun K hK => ?_) AllReadyH.nil
          rw [if_pos (by rfl)]
          refine wp_stM (v := (.agg #[.slice aHQ nHQ cHQ])) M0 rfl rfl rfl (wr_nat _ _ _ _) (.tail _ _ _ _ _ _ _ (Upd.head _ _ _ _ _)) ?_
          intro w1 M9 hT9
          replace HA := Lib.hid (HA.out.kept (M0.has (.tail _ _ _ _ _ (Has.head _ _ _ _))) (noPart_sl _ _ _) hT9)
          replace HK := Lib.hid (HK.out.kept (M0.has (.tail _ _ _ _ _ (Has.head _ _ _ _))) (noPart_sl _ _ _) hT9)
          replace HQ := Lib.hid (HQ.out.kept (M0.has (.tail _ _ _ _ _ (Has.head _ _ _ _))) (noPart_sl _ _ _) hT9)
          replace HR := Lib.hid (HR.out.kept (M0.has (.tail _ _ _ _ _ (Has.head _ _ _ _))) (noPart_sl _ _ _) hT9)
          replace M0 := M9
          clear M9 hT9
          clear hHeld
          refine hK.out _ _ (M0.cell (.tail _ _ _ _ _ (.tail _ _ _ _ _ (Has.head _ _ _ _))) (i := 0) rfl) (fun hHeld => ?_)
          clear hK K
          try simp only [Act.put, List.setIfInBounds_toArray, List.set_cons_zero, List.set_cons_succ, List.getElem_toArray, List.getElem_cons_zero, List.getElem_cons_succ]
          refine wpAnyH_ready (rs := [9]) (by kernel_rfl) (by simp) ?_
          refine AllReadyH.cons rfl (fun K hK => ?_) AllReadyH.nil
          rw [if_pos (by rfl)]
          refine wp_stM (v := (.agg #[.slice aHR nHR cHR])) M0 rfl rfl rfl (wr_nat _ _ _ _) (Upd.head _ _ _ _ _) ?_
          intro w1 M9 hT9
          replace HA := Lib.hid (HA.out.kept (M0.has (Has.head _ _ _ _)) (noPart_sl _ _ _) hT9)
          replace HK := Lib.hid (HK.out.kept (M0.has (Has.head _ _ _ _)) (noPart_sl _ _ _) hT9)
          replace HQ := Lib.hid (HQ.out.kept (M0.has (Has.head _ _ _ _)) (noPart_sl _ _ _) hT9)
          replace HR := Lib.hid (HR.out.kept (M0.has (Has.head _ _ _ _)) (noPart_sl _ _ _) hT9)
          replace M0 := M9
          clear M9 hT9
          clear hHeld
          refine hK.out _ _ (M0.cell (.tail _ _ _ _ _ (.tail _ _ _ _ _ (Has.head _ _ _ _))) (i := 0) rfl) (fun hHeld => ?_)
          clear hK K
          try simp only [Act.put, List.setIfInBounds_toArray, List.set_cons_zero, List.set_cons_succ, List.getElem_toArray, List.getElem_cons_zero, List.getElem_cons_succ]
          refine wpAnyH_done (by kernel_rfl) ?_ _
          go_wp2_with fail
          go_meet
          exact ⟨g2, g3, _, _, _, _, _, _, rfl, rfl, M0.perm16 (List.Perm.refl _), HA.out, HQ.out, HR.out⟩
        · rw [if_pos (by rfl)]
          refine wp_al (Mem.start w1) rfl zeroNat rfl ?_
          intro g3 w1 M9
          have hA := M9.below
          replace HA := Lib.hid (HA.out.below hA)
          replace HK := Lib.hid (HK.out.below hA)
          replace M0 : Mem w w1 [(g3, 26, [.slice none 0 0]), (g2, 26, [.slice none 0 0]), (g11, 26, [.slice aHA nHA cHA])] := Mem.join M0 M9
          clear hA M9
          clear hHeld
          refine hK.out _ _ (M0.cell (.tail _ _ _ _ _ (.tail _ _ _ _ _ (Has.head _ _ _ _))) (i := 0) rfl) (fun hHeld => ?_)
          clear hK K
          try simp only [Act.put, List.setIfInBounds_toArray, List.set_cons_zero, List.set_cons_succ, List.getElem_toArray, List.getElem_cons_zero, List.getElem_cons_succ]
          refine wpAnyH_ready (rs := [2]) (by kernel_rfl) (by simp) ?_
          refine AllReadyH.cons rfl (fun K hK => ?_) AllReadyH.nil
          go_simp
          refine (div_any16 _ _ 55340232221128654848 1000 _ HA.out HK.out ln_55340232221128654848 ln_1000).mono ?_
          rintro e w1 ⟨tv, tu, rfl, hv, hu, hA⟩
          replace M0 := M0.call hA
          replace HA := Lib.hid (HA.out.below hA)
          replace HK := Lib.hid (HK.out.below hA)
          obtain ⟨aHQ, nHQ, cHQ, rfl, hz⟩ := hv.nm
          have HQ : Hid (IsN w1 (.agg #[.slice aHQ nHQ cHQ]) (55340232221128654)) := Lib.hid hz
          clear hz hv
          obtain ⟨aHR, nHR, cHR, rfl, hz⟩ := hu.nm
          have HR : Hid (IsN w1 (.agg #[.slice aHR nHR cHR]) (848)) := Lib.hid hz
          clear hz hu
          clear hA
          try go_wp2_with fail
          clear hHeld
          refine hK.out _ _ (M0.cell (.tail _ _ _ _ _ (.tail _ _ _ _ _ (Has.head _ _ _ _))) (i := 0) rfl) (fun hHeld => ?_)
          clear hK K
          try simp only [Act.put, List.setIfInBounds_toArray, List.set_cons_zero, List.set_cons_succ, List.getElem_toArray, List.getElem_cons_zero, List.getElem_cons_succ]
          refine tkT 3 ?v16008 ?hy16008 hHeld ?rest16008
          case hy16008 => (intro w' hSw; (try dsimp only at hSw); go_simp; (try with_reducible rfl))
          try simp only [Act.put, List.setIfInBounds_toArray, List.set_cons_zero, List.set_cons_succ, List.getElem_toArray, List.getElem_cons_zero, List.getElem_cons_succ]
          refine tkT 4 ?v16009 ?hy16009 hHeld ?rest16009
          case hy16009 => (intro w' hSw; (try dsimp only at hSw); go_simp; (try with_reducible rfl))
          try simp only [Act.put, List.setIfInBounds_toArray, List.set_cons_zero, List.set_cons_succ, List.getElem_toArray, List.getElem_cons_zero, List.getElem_cons_succ]
          refine tkT 5 ?v16010 ?hy16010 hHeld ?rest16010
          case hy16010 => (intro w' hSw; (try dsimp only at hSw); go_simp; (try with_reducible rfl))
          try simp only [Act.put, List.setIfInBounds_toArray, List.set_cons_zero, List.set_cons_succ, List.getElem_toArray, List.getElem_cons_zero, List.getElem_cons_succ]
          refine wpAnyH_ready (rs := [8]) (by kernel_rfl) (by simp) ?_
          refine AllReadyH.cons rfl (fun K hK => ?_) AllReadyH.nil
          rw [if_pos (by rfl)]
          refine wp_stM (v := (.agg #[.slice aHQ nHQ cHQ])) M0 rfl rfl rfl (wr_nat _ _ _ _) (.tail _ _ _ _ _ _ _ (Upd.head _ _ _ _ _)) ?_
          intro w1 M9 hT9
          replace HA := Lib.hid (HA.out.kept (M0.has (.tail _ _ _ _ _ (Has.head _ _ _ _))) (noPart_sl _ _ _) hT9)
          replace HK := Lib.hid (HK.out.kept (M0.has (.tail _ _ _ _ _ (Has.head _ _ _ _))) (noPart_sl _ _ _) hT9)
          replace HQ := Lib.hid (HQ.out.kept (M0.has (.tail _ _ _ _ _ (Has.head _ _ _ _))) (noPart_sl _ _ _) hT9)
          replace HR := Lib.hid (HR.out.kept (M0.has (.tail _ _ _ _ _ (Has.head _ _ _ _))) (noPart_sl _ _ _) hT9)
          replace M0 := M9
          clear M9 hT9
          clear hHeld
          refine hK.out _ _ (M0.cell (.tail _ _ _ _ _ (.tail _ _ _ _ _ (Has.head _ _ _ _))) (i := 0) rfl) (fun hHeld => ?_)
          clear hK K
          try simp only [Act.put, List.setIfInBounds_toArray, List.set_cons_zero, List.set_cons_succ, List.getElem_toArray, List.getElem_cons_zero, List.getElem_cons_succ]
          refine wpAnyH_ready (rs := [9]) (by kernel_rfl) (by simp) ?_
          refine AllReadyH.cons rfl (fun K hK => ?_) AllReadyH.nil
          rw [if_pos (by rfl)]
          refine wp_stM (v := (.agg #[.slice aHR nHR cHR])) M0 rfl rfl rfl (wr_nat _ _ _ _) (Upd.head _ _ _ _ _) ?_
          intro w1 M9 hT9
          replace HA := Lib.hid (HA.out.kept (M0.has (Has.head _ _ _ _)) (noPart_sl _ _ _) hT9)
          replace HK := Lib.hid (HK.out.kept (M0.has (Has.head _ _ _ _)) (noPart_sl _ _ _) hT9)
          replace HQ := Lib.hid (HQ.out.kept (M0.has (Has.head _ _ _ _)) (noPart_sl _ _ _) hT9)
          replace HR := Lib.hid (HR.out.kept (M0.has (Has.head _ _ _ _)) (noPart_sl _ _ _) hT9)
          replace M0 := M9
          clear M9 hT9
          clear hHeld
          refine hK.out _ _ (M0.cell (.tail _ _ _ _ _ (.tail _ _ _ _ _ (Has.head _ _ _ _))) (i := 0) rfl) (fun hHeld => ?_)
          clear hK K
          try simp only [Act.put, List.setIfInBounds_toArray, List.set_cons_zero, List.set_cons_succ, List.getElem_toArray, List.getElem_cons_zero, List.getElem_cons_succ]
          refine wpAnyH_done (by kernel_rfl) ?_ _
          go_wp2_with fail
          go_meet
          exact ⟨g2, g3, _, _, _, _, _, _, rfl, rfl, M0.perm16 (List.Perm.refl _), HA.out, HQ.out, HR.out⟩
      · rw [if_pos (by rfl)]
        refine wp_al (Mem.start w1) rfl zeroNat rfl ?_
        intro g3 w1 M9
        have hA := M9.below
        replace HA := Lib.hid (HA.out.below hA)
        replace HK := Lib.hid (HK.out.below hA)
        replace M0 : Mem w w1 [(g3, 26, [.slice none 0 0]), (g11, 26, [.slice aHA nHA cHA])] := Mem.join M0 M9
        clear hA M9
        clear hHeld
        refine hK.out _ _ (M0.cell (.tail _ _ _ _ _ (Has.head _ _ _ _)) (i := 0) rfl) (fun hHeld => ?_)
        clear hK K
        try simp only [Act.put, List.setIfInBounds_toArray, List.set_cons_zero, List.set_cons_succ, List.getElem_toArray, List.getElem_cons_zero, List.getElem_cons_succ]
        refine wpAnyH_ready (rs := [2, 6]) (by kernel_rfl) (by simp) ?_
        refine AllReadyH.cons rfl (fun K hK => ?_) (AllReadyH.cons rfl (fun K hK => ?_) AllReadyH.nil)
        · go_simp
          refine (div_any16 _ _ 55340232221128654848 1000 _ HA.out HK.out ln_55340232221128654848 ln_1000).mono ?_
          rintro e w1 ⟨tv, tu, rfl, hv, hu, hA⟩
          replace M0 := M0.call hA
          replace HA := Lib.hid (HA.out.below hA)
          replace HK := Lib.hid (HK.out.below hA)
          obtain ⟨aHQ, nHQ, cHQ, rfl, hz⟩ := hv.nm
          have HQ : Hid (IsN w1 (.agg #[.slice aHQ nHQ cHQ]) (55340232221128654)) := Lib.hid hz
          clear hz hv
          obtain ⟨aHR, nHR, cHR, rfl, hz⟩ := hu.nm
          have HR : Hid (IsN w1 (.agg #[.slice aHR nHR cHR]) (848)) := Lib.hid hz
          clear hz hu
          clear hA
          try go_wp2_with fail
          clear hHeld
          refine hK.out _ _ (M0.cell (.tail _ _ _ _ _ (Has.head _ _ _ _)) (i := 0) rfl) (fun hHeld => ?_)
          clear hK K
          try simp only [Act.put, List.setIfInBounds_toArray, List.set_cons_zero, List.set_cons_succ, List.getElem_toArray, List.getElem_cons_zero, List.getElem_cons_succ]
          refine tkT 3 ?v16011 ?hy16011 hHeld ?rest16011
          case hy16011 => (intro w' hSw; (try dsimp only at hSw); go_simp; (try with_reducible rfl))
          try simp only [Act.put, List.setIfInBounds_toArray, List.set_cons_zero, List.set_cons_succ, List.getElem_toArray, List.getElem_cons_zero, List.getElem_cons_succ]
          refine tkT 4 ?v16012 ?hy16012 hHeld ?rest16012
          case hy16012 => (intro w' hSw; (try dsimp only at hSw); go_simp; (try with_reducible rfl))
          try simp only [Act.put, List.setIfInBounds_toArray, List.set_cons_zero, List.set_cons_succ, List.getElem_toArray, List.getElem_cons_zero, List.getElem_cons_succ]
          refine tkT 5 ?v16013 ?hy16013 hHeld ?rest16013
          case hy16013 => (intro w' hSw; (try dsimp only at hSw); go_simp; (try with_reducible rfl))
          try simp only [Act.put, List.setIfInBounds_toArray, List.set_cons_zero, List.set_cons_succ, List.getElem_toArray, List.getElem_cons_zero, List.getElem_cons_succ]
          refine wpAnyH_ready (rs := [6]) (by kernel_rfl) (by simp) ?_
          refine AllReadyH.cons rfl (fun K hK => ?_) AllReadyH.nil
          rw [if_pos (by rfl)]
          refine wp_al (Mem.start w1) rfl zeroNat rfl ?_
          intro g2 w1 M9
          have hA := M9.below
          replace HA := Lib.hid (HA.out.below hA)
          replace HK := Lib.hid (HK.out.below hA)
          replace HQ := Lib.hid (HQ.out.below hA)
          replace HR := Lib.hid (HR.out.below hA)
          replace M0 : Mem w w1 [(g2, 26, [.slice none 0 0]), (g3, 26, [.slice none 0 0]), (g11, 26, [.slice aHA nHA cHA])] := Mem.join M0 M9
          clear hA M9
          clear hHeld
          refine hK.out _ _ (M0.cell (.tail _ _ _ _ _ (.tail _ _ _ _ _ (Has.head _ _ _ _))) (i := 0) rfl) (fun hHeld => ?_)
          clear hK K
          try simp only [Act.put, List.setIfInBounds_toArray, List.set_cons_zero, List.set_cons_succ, List.getElem_toArray, List.getElem_cons_zero, List.getElem_cons_succ]
          refine wpAnyH_ready (rs := [8]) (by kernel_rfl) (by simp) ?_
          refine AllReadyH.cons rfl (fun K hK => ?_) AllReadyH.nil
          rw [if_pos (by rfl)]
          refine wp_stM (v := (.agg #[.slice aHQ nHQ cHQ])) M0 rfl rfl rfl (wr_nat _ _ _ _) (Upd.head _ _ _ _ _) ?_
          intro w1 M9 hT9
          replace HA := Lib.hid (HA.out.kept (M0.has (Has.head _ _ _ _)) (noPart_sl _ _ _) hT9)
          replace HK := Lib.hid (HK.out.kept (M0.has (Has.head _ _ _ _)) (noPart_sl _ _ _) hT9)
          replace HQ := Lib.hid (HQ.out.kept (M0.has (Has.head _ _ _ _)) (noPart_sl _ _ _) hT9)
          replace HR := Lib.hid (HR.out.kept (M0.has (Has.head _ _ _ _)) (noPart_sl _ _ _) hT9)
          replace M0 := M9
          clear M9 hT9
          clear hHeld
          refine hK.out _ _ (M0.cell (.tail _ _ _ _ _ (.tail _ _ _ _ _ (Has.head _ _ _ _))) (i := 0) rfl) (fun hHeld => ?_)
          clear hK K
          try simp only [Act.put, List.setIfInBounds_toArray, List.set_cons_zero, List.set_cons_succ, List.getElem_toArray, List.getElem_cons_zero, List.getElem_cons_succ]
          refine wpAnyH_ready (rs := [9]) (by kernel_rfl) (by simp) ?_
          refine AllReadyH.cons rfl (fun K hK => ?_) AllReadyH.nil
          rw [if_pos (by rfl)]
          refine wp_stM (v := (.agg #[.slice aHR nHR cHR])) M0 rfl rfl rfl (wr_nat _ _ _ _) (.tail _ _ _ _ _ _ _ (Upd.head _ _ _ _ _)) ?_
          intro w1 M9 hT9
          replace HA := Lib.hid (HA.out.kept (M0.has (.tail _ _ _ _ _ (Has.head _ _ _ _))) (noPart_sl _ _ _) hT9)
          replace HK := Lib.hid (HK.out.kept (M0.has (.tail _ _ _ _ _ (Has.head _ _ _ _))) (noPart_sl _ _ _) hT9)
          replace HQ := Lib.hid (HQ.out.kept (M0.has (.tail _ _ _ _ _ (Has.head _ _ _ _))) (noPart_sl _ _ _) hT9)
          replace HR := Lib.hid (HR.out.kept (M0.has (.tail _ _ _ _ _ (Has.head _ _ _ _))) (noPart_sl _ _ _) hT9)
          replace M0 := M9
          clear M9 hT9
          clear hHeld
          refine hK.out _ _ (M0.cell (.tail _ _ _ _ _ (.tail _ _ _ _ _ (Has.head _ _ _ _))) (i := 0) rfl) (fun hHeld => ?_)
          clear hK K
          try simp only [Act.put, List.setIfInBounds_toArray, List.set_cons_zero, List.set_cons_succ, List.getElem_toArray, List.getElem_cons_zero, List.getElem_cons_succ]
          refine wpAnyH_done (by kernel_rfl) ?_ _
          go_wp2_with fail
          go_meet
          exact ⟨g2, g3, _, _, _, _, _, _, rfl, rfl, M0.perm16 (List.Perm.swap _ _ _), HA.out, HQ.out, HR.out⟩
        · rw [if_pos (by rfl)]
          refine wp_al (Mem.start w1) rfl zeroNat rfl ?_
          intro g2 w1 M9
          have hA := M9.below
          replace HA := Lib.hid (HA.out.below hA)
          replace HK := Lib.hid (HK.out.below hA)
          replace M0 : Mem w w1 [(g2, 26, [.slice none 0 0]), (g3, 26, [.slice none 0 0]), (g11, 26, [.slice aHA nHA cHA])] := Mem.join M0 M9
          clear hA M9
          clear hHeld
          refine hK.out _ _ (M0.cell (.tail _ _ _ _ _ (.tail _ _ _ _ _ (Has.head _ _ _ _))) (i := 0) rfl) (fun hHeld => ?_)
          clear hK K
          try simp only [Act.put, List.setIfInBounds_toArray, List.set_cons_zero, List.set_cons_succ, List.getElem_toArray, List.getElem_cons_zero, List.getElem_cons_succ]
          refine wpAnyH_ready (rs := [2]) (by kernel_rfl) (by simp) ?_
          refine AllReadyH.cons rfl (fun K hK => ?_) AllReadyH.nil
          go_simp
          refine (div_any16 _ _ 55340232221128654848 1000 _ HA.out HK.out ln_55340232221128654848 ln_1000).mono ?_
          rintro e w1 ⟨tv, tu, rfl, hv, hu, hA⟩
          replace M0 := M0.call hA
          replace HA := Lib.hid (HA.out.below hA)
          replace HK := Lib.hid (HK.out.below hA)
          obtain ⟨aHQ, nHQ, cHQ, rfl, hz⟩ := hv.nm
          have HQ : Hid (IsN w1 (.agg #[.slice aHQ nHQ cHQ]) (55340232221128654)) := Lib.hid hz
          clear hz hv
          obtain ⟨aHR, nHR, cHR, rfl, hz⟩ := hu.nm
          have HR : Hid (IsN w1 (.agg #[.slice aHR nHR cHR]) (848)) := Lib.hid hz
          clear hz hu
          clear hA
          try go_wp2_with fail
          clear hHeld
          refine hK.out _ _ (M0.cell (.tail _ _ _ _ _ (.tail _ _ _ _ _ (Has.head _ _ _ _))) (i := 0) rfl) (fun hHeld => ?_)
          clear hK K
          try simp only [Act.put, List.setIfInBounds_toArray, List.set_cons_zero, List.set_cons_succ, List.getElem_toArray, List.getElem_cons_zero, List.getElem_cons_succ]
          refine tkT 3 ?v16014 ?hy16014 hHeld ?rest16014
          case hy16014 => (intro w' hSw; (try dsimp only at hSw); go_simp; (try with_reducible rfl))
          try simp only [Act.put, List.setIfInBounds_toArray, List.set_cons_zero, List.set_cons_succ, List.getElem_toArray, List.getElem_cons_zero, List.getElem_cons_succ]
          refine tkT 4 ?v16015 ?hy16015 hHeld ?rest16015
          case hy16015 => (intro w' hSw; (try dsimp only at hSw); go_simp; (try with_reducible rfl))
          try simp only [Act.put, List.setIfInBounds_toArray, List.set_cons_zero, List.set_cons_succ, List.getElem_toArray, List.getElem_cons_zero, List.getElem_cons_succ]
          refine tkT 5 ?v16016 ?hy16016 hHeld ?rest16016
          case hy16016 => (intro w' hSw; (try dsimp only at hSw); go_simp; (try with_reducible rfl))
          try simp only [Act.put, List.setIfInBounds_toArray, List.set_cons_zero, List.set_cons_succ, List.getElem_toArray, List.getElem_cons_zero, List.getElem_cons_succ]
          refine wpAnyH_ready (rs := [8]) (by kernel_rfl) (by simp) ?_
          refine AllReadyH.cons rfl (fun K hK => ?_) AllReadyH.nil
          rw [if_pos (by rfl)]
          refine wp_stM (v := (.agg #[.slice aHQ nHQ cHQ])) M0 rfl rfl rfl (wr_nat _ _ _ _) (Upd.head _ _ _ _ _) ?_
          intro w1 M9 hT9
          replace HA := Lib.hid (HA.out.kept (M0.has (Has.head _ _ _ _)) (noPart_sl _ _ _) hT9)
          replace HK := Lib.hid (HK.out.kept (M0.has (Has.head _ _ _ _)) (noPart_sl _ _ _) hT9)
          replace HQ := Lib.hid (HQ.out.kept (M0.has (Has.head _ _ _ _)) (noPart_sl _ _ _) hT9)
          replace HR := Lib.hid (HR.out.kept (M0.has (Has.head _ _ _ _)) (noPart_sl _ _ _) hT9)
          replace M0 := M9
          clear M9 hT9
          clear hHeld
          refine hK.out _ _ (M0.cell (.tail _ _ _ _ _ (.tail _ _ _ _ _ (Has.head _ _ _ _))) (i := 0) rfl) (fun hHeld => ?_)
          clear hK K
          try simp only [Act.put, List.setIfInBounds_toArray, List.set_cons_zero, List.set_cons_succ, List.getElem_toArray, List.getElem_cons_zero, List.getElem_cons_succ]
          refine wpAnyH_ready (rs := [9]) (by kernel_rfl) (by simp) ?_
          refine AllReadyH.cons rfl (fun K hK => ?_) AllReadyH.nil
          rw [if_pos (by rfl)]
          refine wp_stM (v := (.agg #[.slice aHR nHR cHR])) M0 rfl rfl rfl (wr_nat _ _ _ _) (.tail _ _ _ _ _ _ _ (Upd.head _ _ _ _ _)) ?_
          intro w1 M9 hT9
          replace HA := Lib.hid (HA.out.kept (M0.has (.tail _ _ _ _ _ (Has.head _ _ _ _))) (noPart_sl _ _ _) hT9)
          replace HK := Lib.hid (HK.out.kept (M0.has (.tail _ _ _ _ _ (Has.head _ _ _ _))) (noPart_sl _ _ _) hT9)
          replace HQ := Lib.hid (HQ.out.kept (M0.has (.tail _ _ _ _ _ (Has.head _ _ _ _))) (noPart_sl _ _ _) hT9)
          replace HR := Lib.hid (HR.out.kept (M0.has (.tail _ _ _ _ _ (Has.head _ _ _ _))) (noPart_sl _ _ _) hT9)
          replace M0 := M9
          clear M9 hT9
          clear hHeld
          refine hK.out _ _ (M0.cell (.tail _ _ _ _ _ (.tail _ _ _ _ _ (Has.head _ _ _ _))) (i := 0) rfl) (fun hHeld => ?_)
          clear hK K
          try simp only [Act.put, List.setIfInBounds_toArray, List.set_cons_zero, List.set_cons_succ, List.getElem_toArray, List.getElem_cons_zero, List.getElem_cons_succ]
          refine wpAnyH_done (by kernel_rfl) ?_ _
          go_wp2_with fail
          go_meet
          exact ⟨g2, g3, _, _, _, _, _, _, rfl, rfl, M0.perm16 (List.Perm.swap _ _ _), HA.out, HQ.out, HR.out⟩
    · rw [if_pos (by rfl)]
      refine wp_al (Mem.start w1.drew) rfl zeroNat rfl ?_
      intro g2 w1 M9
      have hA := M9.below
      replace HA := Lib.hid (HA.out.below hA)
      replace M0 : Mem w w1 [(g2, 26, [.slice none 0 0]), (g11, 26, [.slice aHA nHA cHA])] := Mem.join M0 M9
      clear hA M9
      clear hHeld
      refine hK.out _ _ (M0.cell (.tail _ _ _ _ _ (Has.head _ _ _ _)) (i := 0) rfl) (fun hHeld => ?_)
      clear hK K
      try simp only [Act.put, List.setIfInBounds_toArray, List.set_cons_zero, List.set_cons_succ, List.getElem_toArray, List.getElem_cons_zero, List.getElem_cons_succ]
      refine wpAnyH_ready (rs := [1, 7]) (by kernel_rfl) (by simp) ?_
      refine AllReadyH.cons rfl (fun K hK => ?_) (AllReadyH.cons rfl (fun K hK => ?_) AllReadyH.nil)
      · go_simp
        refine (of_1000 _).mono ?_
        rintro e w1 ⟨tv, rfl, hv, hA⟩
        replace M0 := M0.call hA
        replace HA := Lib.hid (HA.out.below hA)
        obtain ⟨aHK, nHK, cHK, rfl, hz⟩ := hv.nm
        have HK : Hid (IsN w1 (.agg #[.slice aHK nHK cHK]) (1000)) := Lib.hid hz
        clear hz hv
        clear hA
        try go_wp2_with fail
        clear hHeld
        refine hK.out _ _ (M0.cell (.tail _ _ _ _ _ (Has.head _ _ _ _)) (i := 0) rfl) (fun hHeld => ?_)
        clear hK K
        try simp only [Act.put, List.setIfInBounds_toArray, List.set_cons_zero, List.set_cons_succ, List.getElem_toArray, List.getElem_cons_zero, List.getElem_cons_succ]
        refine wpAnyH_ready (rs := [2, 7]) (by kernel_rfl) (by simp) ?_
        refine AllReadyH.cons rfl (fun K hK => ?_) (AllReadyH.cons rfl (fun K hK => ?_) AllReadyH.nil)
        · go_simp
          refine (div_any16 _ _ 55340232221128654848 1000 _ HA.out HK.out ln_55340232221128654848 ln_1000).mono ?_
          rintro e w1 ⟨tv, tu, rfl, hv, hu, hA⟩
          replace M0 := M0.call hA
          replace HA := Lib.hid (HA.out.below hA)
          replace HK := Lib.hid (HK.out.below hA)
          obtain ⟨aHQ, nHQ, cHQ, rfl, hz⟩ := hv.nm
          have HQ : Hid (IsN w1 (.agg #[.slice aHQ nHQ cHQ]) (55340232221128654)) := Lib.hid hz
          clear hz hv
          obtain ⟨aHR, nHR, cHR, rfl, hz⟩ := hu.nm
          have HR : Hid (IsN w1 (.agg #[.slice aHR nHR cHR]) (848)) := Lib.hid hz
          clear hz hu
          clear hA
          try go_wp2_with fail
          clear hHeld
          refine hK.out _ _ (M0.cell (.tail _ _ _ _ _ (Has.head _ _ _ _)) (i := 0) rfl) (fun hHeld => ?_)
          clear hK K
          try simp only [Act.put, List.setIfInBounds_toArray, List.set_cons_zero, List.set_cons_succ, List.getElem_toArray, List.getElem_cons_zero, List.getElem_cons_succ]
          refine tkT 3 ?v16017 ?hy16017 hHeld ?rest16017
          case hy16017 => (intro w' hSw; (try dsimp only at hSw); go_simp; (try with_reducible rfl))
          try simp only [Act.put, List.setIfInBounds_toArray, List.set_cons_zero, List.set_cons_succ, List.getElem_toArray, List.getElem_cons_zero, List.getElem_cons_succ]
          refine tkT 4 ?v16018 ?hy16018 hHeld ?rest16018
          case hy16018 => (intro w' hSw; (try dsimp only at hSw); go_simp; (try with_reducible rfl))
          try simp only [Act.put, List.setIfInBounds_toArray, List.set_cons_zero, List.set_cons_succ, List.getElem_toArray, List.getElem_cons_zero, List.getElem_cons_succ]
          refine tkT 5 ?v16019 ?hy16019 hHeld ?rest16019
          case hy16019 => (intro w' hSw; (try dsimp only at hSw); go_simp; (try with_reducible rfl))
          try simp only [Act.put, List.setIfInBounds_toArray, List.set_cons_zero, List.set_cons_succ, List.getElem_toArray, List.getElem_cons_zero, List.getElem_cons_succ]
          refine wpAnyH_ready (rs := [7]) (by kernel_rfl) (by simp) ?_
          refine AllReadyH.cons rfl (fun K hK => ?_) AllReadyH.nil
          rw [if_pos (by rfl)]
          refine wp_al (Mem.start w1) rfl zeroNat rfl ?_
          intro g3 w1 M9
          have hA := M9.below
          replace HA := Lib.hid (HA.out.below hA)
          replace HK := Lib.hid (HK.out.below hA)
          replace HQ := Lib.hid (HQ.out.below hA)
          replace HR := Lib.hid (HR.out.below hA)
          replace M0 : Mem w w1 [(g3, 26, [.slice none 0 0]), (g2, 26, [.slice none 0 0]), (g11, 26, [.slice aHA nHA cHA])] := Mem.join M0 M9
          clear hA M9
          clear hHeld
          refine hK.out _ _ (M0.cell (.tail _ _ _ _ _ (.tail _ _ _ _ _ (Has.head _ _ _ _))) (i := 0) rfl) (fun hHeld => ?_)
          clear hK K
          try simp only [Act.put, List.setIfInBounds_toArray, List.set_cons_zero, List.set_cons_succ, List.getElem_toArray, List.getElem_cons_zero, List.getElem_cons_succ]
          refine wpAnyH_ready (rs := [8]) (by kernel_rfl) (by simp) ?_
          refine AllReadyH.cons rfl (fun K hK => ?_) AllReadyH.nil
          rw [if_pos (by rfl)]
          refine wp_stM (v := (.agg #[.slice aHQ nHQ cHQ])) M0 rfl rfl rfl (wr_nat _ _ _ _) (.tail _ _ _ _ _ _ _ (Upd.head _ _ _ _ _)) ?_
          intro w1 M9 hT9
          replace HA := Lib.hid (HA.out.kept (M0.has (.tail _ _ _ _ _ (Has.head _ _ _ _))) (noPart_sl _ _ _) hT9)
          replace HK := Lib.hid (HK.out.kept (M0.has (.tail _ _ _ _ _ (Has.head _ _ _ _))) (noPart_sl _ _ _) hT9)
          replace HQ := Lib.hid (HQ.out.kept (M0.has (.tail _ _ _ _ _ (Has.head _ _ _ _))) (noPart_sl _ _ _) hT9)
          replace HR := Lib.hid (HR.out.kept (M0.has (.tail _ _ _ _ _ (Has.head _ _ _ _))) (noPart_sl _ _ _) hT9)
          replace M0 := M9
          clear M9 hT9
          clear hHeld
          refine hK.out _ _ (M0.cell (.tail _ _ _ _ _ (.tail _ _ _ _ _ (Has.head _ _ _ _))) (i := 0) rfl) (fun hHeld => ?_)
          clear hK K
          try simp only [Act.put, List.setIfInBounds_toArray, List.set_cons_zero, List.set_cons_succ, List.getElem_toArray, List.getElem_cons_zero, List.getElem_cons_succ]
          refine wpAnyH_ready (rs := [9]) (by kernel_rfl) (by simp) ?_
          refine AllReadyH.cons rfl (fun K hK => ?_) AllReadyH.nil
          rw [if_pos (by rfl)]
          refine wp_stM (v := (.agg #[.slice aHR nHR cHR])) M0 rfl rfl rfl (wr_nat _ _ _ _) (Upd.head _ _ _ _ _) ?_
          intro w1 M9 hT9
          replace HA := Lib.hid (HA.out.kept (M0.has (Has.head _ _ _ _)) (noPart_sl _ _ _) hT9)
          replace HK := Lib.hid (HK.out.kept (M0.has (Has.head _ _ _ _)) (noPart_sl _ _ _) hT9)
          replace HQ := Lib.hid (HQ.out.kept (M0.has (Has.head _ _ _ _)) (noPart_sl _ _ _) hT9)
          replace HR := Lib.hid (HR.out.kept (M0.has (Has.head _ _ _ _)) (noPart_sl _ _ _) hT9)
          replace M0 := M9
          clear M9 hT9
          clear hHeld
          refine hK.out _ _ (M0.cell (.tail _ _ _ _ _ (.tail _ _ _ _ _ (Has.head _ _ _ _))) (i := 0) rfl) (fun hHeld => ?_)
          clear hK K
          try simp only [Act.put, List.setIfInBounds_toArray, List.set_cons_zero, List.set_cons_succ, List.getElem_toArray, List.getElem_cons_zero, List.getElem_cons_succ]
          refine wpAnyH_done (by kernel_rfl) ?_ _
          go_wp2_with fail
          go_meet
          exact ⟨g2, g3, _, _, _, _, _, _, rfl, rfl, M0.perm16 (List.Perm.refl _), HA.out, HQ.out, HR.out⟩
        · rw [if_pos (by rfl)]
          refine wp_al (Mem.start w1) rfl zeroNat rfl ?_
          intro g3 w1 M9
          have hA := M9.below
          replace HA := Lib.hid (HA.out.below hA)
          replace HK := Lib.hid (HK.out.below hA)
          replace M0 : Mem w w1 [(g3, 26, [.slice none 0 0]), (g2, 26, [.slice none 0 0]), (g11, 26, [.slice aHA nHA cHA])] := Mem.join M0 M9
          clear hA M9
          clear hHeld
          refine hK.out _ _ (M0.cell (.tail _ _ _ _ _ (.tail _ _ _ _ _ (Has.head _ _ _ _))) (i := 0) rfl) (fun hHeld => ?_)
          clear hK K
          try simp only [Act.put, List.setIfInBounds_toArray, List.set_cons_zero, List.set_cons_succ, List.getElem_toArray, List.getElem_cons_zero, List.getElem_cons_succ]
          refine wpAnyH_ready (rs := [2]) (by kernel_rfl) (by simp) ?_
          refine AllReadyH.cons rfl (fun K hK => ?_) AllReadyH.nil
          go_simp
          refine (div_any16 _ _ 55340232221128654848 1000 _ HA.out HK.out ln_55340232221128654848 ln_1000).mono ?_
          rintro e w1 ⟨tv, tu, rfl, hv, hu, hA⟩
          replace M0 := M0.call hA
          replace HA := Lib.hid (HA.out.below hA)
          replace HK := Lib.hid (HK.out.below hA)
          obtain ⟨aHQ, nHQ, cHQ, rfl, hz⟩ := hv.nm
          have HQ : Hid (IsN w1 (.agg #[.slice aHQ nHQ cHQ]) (55340232221128654)) := Lib.hid hz
          clear hz hv
          obtain ⟨aHR, nHR, cHR, rfl, hz⟩ := hu.nm
          have HR : Hid (IsN w1 (.agg #[.slice aHR nHR cHR]) (848)) := Lib.hid hz
          clear hz hu
          clear hA
          try go_wp2_with fail
          clear hHeld
          refine hK.out _ _ (M0.cell (.tail _ _ _ _ _ (.tail _ _ _ _ _ (Has.head _ _ _ _))) (i := 0) rfl) (fun hHeld => ?_)
          clear hK K
          try simp only [Act.put, List.setIfInBounds_toArray, List.set_cons_zero, List.set_cons_succ, List.getElem_toArray, List.getElem_cons_zero, List.getElem_cons_succ]
          refine tkT 3 ?v16020 ?hy16020 hHeld ?rest16020
          case hy16020 => (intro w' hSw; (try dsimp only at hSw); go_simp; (try with_reducible rfl))
          try simp only [Act.put, List.setIfInBounds_toArray, List.set_cons_zero, List.set_cons_succ, List.getElem_toArray, List.getElem_cons_zero, List.getElem_cons_succ]
          refine tkT 4 ?v16021 ?hy16021 hHeld ?rest16021
          case hy16021 => (intro w' hSw; (try dsimp only at hSw); go_simp; (try with_reducible rfl))
          try simp only [Act.put, List.setIfInBounds_toArray, List.set_cons_zero, List.set_cons_succ, List.getElem_toArray, List.getElem_cons_zero, List.getElem_cons_succ]
          refine tkT 5 ?v16022 ?hy16022 hHeld ?rest16022
          case hy16022 => (intro w' hSw; (try dsimp only at hSw); go_simp; (try with_reducible rfl))
          try simp only [Act.put, List.setIfInBounds_toArray, List.set_cons_zero, List.set_cons_succ, List.getElem_toArray, List.getElem_cons_zero, List.getElem_cons_succ]
          refine wpAnyH_ready (rs := [8]) (by kernel_rfl) (by simp) ?_
          refine AllReadyH.cons rfl (fun K hK => ?_) AllReadyH.nil
          rw [if_pos (by rfl)]
          refine wp_stM (v := (.agg #[.slice aHQ nHQ cHQ])) M0 rfl rfl rfl (wr_nat _ _ _ _) (.tail _ _ _ _ _ _ _ (Upd.head _ _ _ _ _)) ?_
          intro w1 M9 hT9
          replace HA := Lib.hid (HA.out.kept (M0.has (.tail _ _ _ _ _ (Has.head _ _ _ _))) (noPart_sl _ _ _) hT9)
          replace HK := Lib.hid (HK.out.kept (M0.has (.tail _ _ _ _ _ (Has.head _ _ _ _))) (noPart_sl _ _ _) hT9)
          replace HQ := Lib.hid (HQ.out.kept (M0.has (.tail _ _ _ _ _ (Has.head _ _ _ _))) (noPart_sl _ _ _) hT9)
          replace HR := Lib.hid (HR.out.kept (M0.has (.tail _ _ _ _ _ (Has.head _ _ _ _))) (noPart_sl _ _ _) hT9)
          replace M0 := M9
          clear M9 hT9
          clear hHeld
          refine hK.out _ _ (M0.cell (.tail _ _ _ _ _ (.tail _ _ _ _ _ (Has.head _ _ _ _))) (i := 0) rfl) (fun hHeld => ?_)
          clear hK K
          try simp only [Act.put, List.setIfInBounds_toArray, List.set_cons_zero, List.set_cons_succ, List.getElem_toArray, List.getElem_cons_zero, List.getElem_cons_succ]
          refine wpAnyH_ready (rs := [9]) (by kernel_rfl) (by simp) ?_
          refine AllReadyH.cons rfl (fun K hK => ?_) AllReadyH.nil
          rw [if_pos (by rfl)]
          refine wp_stM (v := (.agg #[.slice aHR nHR cHR])) M0 rfl rfl rfl (wr_nat _ _ _ _) (Upd.head _ _ _ _ _) ?_
          intro w1 M9 hT9
          replace HA := Lib.hid (HA.out.kept (M0.has (Has.head _ _ _ _)) (noPart_sl _ _ _) hT9)
          replace HK := Lib.hid (HK.out.kept (M0.has (Has.head _ _ _ _)) (noPart_sl _ _ _) hT9)
          replace HQ := Lib.hid (HQ.out.kept (M0.has (Has.head _ _ _ _)) (noPart_sl _ _ _) hT9)
          replace HR := Lib.hid (HR.out.kept (M0.has (Has.head _ _ _ _)) (noPart_sl _ _ _) hT9)
          replace M0 := M9
          clear M9 hT9
          clear hHeld
          refine hK.out _ _ (M0.cell (.tail _ _ _ _ _ (.tail _ _ _ _ _ (Has.head _ _ _ _))) (i := 0) rfl) (fun hHeld => ?_)
          clear hK K
          try simp only [Act.put, List.setIfInBounds_toArray, List.set_cons_zero, List.set_cons_succ, List.getElem_toArray, List.getElem_cons_zero, List.getElem_cons_succ]
          refine wpAnyH_done (by kernel_rfl) ?_ _
          go_wp2_with fail
          go_meet
          exact ⟨g2, g3, _, _, _, _, _, _, rfl, rfl, M0.perm16 (List.Perm.refl _), HA.out, HQ.out, HR.out⟩
      · rw [if_pos (by rfl)]
        refine wp_al (Mem.start w1) rfl zeroNat rfl ?_
        intro g3 w1 M9
        have hA := M9.below
        replace HA := Lib.hid (HA.out.below hA)
        replace M0 : Mem w w1 [(g3, 26, [.slice none 0 0]), (g2, 26, [.slice none 0 0]), (g11, 26, [.slice aHA nHA cHA])] := Mem.join M0 M9
        clear hA M9
        clear hHeld
        refine hK.out _ _ (M0.cell (.tail _ _ _ _ _ (.tail _ _ _ _ _ (Has.head _ _ _ _))) (i := 0) rfl) (fun hHeld => ?_)
        clear hK K
        try simp only [Act.put, List.setIfInBounds_toArray, List.set_cons_zero, List.set_cons_succ, List.getElem_toArray, List.getElem_cons_zero, List.getElem_cons_succ]
        refine wpAnyH_ready (rs := [1]) (by kernel_rfl) (by simp) ?_
        refine AllReadyH.cons rfl (fun K hK => ?_) AllReadyH.nil
        go_simp
        refine (of_1000 _).mono ?_
        rintro e w1 ⟨tv, rfl, hv, hA⟩
        replace M0 := M0.call hA
        replace HA := Lib.hid (HA.out.below hA)
        obtain ⟨aHK, nHK, cHK, rfl, hz⟩ := hv.nm
        have HK : Hid (IsN w1 (.agg #[.slice aHK nHK cHK]) (1000)) := Lib.hid hz
        clear hz hv
        clear hA
        try go_wp2_with fail
        clear hHeld
        refine hK.out _ _ (M0.cell (.tail _ _ _ _ _ (.tail _ _ _ _ _ (Has.head _ _ _ _))) (i := 0) rfl) (fun hHeld => ?_)
        clear hK K
        try simp only [Act.put, List.setIfInBounds_toArray, List.set_cons_zero, List.set_cons_succ, List.getElem_toArray, List.getElem_cons_zero, List.getElem_cons_succ]
        refine wpAnyH_ready (rs := [2]) (by kernel_rfl) (by simp) ?_
        refine AllReadyH.cons rfl (fun K hK => ?_) AllReadyH.nil
        go_simp
        refine (div_any16 _ _ 55340232221128654848 1000 _ HA.out HK.out ln_55340232221128654848 ln_1000).mono ?_
        rintro e w1 ⟨tv, tu, rfl, hv, hu, hA⟩
        replace M0 := M0.call hA
        replace HA := Lib.hid (HA.out.below hA)
        replace HK := Lib.hid (HK.out.below hA)
        obtain ⟨aHQ, nHQ, cHQ, rfl, hz⟩ := hv.nm
        have HQ : Hid (IsN w1 (.agg #[.slice aHQ nHQ cHQ]) (55340232221128654)) := Lib.hid hz
        clear hz hv
        obtain ⟨aHR, nHR, cHR, rfl, hz⟩ := hu.nm
        have HR : Hid (IsN w1 (.agg #[.slice aHR nHR cHR]) (848)) := Lib.hid hz
        clear hz hu
        clear hA
        try go_wp2_with fail
        clear hHeld
        refine hK.out _ _ (M0.cell (.tail _ _ _ _ _ (.tail _ _ _ _ _ (Has.head _ _ _ _))) (i := 0) rfl) (fun hHeld => ?_)
        clear hK K
        try simp only [Act.put, List.setIfInBounds_toArray, List.set_cons_zero, List.set_cons_succ, List.getElem_toArray, List.getElem_cons_zero, List.getElem_cons_succ]
        refine tkT 3 ?v16023 ?hy16023 hHeld ?rest16023
        case hy16023 => (intro w' hSw; (try dsimp only at hSw); go_simp; (try with_reducible rfl))
        try simp only [Act.put, List.setIfInBounds_toArray, List.set_cons_zero, List.set_cons_succ, List.getElem_toArray, List.getElem_cons_zero, List.getElem_cons_succ]
        refine tkT 4 ?v16024 ?hy16024 hHeld ?rest16024
        case hy16024 => (intro w' hSw; (try dsimp only at hSw); go_simp; (try with_reducible rfl))
        try simp only [Act.put, List.setIfInBounds_toArray, List.set_cons_zero, List.set_cons_succ, List.getElem_toArray, List.getElem_cons_zero, List.getElem_cons_succ]
        refine tkT 5 ?v16025 ?hy16025 hHeld ?rest16025
        case hy16025 => (intro w' hSw; (try dsimp only at hSw); go_simp; (try with_reducible rfl))
        try simp only [Act.put, List.setIfInBounds_toArray, List.set_cons_zero, List.set_cons_succ, List.getElem_toArray, List.getElem_cons_zero, List.getElem_cons_succ]
        refine wpAnyH_ready (rs := [8]) (by kernel_rfl) (by simp) ?_
        refine AllReadyH.cons rfl (fun K hK => ?_) AllReadyH.nil
        rw [if_pos (by rfl)]
        refine wp_stM (v := (.agg #[.slice aHQ nHQ cHQ])) M0 rfl rfl rfl (wr_nat _ _ _ _) (.tail _ _ _ _ _ _ _ (Upd.head _ _ _ _ _)) ?_
        intro w1 M9 hT9
        replace HA := Lib.hid (HA.out.kept (M0.has (.tail _ _ _ _ _ (Has.head _ _ _ _))) (noPart_sl _ _ _) hT9)
        replace HK := Lib.hid (HK.out.kept (M0.has (.tail _ _ _ _ _ (Has.head _ _ _ _))) (noPart_sl _ _ _) hT9)
        replace HQ := Lib.hid (HQ.out.kept (M0.has (.tail _ _ _ _ _ (Has.head _ _ _ _))) (noPart_sl _ _ _) hT9)
        replace HR := Lib.hid (HR.out.kept (M0.has (.tail _ _ _ _ _ (Has.head _ _ _ _))) (noPart_sl _ _ _) hT9)
        replace M0 := M9
        clear M9 hT9
        clear hHeld
        refine hK.out _ _ (M0.cell (.tail _ _ _ _ _ (.tail _ _ _ _ _ (Has.head _ _ _ _))) (i := 0) rfl) (fun hHeld => ?_)
        clear hK K
        try simp only [Act.put, List.setIfInBounds_toArray, List.set_cons_zero, List.set_cons_succ, List.getElem_toArray, List.getElem_cons_zero, List.getElem_cons_succ]
        refine wpAnyH_ready (rs := [9]) (by kernel_rfl) (by simp) ?_
        refine AllReadyH.cons rfl (fun K hK => ?_) AllReadyH.nil
        rw [if_pos (by rfl)]
        refine wp_stM (v := (.agg #[.slice aHR nHR cHR])) M0 rfl rfl rfl (wr_nat _ _ _ _) (Upd.head _ _ _ _ _) ?_
        intro w1 M9 hT9
        replace HA := Lib.hid (HA.out.kept (M0.has (Has.head _ _ _ _)) (noPart_sl _ _ _) hT9)
        replace HK := Lib.hid (HK.out.kept (M0.has (Has.head _ _ _ _)) (noPart_sl _ _ _) hT9)
        replace HQ := Lib.hid (HQ.out.kept (M0.has (Has.head _ _ _ _)) (noPart_sl _ _ _) hT9)
        replace HR := Lib.hid (HR.out.kept (M0.has (Has.head _ _ _ _)) (noPart_sl _ _ _) hT9)
        replace M0 := M9
        clear M9 hT9
        clear hHeld
        refine hK.out _ _ (M0.cell (.tail _ _ _ _ _ (.tail _ _ _ _ _ (Has.head _ _ _ _))) (i := 0) rfl) (fun hHeld => ?_)
        clear hK K
        try simp only [Act.put, List.setIfInBounds_toArray, List.set_cons_zero, List.set_cons_succ, List.getElem_toArray, List.getElem_cons_zero, List.getElem_cons_succ]
        refine wpAnyH_done (by kernel_rfl) ?_ _
        go_wp2_with fail
        go_meet
        exact ⟨g2, g3, _, _, _, _, _, _, rfl, rfl, M0.perm16 (List.Perm.refl _), HA.out, HQ.out, HR.out⟩
    · rw [if_pos (by rfl)]
      refine wp_al (Mem.start w1.drew) rfl zeroNat rfl ?_
      intro g3 w1 M9
      have hA := M9.below
      replace HA := Lib.hid (HA.out.below hA)
      replace M0 : Mem w w1 [(g3, 26, [.slice none 0 0]), (g11, 26, [.slice aHA nHA cHA])] := Mem.join M0 M9
      clear hA M9
      clear hHeld
      refine hK.out _ _ (M0.cell (.tail _ _ _ _ _ (Has.head _ _ _ _)) (i := 0) rfl) (fun hHeld => ?_)
      clear hK K
      try simp only [Act.put, List.setIfInBounds_toArray, List.set_cons_zero, List.set_cons_succ, List.getElem_toArray, List.getElem_cons_zero, List.getElem_cons_succ]
      refine wpAnyH_ready (rs := [1, 6]) (by kernel_rfl) (by simp) ?_
      refine AllReadyH.cons rfl (fun K hK => ?_) (AllReadyH.cons rfl (fun K hK => ?_) AllReadyH.nil)
      · go_simp
        refine (of_1000 _).mono ?_
        rintro e w1 ⟨tv, rfl, hv, hA⟩
        replace M0 := M0.call hA
        replace HA := Lib.hid (HA.out.below hA)
        obtain ⟨aHK, nHK, cHK, rfl, hz⟩ := hv.nm
        have HK : Hid (IsN w1 (.agg #[.slice aHK nHK cHK]) (1000)) := Lib.hid hz
        clear hz hv
        clear hA
        try go_wp2_with fail
        clear hHeld
        refine hK.out _ _ (M0.cell (.tail _ _ _ _ _ (Has.head _ _ _ _)) (i := 0) rfl) (fun hHeld => ?_)
        clear hK K
        try simp only [Act.put, List.setIfInBounds_toArray, List.set_cons_zero, List.set_cons_succ, List.getElem_toArray, List.getElem_cons_zero, List.getElem_cons_succ]
        refine wpAnyH_ready (rs := [2, 6]) (by kernel_rfl) (by simp) ?_
        refine AllReadyH.cons rfl (fun K hK => ?_) (AllReadyH.cons rfl (fun K hK => ?_) AllReadyH.nil)
        · go_simp
          refine (div_any16 _ _ 55340232221128654848 1000 _ HA.out HK.out ln_55340232221128654848 ln_1000).mono ?_
          rintro e w1 ⟨tv, tu, rfl, hv, hu, hA⟩
          replace M0 := M0.call hA
          replace HA := Lib.hid (HA.out.below hA)
          replace HK := Lib.hid (HK.out.below hA)
          obtain ⟨aHQ, nHQ, cHQ, rfl, hz⟩ := hv.nm
          have HQ : Hid (IsN w1 (.agg #[.slice aHQ nHQ cHQ]) (55340232221128654)) := Lib.hid hz
          clear hz hv
          obtain ⟨aHR, nHR, cHR, rfl, hz⟩ := hu.nm
          have HR : Hid (IsN w1 (.agg #[.slice aHR nHR cHR]) (848)) := Lib.hid hz
          clear hz hu
          clear hA
          try go_wp2_with fail
          clear hHeld
          refine hK.out _ _ (M0.cell (.tail _ _ _ _ _ (Has.head _ _ _ _)) (i := 0) rfl) (fun hHeld => ?_)
          clear hK K
          try simp only [Act.put, List.setIfInBounds_toArray, List.set_cons_zero, List.set_cons_succ, List.getElem_toArray, List.getElem_cons_zero, List.getElem_cons_succ]
          refine tkT 3 ?v16026 ?hy16026 hHeld ?rest16026
          case hy16026 => (intro w' hSw; (try dsimp only at hSw); go_simp; (try with_reducible rfl))
          try simp only [Act.put, List.setIfInBounds_toArray, List.set_cons_zero, List.set_cons_succ, List.getElem_toArray, List.getElem_cons_zero, List.getElem_cons_succ]
          refine tkT 4 ?v16027 ?hy16027 hHeld ?rest16027
          case hy16027 => (intro w' hSw; (try dsimp only at hSw); go_simp; (try with_reducible rfl))
          try simp only [Act.put, List.setIfInBounds_toArray, List.set_cons_zero, List.set_cons_succ, List.getElem_toArray, List.getElem_cons_zero, List.getElem_cons_succ]
          refine tkT 5 ?v16028 ?hy16028 hHeld ?rest16028
          case hy16028 => (intro w' hSw; (try dsimp only at hSw); go_simp; (try with_reducible rfl))
          try simp only [Act.put, List.setIfInBounds_toArray, List.set_cons_zero, List.set_cons_succ, List.getElem_toArray, List.getElem_cons_zero, List.getElem_cons_succ]
          refine wpAnyH_ready (rs := [6]) (by kernel_rfl) (by simp) ?_
          refine AllReadyH.cons rfl (fun K hK => ?_) AllReadyH.nil
          rw [if_pos (by rfl)]
          refine wp_al (Mem.start w1) rfl zeroNat rfl ?_
          intro g2 w1 M9
          have hA := M9.below
          replace HA := Lib.hid (HA.out.below hA)
          replace HK := Lib.hid (HK.out.below hA)
          replace HQ := Lib.hid (HQ.out.below hA)
          replace HR := Lib.hid (HR.out.below hA)
          replace M0 : Mem w w1 [(g2, 26, [.slice none 0 0]), (g3, 26, [.slice none 0 0]), (g11, 26, [.slice aHA nHA cHA])] := Mem.join M0 M9
          clear hA M9
          clear hHeld
          refine hK.out _ _ (M0.cell (.tail _ _ _ _ _ (.tail _ _ _ _ _ (Has.head _ _ _ _))) (i := 0) rfl) (fun hHeld => ?_)
          clear hK K
          try simp only [Act.put, List.setIfInBounds_toArray, List.set_cons_zero, List.set_cons_succ, List.getElem_toArray, List.getElem_cons_zero, List.getElem_cons_succ]
          refine wpAnyH_ready (rs := [8]) (by kernel_rfl) (by simp) ?_
          refine AllReadyH.cons rfl (fun K hK => ?_) AllReadyH.nil
          rw [if_pos (by rfl)]
          refine wp_stM (v := (.agg #[.slice aHQ nHQ cHQ])) M0 rfl rfl rfl (wr_nat _ _ _ _) (Upd.head _ _ _ _ _) ?_
          intro w1 M9 hT9
          replace HA := Lib.hid (HA.out.kept (M0.has (Has.head _ _ _ _)) (noPart_sl _ _ _) hT9)
          replace HK := Lib.hid (HK.out.kept (M0.has (Has.head _ _ _ _)) (noPart_sl _ _ _) hT9)
          replace HQ := Lib.hid (HQ.out.kept (M0.has (Has.head _ _ _ _)) (noPart_sl _ _ _) hT9)
          replace HR := Lib.hid (HR.out.kept (M0.has (Has.head _ _ _ _)) (noPart_sl _ _ _) hT9)
          replace M0 := M9
          clear M9 hT9
          clear hHeld
          refine hK.out _ _ (M0.cell (.tail _ _ _ _ _ (.tail _ _ _ _ _ (Has.head _ _ _ _))) (i := 0) rfl) (fun hHeld => ?_)
          clear hK K
          try simp only [Act.put, List.setIfInBounds_toArray, List.set_cons_zero, List.set_cons_succ, List.getElem_toArray, List.getElem_cons_zero, List.getElem_cons_succ]
          refine wpAnyH_ready (rs := [9]) (by kernel_rfl) (by simp) ?_
          refine AllReadyH.cons rfl (fun K hK => ?_) AllReadyH.nil
          rw [if_pos (by rfl)]
          refine wp_stM (v := (.agg #[.slice aHR nHR cHR])) M0 rfl rfl rfl (wr_nat _ _ _ _) (.tail _ _ _ _ _ _ _ (Upd.head _ _ _ _ _)) ?_
          intro w1 M9 hT9
          replace HA := Lib.hid (HA.out.kept (M0.has (.tail _ _ _ _ _ (Has.head _ _ _ _))) (noPart_sl _ _ _) hT9)
          replace HK := Lib.hid (HK.out.kept (M0.has (.tail _ _ _ _ _ (Has.head _ _ _ _))) (noPart_sl _ _ _) hT9)
          replace HQ := Lib.hid (HQ.out.kept (M0.has (.tail _ _ _ _ _ (Has.head _ _ _ _))) (noPart_sl _ _ _) hT9)
          replace HR := Lib.hid (HR.out.kept (M0.has (.tail _ _ _ _ _ (Has.head _ _ _ _))) (noPart_sl _ _ _) hT9)
          replace M0 := M9
          clear M9 hT9
          clear hHeld
          refine hK.out _ _ (M0.cell (.tail _ _ _ _ _ (.tail _ _ _ _ _ (Has.head _ _ _ _))) (i := 0) rfl) (fun hHeld => ?_)
          clear hK K
          try simp only [Act.put, List.setIfInBounds_toArray, List.set_cons_zero, List.set_cons_succ, List.getElem_toArray, List.getElem_cons_zero, List.getElem_cons_succ]
          refine wpAnyH_done (by kernel_rfl) ?_ _
          go_wp2_with fail
          go_meet
          exact ⟨g2, g3, _, _, _, _, _, _, rfl, rfl, M0.perm16 (List.Perm.swap _ _ _), HA.out, HQ.out, HR.out⟩
        · rw [if_pos (by rfl)]
          refine wp_al (Mem.start w1) rfl zeroNat rfl ?_
          intro g2 w1 M9
          have hA := M9.below
          replace HA := Lib.hid (HA.out.below hA)
          replace HK := Lib.hid (HK.out.below hA)
          replace M0 : Mem w w1 [(g2, 26, [.slice none 0 0]), (g3, 26, [.slice none 0 0]), (g11, 26, [.slice aHA nHA cHA])] := Mem.join M0 M9
          clear hA M9
          clear hHeld
          refine hK.out _ _ (M0.cell (.tail _ _ _ _ _ (.tail _ _ _ _ _ (Has.head _ _ _ _))) (i := 0) rfl) (fun hHeld => ?_)
          clear hK K
          try simp only [Act.put, List.setIfInBounds_toArray, List.set_cons_zero, List.set_cons_succ, List.getElem_toArray, List.getElem_cons_zero, List.getElem_cons_succ]
          refine wpAnyH_ready (rs := [2]) (by kernel_rfl) (by simp) ?_
          refine AllReadyH.cons rfl (fun K hK => ?_) AllReadyH.nil
          go_simp
          refine (div_any16 _ _ 55340232221128654848 1000 _ HA.out HK.out ln_55340232221128654848 ln_1000).mono ?_
          rintro e w1 ⟨tv, tu, rfl, hv, hu, hA⟩
          replace M0 := M0.call hA
          replace HA := Lib.hid (HA.out.below hA)
          replace HK := Lib.hid (HK.out.below hA)
          obtain ⟨aHQ, nHQ, cHQ, rfl, hz⟩ := hv.nm
          have HQ : Hid (IsN w1 (.agg #[.slice aHQ nHQ cHQ]) (55340232221128654)) := Lib.hid hz
          clear hz hv
          obtain ⟨aHR, nHR, cHR, rfl, hz⟩ := hu.nm
          have HR : Hid (IsN w1 (.agg #[.slice aHR nHR cHR]) (848)) := Lib.hid hz
          clear hz hu
          clear hA
          try go_wp2_with fail
          clear hHeld
          refine hK.out _ _ (M0.cell (.tail _ _ _ _ _ (.tail _ _ _ _ _ (Has.head _ _ _ _))) (i := 0) rfl) (fun hHeld => ?_)
          clear hK K
          try simp only [Act.put, List.setIfInBounds_toArray, List.set_cons_zero, List.set_cons_succ, List.getElem_toArray, List.getElem_cons_zero, List.getElem_cons_succ]
          refine tkT 3 ?v16029 ?hy16029 hHeld ?rest16029
          case hy16029 => (intro w' hSw; (try dsimp only at hSw); go_simp; (try with_reducible rfl))
          try simp only [Act.put, List.setIfInBounds_toArray, List.set_cons_zero, List.set_cons_succ, List.getElem_toArray, List.getElem_cons_zero, List.getElem_cons_succ]
          refine tkT 4 ?v16030 ?hy16030 hHeld ?rest16030
          case hy16030 => (intro w' hSw; (try dsimp only at hSw); go_simp; (try with_reducible rfl))
          try simp only [Act.put, List.setIfInBounds_toArray, List.set_cons_zero, List.set_cons_succ, List.getElem_toArray, List.getElem_cons_zero, List.getElem_cons_succ]
          refine tkT 5 ?v16031 ?hy16031 hHeld ?rest16031
          case hy16031 => (intro w' hSw; (try dsimp only at hSw); go_simp; (try with_reducible rfl))
          try simp only [Act.put, List.setIfInBounds_toArray, List.set_cons_zero, List.set_cons_succ, List.getElem_toArray, List.getElem_cons_zero, List.getElem_cons_succ]
          refine wpAnyH_ready (rs := [8]) (by kernel_rfl) (by simp) ?_
          refine AllReadyH.cons rfl (fun K hK => ?_) AllReadyH.nil
          rw [if_pos (by rfl)]
          refine wp_stM (v := (.agg #[.slice aHQ nHQ cHQ])) M0 rfl rfl rfl (wr_nat _ _ _ _) (Upd.head _ _ _ _ _) ?_
          intro w1 M9 hT9
          replace HA := Lib.hid (HA.out.kept (M0.has (Has.head _ _ _ _)) (noPart_sl _ _ _) hT9)
          replace HK := Lib.hid (HK.out.kept (M0.has (Has.head _ _ _ _)) (noPart_sl _ _ _) hT9)
          replace HQ := Lib.hid (HQ.out.kept (M0.has (Has.head _ _ _ _)) (noPart_sl _ _ _) hT9)
          replace HR := Lib.hid (HR.out.kept (M0.has (Has.head _ _ _ _)) (noPart_sl _ _ _) hT9)
          replace M0 := M9
          clear M9 hT9
          clear hHeld
          refine hK.out _ _ (M0.cell (.tail _ _ _ _ _ (.tail _ _ _ _ _ (Has.head _ _ _ _))) (i := 0) rfl) (fun hHeld => ?_)
          clear hK K
          try simp only [Act.put, List.setIfInBounds_toArray, List.set_cons_zero, List.set_cons_succ, List.getElem_toArray, List.getElem_cons_zero, List.getElem_cons_succ]
          refine wpAnyH_ready (rs := [9]) (by kernel_rfl) (by simp) ?_
          refine AllReadyH.cons rfl (fun K hK => ?_) AllReadyH.nil
          rw [if_pos (by rfl)]
          refine wp_stM (v := (.agg #[.slice aHR nHR cHR])) M0 rfl rfl rfl (wr_nat _ _ _ _) (.tail _ _ _ _ _ _ _ (Upd.head _ _ _ _ _)) ?_
          intro w1 M9 hT9
          replace HA := Lib.hid (HA.out.kept (M0.has (.tail _ _ _ _ _ (Has.head _ _ _ _))) (noPart_sl _ _ _) hT9)
          replace HK := Lib.hid (HK.out.kept (M0.has (.tail _ _ _ _ _ (Has.head _ _ _ _))) (noPart_sl _ _ _) hT9)
          replace HQ := Lib.hid (HQ.out.kept (M0.has (.tail _ _ _ _ _ (Has.head _ _ _ _))) (noPart_sl _ _ _) hT9)
          replace HR := Lib.hid (HR.out.kept (M0.has (.tail _ _ _ _ _ (Has.head _ _ _ _))) (noPart_sl _ _ _) hT9)
          replace M0 := M9
          clear M9 hT9
          clear hHeld
          refine hK.out _ _ (M0.cell (.tail _ _ _ _ _ (.tail _ _ _ _ _ (Has.head _ _ _ _))) (i := 0) rfl) (fun hHeld => ?_)
          clear hK K
          try simp only [Act.put, List.setIfInBounds_toArray, List.set_cons_zero, List.set_cons_succ, List.getElem_toArray, List.getElem_cons_zero, List.getElem_cons_succ]
          refine wpAnyH_done (by kernel_rfl) ?_ _
          go_wp2_with fail
          go_meet
          exact ⟨g2, g3, _, _, _, _, _, _, rfl, rfl, M0.perm16 (List.Perm.swap _ _ _), HA.out, HQ.out, HR.out⟩
      · rw [if_pos (by rfl)]
        refine wp_al (Mem.start w1) rfl zeroNat rfl ?_
        intro g2 w1 M9
        have hA := M9.below
        replace HA := Lib.hid (HA.out.below hA)
        replace M0 : Mem w w1 [(g2, 26, [.slice none 0 0]), (g3, 26, [.slice none 0 0]), (g11, 26, [.slice aHA nHA cHA])] := Mem.join M0 M9
        clear hA M9
        clear hHeld
        refine hK.out _ _ (M0.cell (.tail _ _ _ _ _ (.tail _ _ _ _ _ (Has.head _ _ _ _))) (i := 0) rfl) (fun hHeld => ?_)
        clear hK K
        try simp only [Act.put, List.setIfInBounds_toArray, List.set_cons_zero, List.set_cons_succ, List.getElem_toArray, List.getElem_cons_zero, List.getElem_cons_succ]
        refine wpAnyH_ready (rs := [1]) (by kernel_rfl) (by simp) ?_
        refine AllReadyH.cons rfl (fun K hK => ?_) AllReadyH.nil
        go_simp
        refine (of_1000 _).mono ?_
        rintro e w1 ⟨tv, rfl, hv, hA⟩
        replace M0 := M0.call hA
        replace HA := Lib.hid (HA.out.below hA)
        obtain ⟨aHK, nHK, cHK, rfl, hz⟩ := hv.nm
        have HK : Hid (IsN w1 (.agg #[.slice aHK nHK cHK]) (1000)) := Lib.hid hz
        clear hz hv
        clear hA
        try go_wp2_with fail
        clear hHeld
        refine hK.out _ _ (M0.cell (.tail _ _ _ _ _ (.tail _ _ _ _ _ (Has.head _ _ _ _))) (i := 0) rfl) (fun hHeld => ?_)
        clear hK K
        try simp only [Act.put, List.setIfInBounds_toArray, List.set_cons_zero, List.set_cons_succ, List.getElem_toArray, List.getElem_cons_zero, List.getElem_cons_succ]
        refine wpAnyH_ready (rs := [2]) (by kernel_rfl) (by simp) ?_
        refine AllReadyH.cons rfl (fun K hK => ?_) AllReadyH.nil
        go_simp
        refine (div_any16 _ _ 55340232221128654848 1000 _ HA.out HK.out ln_55340232221128654848 ln_1000).mono ?_
        rintro e w1 ⟨tv, tu, rfl, hv, hu, hA⟩
        replace M0 := M0.call hA
        replace HA := Lib.hid (HA.out.below hA)
        replace HK := Lib.hid (HK.out.below hA)
        obtain ⟨aHQ, nHQ, cHQ, rfl, hz⟩ := hv.nm
        have HQ : Hid (IsN w1 (.agg #[.slice aHQ nHQ cHQ]) (55340232221128654)) := Lib.hid hz
        clear hz hv
        obtain ⟨aHR, nHR, cHR, rfl, hz⟩ := hu.nm
        have HR : Hid (IsN w1 (.agg #[.slice aHR nHR cHR]) (848)) := Lib.hid hz
        clear hz hu
        clear hA
        try go_wp2_with fail
        clear hHeld
        refine hK.out _ _ (M0.cell (.tail _ _ _ _ _ (.tail _ _ _ _ _ (Has.head _ _ _ _))) (i := 0) rfl) (fun hHeld => ?_)
        clear hK K
        try simp only [Act.put, List.setIfInBounds_toArray, List.set_cons_zero, List.set_cons_succ, List.getElem_toArray, List.getElem_cons_zero, List.getElem_cons_succ]
        refine tkT 3 ?v16032 ?hy16032 hHeld ?rest16032
        case hy16032 => (intro w' hSw; (try dsimp only at hSw); go_simp; (try with_reducible rfl))
        try simp only [Act.put, List.setIfInBounds_toArray, List.set_cons_zero, List.set_cons_succ, List.getElem_toArray, List.getElem_cons_zero, List.getElem_cons_succ]
        refine tkT 4 ?v16033 ?hy16033 hHeld ?rest16033
        case hy16033 => (intro w' hSw; (try dsimp only at hSw); go_simp; (try with_reducible rfl))
        try simp only [Act.put, List.setIfInBounds_toArray, List.set_cons_zero, List.set_cons_succ, List.getElem_toArray, List.getElem_cons_zero, List.getElem_cons_succ]
        refine tkT 5 ?v16034 ?hy16034 hHeld ?rest16034
        case hy16034 => (intro w' hSw; (try dsimp only at hSw); go_simp; (try with_reducible rfl))
        try simp only [Act.put, List.setIfInBounds_toArray, List.set_cons_zero, List.set_cons_succ, List.getElem_toArray, List.getElem_cons_zero, List.getElem_cons_succ]
        refine wpAnyH_ready (rs := [8]) (by kernel_rfl) (by simp) ?_
        refine AllReadyH.cons rfl (fun K hK => ?_) AllReadyH.nil
        rw [if_pos (by rfl)]
        refine wp_stM (v := (.agg #[.slice aHQ nHQ cHQ])) M0 rfl rfl rfl (wr_nat _ _ _ _) (Upd.head _ _ _ _ _) ?_
        intro w1 M9 hT9
        replace HA := Lib.hid (HA.out.kept (M0.has (Has.head _ _ _ _)) (noPart_sl _ _ _) hT9)
        replace HK := Lib.hid (HK.out.kept (M0.has (Has.head _ _ _ _)) (noPart_sl _ _ _) hT9)
        replace HQ := Lib.hid (HQ.out.kept (M0.has (Has.head _ _ _ _)) (noPart_sl _ _ _) hT9)
        replace HR := Lib.hid (HR.out.kept (M0.has (Has.head _ _ _ _)) (noPart_sl _ _ _) hT9)
        replace M0 := M9
        clear M9 hT9
        clear hHeld
        refine hK.out _ _ (M0.cell (.tail _ _ _ _ _ (.tail _ _ _ _ _ (Has.head _ _ _ _))) (i := 0) rfl) (fun hHeld => ?_)
        clear hK K
        try simp only [Act.put, List.setIfInBounds_toArray, List.set_cons_zero, List.set_cons_succ, List.getElem_toArray, List.getElem_cons_zero, List.getElem_cons_succ]
        refine wpAnyH_ready (rs := [9]) (by kernel_rfl) (by simp) ?_
        refine AllReadyH.cons rfl (fun K hK => ?_) AllReadyH.nil
        rw [if_pos (by rfl)]
        refine wp_stM (v := (.agg #[.slice aHR nHR cHR])) M0 rfl rfl rfl (wr_nat _ _ _ _) (.tail _ _ _ _ _ _ _ (Upd.head _ _ _ _ _)) ?_
        intro w1 M9 hT9
        replace HA := Lib.hid (HA.out.kept (M0.has (.tail _ _ _ _ _ (Has.head _ _ _ _))) (noPart_sl _ _ _) hT9)
        replace HK := Lib.hid (HK.out.kept (M0.has (.tail _ _ _ _ _ (Has.head _ _ _ _))) (noPart_sl _ _ _) hT9)
        replace HQ := Lib.hid (HQ.out.kept (M0.has (.tail _ _ _ _ _ (Has.head _ _ _ _))) (noPart_sl _ _ _) hT9)
        replace HR := Lib.hid (HR.out.kept (M0.has (.tail _ _ _ _ _ (Has.head _ _ _ _))) (noPart_sl _ _ _) hT9)
        replace M0 := M9
        clear M9 hT9
        clear hHeld
        refine hK.out _ _ (M0.cell (.tail _ _ _ _ _ (.tail _ _ _ _ _ (Has.head _ _ _ _))) (i := 0) rfl) (fun hHeld => ?_)
        clear hK K
        try simp only [Act.put, List.setIfInBounds_toArray, List.set_cons_zero, List.set_cons_succ, List.getElem_toArray, List.getElem_cons_zero, List.getElem_cons_succ]
        refine wpAnyH_done (by kernel_rfl) ?_ _
        go_wp2_with fail
        go_meet
        exact ⟨g2, g3, _, _, _, _, _, _, rfl, rfl, M0.perm16 (List.Perm.swap _ _ _), HA.out, HQ.out, HR.out⟩
  obtain ⟨g2, g3, aHQ, nHQ, cHQ, aHR, nHR, cHR, rfl, rfl, M1, hA1, hQ1, hR1⟩ := hcut
  replace M0 := M1
  replace HA := Lib.hid hA1
  have HQ := Lib.hid hQ1
  have HR := Lib.hid hR1
  clear M1 hA1 hQ1 hR1
  try simp only [Exit.then, Exit.inBlock]
  go_wp2_with ((with_reducible refine (?_ : Go.wpList _ _ _ (_ :: _) _ _)); (first | go_skip | (refine wpL_ldc M0 rfl rfl rfl ?_) | (refine wpL_lgc M0 rfl rfl rfl ?_) | (refine wpL_stc M0 rfl rfl rfl rfl ?_; clear M0; intro w' M0) | (refine wpL_sti M0 rfl rfl rfl rfl ?_; clear M0; intro w' M0) | (refine wpL_sth M0 rfl rfl rfl rfl (wr_minus _ _ _) ?_; clear M0; intro w' M0)))
  refine (of_18446744073709551615 _).mono ?_
  rintro e w1 ⟨tv, rfl, hv, hA⟩
  replace M0 := M0.call hA
  replace HA := Lib.hid (HA.out.below hA)
  replace HQ := Lib.hid (HQ.out.below hA)
  replace HR := Lib.hid (HR.out.below hA)
  obtain ⟨aHK, nHK, cHK, rfl, hz⟩ := hv.nm
  have HK : Hid (IsN w1 (.agg #[.slice aHK nHK cHK]) (18446744073709551615)) := Lib.hid hz
  clear hz hv
  clear hA
  go_wp2_with ((with_reducible refine (?_ : Go.wpList _ _ _ (_ :: _) _ _)); (first | go_skip | (refine wpL_ldc M0 rfl rfl rfl ?_) | (refine wpL_lgc M0 rfl rfl rfl ?_) | (refine wpL_stc M0 rfl rfl rfl rfl ?_; clear M0; intro w' M0) | (refine wpL_sti M0 rfl rfl rfl rfl ?_; clear M0; intro w' M0) | (refine wpL_sth M0 rfl rfl rfl rfl (wr_minus _ _ _) ?_; clear M0; intro w' M0)))
  refine (uint_told _ 18446744073709551615 18446744073709551615 true _ HK.out ln_18446744073709551615 rfl rfl).mono ?_
  rintro e w1 ⟨rfl, hA⟩
  replace M0 := M0.call hA
  replace HA := Lib.hid (HA.out.below hA)
  replace HQ := Lib.hid (HQ.out.below hA)
  replace HR := Lib.hid (HR.out.below hA)
  replace HK := Lib.hid (HK.out.below hA)
  clear hA
  clear HK
  go_wp2_with ((with_reducible refine (?_ : Go.wpList _ _ _ (_ :: _) _ _)); (first | go_skip | (refine wpL_ldc M0 rfl rfl rfl ?_) | (refine wpL_lgc M0 rfl rfl rfl ?_) | (refine wpL_stc M0 rfl rfl rfl rfl ?_; clear M0; intro w' M0) | (refine wpL_sti M0 rfl rfl rfl rfl ?_; clear M0; intro w' M0) | (refine wpL_sth M0 rfl rfl rfl rfl (wr_minus _ _ _) ?_; clear M0; intro w' M0)))
  refine (uint_told _ 55340232221128654848 0 false _ HA.out ln_55340232221128654848 rfl rfl).mono ?_
  rintro e w1 ⟨rfl, hA⟩
  replace M0 := M0.call hA
  replace HA := Lib.hid (HA.out.below hA)
  replace HQ := Lib.hid (HQ.out.below hA)
  replace HR := Lib.hid (HR.out.below hA)
  clear hA
  go_wp2_with ((with_reducible refine (?_ : Go.wpList _ _ _ (_ :: _) _ _)); (first | go_skip | (refine wpL_ldc M0 rfl rfl rfl ?_) | (refine wpL_lgc M0 rfl rfl rfl ?_) | (refine wpL_stc M0 rfl rfl rfl rfl ?_; clear M0; intro w' M0) | (refine wpL_sti M0 rfl rfl rfl rfl ?_; clear M0; intro w' M0) | (refine wpL_sth M0 rfl rfl rfl rfl (wr_minus _ _ _) ?_; clear M0; intro w' M0)))
  have hA := drew_below w1
  replace HA := Lib.hid (HA.out.below hA)
  replace HQ := Lib.hid (HQ.out.below hA)
  replace HR := Lib.hid (HR.out.below hA)
  replace M0 := M0.drew
  clear hA
  refine wp_region_held_drew (S := (fun w' : World => w'.cell? ⟨g11, 0, none⟩ = some (.slice aHA nHA cHA) ∧ w'.cell? ⟨g2, 0, none⟩ = some (.slice aHQ nHQ cHQ) ∧ w'.cell? ⟨g3, 0, none⟩ = some (.slice aHR nHR cHR))) (by kernel_rfl) (⟨M0.cell (.tail _ _ _ _ _ (.tail _ _ _ _ _ (Has.head _ _ _ _))) (i := 0) rfl, M0.cell (.tail _ _ _ _ _ (Has.head _ _ _ _)) (i := 0) rfl, M0.cell (Has.head _ _ _ _) (i := 0) rfl⟩) (fun hHeld => ?_)
  refine tkT 0 ?v1 ?hy1 hHeld ?rest1 (hw := by kernel_rfl)
  case hy1 => (intro w' hSw; (try dsimp only at hSw); go_simp; (try with_reducible rfl))
  try simp only [Act.put, puts]
  refine wpAnyH_ready (rs := [1]) (by kernel_rfl) (by simp) ?_
  refine AllReadyH.cons rfl (fun K hK => ?_) AllReadyH.nil
  go_simp
  refine (text_told _ _ ⟨#[53, 53, 51, 52, 48, 50, 51, 50, 50, 50, 49, 49, 50, 56, 54, 53, 52, 56, 52, 56]⟩ _ HA.out ln_55340232221128654848 tx_55340232221128654848).mono ?_
  rintro e w1 ⟨rfl, hA⟩
  replace M0 := M0.call hA
  replace HA := Lib.hid (HA.out.below hA)
  replace HQ := Lib.hid (HQ.out.below hA)
  replace HR := Lib.hid (HR.out.below hA)
  clear hA
  clear hHeld
  try go_wp2_with fail
  refine hK.out _ _ (⟨M0.cell (.tail _ _ _ _ _ (.tail _ _ _ _ _ (Has.head _ _ _ _))) (i := 0) rfl, M0.cell (.tail _ _ _ _ _ (Has.head _ _ _ _)) (i := 0) rfl, M0.cell (Has.head _ _ _ _) (i := 0) rfl⟩) (fun hHeld => ?_)
  clear hK K
  try simp only [Act.put, puts]
  refine tkT 2 ?v3 ?hy3 hHeld ?rest3 (hw := by kernel_rfl)
  case hy3 => (intro w' hSw; (try dsimp only at hSw); go_simp; (try with_reducible rfl))
  try simp only [Act.put, puts]
  refine tkT 3 ?v4 ?hy4 hHeld ?rest4 (hw := by kernel_rfl)
  case hy4 => (intro w' hSw; (try dsimp only at hSw); go_simp; (try with_reducible rfl))
  try simp only [Act.put, puts]
  refine tkT 4 ?v5 ?hy5 hHeld ?rest5 (hw := by kernel_rfl)
  case hy5 => (intro w' hSw; (try dsimp only at hSw); go_simp; (try with_reducible rfl))
  try simp only [Act.put, puts]
  refine wpAnyH_ready (rs := [5]) (by kernel_rfl) (by simp) ?_
  refine AllReadyH.cons rfl (fun K hK => ?_) AllReadyH.nil
  go_simp
  refine (text_told _ _ ⟨#[53, 53, 51, 52, 48, 50, 51, 50, 50, 50, 49, 49, 50, 56, 54, 53, 52]⟩ _ HQ.out ln_55340232221128654 tx_55340232221128654).mono ?_
  rintro e w1 ⟨rfl, hA⟩
  replace M0 := M0.call hA
  replace HA := Lib.hid (HA.out.below hA)
  replace HQ := Lib.hid (HQ.out.below hA)
  replace HR := Lib.hid (HR.out.below hA)
  clear hA
  clear hHeld
  try go_wp2_with fail
  refine hK.out _ _ (⟨M0.cell (.tail _ _ _ _ _ (.tail _ _ _ _ _ (Has.head _ _ _ _))) (i := 0) rfl, M0.cell (.tail _ _ _ _ _ (Has.head _ _ _ _)) (i := 0) rfl, M0.cell (Has.head _ _ _ _) (i := 0) rfl⟩) (fun hHeld => ?_)
  clear hK K
  try simp only [Act.put, puts]
  refine tkT 6 ?v7 ?hy7 hHeld ?rest7 (hw := by kernel_rfl)
  case hy7 => (intro w' hSw; (try dsimp only at hSw); go_simp; (try with_reducible rfl))
  try simp only [Act.put, puts]
  refine tkT 7 ?v8 ?hy8 hHeld ?rest8 (hw := by kernel_rfl)
  case hy8 => (intro w' hSw; (try dsimp only at hSw); go_simp; (try with_reducible rfl))
  try simp only [Act.put, puts]
  refine tkT 8 ?v9 ?hy9 hHeld ?rest9 (hw := by kernel_rfl)
  case hy9 => (intro w' hSw; (try dsimp only at hSw); go_simp; (try with_reducible rfl))
  try simp only [Act.put, puts]
  refine tkT 9 ?v10 ?hy10 hHeld ?rest10 (hw := by kernel_rfl)
  case hy10 => (intro w' hSw; (try dsimp only at hSw); go_simp; (try with_reducible rfl))
  try simp only [Act.put, puts]
  refine wpAnyH_ready (rs := [10]) (by kernel_rfl) (by simp) ?_
  refine AllReadyH.cons rfl (fun K hK => ?_) AllReadyH.nil
  go_simp
  refine (text_told _ _ ⟨#[56, 52, 56]⟩ _ HR.out ln_848 tx_848).mono ?_
  rintro e w1 ⟨rfl, hA⟩
  replace M0 := M0.call hA
  replace HA := Lib.hid (HA.out.below hA)
  replace HQ := Lib.hid (HQ.out.below hA)
  replace HR := Lib.hid (HR.out.below hA)
  clear hA
  clear hHeld
  try go_wp2_with fail
  refine hK.out _ _ (⟨M0.cell (.tail _ _ _ _ _ (.tail _ _ _ _ _ (Has.head _ _ _ _))) (i := 0) rfl, M0.cell (.tail _ _ _ _ _ (Has.head _ _ _ _)) (i := 0) rfl, M0.cell (Has.head _ _ _ _) (i := 0) rfl⟩) (fun hHeld => ?_)
  clear hK K
  try simp only [Act.put, puts]
  refine tkT 11 ?v12 ?hy12 hHeld ?rest12 (hw := by kernel_rfl)
  case hy12 => (intro w' hSw; (try dsimp only at hSw); go_simp; (try with_reducible rfl))
  try simp only [Act.put, puts]
  refine tkT 12 ?v13 ?hy13 hHeld ?rest13 (hw := by kernel_rfl)
  case hy13 => (intro w' hSw; (try dsimp only at hSw); go_simp; (try with_reducible rfl))
  try simp only [Act.put, puts]
  refine tkT 13 ?v14 ?hy14 hHeld ?rest14 (hw := by kernel_rfl)
  case hy14 => (intro w' hSw; (try dsimp only at hSw); go_simp; (try with_reducible rfl))
  try simp only [Act.put, puts]
  refine tkT 14 ?v15 ?hy15 hHeld ?rest15 (hw := by kernel_rfl)
  case hy15 => (intro w' hSw; (try dsimp only at hSw); go_simp; (try with_reducible rfl))
  try simp only [Act.put, puts]
  refine tkT 15 ?v16 ?hy16 hHeld ?rest16 (hw := by kernel_rfl)
  case hy16 => (intro w' hSw; (try dsimp only at hSw); go_simp; (try with_reducible rfl))
  try simp only [Act.put, puts]
  refine tkT 16 ?v17 ?hy17 hHeld ?rest17 (hw := by kernel_rfl)
  case hy17 => (intro w' hSw; (try dsimp only at hSw); go_simp; (try with_reducible rfl))
  try simp only [Act.put, puts]
  refine tkT 17 ?v18 ?hy18 hHeld ?rest18 (hw := by kernel_rfl)
  case hy18 => (intro w' hSw; (try dsimp only at hSw); go_simp; (try with_reducible rfl))
  try simp only [Act.put, puts]
  refine tkT 18 ?v19 ?hy19 hHeld ?rest19 (hw := by kernel_rfl)
  case hy19 => (intro w' hSw; (try dsimp only at hSw); go_simp; (try with_reducible rfl))
  try simp only [Act.put, puts]
  refine tkT 19 ?v20 ?hy20 hHeld ?rest20 (hw := by kernel_rfl)
  case hy20 => (intro w' hSw; (try dsimp only at hSw); go_simp; (try with_reducible rfl))
  try simp only [Act.put, puts]
  refine tkT 20 ?v21 ?hy21 hHeld ?rest21 (hw := by kernel_rfl)
  case hy21 => (intro w' hSw; (try dsimp only at hSw); go_simp; (try with_reducible rfl))
  try simp only [Act.put, puts]
  refine tkT 21 ?v22 ?hy22 hHeld ?rest22 (hw := by kernel_rfl)
  case hy22 => (intro w' hSw; (try dsimp only at hSw); go_simp; (try with_reducible rfl))
  try simp only [Act.put, puts]
  refine tkT 22 ?v23 ?hy23 hHeld ?rest23 (hw := by kernel_rfl)
  case hy23 => (intro w' hSw; (try dsimp only at hSw); go_simp; (try with_reducible rfl))
  try simp only [Act.put, puts]
  refine tkT 23 ?v24 ?hy24 hHeld ?rest24 (hw := by kernel_rfl)
  case hy24 => (intro w' hSw; (try dsimp only at hSw); go_simp; (try with_reducible rfl))
  try simp only [Act.put, puts]
  refine tkT 24 ?v25 ?hy25 hHeld ?rest25 (hw := by kernel_rfl)
  case hy25 => (intro w' hSw; (try dsimp only at hSw); go_simp; (try with_reducible rfl))
  try simp only [Act.put, puts]
  refine tkT 25 ?v26 ?hy26 hHeld ?rest26 (hw := by kernel_rfl)
  case hy26 => (intro w' hSw; (try dsimp only at hSw); go_simp; (try with_reducible rfl))
  try simp only [Act.put, puts]
  refine wpAnyH_ready (rs := [26]) (by kernel_rfl) (by simp) ?_
  refine AllReadyH.cons rfl (fun K hK => ?_) AllReadyH.nil
  go_simp
  refine (of_5 _).mono ?_
  rintro e w1 ⟨tv, rfl, hv, hA⟩
  replace M0 := M0.call hA
  replace HA := Lib.hid (HA.out.below hA)
  replace HQ := Lib.hid (HQ.out.below hA)
  replace HR := Lib.hid (HR.out.below hA)
  obtain ⟨aHK, nHK, cHK, rfl, hz⟩ := hv.nm
  have HK : Hid (IsN w1 (.agg #[.slice aHK nHK cHK]) (5)) := Lib.hid hz
  clear hz hv
  clear hA
  clear hHeld
  try go_wp2_with fail
  refine hK.out _ _ (⟨M0.cell (.tail _ _ _ _ _ (.tail _ _ _ _ _ (Has.head _ _ _ _))) (i := 0) rfl, M0.cell (.tail _ _ _ _ _ (Has.head _ _ _ _)) (i := 0) rfl, M0.cell (Has.head _ _ _ _) (i := 0) rfl⟩) (fun hHeld => ?_)
  clear hK K
  try simp only [Act.put, puts]
  refine wpAnyH_ready (rs := [27]) (by kernel_rfl) (by simp) ?_
  refine AllReadyH.cons rfl (fun K hK => ?_) AllReadyH.nil
  go_simp
  refine (cmp_told _ _ 55340232221128654848 5 1 _ HA.out HK.out ln_55340232221128654848 ln_5 rfl).mono ?_
  rintro e w1 ⟨rfl, hA⟩
  replace M0 := M0.call hA
  replace HA := Lib.hid (HA.out.below hA)
  replace HQ := Lib.hid (HQ.out.below hA)
  replace HR := Lib.hid (HR.out.below hA)
  replace HK := Lib.hid (HK.out.below hA)
  clear hA
  clear HK
  clear HQ
  clear HR
  clear hHeld
  try go_wp2_with fail
  refine hK.out _ _ (⟨M0.cell (.tail _ _ _ _ _ (.tail _ _ _ _ _ (Has.head _ _ _ _))) (i := 0) rfl, M0.cell (.tail _ _ _ _ _ (Has.head _ _ _ _)) (i := 0) rfl, M0.cell (Has.head _ _ _ _) (i := 0) rfl⟩) (fun hHeld => ?_)
  clear hK K
  try simp only [Act.put, puts]
  refine tkT 28 ?v29 ?hy29 hHeld ?rest29 (hw := by kernel_rfl)
  case hy29 => (intro w' hSw; (try dsimp only at hSw); go_simp; (try with_reducible rfl))
  try simp only [Act.put, puts]
  refine tkT 29 ?v30 ?hy30 hHeld ?rest30 (hw := by kernel_rfl)
  case hy30 => (intro w' hSw; (try dsimp only at hSw); go_simp; (try with_reducible rfl))
  try simp only [Act.put, puts]
  refine tkT 30 ?v31 ?hy31 hHeld ?rest31 (hw := by kernel_rfl)
  case hy31 => (intro w' hSw; (try dsimp only at hSw); go_simp; (try with_reducible rfl))
  try simp only [Act.put, puts]
  refine wpAnyH_ready (rs := [31]) (by kernel_rfl) (by simp) ?_
  refine AllReadyH.cons rfl (fun K hK => ?_) AllReadyH.nil
  go_simp
  refine (of_3 _).mono ?_
  rintro e w1 ⟨tv, rfl, hv, hA⟩
  replace M0 := M0.call hA
  replace HA := Lib.hid (HA.out.below hA)
  obtain ⟨aHK, nHK, cHK, rfl, hz⟩ := hv.nm
  have HK : Hid (IsN w1 (.agg #[.slice aHK nHK cHK]) (3)) := Lib.hid hz
  clear hz hv
  clear hA
  clear hHeld
  try go_wp2_with fail
  refine hK.out _ _ (⟨M0.cell (.tail _ _ _ _ _ (.tail _ _ _ _ _ (Has.head _ _ _ _))) (i := 0) rfl, M0.cell (.tail _ _ _ _ _ (Has.head _ _ _ _)) (i := 0) rfl, M0.cell (Has.head _ _ _ _) (i := 0) rfl⟩) (fun hHeld => ?_)
  clear hK K
  try simp only [Act.put, puts]
  refine wpAnyH_ready (rs := [32]) (by kernel_rfl) (by simp) ?_
  refine AllReadyH.cons rfl (fun K hK => ?_) AllReadyH.nil
  go_simp
  refine (of_5 _).mono ?_
  rintro e w1 ⟨tv, rfl, hv, hA⟩
  replace M0 := M0.call hA
  replace HA := Lib.hid (HA.out.below hA)
  replace HK := Lib.hid (HK.out.below hA)
  obtain ⟨aHL, nHL, cHL, rfl, hz⟩ := hv.nm
  have HL : Hid (IsN w1 (.agg #[.slice aHL nHL cHL]) (5)) := Lib.hid hz
  clear hz hv
  clear hA
  clear hHeld
  try go_wp2_with fail
  refine hK.out _ _ (⟨M0.cell (.tail _ _ _ _ _ (.tail _ _ _ _ _ (Has.head _ _ _ _))) (i := 0) rfl, M0.cell (.tail _ _ _ _ _ (Has.head _ _ _ _)) (i := 0) rfl, M0.cell (Has.head _ _ _ _) (i := 0) rfl⟩) (fun hHeld => ?_)
  clear hK K
  try simp only [Act.put, puts]
  refine wpAnyH_ready (rs := [33]) (by kernel_rfl) (by simp) ?_
  refine AllReadyH.cons rfl (fun K hK => ?_) AllReadyH.nil
  go_simp
  refine (sub_any16 _ _ 3 5 _ HK.out HL.out ln_3 ln_5).mono ?_
  rintro e w1 ⟨tv, rfl, hv, hA⟩
  replace M0 := M0.call hA
  replace HA := Lib.hid (HA.out.below hA)
  replace HK := Lib.hid (HK.out.below hA)
  replace HL := Lib.hid (HL.out.below hA)
  obtain ⟨aHS, nHS, cHS, rfl, hz⟩ := hv.nm
  have HS : Hid (IsN w1 (.agg #[.slice aHS nHS cHS]) (2)) := Lib.hid hz
  clear hz hv
  clear hA
  clear HK
  clear HL
  clear hHeld
  try go_wp2_with fail
  refine hK.out _ _ (⟨M0.cell (.tail _ _ _ _ _ (.tail _ _ _ _ _ (Has.head _ _ _ _))) (i := 0) rfl, M0.cell (.tail _ _ _ _ _ (Has.head _ _ _ _)) (i := 0) rfl, M0.cell (Has.head _ _ _ _) (i := 0) rfl⟩) (fun hHeld => ?_)
  clear hK K
  try simp only [Act.put, puts]
  refine wpAnyH_ready (rs := [34]) (by kernel_rfl) (by simp) ?_
  refine AllReadyH.cons rfl (fun K hK => ?_) AllReadyH.nil
  go_simp
  refine (text_told _ _ ⟨#[50]⟩ _ HS.out ln_2 tx_2).mono ?_
  rintro e w1 ⟨rfl, hA⟩
  replace M0 := M0.call hA
  replace HA := Lib.hid (HA.out.below hA)
  replace HS := Lib.hid (HS.out.below hA)
  clear hA
  clear HS
  clear hHeld
  try go_wp2_with fail
  refine hK.out _ _ (⟨M0.cell (.tail _ _ _ _ _ (.tail _ _ _ _ _ (Has.head _ _ _ _))) (i := 0) rfl, M0.cell (.tail _ _ _ _ _ (Has.head _ _ _ _)) (i := 0) rfl, M0.cell (Has.head _ _ _ _) (i := 0) rfl⟩) (fun hHeld => ?_)
  clear hK K
  try simp only [Act.put, puts]
  refine tkT 35 ?v36 ?hy36 hHeld ?rest36 (hw := by kernel_rfl)
  case hy36 => (intro w' hSw; (try dsimp only at hSw); go_simp; (try with_reducible rfl))
  try simp only [Act.put, puts]
  refine tkT 36 ?v37 ?hy37 hHeld ?rest37 (hw := by kernel_rfl)
  case hy37 => (intro w' hSw; (try dsimp only at hSw); go_simp; (try with_reducible rfl))
  try simp only [Act.put, puts]
  refine tkT 37 ?v38 ?hy38 hHeld ?rest38 (hw := by kernel_rfl)
  case hy38 => (intro w' hSw; (try dsimp only at hSw); go_simp; (try with_reducible rfl))
  try simp only [Act.put, puts]
  refine tkT 38 ?v39 ?hy39 hHeld ?rest39 (hw := by kernel_rfl)
  case hy39 => (intro w' hSw; (try dsimp only at hSw); go_simp; (try with_reducible rfl))
  try simp only [Act.put, puts]
  refine wpAnyH_ready (rs := [39]) (by kernel_rfl) (by simp) ?_
  refine AllReadyH.cons rfl (fun K hK => ?_) AllReadyH.nil
  go_simp
  refine (bits_told _ 55340232221128654848 66 _ HA.out ln_55340232221128654848 (nb_of (by decide) (by decide) (by decide))).mono ?_
  rintro e w1 ⟨rfl, hA⟩
  replace M0 := M0.call hA
  replace HA := Lib.hid (HA.out.below hA)
  clear hA
  clear hHeld
  try go_wp2_with fail
  refine hK.out _ _ (⟨M0.cell (.tail _ _ _ _ _ (.tail _ _ _ _ _ (Has.head _ _ _ _))) (i := 0) rfl, M0.cell (.tail _ _ _ _ _ (Has.head _ _ _ _)) (i := 0) rfl, M0.cell (Has.head _ _ _ _) (i := 0) rfl⟩) (fun hHeld => ?_)
  clear hK K
  try simp only [Act.put, puts]
  refine tkT 40 ?v41 ?hy41 hHeld ?rest41 (hw := by kernel_rfl)
  case hy41 => (intro w' hSw; (try dsimp only at hSw); go_simp; (try with_reducible rfl))
  try simp only [Act.put, puts]
  refine tkT 41 ?v42 ?hy42 hHeld ?rest42 (hw := by kernel_rfl)
  case hy42 => (intro w' hSw; (try dsimp only at hSw); go_simp; (try with_reducible rfl))
  try simp only [Act.put, puts]
  refine tkT 42 ?v43 ?hy43 hHeld ?rest43 (hw := by kernel_rfl)
  case hy43 => (intro w' hSw; (try dsimp only at hSw); go_simp; (try with_reducible rfl))
  try simp only [Act.put, puts]
  refine tkT 43 ?v44 ?hy44 hHeld ?rest44 (hw := by kernel_rfl)
  case hy44 => (intro w' hSw; (try dsimp only at hSw); go_simp; (try with_reducible rfl))
  try simp only [Act.put, puts]
  refine wpAnyH_ready (rs := [44]) (by kernel_rfl) (by simp) ?_
  refine AllReadyH.cons rfl (fun K hK => ?_) AllReadyH.nil
  go_simp
  refine (shr_any16 _ 55340232221128654848 62 _ HA.out ln_55340232221128654848 (by decide)).mono ?_
  rintro e w1 ⟨tv, rfl, hv, hA⟩
  replace M0 := M0.call hA
  replace HA := Lib.hid (HA.out.below hA)
  obtain ⟨aHS, nHS, cHS, rfl, hz⟩ := hv.nm
  have HS : Hid (IsN w1 (.agg #[.slice aHS nHS cHS]) (12)) := Lib.hid hz
  clear hz hv
  clear hA
  clear hHeld
  try go_wp2_with fail
  refine hK.out _ _ (⟨M0.cell (.tail _ _ _ _ _ (.tail _ _ _ _ _ (Has.head _ _ _ _))) (i := 0) rfl, M0.cell (.tail _ _ _ _ _ (Has.head _ _ _ _)) (i := 0) rfl, M0.cell (Has.head _ _ _ _) (i := 0) rfl⟩) (fun hHeld => ?_)
  clear hK K
  try simp only [Act.put, puts]
  refine wpAnyH_ready (rs := [45]) (by kernel_rfl) (by simp) ?_
  refine AllReadyH.cons rfl (fun K hK => ?_) AllReadyH.nil
  go_simp
  refine (text_told _ _ ⟨#[49, 50]⟩ _ HS.out ln_12 tx_12).mono ?_
  rintro e w1 ⟨rfl, hA⟩
  replace M0 := M0.call hA
  replace HA := Lib.hid (HA.out.below hA)
  replace HS := Lib.hid (HS.out.below hA)
  clear hA
  clear HS
  clear hHeld
  try go_wp2_with fail
  refine hK.out _ _ (⟨M0.cell (.tail _ _ _ _ _ (.tail _ _ _ _ _ (Has.head _ _ _ _))) (i := 0) rfl, M0.cell (.tail _ _ _ _ _ (Has.head _ _ _ _)) (i := 0) rfl, M0.cell (Has.head _ _ _ _) (i := 0) rfl⟩) (fun hHeld => ?_)
  clear hK K
  try simp only [Act.put, puts]
  refine tkT 46 ?v47 ?hy47 hHeld ?rest47 (hw := by kernel_rfl)
  case hy47 => (intro w' hSw; (try dsimp only at hSw); go_simp; (try with_reducible rfl))
  try simp only [Act.put, puts]
  refine tkT 47 ?v48 ?hy48 hHeld ?rest48 (hw := by kernel_rfl)
  case hy48 => (intro w' hSw; (try dsimp only at hSw); go_simp; (try with_reducible rfl))
  try simp only [Act.put, puts]
  refine tkT 48 ?v49 ?hy49 hHeld ?rest49 (hw := by kernel_rfl)
  case hy49 => (intro w' hSw; (try dsimp only at hSw); go_simp; (try with_reducible rfl))
  try simp only [Act.put, puts]
  refine wpAnyH_ready (rs := [49]) (by kernel_rfl) (by simp) ?_
  refine AllReadyH.cons rfl (fun K hK => ?_) AllReadyH.nil
  go_simp
  refine (of_3 _).mono ?_
  rintro e w1 ⟨tv, rfl, hv, hA⟩
  replace M0 := M0.call hA
  replace HA := Lib.hid (HA.out.below hA)
  obtain ⟨aHK, nHK, cHK, rfl, hz⟩ := hv.nm
  have HK : Hid (IsN w1 (.agg #[.slice aHK nHK cHK]) (3)) := Lib.hid hz
  clear hz hv
  clear hA
  clear hHeld
  try go_wp2_with fail
  refine hK.out _ _ (⟨M0.cell (.tail _ _ _ _ _ (.tail _ _ _ _ _ (Has.head _ _ _ _))) (i := 0) rfl, M0.cell (.tail _ _ _ _ _ (Has.head _ _ _ _)) (i := 0) rfl, M0.cell (Has.head _ _ _ _) (i := 0) rfl⟩) (fun hHeld => ?_)
  clear hK K
  try simp only [Act.put, puts]
  refine wpAnyH_ready (rs := [50]) (by kernel_rfl) (by simp) ?_
  refine AllReadyH.cons rfl (fun K hK => ?_) AllReadyH.nil
  go_simp
  refine (shl_any16 _ 3 40 _ HK.out ln_3 (by decide)).mono ?_
  rintro e w1 ⟨tv, rfl, hv, hA⟩
  replace M0 := M0.call hA
  replace HA := Lib.hid (HA.out.below hA)
  replace HK := Lib.hid (HK.out.below hA)
  obtain ⟨aHS, nHS, cHS, rfl, hz⟩ := hv.nm
  have HS : Hid (IsN w1 (.agg #[.slice aHS nHS cHS]) (3298534883328)) := Lib.hid hz
  clear hz hv
  clear hA
  clear HK
  clear hHeld
  try go_wp2_with fail
  refine hK.out _ _ (⟨M0.cell (.tail _ _ _ _ _ (.tail _ _ _ _ _ (Has.head _ _ _ _))) (i := 0) rfl, M0.cell (.tail _ _ _ _ _ (Has.head _ _ _ _)) (i := 0) rfl, M0.cell (Has.head _ _ _ _) (i := 0) rfl⟩) (fun hHeld => ?_)
  clear hK K
  try simp only [Act.put, puts]
  refine wpAnyH_ready (rs := [51]) (by kernel_rfl) (by simp) ?_
  refine AllReadyH.cons rfl (fun K hK => ?_) AllReadyH.nil
  go_simp
  refine (text_told _ _ ⟨#[51, 50, 57, 56, 53, 51, 52, 56, 56, 51, 51, 50, 56]⟩ _ HS.out ln_3298534883328 tx_3298534883328).mono ?_
  rintro e w1 ⟨rfl, hA⟩
  replace M0 := M0.call hA
  replace HA := Lib.hid (HA.out.below hA)
  replace HS := Lib.hid (HS.out.below hA)
  clear hA
  clear HS
  clear HA
  clear hHeld
  try go_wp2_with fail
  refine hK.out _ _ (⟨M0.cell (.tail _ _ _ _ _ (.tail _ _ _ _ _ (Has.head _ _ _ _))) (i := 0) rfl, M0.cell (.tail _ _ _ _ _ (Has.head _ _ _ _)) (i := 0) rfl, M0.cell (Has.head _ _ _ _) (i := 0) rfl⟩) (fun hHeld => ?_)
  clear hK K
  try simp only [Act.put, puts]
  refine tkT 52 ?v53 ?hy53 hHeld ?rest53 (hw := by kernel_rfl)
  case hy53 => (intro w' hSw; (try dsimp only at hSw); go_simp; (try with_reducible rfl))
  try simp only [Act.put, puts]
  refine tkT 53 ?v54 ?hy54 hHeld ?rest54 (hw := by kernel_rfl)
  case hy54 => (intro w' hSw; (try dsimp only at hSw); go_simp; (try with_reducible rfl))
  try simp only [Act.put, puts]
  refine tkT 54 ?v55 ?hy55 hHeld ?rest55 (hw := by kernel_rfl)
  case hy55 => (intro w' hSw; (try dsimp only at hSw); go_simp; (try with_reducible rfl))
  try simp only [Act.put, puts]
  refine wpAnyH_ready (rs := [55]) (by kernel_rfl) (by simp) ?_
  refine AllReadyH.cons rfl (fun K hK => ?_) AllReadyH.nil
  go_simp
  refine (of_1 _).mono ?_
  rintro e w1 ⟨tv, rfl, hv, hA⟩
  replace M0 := M0.call hA
  obtain ⟨aHK, nHK, cHK, rfl, hz⟩ := hv.nm
  have HK : Hid (IsN w1 (.agg #[.slice aHK nHK cHK]) (1)) := Lib.hid hz
  clear hz hv
  clear hA
  clear hHeld
  try go_wp2_with fail
  refine hK.out _ _ (⟨M0.cell (.tail _ _ _ _ _ (.tail _ _ _ _ _ (Has.head _ _ _ _))) (i := 0) rfl, M0.cell (.tail _ _ _ _ _ (Has.head _ _ _ _)) (i := 0) rfl, M0.cell (Has.head _ _ _ _) (i := 0) rfl⟩) (fun hHeld => ?_)
  clear hK K
  try simp only [Act.put, puts]
  refine wpAnyH_ready (rs := [56]) (by kernel_rfl) (by simp) ?_
  refine AllReadyH.cons rfl (fun K hK => ?_) AllReadyH.nil
  go_simp
  refine (of_2 _).mono ?_
  rintro e w1 ⟨tv, rfl, hv, hA⟩
  replace M0 := M0.call hA
  replace HK := Lib.hid (HK.out.below hA)
  obtain ⟨aHL, nHL, cHL, rfl, hz⟩ := hv.nm
  have HL : Hid (IsN w1 (.agg #[.slice aHL nHL cHL]) (2)) := Lib.hid hz
  clear hz hv
  clear hA
  clear hHeld
  try go_wp2_with fail
  refine hK.out _ _ (⟨M0.cell (.tail _ _ _ _ _ (.tail _ _ _ _ _ (Has.head _ _ _ _))) (i := 0) rfl, M0.cell (.tail _ _ _ _ _ (Has.head _ _ _ _)) (i := 0) rfl, M0.cell (Has.head _ _ _ _) (i := 0) rfl⟩) (fun hHeld => ?_)
  clear hK K
  try simp only [Act.put, puts]
  refine wpAnyH_ready (rs := [57]) (by kernel_rfl) (by simp) ?_
  refine AllReadyH.cons rfl (fun K hK => ?_) AllReadyH.nil
  go_simp
  have hA := (Below.refl w1.heap.size w1).alloc (Nat.le_refl _) (.cells #[.slice aHK nHK cHK, .slice aHL nHL cHL] 26)
  replace M0 := M0.call hA
  clear hA
  clear hHeld
  try go_wp2_with fail
  refine hK.out _ _ (⟨M0.cell (.tail _ _ _ _ _ (.tail _ _ _ _ _ (Has.head _ _ _ _))) (i := 0) rfl, M0.cell (.tail _ _ _ _ _ (Has.head _ _ _ _)) (i := 0) rfl, M0.cell (Has.head _ _ _ _) (i := 0) rfl⟩) (fun hHeld => ?_)
  clear hK K
  try simp only [Act.put, puts]
  refine wpAnyH_ready (rs := [58]) (by kernel_rfl) (by simp) ?_
  refine AllReadyH.cons rfl (fun K hK => ?_) AllReadyH.nil
  go_simp
  refine (sum_told _ _ _ _ _ _ _ HK.out HL.out).mono ?_
  rintro e w1 ⟨tv, rfl, hv, hA⟩
  replace M0 := M0.call hA
  obtain ⟨aHS, nHS, cHS, rfl, hz⟩ := hv.nm
  have HS : Hid (IsN w1 (.agg #[.slice aHS nHS cHS]) (3)) := Lib.hid hz
  clear hz hv
  clear hA
  clear hHeld
  try go_wp2_with fail
  refine hK.out _ _ (⟨M0.cell (.tail _ _ _ _ _ (.tail _ _ _ _ _ (Has.head _ _ _ _))) (i := 0) rfl, M0.cell (.tail _ _ _ _ _ (Has.head _ _ _ _)) (i := 0) rfl, M0.cell (Has.head _ _ _ _) (i := 0) rfl⟩) (fun hHeld => ?_)
  clear hK K
  try simp only [Act.put, puts]
  refine wpAnyH_ready (rs := [59]) (by kernel_rfl) (by simp) ?_
  refine AllReadyH.cons rfl (fun K hK => ?_) AllReadyH.nil
  go_simp
  refine (text_told _ _ ⟨#[51]⟩ _ HS.out ln_3 tx_3).mono ?_
  rintro e w1 ⟨rfl, hA⟩
  replace M0 := M0.call hA
  replace HS := Lib.hid (HS.out.below hA)
  clear hA
  clear HS
  clear hHeld
  try go_wp2_with fail
  refine hK.out _ _ (⟨M0.cell (.tail _ _ _ _ _ (.tail _ _ _ _ _ (Has.head _ _ _ _))) (i := 0) rfl, M0.cell (.tail _ _ _ _ _ (Has.head _ _ _ _)) (i := 0) rfl, M0.cell (Has.head _ _ _ _) (i := 0) rfl⟩) (fun hHeld => ?_)
  clear hK K
  try simp only [Act.put, puts]
  refine tkT 60 ?v61 ?hy61 hHeld ?rest61 (hw := by kernel_rfl)
  case hy61 => (intro w' hSw; (try dsimp only at hSw); go_simp; (try with_reducible rfl))
  try simp only [Act.put, puts]
  refine tkT 61 ?v62 ?hy62 hHeld ?rest62 (hw := by kernel_rfl)
  case hy62 => (intro w' hSw; (try dsimp only at hSw); go_simp; (try with_reducible rfl))
  try simp only [Act.put, puts]
  refine tkT 62 ?v63 ?hy63 hHeld ?rest63 (hw := by kernel_rfl)
  case hy63 => (intro w' hSw; (try dsimp only at hSw); go_simp; (try with_reducible rfl))
  try simp only [Act.put, puts]
  refine wpAnyH_ready (rs := [63]) (by kernel_rfl) (by simp) ?_
  refine AllReadyH.cons rfl (fun K hK => ?_) AllReadyH.nil
  go_simp
  refine (of_0 _).mono ?_
  rintro e w1 ⟨tv, rfl, hv, hA⟩
  replace M0 := M0.call hA
  obtain ⟨aHK, nHK, cHK, rfl, hz⟩ := hv.nm
  have HK : Hid (IsN w1 (.agg #[.slice aHK nHK cHK]) (0)) := Lib.hid hz
  clear hz hv
  clear hA
  clear hHeld
  try go_wp2_with fail
  refine hK.out _ _ (⟨M0.cell (.tail _ _ _ _ _ (.tail _ _ _ _ _ (Has.head _ _ _ _))) (i := 0) rfl, M0.cell (.tail _ _ _ _ _ (Has.head _ _ _ _)) (i := 0) rfl, M0.cell (Has.head _ _ _ _) (i := 0) rfl⟩) (fun hHeld => ?_)
  clear hK K
  try simp only [Act.put, puts]
  refine wpAnyH_ready (rs := [64]) (by kernel_rfl) (by simp) ?_
  refine AllReadyH.cons rfl (fun K hK => ?_) AllReadyH.nil
  go_simp
  refine (zero_told _ 0 true _ HK.out ln_0 rfl).mono ?_
  rintro e w1 ⟨rfl, hA⟩
  replace M0 := M0.call hA
  replace HK := Lib.hid (HK.out.below hA)
  clear hA
  clear HK
  clear hHeld
  try go_wp2_with fail
  refine hK.out _ _ (⟨M0.cell (.tail _ _ _ _ _ (.tail _ _ _ _ _ (Has.head _ _ _ _))) (i := 0) rfl, M0.cell (.tail _ _ _ _ _ (Has.head _ _ _ _)) (i := 0) rfl, M0.cell (Has.head _ _ _ _) (i := 0) rfl⟩) (fun hHeld => ?_)
  clear hK K
  try simp only [Act.put, puts]
  refine tkT 65 ?v66 ?hy66 hHeld ?rest66 (hw := by kernel_rfl)
  case hy66 => (intro w' hSw; (try dsimp only at hSw); go_simp; (try with_reducible rfl))
  try simp only [Act.put, puts]
  refine tkT 66 ?v67 ?hy67 hHeld ?rest67 (hw := by kernel_rfl)
  case hy67 => (intro w' hSw; (try dsimp only at hSw); go_simp; (try with_reducible rfl))
  try simp only [Act.put, puts]
  refine wpAnyH_ready (rs := [67]) (by kernel_rfl) (by simp) ?_
  refine AllReadyH.cons rfl (fun K hK => ?_) AllReadyH.nil
  go_simp
  have hA := (Below.refl w1.heap.size w1).alloc (Nat.le_refl _) (.cells #[.int .u32 1, .int .u32 0] 38)
  replace M0 := M0.call hA
  clear hA
  clear hHeld
  try go_wp2_with fail
  refine hK.out _ _ (⟨M0.cell (.tail _ _ _ _ _ (.tail _ _ _ _ _ (Has.head _ _ _ _))) (i := 0) rfl, M0.cell (.tail _ _ _ _ _ (Has.head _ _ _ _)) (i := 0) rfl, M0.cell (Has.head _ _ _ _) (i := 0) rfl⟩) (fun hHeld => ?_)
  clear hK K
  try simp only [Act.put, puts]
  refine wpAnyH_ready (rs := [68]) (by kernel_rfl) (by simp) ?_
  refine AllReadyH.cons rfl (fun K hK => ?_) AllReadyH.nil
  go_simp
  refine (from_told _).mono ?_
  rintro e w1 ⟨tv, rfl, hv, hA⟩
  replace M0 := M0.call hA
  obtain ⟨aHS, nHS, cHS, rfl, hz⟩ := hv.nm
  have HS : Hid (IsN w1 (.agg #[.slice aHS nHS cHS]) (1)) := Lib.hid hz
  clear hz hv
  clear hA
  clear hHeld
  try go_wp2_with fail
  refine hK.out _ _ (⟨M0.cell (.tail _ _ _ _ _ (.tail _ _ _ _ _ (Has.head _ _ _ _))) (i := 0) rfl, M0.cell (.tail _ _ _ _ _ (Has.head _ _ _ _)) (i := 0) rfl, M0.cell (Has.head _ _ _ _) (i := 0) rfl⟩) (fun hHeld => ?_)
  clear hK K
  try simp only [Act.put, puts]
  refine wpAnyH_ready (rs := [69]) (by kernel_rfl) (by simp) ?_
  refine AllReadyH.cons rfl (fun K hK => ?_) AllReadyH.nil
  go_simp
  refine (parts_told _ _ HS.out).mono ?_
  rintro e w2 ⟨ax, cx, rfl, hA⟩
  replace M0 := M0.call hA
  obtain ⟨w1, rfl⟩ : ∃ w1, w1 = w2 := ⟨_, rfl⟩
  clear hA HS
  clear hHeld
  try go_wp2_with fail
  refine hK.out _ _ (⟨M0.cell (.tail _ _ _ _ _ (.tail _ _ _ _ _ (Has.head _ _ _ _))) (i := 0) rfl, M0.cell (.tail _ _ _ _ _ (Has.head _ _ _ _)) (i := 0) rfl, M0.cell (Has.head _ _ _ _) (i := 0) rfl⟩) (fun hHeld => ?_)
  clear hK K
  try simp only [Act.put, puts]
  refine tkT 70 ?v71 ?hy71 hHeld ?rest71 (hw := by kernel_rfl)
  case hy71 => (intro w' hSw; (try dsimp only at hSw); go_simp; (try with_reducible rfl))
  try simp only [Act.put, puts]
  refine tkT 71 ?v72 ?hy72 hHeld ?rest72 (hw := by kernel_rfl)
  case hy72 => (intro w' hSw; (try dsimp only at hSw); go_simp; (try with_reducible rfl))
  try simp only [Act.put, puts]
  refine tkT 72 ?v73 ?hy73 hHeld ?rest73 (hw := by kernel_rfl)
  case hy73 => (intro w' hSw; (try dsimp only at hSw); go_simp; (try with_reducible rfl))
  try simp only [Act.put, puts]
  refine tkT 73 ?v74 ?hy74 hHeld ?rest74 (hw := by kernel_rfl)
  case hy74 => (intro w' hSw; (try dsimp only at hSw); go_simp; (try with_reducible rfl))
  try simp only [Act.put, puts]
  refine wpAnyH_ready (rs := [74]) (by kernel_rfl) (by simp) ?_
  refine AllReadyH.cons rfl (fun K hK => ?_) AllReadyH.nil
  go_simp
  refine (of_0 _).mono ?_
  rintro e w1 ⟨tv, rfl, hv, hA⟩
  replace M0 := M0.call hA
  obtain ⟨aHK, nHK, cHK, rfl, hz⟩ := hv.nm
  have HK : Hid (IsN w1 (.agg #[.slice aHK nHK cHK]) (0)) := Lib.hid hz
  clear hz hv
  clear hA
  clear hHeld
  try go_wp2_with fail
  refine hK.out _ _ (⟨M0.cell (.tail _ _ _ _ _ (.tail _ _ _ _ _ (Has.head _ _ _ _))) (i := 0) rfl, M0.cell (.tail _ _ _ _ _ (Has.head _ _ _ _)) (i := 0) rfl, M0.cell (Has.head _ _ _ _) (i := 0) rfl⟩) (fun hHeld => ?_)
  clear hK K
  try simp only [Act.put, puts]
  refine wpAnyH_ready (rs := [75]) (by kernel_rfl) (by simp) ?_
  refine AllReadyH.cons rfl (fun K hK => ?_) AllReadyH.nil
  go_simp
  refine (text_told _ _ ⟨#[48]⟩ _ HK.out ln_0 tx_0).mono ?_
  rintro e w1 ⟨rfl, hA⟩
  replace M0 := M0.call hA
  replace HK := Lib.hid (HK.out.below hA)
  clear hA
  clear hHeld
  try go_wp2_with fail
  refine hK.out _ _ (⟨M0.cell (.tail _ _ _ _ _ (.tail _ _ _ _ _ (Has.head _ _ _ _))) (i := 0) rfl, M0.cell (.tail _ _ _ _ _ (Has.head _ _ _ _)) (i := 0) rfl, M0.cell (Has.head _ _ _ _) (i := 0) rfl⟩) (fun hHeld => ?_)
  clear hK K
  try simp only [Act.put, puts]
  refine tkT 76 ?v77 ?hy77 hHeld ?rest77 (hw := by kernel_rfl)
  case hy77 => (intro w' hSw; (try dsimp only at hSw); go_simp; (try with_reducible rfl))
  try simp only [Act.put, puts]
  refine tkT 77 ?v78 ?hy78 hHeld ?rest78 (hw := by kernel_rfl)
  case hy78 => (intro w' hSw; (try dsimp only at hSw); go_simp; (try with_reducible rfl))
  try simp only [Act.put, puts]
  refine tkT 78 ?v79 ?hy79 hHeld ?rest79 (hw := by kernel_rfl)
  case hy79 => (intro w' hSw; (try dsimp only at hSw); go_simp; (try with_reducible rfl))
  try simp only [Act.put, puts]
  refine wpAnyH_done (by kernel_rfl) ?_ _
  go_simp
  go_wp2_with fail
  go_ret
  exact ⟨rfl, M0.below⟩
end Go.Proofs.YtghioakpigdagaaDoor
