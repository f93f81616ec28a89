/-
  The book's steps, on rows: plain; that none is further apart than the book says.
-/
import Derived.Test.YtallbegibdlpaaaGreatLedgC
set_option linter.unusedVariables false
set_option linter.unusedSimpArgs false
namespace Go.Th.Led
open Go.Th.Grid

/-- A bound and another one together: one, if that is more. -/
def plus (a b : Int) : Int := if One < a + b then One else a + b
/-- What rounding costs, of so many places. -/
structure CostOk (n : Nat) (c : Int) : Prop where
  nn : 0 ≤ c
  ge : One * (n : Int) ≤ (1073741824 - 4 * (n : Int)) * c
theorem CostOk.at {n : Nat} {c S : Int} (h : CostOk n c) (hS : 1073741824 - 4 * (n : Int) ≤ S) : One * (n : Int) ≤ S * c :=
  Int.le_trans h.ge (Int.mul_le_mul_of_nonneg_right hS h.nn)
/-- A grid, the filter without rounding, and the book. -/
structure Led (p : List Int) (us : List Nat) (n : Nat) (b : Int) : Prop where
  near : NearL p us n b
  sup : Sup (gf p) (nf us) n
  pl : p.length = n
  ul : us.length = n
  b0 : 0 ≤ b
  lo : 1073741824 - (n : Int) ≤ sm p
  hi : sm p ≤ 1073741824
  n64 : 1 ≤ n ∧ n ≤ 4096
theorem plus_ok {a b : Int} (ha : 0 ≤ a) (hb : 0 ≤ b) : 0 ≤ plus a b ∧ plus a b ≤ One ∧ (plus a b = One ∨ a + b ≤ plus a b) := by
  unfold plus
  split
  · exact ⟨by decide, Int.le_refl _, .inl rfl⟩
  · exact ⟨by omega, by omega, .inr (Int.le_refl _)⟩
theorem sup_floor {a x ws : Nat → Int} {n : Nat} (h : Sup x ws n) (ha : ∀ i, i < n → 0 < a i → 0 < x i) : Sup a ws n := fun i hi h0 => h i hi (ha i hi h0)
theorem div_pos_of {x k : Int} (hk : 0 < k) (h : 0 < x / k) : 0 < x := by
  refine Int.lt_of_not_ge fun hx => ?_
  have h1 := Int.ediv_le_ediv hk hx
  rw [Int.zero_ediv] at h1
  omega

/-- Made normal, behind anything that leaves a grid so near. -/
theorem led_norm {p : List Int} {us : List Nat} {n : Nat} {b c v : Int} (hN : NearL p us n b) (hs : Sup (gf p) (nf us) n) (hl : p.length = n) (hul : us.length = n) (hn : 1 ≤ n ∧ n ≤ 4096) (hc : One * (n : Int) ≤ 1073741824 * c) (hv0 : 0 ≤ v) (hv : v = One ∨ b + c ≤ v) : Led (norm p) us n v := by
  have hS : 0 < sm p := by have := hN.fs; rwa [su_gf hl] at this
  have hnl : (norm p).length = n := by rw [norm_length, hl]
  have hnp : norm p = p.map (share (sm p)) := by unfold norm; rw [if_neg (by omega)]
  have hpos := shares_sum (p := p) hS
  rw [hl, ← hnp] at hpos
  refine ⟨(near_norm hN hl (by omega) hc).least hv, sup_floor hs fun i hi h0 => ?_, hnl, hul, hv0, hpos.1, hpos.2, hn⟩
  have hi2 : i < p.length := by omega
  have e : gf (norm p) i = gf p i * 1073741824 / sm p := by
    unfold gf
    rw [hnp, List.getD_eq_getElem?_getD, List.getElem?_map, List.getD_eq_getElem?_getD, List.getElem?_eq_getElem hi2]
    rfl
  rw [e] at h0
  have := div_pos_of hS h0
  omega

theorem lp_of_pass {p : List Int} {w h n q : Nat} {dx dy : Nat} (hn : n = h * w) {i : Nat} (hi : i < n) : gf (Grid.pass p w h q dx dy) i = lp w h q dx dy (gf p) i / 256 := by
  subst hn
  unfold gf Grid.pass
  rw [tab_getD _ _ hi]
  rfl
theorem lp_of_passU {us : List Nat} {w h n q : Nat} {dx dy : Nat} (hn : n = h * w) (hul : us.length = n) (hq : q ≤ 85) {k : Nat} (hk : k < n) : nf (Go.Proofs.YtallbegibdlpaaaGreat.passU us w h q dx dy) k = lp w h q dx dy (nf us) k := by
  subst hn
  unfold nf Go.Proofs.YtallbegibdlpaaaGreat.passU
  rw [hul, Ex.tabN_getD _ _ k hk]
  have hr := row_lt hk
  have hcl := col_lt hk
  unfold Go.Proofs.YtallbegibdlpaaaGreat.passAt
  rw [clp_sub dy hr, clp_sub dx hcl, clp_plus dy hr, clp_plus dx hcl]
  have e3 : ((256 - 2 * q : Nat) : Int) = 256 - 2 * (q : Int) := by omega
  show ((us.getD k 0 * (256 - 2 * q) + us.getD (ia w dx dy k) 0 * q + us.getD (ic w h dx dy k) 0 * q : Nat) : Int) = (q : Int) * ((us.getD (ia w dx dy k) 0 : Nat) : Int) + (256 - 2 * (q : Int)) * ((us.getD k 0 : Nat) : Int) + (q : Int) * ((us.getD (ic w h dx dy k) 0 : Nat) : Int)
  rw [Int.natCast_add, Int.natCast_add, Int.natCast_mul, Int.natCast_mul, Int.natCast_mul, e3]
  grind
theorem sup_pass {p : List Int} {us : List Nat} {w h n q : Nat} {dx dy : Nat} (hs : Sup (gf p) (nf us) n) (hn : n = h * w) (hul : us.length = n) (hq : q ≤ 85) (hf : ∀ i, i < n → 0 ≤ gf p i) (hg : ∀ i, i < n → 0 ≤ nf us i) : Sup (gf (Grid.pass p w h q dx dy)) (nf (Go.Proofs.YtallbegibdlpaaaGreat.passU us w h q dx dy)) n := by
  have h1 : Sup (lp w h q dx dy (gf p)) (lp w h q dx dy (nf us)) n := by
    subst hn
    exact hs.lp hf hg ⟨by omega, by omega⟩
  intro i hi h0
  rw [lp_of_pass hn hi] at h0
  rw [lp_of_passU hn hul hq hi]
  exact h1 i hi (div_pos_of (by decide) h0)
/-- Spread. -/
theorem Led.spread {p : List Int} {us : List Nat} {w h n q : Nat} {b c : Int} (H : Led p us n b) (hn : n = h * w) (hq : q ≤ 85) (hc : CostOk n c) : Led (norm (Grid.spread p w h q)) (Go.Proofs.YtallbegibdlpaaaGreat.spreadU us w h q) n (plus b (3 * c)) := by
  have hn4 := H.n64
  have hlo := H.lo
  have s1 := pass_sum (p := p) (w := w) (h := h) (q := (q : Int)) 1 0 (.inl ⟨rfl, rfl⟩) (by rw [H.pl, hn])
  rw [← hn] at s1
  have l1 : (Grid.pass p w h q 1 0).length = n := by rw [pass_length, hn]
  have u1 : (Go.Proofs.YtallbegibdlpaaaGreat.passU us w h q 1 0).length = n := by rw [Go.Proofs.YtallbegibdlpaaaGreat.passU_length]; exact H.ul
  have N1 := near_pass (dx := 1) (dy := 0) (q := q) H.near hn H.pl H.ul hq (.inl ⟨rfl, rfl⟩) H.b0 (hc.at (by omega)) (by omega)
  have S1 := sup_pass (dx := 1) (dy := 0) (q := q) H.sup hn H.ul hq H.near.f0 H.near.g0
  have s2 := pass_sum (p := Grid.pass p w h q 1 0) (w := w) (h := h) (q := (q : Int)) 0 1 (.inr ⟨rfl, rfl⟩) (by rw [l1, hn])
  rw [← hn] at s2
  have hcn := hc.nn
  have hb0 := H.b0
  have N2 := near_pass (dx := 0) (dy := 1) (q := q) N1 hn l1 u1 hq (.inr ⟨rfl, rfl⟩) (by omega) (hc.at (by omega)) (by omega)
  have S2 := sup_pass (dx := 0) (dy := 1) (q := q) S1 hn u1 hq N1.f0 N1.g0
  have hp := plus_ok hb0 (show 0 ≤ 3 * c by omega)
  have sl : (Grid.spread p w h q).length = n := by rw [spread_length, hn]
  have su2 : (Go.Proofs.YtallbegibdlpaaaGreat.spreadU us w h q).length = n := by rw [Go.Proofs.YtallbegibdlpaaaGreat.spreadU_length]; exact H.ul
  exact led_norm N2 S2 sl su2 hn4 (hc.at (by omega)) hp.1 (by rcases hp.2.2 with h | h; exact .inl h; exact .inr (by omega))

/-- Weighed. -/
theorem Led.weigh {p l : List Int} {us ls : List Nat} {n : Nat} {b bb c M : Int} (H : Led p us n b) (hl : l.length = n) (hls : ∀ i, i < n → l.getD i 0 = ((ls.getD i 0 : Nat) : Int)) (hM : ∀ i, i < n → l.getD i 0 ≤ M) (hM0 : 0 ≤ M) (hX : 0 < sm (wd p l)) (hbb0 : 0 ≤ bb) (hbb : bb = One ∨ M * sm p * b ≤ bb * sm (wd p l)) (hc : CostOk n c) :
    Led (wgh p l) (Go.Proofs.YtallbegibdlpaaaGreat.weighU us ls) n (plus bb c) := by
  have hn4 := H.n64
  have wl : (wd p l).length = n := by rw [wd_length, hl]
  have hx : ∀ i, i < n → gf (wd p l) i = gf p i * gf l i := fun i hi => by
    unfold gf wd
    rw [tab_getD _ _ (by omega)]
  have hw : ∀ i, i < n → nf (Go.Proofs.YtallbegibdlpaaaGreat.weighU us ls) i = nf us i * gf l i := fun i hi => by
    unfold nf Go.Proofs.YtallbegibdlpaaaGreat.weighU
    rw [Ex.tabN_getD _ _ i (by rw [H.ul]; exact hi), Int.natCast_mul]
    unfold gf
    rw [hls i hi]
  have sx : su (fun i => gf p i * gf l i) n = sm (wd p l) := by
    rw [← su_gf wl]
    exact su_congr n fun i hi => (hx i hi).symm
  have hl0 : ∀ i, i < n → 0 ≤ gf l i ∧ gf l i ≤ M := fun i hi => ⟨by unfold gf; rw [hls i hi]; omega, hM i hi⟩
  have hS := su_gf H.pl
  have hSp : 0 ≤ sm p := by have := H.near.fs; omega
  have hb0 := H.b0
  have key : ∀ b', M * sm p * b ≤ b' * sm (wd p l) → Near (gf (wd p l)) (nf (Go.Proofs.YtallbegibdlpaaaGreat.weighU us ls)) n b' ∧ Sup (gf (wd p l)) (nf (Go.Proofs.YtallbegibdlpaaaGreat.weighU us ls)) n := by
    intro b' hb'
    have h := Near.weigh (l := gf l) (b' := b') H.near H.sup hl0 hM0 (by rw [sx]; exact hX) hb0 (by rw [sx, hS]; exact hb')
    refine ⟨near_congr h.1 (fun i hi => (hx i hi).symm) (fun i hi => (hw i hi).symm), fun i hi h0 => ?_⟩
    rw [hx i hi] at h0
    rw [hw i hi]
    exact h.2 i hi h0
  have big := key (M * sm p * b) (by
    have h1 : 0 ≤ M * sm p * b := Int.mul_nonneg (Int.mul_nonneg hM0 hSp) hb0
    have h2 := Int.mul_le_mul_of_nonneg_left (show 1 ≤ sm (wd p l) by omega) h1
    rw [Int.mul_one] at h2
    exact h2)
  have hN : NearL (wd p l) (Go.Proofs.YtallbegibdlpaaaGreat.weighU us ls) n bb := by
    rcases hbb with rfl | hbb
    · exact big.1.one (Int.le_refl _)
    · exact (key bb hbb).1
  have e : wgh p l = norm (wd p l) := by
    unfold wgh norm
    rw [if_neg (by omega), if_neg (by omega)]
  rw [e]
  have hp := plus_ok hbb0 hc.nn
  exact led_norm hN big.2 wl (by rw [Go.Proofs.YtallbegibdlpaaaGreat.weighU_length]; exact H.ul) hn4 (hc.at (by omega)) hp.1 hp.2.2

/-- Cut. -/
theorem cutF_p (p : List Int) (w h : Nat) (X Y : Int) (cw m : Nat) {j : Nat} (hj : j < m) : gf (tab (cutAt p w h X Y cw) m) j = cutF w h X Y cw (gf p) j := by
  unfold gf
  rw [tab_getD _ _ hj]
  unfold cutAt bel cutF cutI
  split <;> rfl
theorem cutF_us (us : List Nat) (w h : Nat) (X Y : Int) (cw ch : Nat) {j : Nat} (hj : j < ch * cw) : nf (Go.Proofs.YtallbegibdlpaaaGreat.cutU us w h X Y cw ch) j = cutF w h X Y cw (nf us) j := by
  unfold nf Go.Proofs.YtallbegibdlpaaaGreat.cutU
  rw [Ex.tabN_getD _ _ j hj]
  unfold Go.Proofs.YtallbegibdlpaaaGreat.cutAt17 cutF cutI
  by_cases hc : (0 ≤ X + ((j % cw : Nat) : Int) ∧ X + ((j % cw : Nat) : Int) < (w : Int)) ∧ 0 ≤ Y + ((j / cw : Nat) : Int) ∧ Y + ((j / cw : Nat) : Int) < (h : Int)
  · rw [if_pos hc, if_pos ⟨hc.1.1, hc.1.2, hc.2.1, hc.2.2⟩]
  · rw [if_neg hc, if_neg (fun h => hc ⟨⟨h.1, h.2.1⟩, h.2.2.1, h.2.2.2⟩)]
    rfl
theorem Led.cut {p : List Int} {us : List Nat} {w h n cw ch m : Nat} {X Y b bb c : Int} (H : Led p us n b) (hn : n = h * w) (hm : m = ch * cw) (hm4 : 1 ≤ m ∧ m ≤ 4096) (hK : 0 < sm (tab (cutAt p w h X Y cw) m)) (hbb0 : 0 ≤ bb) (hbb : bb = One ∨ sm p * b ≤ bb * sm (tab (cutAt p w h X Y cw) m)) (hc : CostOk m c) :
    Led (norm (tab (cutAt p w h X Y cw) m)) (Go.Proofs.YtallbegibdlpaaaGreat.cutU us w h X Y cw ch) m (plus bb c) := by
  have hS := su_gf H.pl
  have hSp : 0 ≤ sm p := by have := H.near.fs; omega
  have hb0 := H.b0
  have wl : (tab (cutAt p w h X Y cw) m).length = m := tab_length _ _
  have hN0 := H.near
  have hs0 := H.sup
  subst hn
  have sx : su (cutF w h X Y cw (gf p)) m = sm (tab (cutAt p w h X Y cw) m) := by
    rw [← su_gf wl]
    exact su_congr m fun i hi => (cutF_p p w h X Y cw m hi).symm
  have key : ∀ b', sm p * b ≤ b' * sm (tab (cutAt p w h X Y cw) m) → Near (gf (tab (cutAt p w h X Y cw) m)) (nf (Go.Proofs.YtallbegibdlpaaaGreat.cutU us w h X Y cw ch)) m b' ∧ Sup (gf (tab (cutAt p w h X Y cw) m)) (nf (Go.Proofs.YtallbegibdlpaaaGreat.cutU us w h X Y cw ch)) m := by
    intro b' hb'
    have hh := Near.cut (b' := b') hN0 hs0 X Y cw m (by rw [sx]; exact hK) hb0 (by rw [sx, hS]; exact hb')
    subst hm
    refine ⟨near_congr hh.1 (fun i hi => (cutF_p p w h X Y cw _ hi).symm) (fun i hi => (cutF_us us w h X Y cw ch hi).symm), fun i hi h0 => ?_⟩
    rw [cutF_p p w h X Y cw _ hi] at h0
    rw [cutF_us us w h X Y cw ch hi]
    exact hh.2 i hi h0
  have big := key (sm p * b) (by
    have h1 : 0 ≤ sm p * b := Int.mul_nonneg hSp hb0
    have h2 := Int.mul_le_mul_of_nonneg_left (show 1 ≤ sm (tab (cutAt p w h X Y cw) m) by omega) h1
    rw [Int.mul_one] at h2
    exact h2)
  have hN : NearL (tab (cutAt p w h X Y cw) m) (Go.Proofs.YtallbegibdlpaaaGreat.cutU us w h X Y cw ch) m bb := by
    rcases hbb with rfl | hbb
    · exact big.1.one (Int.le_refl _)
    · exact (key bb hbb).1
  have hp := plus_ok hbb0 hc.nn
  exact led_norm hN big.2 wl (by rw [Go.Proofs.YtallbegibdlpaaaGreat.cutU_length, hm]) hm4 (hc.at (by omega)) hp.1 hp.2.2

/-- Split. -/
theorem Led.split {p : List Int} {us : List Nat} {w h n m : Nat} {b c : Int} (H : Led p us n b) (hn : n = h * w) (hm : m = 2 * h * (2 * w)) (hm4 : m ≤ 4096) (hc : CostOk m c) :
    Led (norm (tab (splitAt4 p w) m)) (Go.Proofs.YtallbegibdlpaaaGreat.splitU us w h) m (plus b (2 * c)) := by
  have hn4 := H.n64
  have hlo := H.lo
  have hS := su_gf H.pl
  have hb0 := H.b0
  have hcn := hc.nn
  have hmn : m = 4 * n := by rw [hm, hn]; grind
  have wl : (tab (splitAt4 p w) m).length = m := tab_length _ _
  have ulen : (Go.Proofs.YtallbegibdlpaaaGreat.splitU us w h).length = m := by rw [Go.Proofs.YtallbegibdlpaaaGreat.splitU_length, hm]
  have hN0 := H.near
  have hs0 := H.sup
  have hx : ∀ i, i < m → gf (tab (splitAt4 p w) m) i = splF w (gf p) i / 4 := fun i hi => by
    unfold gf
    rw [tab_getD _ _ hi]
    rfl
  have hu : ∀ i, i < m → nf (Go.Proofs.YtallbegibdlpaaaGreat.splitU us w h) i = splF w (nf us) i := fun i hi => by
    unfold nf Go.Proofs.YtallbegibdlpaaaGreat.splitU
    rw [Ex.tabN_getD _ _ i (by rw [← hm]; exact hi)]
    rfl
  have hsum := spl_sum (gf p) w h
  have hh : Near (splF w (gf p)) (nf (Go.Proofs.YtallbegibdlpaaaGreat.splitU us w h)) m b ∧ Sup (splF w (gf p)) (nf (Go.Proofs.YtallbegibdlpaaaGreat.splitU us w h)) m := by
    subst hn
    have h1 := Near.split hN0 hs0 hb0
    rw [← hm] at h1
    exact ⟨near_congr h1.1 (fun _ _ => rfl) (fun i hi => (hu i hi).symm), fun i hi h0 => by rw [hu i hi]; exact h1.2 i hi h0⟩
  rw [← hm, ← hn, hS] at hsum
  have hlow : 4 * sm p - 4 * sm (tab (splitAt4 p w) m) ≤ 4 * (m : Int) := by
    rw [← su_gf wl, ← hsum, ← su_mul, ← su_sub, ← su_const]
    refine su_le m fun i hi => ?_
    rw [hx i hi]
    omega
  have hA : 0 < sm (tab (splitAt4 p w) m) := by omega
  have N2 : NearL (tab (splitAt4 p w) m) (Go.Proofs.YtallbegibdlpaaaGreat.splitU us w h) m (b + c) := by
    refine rounded (K := 4) hh.1 (by decide) (fun i hi => ?_) (fun i hi => ?_) (by rw [su_gf wl]; exact hA) ?_
    · rw [hx i hi]
      have := hh.1.f0 i hi
      omega
    · rw [hx i hi]
      omega
    · rw [su_gf wl, hsum]
      have h3 : One * (4 * sm p - 4 * sm (tab (splitAt4 p w) m)) ≤ One * (4 * (m : Int)) := Int.mul_le_mul_of_nonneg_left hlow (by decide)
      have h4 := hc.at (S := sm p) (by omega)
      have e1 : One * (4 * (m : Int)) = 4 * (One * (m : Int)) := by grind
      have e2 : 4 * sm p * c = 4 * (sm p * c) := Int.mul_assoc _ _ _
      rw [e2]
      omega
  have S2 : Sup (gf (tab (splitAt4 p w) m)) (nf (Go.Proofs.YtallbegibdlpaaaGreat.splitU us w h)) m := fun i hi h0 => by
    rw [hx i hi] at h0
    exact hh.2 i hi (by omega)
  have hp := plus_ok hb0 (show 0 ≤ 2 * c by omega)
  exact led_norm N2 S2 wl ulen (by omega) (hc.at (by omega)) hp.1 (by rcases hp.2.2 with h | h; exact .inl h; exact .inr (by omega))

/-- Joined. -/
theorem Led.join {p : List Int} {us : List Nat} {u v n m : Nat} {b c : Int} (H : Led p us n b) (hn : n = 2 * v * (2 * u)) (hm : m = v * u) (hm4 : 1 ≤ m ∧ m ≤ 4096) (hc : CostOk m c) :
    Led (norm (tab (joinAt p (2 * u)) m)) (Go.Proofs.YtallbegibdlpaaaGreat.joinU us (2 * u) u v) m (plus b c) := by
  have hb0 := H.b0
  have wl : (tab (joinAt p (2 * u)) m).length = m := tab_length _ _
  have ulen : (Go.Proofs.YtallbegibdlpaaaGreat.joinU us (2 * u) u v).length = m := by rw [Go.Proofs.YtallbegibdlpaaaGreat.joinU_length, hm]
  have hN0 := H.near
  have hs0 := H.sup
  have hx : ∀ i, i < m → gf (tab (joinAt p (2 * u)) m) i = joiF u (gf p) i := fun i hi => by
    unfold gf
    rw [tab_getD _ _ hi]
    unfold joinAt
    rw [show 2 * u / 2 = u by omega]
    rfl
  have hu : ∀ i, i < m → nf (Go.Proofs.YtallbegibdlpaaaGreat.joinU us (2 * u) u v) i = joiF u (nf us) i := fun i hi => by
    unfold nf Go.Proofs.YtallbegibdlpaaaGreat.joinU
    rw [Ex.tabN_getD _ _ i (by rw [← hm]; exact hi)]
    unfold Go.Proofs.YtallbegibdlpaaaGreat.joinAt17 joiF
    have e : (2 * (i / u) + 1) * (2 * u) = 2 * (i / u) * (2 * u) + 2 * u := by rw [Nat.add_mul, Nat.one_mul]
    rw [e, Int.natCast_add, Int.natCast_add, Int.natCast_add]
  have hh : NearL (tab (joinAt p (2 * u)) m) (Go.Proofs.YtallbegibdlpaaaGreat.joinU us (2 * u) u v) m b ∧ Sup (gf (tab (joinAt p (2 * u)) m)) (nf (Go.Proofs.YtallbegibdlpaaaGreat.joinU us (2 * u) u v)) m := by
    subst hn
    have h1 := Near.join hN0 hs0 hb0
    rw [← hm] at h1
    exact ⟨near_congr h1.1 (fun i hi => (hx i hi).symm) (fun i hi => (hu i hi).symm), fun i hi h0 => by rw [hu i hi]; rw [hx i hi] at h0; exact h1.2 i hi h0⟩
  have hp := plus_ok hb0 hc.nn
  exact led_norm hh.1 hh.2 wl ulen hm4 (hc.at (by omega)) hp.1 hp.2.2

/-! ### What Over tells of them -/
theorem sumD_su (us vs : List Nat) (s t : Nat) (f : Nat → Int) : ∀ n, (∀ i, i < n → f i = nf us i) → ((Go.Proofs.YtallbegibdlpaaaGreat.sumD us vs s t n : Nat) : Int) = su (fun i => pp (f i * (t : Int) - nf vs i * (s : Int)) + pp (nf vs i * (s : Int) - f i * (t : Int))) n
  | 0, _ => rfl
  | n + 1, h => by
    have ih := sumD_su us vs s t f n fun i hi => h i (by omega)
    show ((Go.Proofs.YtallbegibdlpaaaGreat.sumD us vs s t n + Go.Proofs.YtallbegibdlpaaaGreat.dif (us.getD n 0 * t) (vs.getD n 0 * s) : Nat) : Int) = su _ n + _
    rw [Int.natCast_add, ih]
    refine congrArg (su _ n + ·) ?_
    show ((Go.Proofs.YtallbegibdlpaaaGreat.dif (us.getD n 0 * t) (vs.getD n 0 * s) : Nat) : Int) = pp (f n * (t : Int) - nf vs n * (s : Int)) + pp (nf vs n * (s : Int) - f n * (t : Int))
    rw [h n (by omega)]
    unfold nf pp Go.Proofs.YtallbegibdlpaaaGreat.dif
    have e1 : ((us.getD n 0 : Nat) : Int) * (t : Int) = ((us.getD n 0 * t : Nat) : Int) := (Int.natCast_mul _ _).symm
    have e2 : ((vs.getD n 0 : Nat) : Int) * (s : Int) = ((vs.getD n 0 * s : Nat) : Int) := (Int.natCast_mul _ _).symm
    rw [e1, e2]
    split <;> split <;> split <;> omega
theorem sum_nf : ∀ (us : List Nat), ((us.sum : Nat) : Int) = su (nf us) us.length := by
  intro us
  have h : ∀ k, ((Ex.sumN us k : Nat) : Int) = su (nf us) k := by
    intro k
    induction k with
    | zero => simp [Ex.sumN, su]
    | succ k ih =>
      rw [Ex.sumN_next, Int.natCast_add, ih]
      rfl
  rw [← h, Ex.sumN_all]
theorem Led.over {p : List Int} {us vs : List Nat} {n : Nat} {b : Int} (H : Led p vs n b) (hu : us.length = n) (hpu : ∀ i, i < n → p.getD i 0 = ((us.getD i 0 : Nat) : Int)) : Go.Proofs.YtallbegibdlpaaaGreat.overN us vs b = false := by
  have hN := H.near
  have eF : su (gf p) n = ((us.sum : Nat) : Int) := by
    rw [sum_nf, hu]
    exact su_congr n fun i hi => hpu i hi
  have eG : su (nf vs) n = ((vs.sum : Nat) : Int) := by rw [sum_nf, H.ul]
  have hF := hN.fs
  have hG := hN.gs
  have hn := hN.near
  have ht := dev_turn (gf p) (nf vs) n
  rw [eF] at hF hn ht
  rw [eG] at hG hn ht
  unfold Go.Proofs.YtallbegibdlpaaaGreat.overN
  rw [if_neg (by omega), hu]
  refine decide_eq_false fun hlt => ?_
  have hs := sumD_su us vs us.sum vs.sum (gf p) n hpu
  rw [su_add] at hs
  have d1 : su (fun i => pp (gf p i * ((vs.sum : Nat) : Int) - nf vs i * ((us.sum : Nat) : Int))) n = dev (gf p) (nf vs) n ((us.sum : Nat) : Int) ((vs.sum : Nat) : Int) := rfl
  have d2 : su (fun i => pp (nf vs i * ((us.sum : Nat) : Int) - gf p i * ((vs.sum : Nat) : Int))) n = dev (nf vs) (gf p) n ((vs.sum : Nat) : Int) ((us.sum : Nat) : Int) := rfl
  rw [d1, d2, ← ht] at hs
  have hb := H.b0
  have e3 : ((us.sum * vs.sum * b.toNat : Nat) : Int) = ((us.sum : Nat) : Int) * ((vs.sum : Nat) : Int) * b := by
    rw [Int.natCast_mul, Int.natCast_mul, Int.toNat_of_nonneg hb]
  obtain ⟨N, eN⟩ : ∃ N, N = us.sum * vs.sum * b.toNat := ⟨_, rfl⟩
  obtain ⟨R, eR⟩ : ∃ R, R = ((us.sum : Nat) : Int) * ((vs.sum : Nat) : Int) * b := ⟨_, rfl⟩
  obtain ⟨D, eD⟩ : ∃ D, D = dev (gf p) (nf vs) n ((us.sum : Nat) : Int) ((vs.sum : Nat) : Int) := ⟨_, rfl⟩
  obtain ⟨Z, eZ⟩ : ∃ Z, Z = Go.Proofs.YtallbegibdlpaaaGreat.sumD us vs us.sum vs.sum n := ⟨_, rfl⟩
  rw [← eN] at e3 hlt
  rw [← eR] at e3 hn
  rw [← eD] at hs hn
  rw [← eZ] at hs hlt
  clear eN eR eD eZ
  have hn : 1099511627776 * D ≤ R := hn
  omega
/-- From the first grid on. -/
theorem Led.start {p : List Int} {us : List Nat} {n : Nat} (hp : p.length = n) (hu : us.length = n) (hpu : ∀ i, i < n → p.getD i 0 = ((us.getD i 0 : Nat) : Int)) (hlo : 1073741824 - (n : Int) ≤ sm p) (hhi : sm p ≤ 1073741824) (hn : 1 ≤ n ∧ n ≤ 4096) : Led p us n 0 := by
  have e : ∀ i, i < n → gf p i = nf us i := fun i hi => hpu i hi
  have f0 : ∀ i, i < n → 0 ≤ gf p i := fun i hi => by rw [e i hi]; unfold nf; omega
  have hs : 0 < su (gf p) n := by rw [su_gf hp]; omega
  have es := su_congr n e
  refine ⟨⟨f0, fun i hi => by rw [← e i hi]; exact f0 i hi, hs, by rw [← es]; exact hs, ?_⟩, fun i hi h => by rw [← e i hi]; exact h, hp, hu, Int.le_refl _, hlo, hhi, hn⟩
  have : dev (gf p) (nf us) n (su (gf p) n) (su (nf us) n) = 0 := by
    unfold dev
    refine Eq.trans (su_congr n fun i hi => ?_) (su_zero n)
    rw [e i hi, ← es, Int.sub_self]
    rfl
  rw [this]
  simp
end Go.Th.Led
