/-
  What spreading, and making normal, do to a bound: plain.
-/
import Derived.Test.YtallbegibdlpaaaGreatLedgA
set_option linter.unusedVariables false
set_option linter.unusedSimpArgs false
namespace Go.Th.Led
open Go.Th.Grid

/-- A grid, and a filter's numbers, place by place. -/
def gf (p : List Int) (i : Nat) : Int := p.getD i 0
def nf (us : List Nat) (i : Nat) : Int := ((us.getD i 0 : Nat) : Int)
abbrev NearL (p : List Int) (us : List Nat) (n : Nat) (b : Int) : Prop := Near (gf p) (nf us) n b
theorem su_gf {p : List Int} {n : Nat} (h : p.length = n) : su (gf p) n = sm p := by rw [sm_su, h]; rfl

/-! ### Along rows, or columns -/
/-- The place ahead, and the one behind. -/
def ia (w dx dy k : Nat) : Nat := (k / w - dy) * w + (k % w - dx)
def ic (w h dx dy k : Nat) : Nat := min (k / w + dy) (h - 1) * w + min (k % w + dx) (w - 1)
theorem ia_lt {w h k : Nat} (dx dy : Nat) (hk : k < h * w) : ia w dx dy k < h * w := by
  have h1 := row_lt hk
  have h2 := col_lt hk
  exact at_lt (Nat.lt_of_le_of_lt (Nat.sub_le _ _) h2) (Nat.lt_of_le_of_lt (Nat.sub_le _ _) h1)
theorem ic_lt {w h k : Nat} (dx dy : Nat) (hk : k < h * w) : ic w h dx dy k < h * w := by
  have h1 : 0 < h := Nat.lt_of_le_of_lt (Nat.zero_le _) (row_lt hk)
  have h2 : 0 < w := Nat.lt_of_le_of_lt (Nat.zero_le _) (col_lt hk)
  exact at_lt (Nat.lt_of_le_of_lt (Nat.min_le_right _ _) (by omega)) (Nat.lt_of_le_of_lt (Nat.min_le_right _ _) (by omega))
theorem clp_sub {a n : Nat} (d : Nat) (h : a < n) : Go.Proofs.YtallbegibdlpaaaGreat.clp ((a : Int) - (d : Int)) n = a - d := by
  unfold Go.Proofs.YtallbegibdlpaaaGreat.clp
  split
  · omega
  · split <;> omega
theorem clp_plus {a n : Nat} (d : Nat) (h : a < n) : Go.Proofs.YtallbegibdlpaaaGreat.clp ((a : Int) + (d : Int)) n = min (a + d) (n - 1) := by
  unfold Go.Proofs.YtallbegibdlpaaaGreat.clp
  split
  · omega
  · split <;> omega
def lp (w h : Nat) (q : Int) (dx dy : Nat) (f : Nat → Int) (k : Nat) : Int := q * f (ia w dx dy k) + (256 - 2 * q) * f k + q * f (ic w h dx dy k)
theorem nb_fun (f : Nat → Int) (w h dx dy : Nat) (hd : (dx = 1 ∧ dy = 0) ∨ (dx = 0 ∧ dy = 1)) : su (fun k => f (ia w dx dy k) + f (ic w h dx dy k)) (h * w) = 2 * su f (h * w) := by
  have hs := nb_sum (tab f (h * w)) w h dx dy hd
  have e1 : su (fun k => (tab f (h * w)).getD k 0) (h * w) = su f (h * w) := su_congr _ fun i hi => tab_getD f _ hi
  rw [e1] at hs
  rw [← hs]
  refine su_congr _ fun k hk => ?_
  show _ = (tab f (h * w)).getD (ia w dx dy k) 0 + (tab f (h * w)).getD (ic w h dx dy k) 0
  rw [tab_getD f _ (ia_lt dx dy hk), tab_getD f _ (ic_lt dx dy hk)]
theorem lp_sum (f : Nat → Int) (w h : Nat) (q : Int) (dx dy : Nat) (hd : (dx = 1 ∧ dy = 0) ∨ (dx = 0 ∧ dy = 1)) : su (lp w h q dx dy f) (h * w) = 256 * su f (h * w) := by
  have hs := nb_fun f w h dx dy hd
  have e : su (lp w h q dx dy f) (h * w) = su (fun k => q * (f (ia w dx dy k) + f (ic w h dx dy k)) + (256 - 2 * q) * f k) (h * w) := su_congr _ fun k _ => by unfold lp; grind
  rw [e, su_add, su_mul, su_mul, hs]
  grind
theorem lp_nn {f : Nat → Int} {w h : Nat} {q : Int} {dx dy : Nat} (hq : 0 ≤ q ∧ q ≤ 85) (hf : ∀ i, i < h * w → 0 ≤ f i) : ∀ k, k < h * w → 0 ≤ lp w h q dx dy f k := fun k hk => by
  have h1 := Int.mul_nonneg hq.1 (hf _ (ia_lt dx dy hk))
  have h2 := Int.mul_nonneg (show 0 ≤ 256 - 2 * q by omega) (hf k hk)
  have h3 := Int.mul_nonneg hq.1 (hf _ (ic_lt dx dy hk))
  unfold lp
  omega
theorem lp_dev (f g : Nat → Int) (w h : Nat) (q : Int) (dx dy : Nat) (hq : 0 ≤ q ∧ q ≤ 85) (hd : (dx = 1 ∧ dy = 0) ∨ (dx = 0 ∧ dy = 1)) (S T : Int) :
    su (fun j => pp (lp w h q dx dy f j * T - lp w h q dx dy g j * S)) (h * w) ≤ 256 * dev f g (h * w) S T := by
  unfold dev
  rw [← lp_sum (fun i => pp (f i * T - g i * S)) w h q dx dy hd]
  refine su_le _ fun k _ => ?_
  have e : lp w h q dx dy f k * T - lp w h q dx dy g k * S = q * (f (ia w dx dy k) * T - g (ia w dx dy k) * S) + (256 - 2 * q) * (f k * T - g k * S) + q * (f (ic w h dx dy k) * T - g (ic w h dx dy k) * S) := by unfold lp; grind
  have e2 : lp w h q dx dy (fun i => pp (f i * T - g i * S)) k = q * pp (f (ia w dx dy k) * T - g (ia w dx dy k) * S) + (256 - 2 * q) * pp (f k * T - g k * S) + q * pp (f (ic w h dx dy k) * T - g (ic w h dx dy k) * S) := rfl
  rw [e, e2, ← pp_mul hq.1, ← pp_mul (by omega), ← pp_mul hq.1]
  refine Int.le_trans (pp_add _ _) ?_
  have := pp_add (q * (f (ia w dx dy k) * T - g (ia w dx dy k) * S)) ((256 - 2 * q) * (f k * T - g k * S))
  omega
theorem Near.lp {f g : Nat → Int} {w h : Nat} {b q : Int} {dx dy : Nat} (hN : Near f g (h * w) b) (hq : 0 ≤ q ∧ q ≤ 85) (hd : (dx = 1 ∧ dy = 0) ∨ (dx = 0 ∧ dy = 1)) (hb : 0 ≤ b) : Near (lp w h q dx dy f) (lp w h q dx dy g) (h * w) b := by
  have hS := hN.fs
  have hT := hN.gs
  have sF := lp_sum f w h q dx dy hd
  have sG := lp_sum g w h q dx dy hd
  refine gen (M := 256) hN (lp_nn hq hN.f0) (lp_nn hq hN.g0) (by omega) (by omega) (by decide) (lp_dev f g w h q dx dy hq hd _ _) (lp_dev g f w h q dx dy hq hd _ _) ?_ hb
  rw [sF]
  have e : 256 * su f (h * w) * b = b * (256 * su f (h * w)) := Int.mul_comm _ _
  omega
theorem near_congr {f g f' g' : Nat → Int} {n : Nat} {b : Int} (h : Near f g n b) (hf : ∀ i, i < n → f i = f' i) (hg : ∀ i, i < n → g i = g' i) : Near f' g' n b := by
  have e1 := su_congr n hf
  have e2 := su_congr n hg
  refine ⟨fun i hi => by rw [← hf i hi]; exact h.f0 i hi, fun i hi => by rw [← hg i hi]; exact h.g0 i hi, by rw [← e1]; exact h.fs, by rw [← e2]; exact h.gs, ?_⟩
  have e3 : dev f' g' n (su f' n) (su g' n) = dev f g n (su f n) (su g n) := by
    rw [← e1, ← e2]
    exact (su_congr n fun i hi => by rw [hf i hi, hg i hi]).symm
  rw [e3, ← e1, ← e2]
  exact h.near

/-- One pass: spread, and rounded down. -/
theorem near_pass {p : List Int} {us : List Nat} {w h n q : Nat} {dx dy : Nat} {b c : Int} (hN : NearL p us n b) (hn : n = h * w) (hl : p.length = n) (hul : us.length = n) (hq : q ≤ 85) (hd : (dx = 1 ∧ dy = 0) ∨ (dx = 0 ∧ dy = 1)) (hb : 0 ≤ b)
    (hc : One * (n : Int) ≤ sm p * c) (hA : 0 < sm (Grid.pass p w h q dx dy)) : NearL (Grid.pass p w h q dx dy) (Go.Proofs.YtallbegibdlpaaaGreat.passU us w h q dx dy) n (b + c) := by
  subst hn
  have h1 := hN.lp (q := (q : Int)) (dx := dx) (dy := dy) ⟨by omega, by omega⟩ hd hb
  have h2 : Near (lp w h q dx dy (gf p)) (nf (Go.Proofs.YtallbegibdlpaaaGreat.passU us w h q dx dy)) (h * w) b := by
    refine near_congr h1 (fun _ _ => rfl) fun k hk => ?_
    unfold nf Go.Proofs.YtallbegibdlpaaaGreat.passU
    rw [hul, Ex.tabN_getD _ _ k hk]
    have hr := row_lt hk
    have hcl := col_lt hk
    have c1 := clp_sub dy hr
    have c2 := clp_sub dx hcl
    have c3 := clp_plus dy hr
    have c4 := clp_plus dx hcl
    unfold Go.Proofs.YtallbegibdlpaaaGreat.passAt
    rw [c1, c2, c3, c4]
    have e3 : ((256 - 2 * q : Nat) : Int) = 256 - 2 * (q : Int) := by omega
    show (q : Int) * ((us.getD (ia w dx dy k) 0 : Nat) : Int) + (256 - 2 * (q : Int)) * ((us.getD k 0 : Nat) : Int) + (q : Int) * ((us.getD (ic w h dx dy k) 0 : Nat) : Int) = ((us.getD k 0 * (256 - 2 * q) + us.getD (ia w dx dy k) 0 * q + us.getD (ic w h dx dy k) 0 * q : Nat) : Int)
    rw [Int.natCast_add, Int.natCast_add, Int.natCast_mul, Int.natCast_mul, Int.natCast_mul, e3]
    grind
  have hpl : (Grid.pass p w h q dx dy).length = h * w := pass_length _ _ _ _ _ _
  have hps := pass_sum (p := p) (w := w) (h := h) (q := (q : Int)) dx dy hd hl
  have hmx : ∀ i, i < h * w → gf (Grid.pass p w h q dx dy) i = lp w h q dx dy (gf p) i / 256 := fun i hi => by
    unfold gf Grid.pass
    rw [tab_getD _ _ hi]
    rfl
  refine rounded (K := 256) h2 (by decide) (fun i hi => ?_) (fun i hi => ?_) (by rw [su_gf hpl]; exact hA) ?_
  · rw [hmx i hi]
    exact Int.ediv_nonneg (lp_nn (f := gf p) ⟨by omega, by omega⟩ hN.f0 i hi) (by decide)
  · rw [hmx i hi]
    have := Int.mul_ediv_self_le (x := lp w h q dx dy (gf p) i) (k := 256) (by decide)
    exact this
  · rw [su_gf hpl, lp_sum _ _ _ _ _ _ hd, su_gf hl]
    have e1 : One * (256 * sm p - 256 * sm (Grid.pass p w h q dx dy)) = 256 * (One * (sm p - sm (Grid.pass p w h q dx dy))) := by grind
    have e2 : 256 * sm p * c = 256 * (sm p * c) := Int.mul_assoc _ _ _
    have h3 : One * (sm p - sm (Grid.pass p w h q dx dy)) ≤ One * ((h * w : Nat) : Int) := Int.mul_le_mul_of_nonneg_left hps.2 (by decide)
    rw [e1, e2]
    omega

/-! ### Made normal -/
theorem near_scale {f g : Nat → Int} {n : Nat} {b k : Int} (h : Near f g n b) (hk : 0 < k) : Near (fun i => f i * k) g n b := by
  have hs : su (fun i => f i * k) n = su f n * k := su_mulr f k n
  refine ⟨fun i hi => Int.mul_nonneg (h.f0 i hi) (by omega), h.g0, by rw [hs]; exact Int.mul_pos h.fs hk, h.gs, ?_⟩
  have e : dev (fun i => f i * k) g n (su f n * k) (su g n) = k * dev f g n (su f n) (su g n) := by
    unfold dev
    rw [← su_mul]
    refine su_congr n fun i _ => ?_
    rw [← pp_mul (by omega)]
    congr 1
    grind
  rw [hs, e]
  have h1 := Int.mul_le_mul_of_nonneg_left h.near (show 0 ≤ k by omega)
  have e1 : One * (k * dev f g n (su f n) (su g n)) = k * (One * dev f g n (su f n) (su g n)) := by grind
  have e2 : su f n * k * su g n * b = k * (su f n * su g n * b) := by grind
  rw [e1, e2]
  exact h1
theorem near_norm {p : List Int} {us : List Nat} {n : Nat} {b c : Int} (hN : NearL p us n b) (hl : p.length = n) (hn : (n : Int) < 1073741824) (hc : One * (n : Int) ≤ 1073741824 * c) : NearL (norm p) us n (b + c) := by
  have hS : 0 < sm p := by have := hN.fs; rwa [su_gf hl] at this
  have hnl : (norm p).length = n := by rw [norm_length, hl]
  have h1 := near_scale hN (k := 1073741824) (by decide)
  have hsum := share_sum hS p
  have hpos := (shares_sum (p := p) hS).1
  have hnp : norm p = p.map (share (sm p)) := by unfold norm; rw [if_neg (by omega)]
  rw [hl] at hsum hpos
  have hget : ∀ i, i < n → gf (norm p) i = gf p i * 1073741824 / sm p := fun i hi => by
    have hi2 : i < p.length := by omega
    unfold gf
    rw [hnp, List.getD_eq_getElem?_getD, List.getElem?_map, List.getD_eq_getElem?_getD, List.getElem?_eq_getElem hi2]
    rfl
  refine rounded (K := sm p) h1 hS (fun i hi => ?_) (fun i hi => ?_) (by rw [su_gf hnl, hnp]; omega) ?_
  · rw [hget i hi]
    exact Int.ediv_nonneg (Int.mul_nonneg (hN.f0 i hi) (by decide)) (by omega)
  · rw [hget i hi]
    exact Int.mul_ediv_self_le (x := gf p i * 1073741824) (k := sm p) (by omega)
  · rw [su_gf hnl, su_mulr, su_gf hl, hnp]
    have h2 : One * (sm p * 1073741824 - sm p * sm (p.map (share (sm p)))) ≤ One * (sm p * (n : Int)) := Int.mul_le_mul_of_nonneg_left (by omega) (by decide)
    have h3 : sm p * (One * (n : Int)) ≤ sm p * (1073741824 * c) := Int.mul_le_mul_of_nonneg_left hc (by omega)
    have e1 : One * (sm p * (n : Int)) = sm p * (One * (n : Int)) := by grind
    have e2 : sm p * 1073741824 * c = sm p * (1073741824 * c) := Int.mul_assoc _ _ _
    rw [e2]
    omega
end Go.Th.Led
