/-
  An act, both ways, whichever it is.
-/
import Derived.Test.YtanblpfpkohghaaDoorPackExcB
import Derived.Test.YtanblpfpkohghaaDoorExactV
set_option linter.unusedVariables false
set_option linter.unusedSimpArgs false
namespace Go.Proofs.YtanblpfpkohghaaDoor
open Go Go.RowKit Go.Th Go.Th.Dig Go.Th.Ex Go.Th.Grid

theorem ResX.prp {x y : Int} {k : Nat} {gs vs : List Nat} {w : World} {e : Ending} {w' : World} (h : ResX x y gs w e w') (hp : Prp gs vs) (hl : Lt k gs) : ResV x y k vs w e w' := by
  obtain ⟨a, cap, h1, h2, h3⟩ := h
  rw [hp.1] at h1 h2
  exact ⟨a, cap, gs, h1, h2, hp, hl, h3⟩
theorem map_tab {h : Nat → Int} (h0 : ∀ i, 0 ≤ h i) : ∀ n, (tabN (fun i => (h i).toNat) n).map Int.ofNat = tab h n
  | 0 => rfl
  | n + 1 => by
    rw [← tabN_next, List.map_append, map_tab h0 n, tab_next]
    congr 1
    have := h0 n
    simp
    omega
theorem wts_map {o : OpV} (hz : ∀ z ∈ o.zs, 0 ≤ z ∧ z < 65536) (n : Nat) : (wts o n).map Int.ofNat = tab (inAt o.zs 65536) n :=
  map_tab (fun i => (inAt_rng (z := o.zs) (d := 65536) (fun u hu => ⟨(hz u hu).1, by have := (hz u hu).2; omega⟩) ⟨by omega, by omega⟩ i).1) n
theorem wts_length (o : OpV) (n : Nat) : (wts o n).length = n := tabN_length _ _
/-- What an act answers: both filters, of these numbers. -/
def ActR (k : Nat) (f : Fil) (w : World) (e : Ending) (w' : World) : Prop :=
  ∃ (a1 : Option Addr) (c1 : Nat) (a2 : Option Addr) (c2 : Nat) (gs : List Nat), e = .returned (.tuple #[fv f.x f.y (.slice a1 f.us.length c1), fv f.x f.y (.slice a2 f.us.length c2)]) ∧ IsV w' a1 f.us.length c1 gs ∧ Prp gs f.us ∧ Lt k gs ∧ IsU w' a2 f.us.length c2 f.us ∧ Below w.heap.size w w'

theorem do_any17 (o : OpV) (k x y : Nat) (a b : Option Addr) (n ca cb : Nat) (fs us : List Nat) (hu : FilOk k ⟨x, y, us⟩) (hf : Lt k fs) (hp : Prp fs us) (hk : k ≤ 1000) (hn : us.length = n) (w : World) (ho : OpOk w o) (hon : o.n ≤ 1000000) (hV : IsV w a n ca fs) (hU : IsU w b n cb us) :
    Calls Tryd.prog 12 #[fv x y (.slice a n ca), fv x y (.slice b n cb), opv o] w (ActR (k + 24) (doF ⟨x, y, us⟩ o) w) := by
  obtain ⟨x1, x8, y1, y8, hlen, hlu⟩ := hu
  simp only at x1 x8 y1 y8 hlen hlu
  have hxy : n = x * y := by rw [← hn, hlen]
  have hle : x * y ≤ 8 * 8 := Nat.mul_le_mul x8 y8
  have hfl : fs.length = n := by rw [hp.1, hn]
  have h5 : o.k % 5 = 0 ∨ o.k % 5 = 1 ∨ o.k % 5 = 2 ∨ o.k % 5 = 3 ∨ o.k % 5 = 4 := by omega
  have hq86 : (o.q % 86).toNat ≤ 85 := by omega
  have hlf24 : Lt (k + 24) fs := hf.mono (by omega)
  rcases h5 with h | h | h | h | h
  · have e : doF ⟨x, y, us⟩ o = ⟨x, y, spreadU us x y (o.q % 86).toNat⟩ := by unfold doF; rw [if_pos h]
    rw [e]
    refine (do_spread o x y (k + 24) a b n ca cb us (spreadU us x y (o.q % 86).toNat) h ho.k ho.q w ?_ ?_).mono ?_
    · intro wx hx
      refine (spread_any17 x y n _ k a ca fs hxy (by omega) (by omega) hq86 hf (by omega) wx (hV.below hx)).mono fun _ _ r => r.prp (hp.spread x y _) ((Lt.spread hf hq86 x y).mono (by omega))
    · exact fun wx hx => rspread17_any x y _ b n cb k us hlu (by omega) hxy x1 y1 (by omega) (by omega) hq86 wx (hU.below hx)
    · rintro e w' ⟨a1, c1, a2, c2, gs, r1, r2, r3, r4, r5, r6⟩
      exact ⟨a1, c1, a2, c2, gs, r1, r2, r3, r4, r5, r6⟩
  · have e : doF ⟨x, y, us⟩ o = ⟨x, y, weighU us (wts o us.length)⟩ := by unfold doF; rw [if_neg (by omega), if_pos h]
    rw [e]
    have hw63 : Lt 63 (wts o n) := (wts_lt ho.rng n).mono (by omega)
    refine (do_weigh o x y (k + 24) a b n ca cb (weighU us (wts o us.length)) h ho.k (by omega) hU.max ho.len hon (fun u hu => ⟨(ho.rng u hu).1, by have := (ho.rng u hu).2; omega⟩) w ho.row ?_ ?_).mono ?_
    · intro wx al cl hx hS
      rw [← wts_map ho.rng n] at hS
      rw [hn]
      refine (weigh_any17 x y a al n ca cl k fs (wts o n) hf (by omega) hw63 (wts_length o n) (by omega) wx (hV.below hx) hS).mono fun _ _ r => r.prp (hp.weigh _) ((lt_weigh hf (wts_lt ho.rng n)).mono (by omega))
    · intro wx al cl hx hS
      rw [← wts_map ho.rng n] at hS
      rw [hn]
      exact rweigh17_any x y b al n cb cl k us (wts o n) hlu (by omega) hw63 (wts_length o n) (by omega) wx (hU.below hx) hS
    · rintro e w' ⟨a1, c1, a2, c2, gs, r1, r2, r3, r4, r5, r6⟩
      exact ⟨a1, c1, a2, c2, gs, r1, r2, r3, r4, r5, r6⟩
  · have e : doF ⟨x, y, us⟩ o = ⟨side17 o.W, side17 o.H, cutU us x y o.X o.Y (side17 o.W) (side17 o.H)⟩ := by unfold doF; rw [if_neg (by omega), if_neg (by omega), if_pos h]
    rw [e]
    have s1 := side17_rng ho.W.1
    have s2 := side17_rng ho.H.1
    have hX := ho.X
    have hY := ho.Y
    refine (do_cut o x y (k + 24) a b n ca cb (cutU us x y o.X o.Y (side17 o.W) (side17 o.H)) h ho.k ho.X ho.Y ho.W ho.H w ?_ ?_).mono ?_
    · intro wx hx
      refine (cut_any17 x y _ _ n o.X o.Y a ca fs hxy (by omega) (by omega) (by omega) (by omega) (by omega) (by omega) wx (hV.below hx)).mono fun _ _ r => r.prp (hp.cut x y _ _ _ _) ((lt_cut hf x y _ _ _ _).mono (by omega))
    · exact fun wx hx => rcut17_any x y _ _ o.X o.Y b n cb us hxy (by omega) (by omega) (by omega) (by omega) (by omega) (by omega) wx (hU.below hx)
    · rintro e w' ⟨a1, c1, a2, c2, gs, r1, r2, r3, r4, r5, r6⟩
      exact ⟨a1, c1, a2, c2, gs, r1, r2, r3, r4, r5, r6⟩
  · by_cases h44 : 4 < x ∨ 4 < y
    · have e : doF ⟨x, y, us⟩ o = ⟨x, y, us⟩ := by unfold doF; rw [if_neg (by omega), if_neg (by omega), if_neg (by omega), if_pos h, if_pos (by exact h44)]
      rw [e]
      have hsame : ∀ e w', (e = .returned (.tuple #[fv x y (.slice a n ca), fv x y (.slice b n cb)]) ∧ IsV w' a n ca fs ∧ IsU w' b n cb us ∧ Below w.heap.size w w') → ActR (k + 24) ⟨x, y, us⟩ w e w' := by
        rintro e w' ⟨r1, r2, r3, r4⟩
        refine ⟨a, ca, b, cb, fs, ?_, ?_, hp, hlf24, ?_, r4⟩
        · simp only; rw [hn]; exact r1
        · simp only; rw [hn]; exact r2
        · simp only; rw [hn]; exact r3
      by_cases h4 : 4 < x
      · exact (do_same1 o x y a b n ca cb fs us h ho.k h4 w hV hU).mono hsame
      · exact (do_same2 o x y a b n ca cb fs us h ho.k (by omega) (by omega) w hV hU).mono hsame
    · have e : doF ⟨x, y, us⟩ o = ⟨2 * x, 2 * y, splitU us x y⟩ := by unfold doF; rw [if_neg (by omega), if_neg (by omega), if_neg (by omega), if_pos h, if_neg (by exact h44)]
      rw [e]
      refine (do_split o x y (2 * x) (2 * y) (k + 24) a b n ca cb (splitU us x y) h ho.k (by omega) (by omega) w ?_ ?_).mono ?_
      · intro wx hx
        refine (split_any17 x y n _ _ a ca fs hxy (by omega) (by omega) rfl rfl wx (hV.below hx)).mono fun _ _ r => r.prp (hp.split x y) ((lt_split hf x y).mono (by omega))
      · exact fun wx hx => rsplit17_any x y b n cb us hxy (by omega) (by omega) wx (hU.below hx)
      · rintro e w' ⟨a1, c1, a2, c2, gs, r1, r2, r3, r4, r5, r6⟩
        exact ⟨a1, c1, a2, c2, gs, r1, r2, r3, r4, r5, r6⟩
  · by_cases h2 : x % 2 = 0 ∧ y % 2 = 0
    · have e : doF ⟨x, y, us⟩ o = ⟨x / 2, y / 2, joinU us x (x / 2) (y / 2)⟩ := by unfold doF; rw [if_neg (by omega), if_neg (by omega), if_neg (by omega), if_neg (by omega), if_pos (by exact h2)]
      rw [e]
      refine (do_join o x y (x / 2) (y / 2) (k + 24) a b n ca cb (joinU us x (x / 2) (y / 2)) h ho.k h2.1 h2.2 w ?_ ?_).mono ?_
      · intro wx hx
        refine (join_any17 x y _ _ n k a ca fs hxy (by omega) (by omega) (by omega) (by omega) hf (by omega) wx (hV.below hx)).mono fun _ _ r => r.prp (hp.join x _ _) ((lt_join hf x _ _).mono (by omega))
      · exact fun wx hx => rjoin17_any x y _ _ b n cb k us hlu (by omega) hxy (by omega) (by omega) (by omega) (by omega) wx (hU.below hx)
      · rintro e w' ⟨a1, c1, a2, c2, gs, r1, r2, r3, r4, r5, r6⟩
        exact ⟨a1, c1, a2, c2, gs, r1, r2, r3, r4, r5, r6⟩
    · have e : doF ⟨x, y, us⟩ o = ⟨x, y, us⟩ := by unfold doF; rw [if_neg (by omega), if_neg (by omega), if_neg (by omega), if_neg (by omega), if_neg (by exact h2)]
      rw [e]
      have hsame : ∀ e w', (e = .returned (.tuple #[fv x y (.slice a n ca), fv x y (.slice b n cb)]) ∧ IsV w' a n ca fs ∧ IsU w' b n cb us ∧ Below w.heap.size w w') → ActR (k + 24) ⟨x, y, us⟩ w e w' := by
        rintro e w' ⟨r1, r2, r3, r4⟩
        refine ⟨a, ca, b, cb, fs, ?_, ?_, hp, hlf24, ?_, r4⟩
        · simp only; rw [hn]; exact r1
        · simp only; rw [hn]; exact r2
        · simp only; rw [hn]; exact r3
      by_cases hxo : x % 2 = 1
      · exact (do_same3 o x y a b n ca cb fs us h ho.k hxo w hV hU).mono hsame
      · exact (do_same4 o x y a b n ca cb fs us h ho.k (by omega) (by omega) w hV hU).mono hsame
end Go.Proofs.YtanblpfpkohghaaDoor
