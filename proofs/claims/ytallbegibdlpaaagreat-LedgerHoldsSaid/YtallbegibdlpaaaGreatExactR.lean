/-
  What an act makes of a filter, plain; the filters stay as small as the laws want them.
-/
import Derived.Test.YtallbegibdlpaaaGreatPackExactB
import Derived.Test.YtallbegibdlpaaaGreatExactO
set_option linter.unusedVariables false
set_option linter.unusedSimpArgs false
namespace Go.Proofs.YtallbegibdlpaaaGreat
open Go Go.RowKit Go.Th Go.Th.Dig Go.Th.Ex Go.Th.Grid

/-- A filter, plain. -/
structure Fil where
  x : Nat
  y : Nat
  us : List Nat
/-- The law's weights, as numbers. -/
def wts (o : OpV) (n : Nat) : List Nat := tabN (fun i => (inAt o.zs 65536 i).toNat) n
/-- What an act makes of it. -/
def doF (f : Fil) (o : OpV) : Fil :=
  if o.k % 5 = 0 then ⟨f.x, f.y, spreadU f.us f.x f.y (o.q % 86).toNat⟩
  else if o.k % 5 = 1 then ⟨f.x, f.y, weighU f.us (wts o f.us.length)⟩
  else if o.k % 5 = 2 then ⟨side17 o.W, side17 o.H, cutU f.us f.x f.y o.X o.Y (side17 o.W) (side17 o.H)⟩
  else if o.k % 5 = 3 then (if 4 < f.x ∨ 4 < f.y then f else ⟨2 * f.x, 2 * f.y, splitU f.us f.x f.y⟩)
  else if f.x % 2 = 0 ∧ f.y % 2 = 0 then ⟨f.x / 2, f.y / 2, joinU f.us f.x (f.x / 2) (f.y / 2)⟩ else f
/-- A filter of up to 8 by 8 places, of numbers below a power of two. -/
structure FilOk (k : Nat) (f : Fil) : Prop where
  x1 : 1 ≤ f.x
  x8 : f.x ≤ 8
  y1 : 1 ≤ f.y
  y8 : f.y ≤ 8
  len : f.us.length = f.x * f.y
  lt : Lt k f.us
theorem wts_lt {o : OpV} (hz : ∀ z ∈ o.zs, 0 ≤ z ∧ z < 65536) (n : Nat) : Lt 17 (wts o n) := Lt.tab fun i _ => by
  have := inAt_rng (z := o.zs) (d := 65536) (fun u hu => ⟨(hz u hu).1, by have := (hz u hu).2; omega⟩) ⟨by omega, by omega⟩ i
  have e : (2 : Nat) ^ 17 = 131072 := by decide
  omega
theorem FilOk.do {k : Nat} {f : Fil} (h : FilOk k f) {o : OpV} (hq : 0 ≤ o.q) (hW : 0 ≤ o.W) (hH : 0 ≤ o.H) (hz : ∀ z ∈ o.zs, 0 ≤ z ∧ z < 65536) : FilOk (k + 24) (doF f o) := by
  obtain ⟨h1, h2, h3, h4, h5, h6⟩ := h
  unfold doF
  split
  · exact ⟨h1, h2, h3, h4, by rw [spreadU_length]; exact h5, (Lt.spread h6 (by omega) f.x f.y).mono (by omega)⟩
  split
  · exact ⟨h1, h2, h3, h4, by rw [weighU_length]; exact h5, (lt_weigh h6 (wts_lt hz _)).mono (by omega)⟩
  split
  · have s1 := side17_rng hW
    have s2 := side17_rng hH
    exact ⟨s1.1, s1.2, s2.1, s2.2, by rw [cutU_length, Nat.mul_comm], (lt_cut h6 f.x f.y o.X o.Y _ _).mono (by omega)⟩
  split
  · split
    · exact ⟨h1, h2, h3, h4, h5, h6.mono (by omega)⟩
    · rename_i hs
      exact ⟨by show 1 ≤ 2 * f.x; omega, by show 2 * f.x ≤ 8; omega, by show 1 ≤ 2 * f.y; omega, by show 2 * f.y ≤ 8; omega, by rw [splitU_length, Nat.mul_comm], (lt_split h6 f.x f.y).mono (by omega)⟩
  split
  · rename_i he
    exact ⟨by show 1 ≤ f.x / 2; omega, by show f.x / 2 ≤ 8; omega, by show 1 ≤ f.y / 2; omega, by show f.y / 2 ≤ 8; omega, by rw [joinU_length, Nat.mul_comm], (lt_join h6 f.x _ _).mono (by omega)⟩
  · exact ⟨h1, h2, h3, h4, h5, h6.mono (by omega)⟩
/-- Acts keep filters one that are one. -/
theorem Prp.do {x y : Nat} {fs us : List Nat} (h : Prp fs us) (o : OpV) : (doF ⟨x, y, fs⟩ o).x = (doF ⟨x, y, us⟩ o).x ∧ (doF ⟨x, y, fs⟩ o).y = (doF ⟨x, y, us⟩ o).y ∧ Prp (doF ⟨x, y, fs⟩ o).us (doF ⟨x, y, us⟩ o).us := by
  have hl := h.1
  unfold doF
  split
  · exact ⟨rfl, rfl, h.spread x y _⟩
  split
  · exact ⟨rfl, rfl, by simp only [hl]; exact h.weigh _⟩
  split
  · exact ⟨rfl, rfl, h.cut x y _ _ _ _⟩
  split
  · split
    · exact ⟨rfl, rfl, h⟩
    · exact ⟨rfl, rfl, h.split x y⟩
  split
  · exact ⟨rfl, rfl, h.join x _ _⟩
  · exact ⟨rfl, rfl, h⟩
end Go.Proofs.YtallbegibdlpaaaGreat
