/-
  Texts in one: ExactK, ExactL, ExactM, ExactP, ExactQ.
-/
import Derived.Test.YtallbegibdlpaaaGreatPackExactA
import Derived.Test.YtallbegibdlpaaaGreatPackNatB
set_option linter.unusedVariables false
set_option linter.unusedSimpArgs false

/-
  A filter with one place for each four: the reference's.
-/
namespace Go.Proofs.YtallbegibdlpaaaGreat
open Go Go.RowKit Go.Th Go.Th.Dig Go.Th.Ex Go.Th.Grid

def joinAt17 (us : List Nat) (x wq j : Nat) : Nat :=
  us.getD (2 * (j / wq) * x + 2 * (j % wq)) 0 + us.getD (2 * (j / wq) * x + 2 * (j % wq) + 1) 0 + us.getD (2 * (j / wq) * x + x + 2 * (j % wq)) 0 + us.getD (2 * (j / wq) * x + x + 2 * (j % wq) + 1) 0
def joinU (us : List Nat) (x wq hq : Nat) : List Nat := tabN (joinAt17 us x wq) (hq * wq)
theorem joinU_length (us : List Nat) (x wq hq : Nat) : (joinU us x wq hq).length = hq * wq := tabN_length _ _
theorem lt_join {k : Nat} {us : List Nat} (h : Lt k us) (x wq hq : Nat) : Lt (k + 2) (joinU us x wq hq) := Lt.tab fun j _ => by
  unfold joinAt17
  have h1 := h (2 * (j / wq) * x + 2 * (j % wq))
  have hq := h (2 * (j / wq) * x + 2 * (j % wq) + 1)
  have h3 := h (2 * (j / wq) * x + x + 2 * (j % wq))
  have h4 := h (2 * (j / wq) * x + x + 2 * (j % wq) + 1)
  have e : 2 ^ (k + 2) = 2 ^ k * 4 := by rw [Nat.pow_add]
  omega

end Go.Proofs.YtallbegibdlpaaaGreat

/-
  How far apart a grid and a filter are: the reference's.
-/
namespace Go.Proofs.YtallbegibdlpaaaGreat
open Go Go.RowKit Go.Th Go.Th.Dig Go.Th.Ex Go.Th.Grid

/-- By how much two numbers differ. -/
def dif (p q : Nat) : Nat := if p < q then q - p else p - q
/-- What so many places differ by, together. -/
def sumD (us vs : List Nat) (s t : Nat) : Nat → Nat
  | 0 => 0
  | i + 1 => sumD us vs s t i + dif (us.getD i 0 * t) (vs.getD i 0 * s)
def overN (us vs : List Nat) (b : Int) : Bool :=
  if us.sum = 0 ∨ vs.sum = 0 then decide (b < 1099511627776) else decide (us.sum * vs.sum * b.toNat + us.sum * vs.sum * b.toNat < sumD us vs us.sum vs.sum us.length * 1099511627776)
theorem dif_le (p q : Nat) : dif p q ≤ p + q := by unfold dif; split <;> omega
end Go.Proofs.YtallbegibdlpaaaGreat

/-
  Filters that are one but for what all have in common; how far apart two are; plain.
-/
namespace Go.Proofs.YtallbegibdlpaaaGreat
open Go Go.RowKit Go.Th Go.Th.Dig Go.Th.Ex Go.Th.Grid

/-- One row, but for what all its numbers have in common. -/
def Prp (f r : List Nat) : Prop := f.length = r.length ∧ ∃ c d, 0 < c ∧ 0 < d ∧ ∀ i, f.getD i 0 * c = r.getD i 0 * d
theorem Prp.refl (f : List Nat) : Prp f f := ⟨rfl, 1, 1, by decide, by decide, fun _ => rfl⟩
theorem Prp.tab {n : Nat} {p q : Nat → Nat} {c d : Nat} (hc : 0 < c) (hd : 0 < d) (h : ∀ i, p i * c = q i * d) : Prp (tabN p n) (tabN q n) := by
  refine ⟨by rw [tabN_length, tabN_length], c, d, hc, hd, fun i => ?_⟩
  by_cases hi : i < n
  · rw [tabN_getD p n i hi, tabN_getD q n i hi]; exact h i
  · rw [List.getD_eq_getElem?_getD, List.getD_eq_getElem?_getD, List.getElem?_eq_none (by rw [tabN_length]; omega), List.getElem?_eq_none (by rw [tabN_length]; omega)]
    simp
theorem Prp.pass {f r : List Nat} (h : Prp f r) (x y q dx dy : Nat) : Prp (passU f x y q dx dy) (passU r x y q dx dy) := by
  obtain ⟨hl, c, d, hc, hd, h⟩ := h
  unfold passU
  rw [hl]
  refine Prp.tab hc hd fun i => ?_
  unfold passAt
  have e : ∀ p k : Nat, f.getD p 0 * k * c = r.getD p 0 * k * d := fun p k => by rw [Nat.mul_right_comm, h p, Nat.mul_right_comm]
  rw [Nat.add_mul, Nat.add_mul, Nat.add_mul, Nat.add_mul, e, e, e]
theorem Prp.spread {f r : List Nat} (h : Prp f r) (x y q : Nat) : Prp (spreadU f x y q) (spreadU r x y q) := (h.pass x y q 1 0).pass x y q 0 1
theorem Prp.weigh {f r : List Nat} (h : Prp f r) (ls : List Nat) : Prp (weighU f ls) (weighU r ls) := by
  obtain ⟨hl, c, d, hc, hd, h⟩ := h
  unfold weighU
  rw [hl]
  exact Prp.tab hc hd fun i => by rw [Nat.mul_right_comm, h i, Nat.mul_right_comm]
theorem Prp.cut {f r : List Nat} (h : Prp f r) (x y : Nat) (X Y : Int) (cw ch : Nat) : Prp (cutU f x y X Y cw ch) (cutU r x y X Y cw ch) := by
  obtain ⟨hl, c, d, hc, hd, h⟩ := h
  refine Prp.tab hc hd fun i => ?_
  unfold cutAt17
  split
  · exact h _
  · rw [Nat.zero_mul, Nat.zero_mul]
theorem Prp.split {f r : List Nat} (h : Prp f r) (x y : Nat) : Prp (splitU f x y) (splitU r x y) := by
  obtain ⟨hl, c, d, hc, hd, h⟩ := h
  exact Prp.tab hc hd fun i => h _
theorem Prp.join {f r : List Nat} (h : Prp f r) (x wq hq : Nat) : Prp (joinU f x wq hq) (joinU r x wq hq) := by
  obtain ⟨hl, c, d, hc, hd, h⟩ := h
  refine Prp.tab hc hd fun i => ?_
  unfold joinAt17
  rw [Nat.add_mul, Nat.add_mul, Nat.add_mul, Nat.add_mul, Nat.add_mul, Nat.add_mul, h, h, h, h]
theorem Prp.trans {f g r : List Nat} (h : Prp f g) (h' : Prp g r) : Prp f r := by
  obtain ⟨hl, c, d, hc, hd, h⟩ := h
  obtain ⟨hl', c', d', hc', hd', h'⟩ := h'
  refine ⟨hl.trans hl', c * c', d * d', Nat.mul_pos hc hc', Nat.mul_pos hd hd', fun i => ?_⟩
  rw [← Nat.mul_assoc, h i, Nat.mul_right_comm, h' i]
  ac_rfl
theorem Prp.symm {f r : List Nat} (h : Prp f r) : Prp r f := by
  obtain ⟨hl, c, d, hc, hd, h⟩ := h
  exact ⟨hl.symm, d, c, hd, hc, fun i => (h i).symm⟩

/-! How far apart. -/
end Go.Proofs.YtallbegibdlpaaaGreat

/-
  Is the code's filter what it is to be: the law's.
-/
namespace Go.Proofs.YtallbegibdlpaaaGreat
open Go Go.RowKit Go.Th Go.Th.Dig Go.Th.Ex Go.Th.Grid

/-- The code's numbers, one behind the other. -/
def IsV (w : World) (a : Option Addr) (n cap : Nat) (fs : List Nat) : Prop := ∃ cs, Nats w a n cap cs fs ∧ TyR 63 w (.slice a n cap)
theorem IsV.below {w w' : World} {a : Option Addr} {n cap : Nat} {fs : List Nat} (h : IsV w a n cap fs) (hB : Below w.heap.size w w') : IsV w' a n cap fs := by
  obtain ⟨cs, h, h2⟩ := h
  exact ⟨cs, h.below hB, h2.below hB⟩
/-- .. where a block of another type, in which no parts lie, has turned. -/
theorem IsV.turnedB {w w' : World} {a : Option Addr} {n cap g : Nat} {fs : List Nat} {t : TypeId} {cs0 : List Value} (h : IsV w a n cap fs) (K : Blk w g t cs0) (hne : t ≠ 63) (hno : NoPart cs0) (hT : Turned (fun k => k = g) w w') : IsV w' a n cap fs := by
  obtain ⟨cs, h, h2⟩ := h
  exact ⟨cs, ⟨Sl.turned h.sl hT (fun x e => h2.ne K hne x n cap (by rw [e])), h.len, fun j hj => let ⟨b, c, e1, e2⟩ := h.is j hj; ⟨b, c, e1, sl_kept e2 K hno hT⟩⟩, h2.turned hT (fun x m c e => h2.ne K hne x m c e)⟩
theorem IsV.cell {w : World} {a : Option Addr} {n cap : Nat} {fs : List Nat} (h : IsV w a n cap fs) {j : Nat} (hj : j < n) :
    ∃ b o d e f, a = some ⟨b, o, none⟩ ∧ b < w.heap.size ∧ w.cell? ⟨b, o + j, none⟩ = some (.slice d e f) ∧ IsN w (.agg #[.slice d e f]) (fs.getD j 0) := by
  obtain ⟨cs, h, _⟩ := h
  obtain ⟨b, o, d, c, e, hb, hc, hS⟩ := h.cell hj
  exact ⟨b, o, d, _, c, e, hb, hc, ⟨d, c, rfl, hS⟩⟩
theorem IsV.len {w : World} {a : Option Addr} {n cap : Nat} {fs : List Nat} (h : IsV w a n cap fs) : fs.length = n := by
  obtain ⟨cs, h, _⟩ := h
  exact h.len
theorem IsV.max {w : World} {a : Option Addr} {n cap : Nat} {fs : List Nat} (h : IsV w a n cap fs) : n ≤ cap ∧ cap ≤ 9223372036854775807 := by
  obtain ⟨cs, h, _⟩ := h
  exact h.sl.max
theorem noPart_f (x y : Int) (a : Option Addr) (n cap : Nat) : NoPart (fc x y (.slice a n cap)) := by
  intro u hu x e
  simp at hu
  rcases hu with rfl | rfl | rfl <;> cases e
theorem d32 {p k m : Nat} (h : p < 2 ^ k) (hm : k ≤ 32 * m) : len32 p ≤ m := by
  refine dg_len_le (by decide) (Nat.lt_of_lt_of_le h ?_)
  rw [show (4294967296 : Nat) = 2 ^ 32 by decide, ← Nat.pow_mul]
  exact Nat.pow_le_pow_right (by decide) hm
theorem sizeFx : (Tryz.prog.info? 32).map (·.size) = some 3 := by kernel_rfl
theorem rd_fx (x y : Int) (v : Value) : Rd Tryz.prog 32 0 (fc x y v) (fv x y v) :=
  Rd.agg (ds := fc x y v) Tryz.underlying32 rfl sizeFx (fun j u hj => by rw [Nat.zero_add]; exact hj)
instance bNats17 : BsI Tryz.prog 30 := ⟨fun h => Rd.one Tryz.underlying30 rfl h⟩
instance rFx17 (x y : Int) (v : Value) : RdI Tryz.prog 32 0 (fc x y v) (fv x y v) := ⟨rd_fx x y v⟩
instance kFx17 : SzI Tryz.prog 32 3 := ⟨sizeFx⟩
instance zFx17 : ZrI Tryz.prog 32 (fv 0 0 (.slice none 0 0)) (fc 0 0 (.slice none 0 0)) := ⟨by kernel_rfl, rfl⟩

end Go.Proofs.YtallbegibdlpaaaGreat

/-
  Is the code's filter that of some small numbers: the law's.
-/
namespace Go.Proofs.YtallbegibdlpaaaGreat
open Go Go.RowKit Go.Th Go.Th.Dig Go.Th.Ex Go.Th.Grid

end Go.Proofs.YtallbegibdlpaaaGreat
