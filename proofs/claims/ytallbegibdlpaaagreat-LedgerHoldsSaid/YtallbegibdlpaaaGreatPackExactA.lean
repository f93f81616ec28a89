/-
  Texts in one: ExactSpec, ExactA, ExactB, ExactC, ExactD, ExactE, ExactF, ExactG, ExactH, ExactI, ExactJ.
-/
import Derived.Test.YtallbegibdlpaaaGreatPackNatR
import Derived.Deep.Cut
import Derived.Deep.CutRange
import Derived.Test.YtallbegibdlpaaaGreatPackGridA
import Derived.Test.YtallbegibdlpaaaGreatPackBits
set_option linter.unusedVariables false
set_option linter.unusedSimpArgs false

/-
  Filters without rounding: rows of numbers place by place, plain.
-/
namespace Go.Th.Ex
open Go.Th.Dig

/-- A row made place by place. -/
def tabN (f : Nat → Nat) (n : Nat) : List Nat := (List.range n).map f
theorem tabN_length (f : Nat → Nat) (n : Nat) : (tabN f n).length = n := by simp [tabN]
theorem tabN_getD (f : Nat → Nat) (n i : Nat) (h : i < n) : (tabN f n).getD i 0 = f i := by simp [tabN, List.getD_eq_getElem?_getD, h]
theorem tabN_next (f : Nat → Nat) (n : Nat) : tabN f n ++ [f n] = tabN f (n + 1) := by simp [tabN, List.range_succ]
theorem tabN_of (l : List Nat) : tabN (fun i => l.getD i 0) l.length = l := by
  apply List.ext_getElem
  · simp [tabN]
  · intro i h1 h2
    simp [tabN, List.getD_eq_getElem?_getD, h2]
/-- Numbers up to a power of two. -/
def Lt (k : Nat) (l : List Nat) : Prop := ∀ i, l.getD i 0 < 2 ^ k
theorem Lt.mono {k m : Nat} {l : List Nat} (h : Lt k l) (hk : k ≤ m) : Lt m l := fun i => Nat.lt_of_lt_of_le (h i) (Nat.pow_le_pow_right (by decide) hk)
theorem Lt.tab {k n : Nat} {f : Nat → Nat} (h : ∀ i, i < n → f i < 2 ^ k) : Lt k (tabN f n) := by
  intro i
  by_cases hi : i < n
  · rw [tabN_getD f n i hi]; exact h i hi
  · rw [List.getD_eq_getElem?_getD, List.getElem?_eq_none (by rw [tabN_length]; omega)]
    exact Nat.pow_pos (by decide)
/-- The sum of so many of the first. -/
def sumN (l : List Nat) (k : Nat) : Nat := (l.take k).sum
theorem sumN_next (l : List Nat) (k : Nat) : sumN l (k + 1) = sumN l k + l.getD k 0 := by
  unfold sumN
  rw [List.take_add_one, List.sum_append, List.getD_eq_getElem?_getD]
  cases l[k]? <;> simp
theorem sumN_all (l : List Nat) : sumN l l.length = l.sum := by unfold sumN; rw [List.take_length]
theorem sumN_le {k : Nat} {l : List Nat} (h : Lt k l) : ∀ n, sumN l n ≤ n * 2 ^ k
  | 0 => by simp [sumN]
  | n + 1 => by
    rw [sumN_next, Nat.add_mul, Nat.one_mul]
    have := sumN_le h n
    have := h n
    omega
theorem sumN_lt {k m : Nat} {l : List Nat} (h : Lt k l) (n : Nat) (hn : n < 2 ^ m) : sumN l n < 2 ^ (k + m) := by
  have h1 := sumN_le h n
  rw [Nat.pow_add, Nat.mul_comm]
  exact Nat.lt_of_le_of_lt h1 (Nat.mul_lt_mul_of_pos_right hn (Nat.pow_pos (by decide)))
/-- Small numbers as digits, one behind the other: so many digits were told, and x is left. -/
structure Sml (n k x : Nat) (pre : List Nat) : Prop where
  len : pre.length = k
  lt : ∀ d ∈ pre, d < 256
  val : val 256 pre + 256 ^ k * x = n
  top : k = 0 ∨ 256 ^ (k - 1) ≤ n
theorem Sml.start (n : Nat) : Sml n 0 n [] := ⟨rfl, by simp, by simp [Dig.val], .inl rfl⟩
theorem Sml.step {n k x : Nat} {pre : List Nat} (h : Sml n k x pre) (hx : 0 < x) : Sml n (k + 1) (x / 256) (pre ++ [x % 256]) := by
  refine ⟨by simp [h.len], ?_, ?_, .inr ?_⟩
  · intro d hd
    rcases List.mem_append.1 hd with hd | hd
    · exact h.lt d hd
    · rw [List.mem_singleton.1 hd]; exact Nat.mod_lt _ (by decide)
  · rw [val_snoc, h.len, Nat.add_assoc, Nat.pow_succ, Nat.mul_assoc, ← Nat.mul_add, Nat.mod_add_div]
    exact h.val
  · have h1 := h.val
    have h2 : 256 ^ k * 1 ≤ 256 ^ k * x := Nat.mul_le_mul_left _ hx
    show 256 ^ (k + 1 - 1) ≤ n
    rw [Nat.add_sub_cancel]
    omega
theorem Sml.done {n k : Nat} {pre : List Nat} (h : Sml n k 0 pre) : pre = dg 256 n := by
  have hv : Dig.val 256 pre = n := by have := h.val; simpa using this
  refine dg_of (by decide) h.lt ?_ hv
  intro d hd h0
  subst h0
  rcases List.eq_nil_or_concat pre with rfl | ⟨l, b, rfl⟩
  · simp at hd
  · simp at hd
    subst hd
    have hk := h.len
    simp only [List.concat_eq_append, List.length_append, List.length_cons, List.length_nil] at hk
    rw [List.concat_eq_append, val_snoc] at hv
    have hl := val_lt (B := 256) (by decide) (l := l) (fun d hd => h.lt d (by simp [hd]))
    rcases h.top with h1 | h1
    · omega
    · have e : k - 1 = l.length := by omega
      rw [e] at h1
      omega
end Go.Th.Ex

/-
  Rows of numbers as digits, one behind the other: a row that came in, one of the call's own; small numbers; the sum of a filter: the reference's.
-/
namespace Go.Th
open Go Go.RowKit
/-- What is left of known blocks where other ones have turned. -/
theorem Mem.turnedB {w0 w w' : World} {bs : List (Nat × TypeId × List Value)} {S : Nat → Prop} (M : Mem w0 w bs) (ht : Turned S w w') (h0 : ∀ k, k < w0.heap.size → ¬ S k) (hb : ∀ e ∈ bs, ¬ S e.1) : Mem w0 w' bs :=
  ⟨ht.old M.below M.below.size h0, M.nodup, M.old, fun e he => (M.blk e he).turned ht (hb e he)⟩
theorem grown_turnedB {w w' : World} {row : Option Nat} (h : w.grownBy w' row) : Turned (fun k => row = some k) w w' := (Turned.refl _ _).grown h (fun _ e _ => e)
end Go.Th
namespace Go.Proofs.YtallbegibdlpaaaGreat
open Go Go.RowKit Go.Th Go.Th.Dig Go.Th.Ex

abbrev fv (x y : Int) (v : Value) : Value := .agg #[.int .i64 x, .int .i64 y, v]
abbrev fc (x y : Int) (v : Value) : List Value := [.int .i64 x, .int .i64 y, v]
instance bInt17 : BsI Tryz.prog 3 := ⟨fun h => Rd.one Tryz.underlying3 rfl h⟩
/-- A number's digits, in a block of digits. -/
def D16 (w : World) (v : Value) (p : Nat) : Prop := Is16 w v p ∧ TyR 3 w v
theorem D16.below {w w' : World} {v : Value} {p : Nat} (h : D16 w v p) (hB : Below w.heap.size w w') : D16 w' v p := ⟨h.1.below hB, h.2.below hB⟩
theorem D16.form {w : World} {v : Value} {p : Nat} (h : D16 w v p) : ∃ a n c, v = .slice a n c ∧ n = (dg 256 p).length ∧ D16 w (.slice a n c) p := by
  obtain ⟨a, c, rfl, _⟩ := id h.1
  exact ⟨_, _, _, rfl, rfl, h⟩
/-- .. where other blocks have turned. -/
theorem D16.turned {w w' : World} {S : Nat → Prop} {v : Value} {p : Nat} (h : D16 w v p) (hT : Turned S w w') (hs : ∀ x n c, v = .slice (some x) n c → ¬ S x.block) : D16 w' v p := by
  obtain ⟨a, c, rfl, _⟩ := id h.1
  have h0 : Sl w 1 (.slice a (dg 256 p).length c) (dg 256 p).length (digs (dg 256 p)) := h.1
  exact ⟨h0.turned hT (fun x e => hs x _ _ (by rw [e])), h.2.turned hT hs⟩
theorem D16.turnedB {w w' : World} {v : Value} {p g : Nat} {t : TypeId} {cs : List Value} (h : D16 w v p) (K : Blk w g t cs) (hne : t ≠ 3) (hT : Turned (fun k => k = g) w w') : D16 w' v p :=
  h.turned hT (fun x n c e => h.2.ne K hne x n c e)
/-- .. or a row of the call's own of another type. -/
theorem D16.grown {w w' : World} {v : Value} {p B n size : Nat} {T : TypeId} {u : Value} {xs : List Value} (h : D16 w v p) (ho : w.ownsRow B T size u n xs) (hne : T ≠ 3) (hg : w.grownBy w' u.ownBlock) : D16 w' v p := by
  refine h.turned (grown_turnedB hg) (fun x m c e hx => ?_)
  rcases ho.2 with ⟨rfl, _⟩ | ⟨g, cap, cur, rfl, _, hh, _⟩
  · cases hx
  · obtain rfl : g = x.block := Option.some.inj hx
    obtain ⟨cur2, fz, h2⟩ := h.2 x m c e
    rw [hh] at h2
    cases h2
    exact hne rfl
end Go.Proofs.YtallbegibdlpaaaGreat

/-
  What a filter is; all numbers together; a place of it, or the one at the end: the reference's.
-/
namespace Go.Proofs.YtallbegibdlpaaaGreat
open Go Go.RowKit Go.Th Go.Th.Dig Go.Th.Ex

/-- The place at a number, or the one at the end. -/
def clp (z : Int) (n : Nat) : Nat := if z < 0 then 0 else if (n : Int) ≤ z then n - 1 else z.toNat
theorem at_lt17 {i j x y : Nat} (hi : i < x) (hj : j < y) : j * x + i < x * y := by
  have h1 : (j + 1) * x ≤ y * x := Nat.mul_le_mul_right _ hj
  rw [Nat.add_mul, Nat.one_mul] at h1
  rw [Nat.mul_comm x y]
  omega
end Go.Proofs.YtallbegibdlpaaaGreat

/-
  The filter that a grid is: the reference's.
-/
namespace Go.Proofs.YtallbegibdlpaaaGreat
open Go Go.RowKit Go.Th Go.Th.Dig Go.Th.Ex Go.Th.Grid

end Go.Proofs.YtallbegibdlpaaaGreat

/-
  A filter that is spread: the reference's.
-/
namespace Go.Proofs.YtallbegibdlpaaaGreat
open Go Go.RowKit Go.Th Go.Th.Dig Go.Th.Ex Go.Th.Grid

/-- What becomes of a place along rows, or columns. -/
def passAt (us : List Nat) (x y q dx dy i : Nat) : Nat :=
  us.getD i 0 * (256 - 2 * q) + us.getD (clp (((i / x : Nat) : Int) - (dy : Int)) y * x + clp (((i % x : Nat) : Int) - (dx : Int)) x) 0 * q + us.getD (clp (((i / x : Nat) : Int) + (dy : Int)) y * x + clp (((i % x : Nat) : Int) + (dx : Int)) x) 0 * q
def passU (us : List Nat) (x y q dx dy : Nat) : List Nat := tabN (passAt us x y q dx dy) us.length
theorem passU_length (us : List Nat) (x y q dx dy : Nat) : (passU us x y q dx dy).length = us.length := tabN_length _ _
theorem mul_pow2 {u c k m : Nat} (hu : u < 2 ^ k) (hc : c < 2 ^ m) : u * c < 2 ^ (k + m) := by
  rw [Nat.pow_add]
  exact Nat.mul_lt_mul'' hu hc
theorem pass_sum {k q u1 u2 u3 : Nat} (hq : q ≤ 85) (h1 : u1 < 2 ^ k) (h2 : u2 < 2 ^ k) (h3 : u3 < 2 ^ k) : u2 * (256 - 2 * q) + u1 * q + u3 * q < 2 ^ (k + 8) := by
  have a1 : u1 * q ≤ 2 ^ k * q := Nat.mul_le_mul_right _ (by omega)
  have a3 : u3 * q ≤ 2 ^ k * q := Nat.mul_le_mul_right _ (by omega)
  have a2 : u2 * (256 - 2 * q) < 2 ^ k * (256 - 2 * q) := Nat.mul_lt_mul_of_pos_right h2 (by omega)
  have e : 2 ^ k * (256 - 2 * q) + 2 ^ k * q + 2 ^ k * q = 2 ^ k * 256 := by rw [← Nat.mul_add, ← Nat.mul_add]; congr 1; omega
  rw [Nat.pow_add]
  omega
theorem Lt.pass {k : Nat} {us : List Nat} (h : Lt k us) {q : Nat} (hq : q ≤ 85) (x y dx dy : Nat) : Lt (k + 8) (passU us x y q dx dy) := Lt.tab fun i _ => pass_sum hq (h _) (h _) (h _)

end Go.Proofs.YtallbegibdlpaaaGreat

/-
  A filter that is spread, weighed: the reference's.
-/
namespace Go.Proofs.YtallbegibdlpaaaGreat
open Go Go.RowKit Go.Th Go.Th.Dig Go.Th.Ex Go.Th.Grid

def spreadU (us : List Nat) (x y q : Nat) : List Nat := passU (passU us x y q 1 0) x y q 0 1
theorem spreadU_length (us : List Nat) (x y q : Nat) : (spreadU us x y q).length = us.length := by unfold spreadU; rw [passU_length, passU_length]
theorem Lt.spread {k : Nat} {us : List Nat} (h : Lt k us) {q : Nat} (hq : q ≤ 85) (x y : Nat) : Lt (k + 16) (spreadU us x y q) := Lt.pass (Lt.pass h hq x y 1 0) hq x y 0 1

end Go.Proofs.YtallbegibdlpaaaGreat

/-
  A filter that is weighed: the reference's.
-/
namespace Go.Proofs.YtallbegibdlpaaaGreat
open Go Go.RowKit Go.Th Go.Th.Dig Go.Th.Ex Go.Th.Grid

def weighU (us ls : List Nat) : List Nat := tabN (fun i => us.getD i 0 * ls.getD i 0) us.length
theorem weighU_length (us ls : List Nat) : (weighU us ls).length = us.length := tabN_length _ _
theorem lt_weigh {k m : Nat} {us ls : List Nat} (h : Lt k us) (hl : Lt m ls) : Lt (k + m) (weighU us ls) := Lt.tab fun i _ => mul_pow2 (h i) (hl i)

end Go.Proofs.YtallbegibdlpaaaGreat

/-
  A part of a filter: the reference's.
-/
namespace Go.Proofs.YtallbegibdlpaaaGreat
open Go Go.RowKit Go.Th Go.Th.Dig Go.Th.Ex Go.Th.Grid

/-- What becomes of a place that is cut out. -/
def cutAt17 (us : List Nat) (x y : Nat) (X Y : Int) (cw j : Nat) : Nat :=
  if 0 ≤ X + ((j % cw : Nat) : Int) ∧ X + ((j % cw : Nat) : Int) < (x : Int) ∧ 0 ≤ Y + ((j / cw : Nat) : Int) ∧ Y + ((j / cw : Nat) : Int) < (y : Int) then
    us.getD ((Y + ((j / cw : Nat) : Int)).toNat * x + (X + ((j % cw : Nat) : Int)).toNat) 0 else 0
def cutU (us : List Nat) (x y : Nat) (X Y : Int) (cw ch : Nat) : List Nat := tabN (cutAt17 us x y X Y cw) (ch * cw)
theorem cutU_length (us : List Nat) (x y : Nat) (X Y : Int) (cw ch : Nat) : (cutU us x y X Y cw ch).length = ch * cw := tabN_length _ _
theorem lt_cut {k : Nat} {us : List Nat} (h : Lt k us) (x y : Nat) (X Y : Int) (cw ch : Nat) : Lt k (cutU us x y X Y cw ch) := Lt.tab fun i _ => by
  unfold cutAt17
  split
  · exact h _
  · exact Nat.pow_pos (by decide)
theorem div_row {cw k i : Nat} (h : i < cw) : (k * cw + i) / cw = k ∧ (k * cw + i) % cw = i := by
  rw [Nat.mul_comm]
  exact ⟨by rw [Nat.mul_add_div (by omega), Nat.div_eq_of_lt h, Nat.add_zero], by rw [Nat.mul_add_mod, Nat.mod_eq_of_lt h]⟩
end Go.Proofs.YtallbegibdlpaaaGreat

/-
  A filter with four places for each: the reference's.
-/
namespace Go.Proofs.YtallbegibdlpaaaGreat
open Go Go.RowKit Go.Th Go.Th.Dig Go.Th.Ex Go.Th.Grid

def splitAt17 (us : List Nat) (x W j : Nat) : Nat := us.getD (j / W / 2 * x + j % W / 2) 0
def splitU (us : List Nat) (x y : Nat) : List Nat := tabN (splitAt17 us x (2 * x)) (2 * y * (2 * x))
theorem splitU_length (us : List Nat) (x y : Nat) : (splitU us x y).length = 2 * y * (2 * x) := tabN_length _ _
theorem lt_split {k : Nat} {us : List Nat} (h : Lt k us) (x y : Nat) : Lt k (splitU us x y) := Lt.tab fun i _ => h _

end Go.Proofs.YtallbegibdlpaaaGreat

/-
  One number less another one: the reference's.
-/
namespace Go.Th.Ex
open Go.Th.Dig
/-- So many digits of the difference were told; r is borrowed. -/
structure Les (x y : List Nat) (i r : Nat) (pre : List Nat) : Prop where
  len : pre.length = i
  lt : ∀ d ∈ pre, d < 256
  sum : val 256 pre + val 256 (y.take i) = val 256 (x.take i) + 256 ^ i * r
  le : r ≤ 1
theorem Les.start (x y : List Nat) : Les x y 0 0 [] := ⟨rfl, by simp, by simp [val], by omega⟩
theorem take_val17 (l : List Nat) (i : Nat) : val 256 (l.take (i + 1)) = val 256 (l.take i) + 256 ^ i * l.getD i 0 := by
  by_cases h : i < l.length
  · rw [List.take_add_one, List.getElem?_eq_getElem h, Option.toList_some, val_snoc, List.length_take, Nat.min_eq_left (by omega), List.getD_eq_getElem?_getD, List.getElem?_eq_getElem h]; rfl
  · rw [List.take_of_length_le (by omega), List.take_of_length_le (by omega), List.getD_eq_getElem?_getD, List.getElem?_eq_none (by omega)]; simp
theorem Les.step {x y : List Nat} {i r d r' : Nat} {pre : List Nat} (h : Les x y i r pre) (hd : d < 256) (hr : r' ≤ 1) (he : d + r + y.getD i 0 = x.getD i 0 + 256 * r') : Les x y (i + 1) r' (pre ++ [d]) := by
  refine ⟨by simp [h.len], ?_, ?_, hr⟩
  · intro e he
    rcases List.mem_append.1 he with he | he
    · exact h.lt e he
    · rw [List.mem_singleton.1 he]; exact hd
  · have h1 := h.sum
    rw [val_snoc, h.len, take_val17, take_val17, Nat.pow_succ, Nat.mul_assoc]
    have h2 : 256 ^ i * d + 256 ^ i * r + 256 ^ i * y.getD i 0 = 256 ^ i * x.getD i 0 + 256 ^ i * (256 * r') := by rw [← Nat.mul_add, ← Nat.mul_add, ← Nat.mul_add, he]
    omega
theorem Les.done {x y : List Nat} {r : Nat} {pre : List Nat} (h : Les x y x.length r pre) (hy : y.length ≤ x.length) (hle : val 256 y ≤ val 256 x) : val 256 pre = val 256 x - val 256 y := by
  have h1 := h.sum
  rw [List.take_length, List.take_of_length_le hy] at h1
  have h2 := val_lt (B := 256) (by decide) h.lt
  rw [h.len] at h2
  have hr := h.le
  rcases (show r = 0 ∨ r = 1 by omega) with rfl | rfl
  · omega
  · omega
end Go.Th.Ex
namespace Go.Proofs.YtallbegibdlpaaaGreat
open Go Go.RowKit Go.Th Go.Th.Dig Go.Th.Ex

end Go.Proofs.YtallbegibdlpaaaGreat

/-
  Two filters that are one, each divided by its sum: the reference's.
-/
namespace Go.Proofs.YtallbegibdlpaaaGreat
open Go Go.RowKit Go.Th Go.Th.Dig Go.Th.Ex Go.Th.Grid

end Go.Proofs.YtallbegibdlpaaaGreat
