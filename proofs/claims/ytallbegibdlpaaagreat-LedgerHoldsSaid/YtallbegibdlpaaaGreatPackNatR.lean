/-
  Texts in one: NatSpec, NatA, NatB, NatC, NatD, NatE, NatF, NatG.
-/
import Derived.Test.YtallbegibdlpaaaGreatRows
import Derived.Test.YtallbegibdlpaaaGreatPackBits
import Derived.Laws.OwnMore
set_option linter.unusedVariables false
set_option linter.unusedSimpArgs false

/-
  Numbers by their digits, the lowest first, to any base; plain.
-/
namespace Go.Th.Dig

/-- What digits (of any size) are together. -/
def val (B : Nat) : List Nat → Nat
  | [] => 0
  | d :: r => d + B * val B r
theorem val_app (B : Nat) (a b : List Nat) : val B (a ++ b) = val B a + B ^ a.length * val B b := by
  induction a with
  | nil => simp [val]
  | cons d r ih => rw [List.cons_append, val, val, ih, List.length_cons, Nat.pow_succ, Nat.mul_add, Nat.add_assoc, Nat.mul_comm (B ^ r.length) B, Nat.mul_assoc]
theorem val_snoc (B : Nat) (a : List Nat) (d : Nat) : val B (a ++ [d]) = val B a + B ^ a.length * d := by rw [val_app]; simp [val]
theorem val_zeros (B n : Nat) : val B (List.replicate n 0) = 0 := by
  induction n with
  | zero => rfl
  | succ n ih => rw [List.replicate_succ, val, ih, Nat.mul_zero]
theorem val_lt {B : Nat} (hB : 0 < B) {l : List Nat} (h : ∀ d ∈ l, d < B) : val B l < B ^ l.length := by
  induction l with
  | nil => simp [val]
  | cons d r ih =>
    have h1 := h d (by simp)
    have h2 := ih (fun x hx => h x (by simp [hx]))
    rw [val, List.length_cons, Nat.pow_succ]
    have h3 : B * (val B r + 1) ≤ B * B ^ r.length := Nat.mul_le_mul_left _ h2
    rw [Nat.mul_add] at h3
    rw [Nat.mul_comm (B ^ r.length) B]
    omega
theorem val_take (B : Nat) (l : List Nat) (i : Nat) : val B l = val B (l.take i) + B ^ (min i l.length) * val B (l.drop i) := by
  have h := val_app B (l.take i) (l.drop i)
  rw [List.take_append_drop, List.length_take] at h
  exact h

/-- The digits of a number, no nought behind the highest one. -/
def dgs (B : Nat) : Nat → Nat → List Nat
  | 0, _ => []
  | f + 1, n => if n = 0 then [] else (n % B) :: dgs B f (n / B)
def dg (B n : Nat) : List Nat := dgs B n n
theorem dgs_lt {B : Nat} (hB : 0 < B) : ∀ f n, ∀ d ∈ dgs B f n, d < B
  | 0, n, d, h => by cases h
  | f + 1, n, d, h => by
    unfold dgs at h
    split at h
    · cases h
    · rcases List.mem_cons.1 h with rfl | h
      · exact Nat.mod_lt _ hB
      · exact dgs_lt hB f _ d h
theorem dgs_val {B : Nat} (hB : 2 ≤ B) : ∀ f n, n ≤ f → val B (dgs B f n) = n
  | 0, n, h => by
    obtain rfl : n = 0 := by omega
    rfl
  | f + 1, n, h => by
    unfold dgs
    split
    · rename_i h0; rw [h0]; rfl
    · rename_i h0
      have : n / B < n := Nat.div_lt_self (by omega) (by omega)
      rw [val, dgs_val hB f _ (by omega)]
      exact Nat.mod_add_div n B
theorem dgs_last {B : Nat} (hB : 2 ≤ B) : ∀ f n, n ≤ f → ∀ d, (dgs B f n).getLast? = some d → d ≠ 0
  | 0, n, h, d, hd => by cases hd
  | f + 1, n, h, d, hd => by
    unfold dgs at hd
    split at hd
    · cases hd
    · rename_i h0
      have h1 : n / B < n := Nat.div_lt_self (by omega) (by omega)
      rw [List.getLast?_cons] at hd
      cases hr : (dgs B f (n / B)).getLast? with
      | some e =>
        rw [hr] at hd
        cases hd
        exact dgs_last hB f _ (by omega) _ hr
      | none =>
        rw [hr] at hd
        cases hd
        have hn : dgs B f (n / B) = [] := List.getLast?_eq_none_iff.1 hr
        have hv := dgs_val hB f (n / B) (by omega)
        rw [hn] at hv
        have hq : n / B = 0 := hv.symm
        have hm := Nat.mod_add_div n B
        show n % B ≠ 0
        intro hz
        rw [hz, hq, Nat.mul_zero] at hm
        exact h0 hm.symm
theorem dg_lt {B : Nat} (hB : 0 < B) (n : Nat) : ∀ d ∈ dg B n, d < B := dgs_lt hB n n
theorem dg_val {B : Nat} (hB : 2 ≤ B) (n : Nat) : val B (dg B n) = n := dgs_val hB n n (Nat.le_refl _)
theorem dg_last {B : Nat} (hB : 2 ≤ B) (n : Nat) : ∀ d, (dg B n).getLast? = some d → d ≠ 0 := dgs_last hB n n (Nat.le_refl _)
theorem dg_0 (B : Nat) : dg B 0 = [] := rfl

theorem val_0 {B : Nat} (hB : 0 < B) : ∀ l : List Nat, val B l = 0 → ∀ d ∈ l, d = 0
  | [], _, d, hd => by cases hd
  | x :: r, h0, d, hd => by
    rw [val] at h0
    have h1 : x = 0 := by omega
    have h2 : B * val B r = 0 := by omega
    have h3 : val B r = 0 := by
      rcases Nat.mul_eq_zero.1 h2 with h | h
      · omega
      · exact h
    rcases List.mem_cons.1 hd with rfl | hd
    · exact h1
    · exact val_0 hB r h3 d hd
/-- Digits without a nought at the end are told by what they are together. -/
theorem val_inj {B : Nat} (hB : 2 ≤ B) : ∀ (a b : List Nat), (∀ d ∈ a, d < B) → (∀ d ∈ b, d < B) → (∀ d, a.getLast? = some d → d ≠ 0) → (∀ d, b.getLast? = some d → d ≠ 0) → val B a = val B b → a = b
  | [], [], _, _, _, _, _ => rfl
  | [], e :: s, _, _, _, h4, h => by
    exfalso
    exact h4 _ (List.getLast?_eq_some_getLast (l := e :: s) (by simp)) (val_0 (by omega) _ h.symm _ (List.getLast_mem _))
  | d :: r, [], _, _, h3, _, h => by
    exfalso
    exact h3 _ (List.getLast?_eq_some_getLast (l := d :: r) (by simp)) (val_0 (by omega) _ h _ (List.getLast_mem _))
  | d :: r, e :: s, h1, h2, h3, h4, h => by
    rw [val, val] at h
    have hd := h1 d (by simp)
    have he := h2 e (by simp)
    have hmod : d = e := by
      have := congrArg (· % B) h
      simp only [Nat.add_mul_mod_self_left, Nat.mod_eq_of_lt hd, Nat.mod_eq_of_lt he] at this
      exact this
    subst hmod
    have hv : val B r = val B s := Nat.eq_of_mul_eq_mul_left (by omega) (by omega : B * val B r = B * val B s)
    congr 1
    refine val_inj hB r s (fun x hx => h1 x (by simp [hx])) (fun x hx => h2 x (by simp [hx])) (fun x hx => h3 x ?_) (fun x hx => h4 x ?_) hv
    · rw [List.getLast?_cons, hx]; rfl
    · rw [List.getLast?_cons, hx]; rfl
theorem dg_of {B : Nat} (hB : 2 ≤ B) {l : List Nat} {n : Nat} (h1 : ∀ d ∈ l, d < B) (h2 : ∀ d, l.getLast? = some d → d ≠ 0) (h3 : val B l = n) : l = dg B n :=
  val_inj hB l (dg B n) h1 (dg_lt (by omega) n) h2 (dg_last hB n) (by rw [dg_val hB, h3])
/-- Digits, less the noughts at the end: so many stay. -/
theorem dg_cut {B : Nat} (hB : 2 ≤ B) {l : List Nat} {k : Nat} (h1 : ∀ d ∈ l, d < B) (hz : ∀ i, k ≤ i → i < l.length → l.getD i 0 = 0) (hk : k ≤ l.length) (hl : 0 < k → l.getD (k - 1) 0 ≠ 0) : l.take k = dg B (val B l) := by
  refine dg_of hB (fun d hd => h1 d (List.mem_of_mem_take hd)) ?_ ?_
  · intro d hd
    rw [List.getLast?_eq_getElem?, List.length_take, Nat.min_eq_left hk] at hd
    by_cases h0 : 0 < k
    · have := hl h0
      rw [List.getElem?_take, if_pos (by omega)] at hd
      rw [List.getD_eq_getElem?_getD, hd] at this
      exact this
    · obtain rfl : k = 0 := by omega
      simp at hd
  · have h := val_take B l k
    have hzero : val B (l.drop k) = 0 := by
      have : l.drop k = List.replicate (l.length - k) 0 := by
        refine List.ext_getElem (by simp) fun i h1 h2 => ?_
        have hi : k + i < l.length := by simp at h1; omega
        have := hz (k + i) (by omega) hi
        rw [List.getD_eq_getElem?_getD, List.getElem?_eq_getElem hi] at this
        simp at this ⊢
        exact this
      rw [this, val_zeros]
    rw [hzero, Nat.mul_zero, Nat.add_zero] at h
    exact h.symm
end Go.Th.Dig

/-
  Digits of 256 as a row: one of them, the noughts at the end, the same, less: the reference's.
-/
namespace Go.Proofs.YtallbegibdlpaaaGreat
open Go Go.RowKit Go.Th Go.Th.Dig

def digs (l : List Nat) : List Value := l.map (fun x : Nat => .int .i64 (x : Int))
/-- A row that lies in a block of this type. -/
def TyR (T : TypeId) (w : World) (v : Value) : Prop := ∀ x n c, v = .slice (some x) n c → ∃ cur fz, w.heap[x.block]? = some (.cells cur T fz)
theorem TyR.turned {T : TypeId} {w w' : World} {S : Nat → Prop} {v : Value} (h : TyR T w v) (hT : Turned S w w') (hs : ∀ x n c, v = .slice (some x) n c → ¬ S x.block) : TyR T w' v := by
  intro x n c e
  obtain ⟨cur, fz, hg⟩ := h x n c e
  exact ⟨cur, fz, (hT.block _ (Array.getElem?_eq_some_iff.1 hg).1 (hs x n c e)).trans hg⟩
theorem TyR.below {T : TypeId} {w w' : World} {v : Value} (h : TyR T w v) (hB : Below w.heap.size w w') : TyR T w' v :=
  h.turned (Turned.below (S := fun _ => False) hB) (fun _ _ _ _ => id)
theorem TyR.ne {T t : TypeId} {w : World} {g : Nat} {cs : List Value} {v : Value} (h : TyR T w v) (K : Blk w g t cs) (hne : t ≠ T) : ∀ x n c, v = .slice (some x) n c → x.block ≠ g := by
  rintro x n c e rfl
  obtain ⟨cur, fz, hg⟩ := h x n c e
  unfold Blk at K
  rw [K] at hg
  cases hg
  exact hne rfl
theorem tyR_blk {T : TypeId} {w : World} {g : Nat} {cs : List Value} (K : Blk w g T cs) (o : Nat) (n c : Nat) : TyR T w (.slice (some ⟨g, o, none⟩) n c) := by
  rintro x i c e
  cases e
  exact ⟨_, _, K⟩
/-- Behind the last ones only noughts. -/
def Noughts (l : List Nat) (k : Nat) : Prop := ∀ i, k ≤ i → i < l.length → l.getD i 0 = 0
theorem Noughts.step {l : List Nat} {k : Nat} (h : Noughts l (k + 1)) (h0 : l.getD k 0 = 0) : Noughts l k := by
  intro i hi hl
  by_cases e : i = k
  · rw [e, h0]
  · exact h i (by omega) hl
end Go.Proofs.YtallbegibdlpaaaGreat

/-
  Numbers as digits of 256: the same, less: the reference's.
-/
namespace Go.Th.Dig
theorem drop_step {l : List Nat} {i : Nat} (h : i < l.length) : l.drop i = l.getD i 0 :: l.drop (i + 1) := by
  rw [List.drop_eq_getElem_cons h, List.getD_eq_getElem?_getD, List.getElem?_eq_getElem h]; rfl
/-- The highest digit that is another one tells. -/
theorem val_differ {B : Nat} (hB : 0 < B) {a b : List Nat} (hl : a.length = b.length) (h1 : ∀ d ∈ a, d < B) (i : Nat) (hi : i < a.length) (hd : a.drop (i + 1) = b.drop (i + 1)) (h : a.getD i 0 < b.getD i 0) : val B a < val B b := by
  have ea := val_take B a i
  have eb := val_take B b i
  rw [drop_step hi, val, Nat.min_eq_left (by omega)] at ea
  rw [drop_step (hl ▸ hi), val, Nat.min_eq_left (by omega)] at eb
  have hlt := val_lt hB (l := a.take i) (fun d hd => h1 d (List.mem_of_mem_take hd))
  rw [List.length_take, Nat.min_eq_left (by omega)] at hlt
  rw [hd] at ea
  have : B ^ i * (a.getD i 0 + 1 + B * val B (b.drop (i + 1))) ≤ B ^ i * (b.getD i 0 + B * val B (b.drop (i + 1))) := Nat.mul_le_mul_left _ (by omega)
  have e2 : B ^ i * (a.getD i 0 + 1 + B * val B (b.drop (i + 1))) = B ^ i * (a.getD i 0 + B * val B (b.drop (i + 1))) + B ^ i := by
    rw [show a.getD i 0 + 1 + B * val B (b.drop (i + 1)) = (a.getD i 0 + B * val B (b.drop (i + 1))) + 1 by omega, Nat.mul_add, Nat.mul_one]
  omega
theorem dg_inj {B : Nat} (hB : 2 ≤ B) {p q : Nat} (h : dg B p = dg B q) : p = q := by rw [← dg_val hB p, h, dg_val hB]
theorem dg_top {B : Nat} (hB : 2 ≤ B) {p : Nat} (h : 0 < (dg B p).length) : B ^ ((dg B p).length - 1) ≤ p := by
  have h1 := val_take B (dg B p) ((dg B p).length - 1)
  rw [Nat.min_eq_left (by omega), dg_val hB, drop_step (by omega), show (dg B p).length - 1 + 1 = (dg B p).length by omega, List.drop_length] at h1
  have hne : (dg B p).getD ((dg B p).length - 1) 0 ≠ 0 := by
    refine dg_last hB p _ ?_
    rw [List.getLast?_eq_getElem?, List.getD_eq_getElem?_getD, List.getElem?_eq_getElem (by omega)]; rfl
  have h2 : B ^ ((dg B p).length - 1) * 1 ≤ B ^ ((dg B p).length - 1) * val B [(dg B p).getD ((dg B p).length - 1) 0] := Nat.mul_le_mul_left _ (by rw [val, val]; omega)
  omega
theorem dg_len_lt {B : Nat} (hB : 2 ≤ B) {p q : Nat} (h : (dg B p).length < (dg B q).length) : p < q := by
  have h1 := dg_top hB (p := q) (by omega)
  have h2 := val_lt (by omega) (dg_lt (by omega : 0 < B) p)
  rw [dg_val hB] at h2
  have h3 : B ^ (dg B p).length ≤ B ^ ((dg B q).length - 1) := Nat.pow_le_pow_right (by omega) (by omega)
  omega
end Go.Th.Dig
namespace Go.Proofs.YtallbegibdlpaaaGreat
open Go Go.RowKit Go.Th Go.Th.Dig

/-- A row reads as the digits of a number. -/
def Is16 (w : World) (v : Value) (p : Nat) : Prop := Sl w 1 v (dg 256 p).length (digs (dg 256 p))
theorem Is16.below {w w' : World} {v : Value} {p : Nat} (h : Is16 w v p) (hb : Below w.heap.size w w') : Is16 w' v p := Sl.below h hb
end Go.Proofs.YtallbegibdlpaaaGreat

/-
  Numbers as digits of 256: the sum, a power of two: the reference's.
-/
namespace Go.Th.Dig
theorem drop_any (l : List Nat) (i : Nat) (B : Nat) : val B (l.drop i) = l.getD i 0 + B * val B (l.drop (i + 1)) := by
  by_cases h : i < l.length
  · rw [drop_step h, val]
  · rw [List.drop_of_length_le (by omega), List.drop_of_length_le (by omega), List.getD_eq_getElem?_getD, List.getElem?_eq_none (by omega)]; rfl
theorem getD_out {l : List Nat} {i : Nat} (h : l.length ≤ i) : l.getD i 0 = 0 := by
  rw [List.getD_eq_getElem?_getD, List.getElem?_eq_none h]; rfl
theorem dg_len_le {B : Nat} (hB : 2 ≤ B) {p k : Nat} (h : p < B ^ k) : (dg B p).length ≤ k := by
  refine Nat.le_of_not_lt fun hk => ?_
  have h1 := dg_top hB (p := p) (by omega)
  have h2 : B ^ k ≤ B ^ ((dg B p).length - 1) := Nat.pow_le_pow_right (by omega) (by omega)
  omega
theorem dg_len_of {B : Nat} (hB : 2 ≤ B) {p q k : Nat} (h : p ≤ q) (hq : (dg B q).length ≤ k) : (dg B p).length ≤ k := by
  by_cases e : (dg B p).length ≤ (dg B q).length
  · omega
  · have := dg_len_lt hB (p := q) (q := p) (by omega)
    omega
/-- A sum, digit by digit: so far, with what is carried. -/
structure Sum16 (x y : List Nat) (i c : Nat) (pre : List Nat) : Prop where
  len : pre.length = i
  dig : ∀ d ∈ pre, d < 256
  car : c ≤ 1
  sum : val 256 pre + 256 ^ i * (c + val 256 (x.drop i) + val 256 (y.drop i)) = val 256 x + val 256 y
  fin : i ≤ x.length ∨ i ≤ y.length ∨ c = 0
theorem Sum16.start (x y : List Nat) : Sum16 x y 0 0 [] := ⟨rfl, by simp, by omega, by simp [val], Or.inl (Nat.zero_le _)⟩
theorem Sum16.step {x y : List Nat} {i c : Nat} {pre : List Nat} (h : Sum16 x y i c pre) (hx : ∀ j, x.getD j 0 < 256) (hy : ∀ j, y.getD j 0 < 256) :
    Sum16 x y (i + 1) ((c + x.getD i 0 + y.getD i 0) / 256) (pre ++ [(c + x.getD i 0 + y.getD i 0) % 256]) := by
  obtain ⟨h1, h2, h3, h4, h5⟩ := h
  have a := hx i
  have b := hy i
  refine ⟨by simp [h1], ?_, by omega, ?_, ?_⟩
  · intro d hd
    rcases List.mem_append.1 hd with hd | hd
    · exact h2 d hd
    · rw [List.mem_singleton.1 hd]; omega
  · rw [val_snoc, h1, ← h4, drop_any x i, drop_any y i, Nat.pow_succ]
    obtain ⟨u, hu⟩ : ∃ u, u = c + x.getD i 0 + y.getD i 0 := ⟨_, rfl⟩
    rw [← hu]
    have e := Nat.mod_add_div u 256
    have e2 : c + (x.getD i 0 + 256 * val 256 (x.drop (i + 1))) + (y.getD i 0 + 256 * val 256 (y.drop (i + 1))) = u % 256 + 256 * (u / 256 + val 256 (x.drop (i + 1)) + val 256 (y.drop (i + 1))) := by omega
    rw [e2, Nat.mul_add (256 ^ i) (u % 256), Nat.add_assoc (val 256 pre), Nat.mul_assoc (256 ^ i) 256]
  · by_cases e1 : i < x.length
    · exact Or.inl e1
    · by_cases e2 : i < y.length
      · exact Or.inr (Or.inl e2)
      · rw [getD_out (by omega), getD_out (by omega)]
        exact Or.inr (Or.inr (by omega))
theorem Sum16.done {x y : List Nat} {i : Nat} {pre : List Nat} (h : Sum16 x y i 0 pre) (hx : x.length ≤ i) (hy : y.length ≤ i) : val 256 pre = val 256 x + val 256 y := by
  have := h.sum
  rw [List.drop_of_length_le hx, List.drop_of_length_le hy] at this
  simpa [val] using this
end Go.Th.Dig
namespace Go.Proofs.YtallbegibdlpaaaGreat
open Go Go.RowKit Go.Th Go.Th.Dig

end Go.Proofs.YtallbegibdlpaaaGreat

/-
  A number by its parts of 32 bits, as digits of 256: the reference's Of.
-/
namespace Go.Th.Dig
/-- Parts, as digits: so many parts, and so many digits of the next one. -/
structure Of16 (l : List Nat) (i k x : Nat) (pre : List Nat) : Prop where
  len : pre.length = 4 * i + k
  dig : ∀ d ∈ pre, d < 256
  top : x < 256 ^ (4 - k)
  sum : val 256 pre + 256 ^ (4 * i + k) * x = val 4294967296 (l.take (i + 1))
theorem big_pow (i : Nat) : 256 ^ (4 * i) = 4294967296 ^ i := by rw [Nat.pow_mul]
theorem take_val {l : List Nat} {i : Nat} (h : i < l.length) (B : Nat) : val B (l.take (i + 1)) = val B (l.take i) + B ^ i * l.getD i 0 := by
  have e : l.take (i + 1) = l.take i ++ [l.getD i 0] := by
    rw [List.take_add_one, List.getElem?_eq_getElem h, List.getD_eq_getElem?_getD, List.getElem?_eq_getElem h]; rfl
  rw [e, val_snoc, List.length_take, Nat.min_eq_left (by omega)]
theorem Of16.start {l : List Nat} {i : Nat} {pre : List Nat} (hi : i < l.length) (h1 : pre.length = 4 * i) (h2 : ∀ d ∈ pre, d < 256) (h3 : val 256 pre = val 4294967296 (l.take i)) (h4 : l.getD i 0 < 4294967296) : Of16 l i 0 (l.getD i 0) pre :=
  ⟨h1, h2, h4, by rw [take_val hi, h3, Nat.add_zero, big_pow]⟩
theorem Of16.step {l : List Nat} {i k x : Nat} {pre : List Nat} (h : Of16 l i k x pre) (hk : k < 4) : Of16 l i (k + 1) (x / 256) (pre ++ [x % 256]) := by
  obtain ⟨h1, h2, h3, h4⟩ := h
  refine ⟨by simp [h1]; omega, ?_, ?_, ?_⟩
  · intro d hd
    rcases List.mem_append.1 hd with hd | hd
    · exact h2 d hd
    · rw [List.mem_singleton.1 hd]; omega
  · rw [show 4 - k = (4 - (k + 1)) + 1 by omega, Nat.pow_succ] at h3
    exact Nat.div_lt_of_lt_mul (by rw [Nat.mul_comm]; exact h3)
  · rw [val_snoc, h1, ← h4]
    have e := Nat.mod_add_div x 256
    rw [show 4 * i + (k + 1) = (4 * i + k) + 1 by omega, Nat.pow_succ, Nat.add_assoc, Nat.mul_assoc, ← Nat.mul_add, e]
theorem Of16.done {l : List Nat} {i x : Nat} {pre : List Nat} (h : Of16 l i 4 x pre) : pre.length = 4 * (i + 1) ∧ (∀ d ∈ pre, d < 256) ∧ val 256 pre = val 4294967296 (l.take (i + 1)) := by
  obtain ⟨h1, h2, h3, h4⟩ := h
  obtain rfl : x = 0 := by simp at h3; exact h3
  exact ⟨h1, h2, by simpa using h4⟩
end Go.Th.Dig
namespace Go.Proofs.YtallbegibdlpaaaGreat
open Go Go.RowKit Go.Th Go.Th.Dig

def u32s (l : List Nat) : List Value := l.map (fun x : Nat => .int .u32 (x : Int))
theorem cell_u32 {w : World} {a : Option Addr} {n cap : Nat} {l : List Nat} (hS : Sl w 1 (.slice a n cap) n (u32s l)) (i : Nat) (hi : i < l.length) :
    ∃ b o, a = some ⟨b, o, none⟩ ∧ b < w.heap.size ∧ w.cell? ⟨b, o + i, none⟩ = some (.int .u32 ((l.getD i 0 : Nat) : Int)) := by
  obtain ⟨_, _, e, _, _, _, _, h⟩ := id hS
  cases e
  obtain ⟨b, o, e, hc⟩ := h i (.int .u32 ((l.getD i 0 : Nat) : Int)) (by simp [u32s, List.getElem?_eq_getElem hi])
  refine ⟨b, o, e, ?_, by simpa using hc⟩
  have := World.block_lt_of_cell? w _ hc
  simpa using this
theorem u32_len {w : World} {a : Option Addr} {n cap : Nat} {l : List Nat} (hS : Sl w 1 (.slice a n cap) n (u32s l)) : l.length = n := by
  obtain ⟨_, _, e, h, _⟩ := id hS
  cases e
  simpa [u32s] using h
theorem getD_u32 {l : List Nat} (h : ∀ d ∈ l, d < 4294967296) (i : Nat) : l.getD i 0 < 4294967296 := by
  rw [List.getD_eq_getElem?_getD]
  by_cases hi : i < l.length
  · rw [List.getElem?_eq_getElem hi]; exact h _ (List.getElem_mem _)
  · rw [List.getElem?_eq_none (by omega)]; decide

end Go.Proofs.YtallbegibdlpaaaGreat

/-
  Numbers as digits of 256: the product: the reference's.
-/
namespace Go.Th.Dig
theorem val_set (B : Nat) (l : List Nat) (j t : Nat) (h : j < l.length) : val B (l.set j (l.getD j 0 + t)) = val B l + B ^ j * t := by
  have a := val_take B l j
  have b := val_take B (l.set j (l.getD j 0 + t)) j
  have e1 : (l.set j (l.getD j 0 + t)).take j = l.take j := by rw [List.take_set_of_le (Nat.le_refl _)]
  have e2 : (l.set j (l.getD j 0 + t)).drop j = (l.getD j 0 + t) :: l.drop (j + 1) := by
    rw [List.drop_set, if_neg (by omega), Nat.sub_self, drop_step h, List.set_cons_zero]
  rw [List.length_set, Nat.min_eq_left (by omega), e1, e2, val] at b
  rw [Nat.min_eq_left (by omega), drop_step h, val] at a
  rw [a, b, Nat.add_right_comm (l.getD j 0) t, Nat.mul_add]
  omega
theorem getD_set (l : List Nat) (j k v : Nat) (h : j < l.length) : (l.set j v).getD k 0 = if k = j then v else l.getD k 0 := by
  rw [List.getD_eq_getElem?_getD, List.getD_eq_getElem?_getD, List.getElem?_set]
  by_cases e : j = k
  · subst e; simp [h]
  · rw [if_neg e, if_neg (fun x => e x.symm)]
theorem set_self (l : List Nat) (i : Nat) (h : i < l.length) : l.set i (l.getD i 0) = l := by
  refine List.ext_getElem (by simp) fun j a b => ?_
  rw [List.getElem_set]
  split
  · rename_i e; subst e; rw [List.getD_eq_getElem?_getD, List.getElem?_eq_getElem h]; rfl
  · rfl
/-- A product, so many digits by so many; nothing is carried yet. -/
structure Mul16 (x y : List Nat) (i k : Nat) (O : List Nat) : Prop where
  len : O.length = x.length + y.length + 1
  sum : val 256 O = val 256 (x.take i) * val 256 y + 256 ^ i * (x.getD i 0 * val 256 (y.take k))
  low : ∀ j, O.getD j 0 ≤ i * 65025 + 65025
  top : ∀ j, i + k ≤ j → O.getD j 0 ≤ i * 65025
theorem getD_rep (n j : Nat) : (List.replicate n 0).getD j 0 = 0 := by
  rw [List.getD_eq_getElem?_getD, List.getElem?_replicate]
  split <;> rfl
theorem Mul16.start (x y : List Nat) : Mul16 x y 0 0 (List.replicate (x.length + y.length + 1) 0) :=
  ⟨by simp, by rw [val_zeros]; simp [val], fun j => by rw [getD_rep]; exact Nat.zero_le _, fun j _ => by rw [getD_rep]; exact Nat.zero_le _⟩
theorem Mul16.step {x y : List Nat} {i k : Nat} {O : List Nat} (h : Mul16 x y i k O) (hi : i < x.length) (hk : k < y.length) (hu : x.getD i 0 < 256) (hv : y.getD k 0 < 256) :
    Mul16 x y i (k + 1) (O.set (i + k) (O.getD (i + k) 0 + x.getD i 0 * y.getD k 0)) := by
  obtain ⟨h1, h2, h3, h4⟩ := h
  have hm : x.getD i 0 * y.getD k 0 ≤ 255 * 255 := Nat.mul_le_mul (by omega) (by omega)
  refine ⟨by simpa using h1, ?_, fun j => ?_, fun j hj => ?_⟩
  · rw [val_set _ _ _ _ (by omega), h2, take_val hk, Nat.mul_add, Nat.mul_add, Nat.pow_add, Nat.add_assoc, Nat.mul_assoc (256 ^ i) (256 ^ k), Nat.mul_left_comm (256 ^ k)]
  · rw [getD_set _ _ _ _ (by omega)]
    have := h4 (i + k) (Nat.le_refl _)
    have := h3 j
    split <;> omega
  · rw [getD_set _ _ _ _ (by omega), if_neg (by omega)]
    exact h4 j (by omega)
theorem Mul16.next {x y : List Nat} {i : Nat} {O : List Nat} (h : Mul16 x y i y.length O) (hi : i < x.length) : Mul16 x y (i + 1) 0 O := by
  obtain ⟨h1, h2, h3, h4⟩ := h
  refine ⟨h1, ?_, fun j => ?_, fun j _ => ?_⟩
  · rw [h2, take_val hi, List.take_length, Nat.add_mul, Nat.mul_assoc]; simp [val]
  · exact Nat.le_trans (h3 j) (by rw [Nat.add_mul, Nat.one_mul]; exact Nat.le_add_right _ _)
  · exact Nat.le_trans (h3 j) (by rw [Nat.add_mul, Nat.one_mul]; exact Nat.le_refl _)
/-- What is carried: so far. -/
structure Car16 (c s i : Nat) (n : Nat) (O : List Nat) : Prop where
  len : O.length = n
  sum : val 256 O = s
  dig : ∀ j, j < i → O.getD j 0 < 256
  cur : O.getD i 0 ≤ 2 * c
  top : ∀ j, i < j → O.getD j 0 ≤ c
theorem Car16.step {c s i n : Nat} {O : List Nat} (h : Car16 c s i n O) (hi : i + 1 < n) :
    Car16 c s (i + 1) n ((O.set (i + 1) (O.getD (i + 1) 0 + O.getD i 0 / 256)).set i (O.getD i 0 % 256)) := by
  obtain ⟨h1, h2, h3, h4, h5⟩ := h
  have g := h5 (i + 1) (by omega)
  refine ⟨by simpa using h1, ?_, fun j hj => ?_, ?_, fun j hj => ?_⟩
  · have e := val_set 256 O (i + 1) (O.getD i 0 / 256) (by omega)
    have hd : (O.set (i + 1) (O.getD (i + 1) 0 + O.getD i 0 / 256)).getD i 0 = O.getD i 0 := by rw [getD_set _ _ _ _ (by omega), if_neg (by omega)]
    have f := val_set 256 ((O.set (i + 1) (O.getD (i + 1) 0 + O.getD i 0 / 256)).set i (O.getD i 0 % 256)) i (256 * (O.getD i 0 / 256)) (by simp; omega)
    rw [getD_set _ i i _ (by simp; omega), if_pos rfl, Nat.mod_add_div, List.set_set] at f
    have hself := set_self (O.set (i + 1) (O.getD (i + 1) 0 + O.getD i 0 / 256)) i (by simp; omega)
    rw [hd] at hself
    rw [hself, e, h2, Nat.pow_succ, Nat.mul_assoc] at f
    omega
  · rw [getD_set _ _ _ _ (by simp; omega)]
    split
    · omega
    · rw [getD_set _ _ _ _ (by omega), if_neg (by omega)]; exact h3 j (by omega)
  · rw [getD_set _ _ _ _ (by simp; omega), if_neg (by omega), getD_set _ _ _ _ (by omega), if_pos rfl]
    omega
  · rw [getD_set _ _ _ _ (by simp; omega), if_neg (by omega), getD_set _ _ _ _ (by omega), if_neg (by omega)]
    exact h5 j (by omega)
/-- Nothing is left for the last one. -/
theorem Car16.done {c s n : Nat} {O : List Nat} (h : Car16 c s n (n + 1) O) (hs : s < 256 ^ n) : ∀ d ∈ O, d < 256 := by
  intro d hd
  obtain ⟨j, hj, rfl⟩ := List.mem_iff_getElem.1 hd
  have hl := h.len
  have e : O.getD j 0 = O[j] := by rw [List.getD_eq_getElem?_getD, List.getElem?_eq_getElem hj]; rfl
  by_cases hjn : j < n
  · rw [← e]; exact h.dig j hjn
  · obtain rfl : j = n := by omega
    have a := val_take 256 O j
    rw [Nat.min_eq_left (by omega), drop_step hj, val, h.sum, e] at a
    by_cases h0 : O[j] = 0
    · omega
    · have : 256 ^ j * 1 ≤ 256 ^ j * (O[j] + 256 * val 256 (O.drop (j + 1))) := Nat.mul_le_mul_left _ (by omega)
      omega
end Go.Th.Dig
namespace Go.Proofs.YtallbegibdlpaaaGreat
open Go Go.RowKit Go.Th Go.Th.Dig

end Go.Proofs.YtallbegibdlpaaaGreat

/-
  Numbers as digits of ten, by those of 256, the highest first: plain.
-/
namespace Go.Th.Dig
/-- The digits of a number; of 0 one. -/
def dz (B n : Nat) : List Nat := if n = 0 then [0] else dg B n
theorem dz_val {B : Nat} (hB : 2 ≤ B) (n : Nat) : val B (dz B n) = n := by
  unfold dz
  split
  · rename_i h; subst h; simp [val]
  · exact dg_val hB n
theorem dz_lt {B : Nat} (hB : 2 ≤ B) (n : Nat) : ∀ d ∈ dz B n, d < B := by
  unfold dz
  split
  · intro d hd; rw [List.mem_singleton.1 hd]; omega
  · exact dg_lt (by omega) n
theorem dz_last {B : Nat} (hB : 2 ≤ B) {n d : Nat} (h : (dz B n).getLast? = some d) : d = 0 → n = 0 := by
  unfold dz at h
  split at h
  · rename_i h0; exact fun _ => h0
  · exact fun e => absurd e (dg_last hB n d h)
theorem dz_pos {B : Nat} (hB : 2 ≤ B) (n : Nat) : 0 < (dz B n).length := by
  refine Nat.pos_of_ne_zero fun h => ?_
  have e := dz_val hB n
  rw [List.eq_nil_of_length_eq_zero h] at e
  have e : 0 = n := e
  subst e
  simp [dz] at h
theorem dz_of {B : Nat} (hB : 2 ≤ B) {l : List Nat} {n : Nat} (h1 : ∀ d ∈ l, d < B) (h2 : ∀ d, l.getLast? = some d → d = 0 → l = [0]) (h3 : val B l = n) (h4 : l ≠ []) : l = dz B n := by
  unfold dz
  split
  · rename_i h0
    rw [h0] at h3
    have hz := val_0 (by omega) l h3
    have hl := List.getLast?_eq_some_getLast h4
    exact h2 _ hl (hz _ (List.getLast_mem _))
  · rename_i h0
    refine dg_of hB h1 (fun d hd e => h0 ?_) h3
    rw [h2 d hd e] at h3
    rw [← h3]
    simp [val]
/-- Digits of ten, times 256, and so much more: so many are done. -/
structure Row16 (v a k c : Nat) (N : List Nat) : Prop where
  len : N.length = (dz 10 v).length
  dig : ∀ d ∈ N, d < 10
  car : c ≤ 255
  sum : val 10 (N.take k) + 10 ^ k * (c + 256 * val 10 (N.drop k)) = a + 256 * v
  rest : N.drop k = (dz 10 v).drop k
  fin : N.length ≤ k → c = 0 → v = 0
theorem Row16.start (v a : Nat) (h : a ≤ 255) : Row16 v a 0 a (dz 10 v) :=
  ⟨rfl, dz_lt (by decide) v, h, by rw [List.drop_zero, dz_val (by decide)]; simp [val], rfl, fun h => absurd (dz_pos (by decide : 2 ≤ 10) v) (by omega)⟩
theorem Row16.step {v a k c : Nat} {N : List Nat} (h : Row16 v a k c N) (hk : k < N.length) : Row16 v a (k + 1) ((c + 256 * N.getD k 0) / 10) (N.set k ((c + 256 * N.getD k 0) % 10)) := by
  obtain ⟨h1, h2, h3, h4, h5, h6⟩ := h
  have hd : N.getD k 0 < 10 := by
    rw [List.getD_eq_getElem?_getD, List.getElem?_eq_getElem hk]; exact h2 _ (List.getElem_mem _)
  have e2 : (N.set k ((c + 256 * N.getD k 0) % 10)).drop (k + 1) = N.drop (k + 1) := by rw [List.drop_set, if_pos (by omega)]
  have e1 : (N.set k ((c + 256 * N.getD k 0) % 10)).take (k + 1) = N.take k ++ [(c + 256 * N.getD k 0) % 10] := by
    rw [List.take_add_one, List.take_set_of_le (Nat.le_refl _), List.getElem?_set, if_pos rfl, if_pos hk]; rfl
  refine ⟨by simpa using h1, fun d hd' => ?_, by omega, ?_, ?_, fun hl hc => ?_⟩
  · rcases List.mem_or_eq_of_mem_set hd' with h | h
    · exact h2 d h
    · rw [h]; omega
  · rw [e1, e2, val_snoc, List.length_take, Nat.min_eq_left (by omega), ← h4, drop_step hk, val, Nat.pow_succ, Nat.add_assoc, Nat.mul_assoc, ← Nat.mul_add]
    congr 2
    omega
  · rw [e2]
    have e := congrArg (List.drop 1) h5
    simpa using e
  · rw [List.length_set] at hl
    have hz : N.getD k 0 = 0 := by omega
    refine dz_last (B := 10) (by decide) (d := N.getD k 0) ?_ hz
    have e := congrArg (fun l : List Nat => l[0]?) h5
    simp only [List.getElem?_drop, Nat.add_zero] at e
    rw [List.getLast?_eq_getElem?, ← h1, show N.length - 1 = k by omega, ← e, List.getD_eq_getElem?_getD, List.getElem?_eq_getElem hk]
    rfl
/-- What is carried behind the last one. -/
structure App16 (s c : Nat) (N : List Nat) : Prop where
  dig : ∀ d ∈ N, d < 10
  car : c ≤ 255
  sum : val 10 N + 10 ^ N.length * c = s
  pos : 0 < N.length
  fin : c = 0 → ∀ d, N.getLast? = some d → d = 0 → N = [0]
theorem Row16.done {v a k c : Nat} {N : List Nat} (h : Row16 v a k c N) (hk : N.length = k) : App16 (a + 256 * v) c N := by
  obtain ⟨h1, h2, h3, h4, h5, h6⟩ := h
  refine ⟨h2, h3, ?_, by rw [h1]; exact dz_pos (by decide) v, fun hc d hd e => ?_⟩
  · rw [← h4, List.take_of_length_le (by omega), List.drop_of_length_le (by omega), hk]; simp [val]
  · have hv := h6 (by omega) hc
    subst hv
    have hl : N.length = 1 := h1
    obtain ⟨x, rfl⟩ := List.length_eq_one_iff.1 hl
    simp at hd
    rw [hd, e]
theorem App16.step {s c : Nat} {N : List Nat} (h : App16 s c N) (hc : 0 < c) : App16 s (c / 10) (N ++ [c % 10]) := by
  obtain ⟨h1, h2, h3, h4, h5⟩ := h
  refine ⟨fun d hd => ?_, by omega, ?_, by simp, fun h0 d hd e => ?_⟩
  · rcases List.mem_append.1 hd with hd | hd
    · exact h1 d hd
    · rw [List.mem_singleton.1 hd]; omega
  · rw [val_snoc, List.length_append, List.length_singleton, Nat.pow_succ, ← h3, Nat.add_assoc, Nat.mul_assoc, ← Nat.mul_add, Nat.mod_add_div]
  · rw [List.getLast?_append] at hd
    simp at hd
    omega
theorem App16.done {s : Nat} {N : List Nat} (h : App16 s 0 N) : N = dz 10 s :=
  dz_of (by decide) h.dig (h.fin rfl) (by simpa using h.sum) (fun e => by have := h.pos; rw [e] at this; simp at this)
/-- There are not many of them. -/
theorem App16.len {s c n : Nat} {N : List Nat} (h : App16 s c N) (hc : 0 < c) (hs : s < 256 ^ n) : N.length < 3 * n := by
  have h1 : 10 ^ N.length * 1 ≤ 10 ^ N.length * c := Nat.mul_le_mul_left _ hc
  have h2 := h.sum
  have h3 : 256 ^ n ≤ (10 ^ 3) ^ n := Nat.pow_le_pow_left (by decide) n
  rw [← Nat.pow_mul] at h3
  exact (Nat.pow_lt_pow_iff_right (by decide : 1 < 10)).1 (show 10 ^ N.length < 10 ^ (3 * n) by omega)
/-- A number's text. -/
def txt (s : Nat) : List Nat := ((dz 10 s).map (48 + ·)).reverse
end Go.Th.Dig

/-
  A number's text: the reference's.
-/
namespace Go.Proofs.YtallbegibdlpaaaGreat
open Go Go.RowKit Go.Th Go.Th.Dig

theorem own_form {w : World} {base : Nat} {e : TypeId} {v : Value} {n : Nat} {xs : List Value} (h : w.ownsRow base e 1 v n xs) (hn : 0 < n) : ∃ g cap, v = .slice (some ⟨g, 0, none⟩) n cap ∧ base ≤ g := by
  rcases h.2 with ⟨_, rfl⟩ | ⟨g, cap, cur, rfl, hb, _⟩
  · omega
  · exact ⟨g, cap, rfl, hb⟩
end Go.Proofs.YtallbegibdlpaaaGreat
