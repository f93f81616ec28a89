/-
  Numbers by their digits, the lowest first, to any base; plain.
-/
import Derived.Test.YtghioakpigdagaaDoorRows
set_option linter.unusedVariables false
set_option linter.unusedSimpArgs false
namespace Go.Th.Dig

/-- What digits (of any size) are together. -/
def val (B : Nat) : List Nat → Nat
  | [] => 0
  | d :: r => d + B * val B r
theorem val_app (B : Nat) (a b : List Nat) : val B (a ++ b) = val B a + B ^ a.length * val B b := by
  induction a with
  | nil => simp [val]
  | cons d r ih => rw [List.cons_append, val, val, ih, List.length_cons, Nat.pow_succ, Nat.mul_add, Nat.add_assoc, Nat.mul_comm (B ^ r.length) B, Nat.mul_assoc]
theorem val_snoc (B : Nat) (a : List Nat) (d : Nat) : val B (a ++ [d]) = val B a + B ^ a.length * d := by rw [val_app]; simp [val]
theorem val_zeros (B n : Nat) : val B (List.replicate n 0) = 0 := by
  induction n with
  | zero => rfl
  | succ n ih => rw [List.replicate_succ, val, ih, Nat.mul_zero]
theorem val_lt {B : Nat} (hB : 0 < B) {l : List Nat} (h : ∀ d ∈ l, d < B) : val B l < B ^ l.length := by
  induction l with
  | nil => simp [val]
  | cons d r ih =>
    have h1 := h d (by simp)
    have h2 := ih (fun x hx => h x (by simp [hx]))
    rw [val, List.length_cons, Nat.pow_succ]
    have h3 : B * (val B r + 1) ≤ B * B ^ r.length := Nat.mul_le_mul_left _ h2
    rw [Nat.mul_add] at h3
    rw [Nat.mul_comm (B ^ r.length) B]
    omega
theorem val_drop (B : Nat) (l : List Nat) (i : Nat) (h : i < l.length) : val B (l.drop i) = l[i] + B * val B (l.drop (i + 1)) := by
  rw [List.drop_eq_getElem_cons h, val]
theorem val_take (B : Nat) (l : List Nat) (i : Nat) : val B l = val B (l.take i) + B ^ (min i l.length) * val B (l.drop i) := by
  have h := val_app B (l.take i) (l.drop i)
  rw [List.take_append_drop, List.length_take] at h
  exact h

/-- The digits of a number, no nought behind the highest one. -/
def dgs (B : Nat) : Nat → Nat → List Nat
  | 0, _ => []
  | f + 1, n => if n = 0 then [] else (n % B) :: dgs B f (n / B)
def dg (B n : Nat) : List Nat := dgs B n n
theorem dgs_lt {B : Nat} (hB : 0 < B) : ∀ f n, ∀ d ∈ dgs B f n, d < B
  | 0, n, d, h => by cases h
  | f + 1, n, d, h => by
    unfold dgs at h
    split at h
    · cases h
    · rcases List.mem_cons.1 h with rfl | h
      · exact Nat.mod_lt _ hB
      · exact dgs_lt hB f _ d h
theorem dgs_val {B : Nat} (hB : 2 ≤ B) : ∀ f n, n ≤ f → val B (dgs B f n) = n
  | 0, n, h => by
    obtain rfl : n = 0 := by omega
    rfl
  | f + 1, n, h => by
    unfold dgs
    split
    · rename_i h0; rw [h0]; rfl
    · rename_i h0
      have : n / B < n := Nat.div_lt_self (by omega) (by omega)
      rw [val, dgs_val hB f _ (by omega)]
      exact Nat.mod_add_div n B
theorem dgs_last {B : Nat} (hB : 2 ≤ B) : ∀ f n, n ≤ f → ∀ d, (dgs B f n).getLast? = some d → d ≠ 0
  | 0, n, h, d, hd => by cases hd
  | f + 1, n, h, d, hd => by
    unfold dgs at hd
    split at hd
    · cases hd
    · rename_i h0
      have h1 : n / B < n := Nat.div_lt_self (by omega) (by omega)
      rw [List.getLast?_cons] at hd
      cases hr : (dgs B f (n / B)).getLast? with
      | some e =>
        rw [hr] at hd
        cases hd
        exact dgs_last hB f _ (by omega) _ hr
      | none =>
        rw [hr] at hd
        cases hd
        have hn : dgs B f (n / B) = [] := List.getLast?_eq_none_iff.1 hr
        have hv := dgs_val hB f (n / B) (by omega)
        rw [hn] at hv
        have hq : n / B = 0 := hv.symm
        have hm := Nat.mod_add_div n B
        show n % B ≠ 0
        intro hz
        rw [hz, hq, Nat.mul_zero] at hm
        exact h0 hm.symm
theorem dg_lt {B : Nat} (hB : 0 < B) (n : Nat) : ∀ d ∈ dg B n, d < B := dgs_lt hB n n
theorem dg_val {B : Nat} (hB : 2 ≤ B) (n : Nat) : val B (dg B n) = n := dgs_val hB n n (Nat.le_refl _)
theorem dg_last {B : Nat} (hB : 2 ≤ B) (n : Nat) : ∀ d, (dg B n).getLast? = some d → d ≠ 0 := dgs_last hB n n (Nat.le_refl _)
theorem dg_0 (B : Nat) : dg B 0 = [] := rfl

theorem val_0 {B : Nat} (hB : 0 < B) : ∀ l : List Nat, val B l = 0 → ∀ d ∈ l, d = 0
  | [], _, d, hd => by cases hd
  | x :: r, h0, d, hd => by
    rw [val] at h0
    have h1 : x = 0 := by omega
    have h2 : B * val B r = 0 := by omega
    have h3 : val B r = 0 := by
      rcases Nat.mul_eq_zero.1 h2 with h | h
      · omega
      · exact h
    rcases List.mem_cons.1 hd with rfl | hd
    · exact h1
    · exact val_0 hB r h3 d hd
/-- Digits without a nought at the end are told by what they are together. -/
theorem val_inj {B : Nat} (hB : 2 ≤ B) : ∀ (a b : List Nat), (∀ d ∈ a, d < B) → (∀ d ∈ b, d < B) → (∀ d, a.getLast? = some d → d ≠ 0) → (∀ d, b.getLast? = some d → d ≠ 0) → val B a = val B b → a = b
  | [], [], _, _, _, _, _ => rfl
  | [], e :: s, _, _, _, h4, h => by
    exfalso
    exact h4 _ (List.getLast?_eq_some_getLast (l := e :: s) (by simp)) (val_0 (by omega) _ h.symm _ (List.getLast_mem _))
  | d :: r, [], _, _, h3, _, h => by
    exfalso
    exact h3 _ (List.getLast?_eq_some_getLast (l := d :: r) (by simp)) (val_0 (by omega) _ h _ (List.getLast_mem _))
  | d :: r, e :: s, h1, h2, h3, h4, h => by
    rw [val, val] at h
    have hd := h1 d (by simp)
    have he := h2 e (by simp)
    have hmod : d = e := by
      have := congrArg (· % B) h
      simp only [Nat.add_mul_mod_self_left, Nat.mod_eq_of_lt hd, Nat.mod_eq_of_lt he] at this
      exact this
    subst hmod
    have hv : val B r = val B s := Nat.eq_of_mul_eq_mul_left (by omega) (by omega : B * val B r = B * val B s)
    congr 1
    refine val_inj hB r s (fun x hx => h1 x (by simp [hx])) (fun x hx => h2 x (by simp [hx])) (fun x hx => h3 x ?_) (fun x hx => h4 x ?_) hv
    · rw [List.getLast?_cons, hx]; rfl
    · rw [List.getLast?_cons, hx]; rfl
theorem dg_of {B : Nat} (hB : 2 ≤ B) {l : List Nat} {n : Nat} (h1 : ∀ d ∈ l, d < B) (h2 : ∀ d, l.getLast? = some d → d ≠ 0) (h3 : val B l = n) : l = dg B n :=
  val_inj hB l (dg B n) h1 (dg_lt (by omega) n) h2 (dg_last hB n) (by rw [dg_val hB, h3])
/-- Digits, less the noughts at the end: so many stay. -/
theorem dg_cut {B : Nat} (hB : 2 ≤ B) {l : List Nat} {k : Nat} (h1 : ∀ d ∈ l, d < B) (hz : ∀ i, k ≤ i → i < l.length → l.getD i 0 = 0) (hk : k ≤ l.length) (hl : 0 < k → l.getD (k - 1) 0 ≠ 0) : l.take k = dg B (val B l) := by
  refine dg_of hB (fun d hd => h1 d (List.mem_of_mem_take hd)) ?_ ?_
  · intro d hd
    rw [List.getLast?_eq_getElem?, List.length_take, Nat.min_eq_left hk] at hd
    by_cases h0 : 0 < k
    · have := hl h0
      rw [List.getElem?_take, if_pos (by omega)] at hd
      rw [List.getD_eq_getElem?_getD, hd] at this
      exact this
    · obtain rfl : k = 0 := by omega
      simp at hd
  · have h := val_take B l k
    have hzero : val B (l.drop k) = 0 := by
      have : l.drop k = List.replicate (l.length - k) 0 := by
        refine List.ext_getElem (by simp) fun i h1 h2 => ?_
        have hi : k + i < l.length := by simp at h1; omega
        have := hz (k + i) (by omega) hi
        rw [List.getD_eq_getElem?_getD, List.getElem?_eq_getElem hi] at this
        simp at this ⊢
        exact this
      rw [this, val_zeros]
    rw [hzero, Nat.mul_zero, Nat.add_zero] at h
    exact h.symm
end Go.Th.Dig
