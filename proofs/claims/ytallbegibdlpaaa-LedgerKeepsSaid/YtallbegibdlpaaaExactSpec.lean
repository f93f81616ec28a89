/-
  Filters without rounding: rows of numbers place by place, plain.
-/
import Derived.Test.YtallbegibdlpaaaPackNatR
set_option linter.unusedVariables false
set_option linter.unusedSimpArgs false
namespace Go.Th.Ex
open Go.Th.Dig

/-- A row made place by place. -/
def tabN (f : Nat → Nat) (n : Nat) : List Nat := (List.range n).map f
theorem tabN_length (f : Nat → Nat) (n : Nat) : (tabN f n).length = n := by simp [tabN]
theorem tabN_getD (f : Nat → Nat) (n i : Nat) (h : i < n) : (tabN f n).getD i 0 = f i := by simp [tabN, List.getD_eq_getElem?_getD, h]
theorem tabN_next (f : Nat → Nat) (n : Nat) : tabN f n ++ [f n] = tabN f (n + 1) := by simp [tabN, List.range_succ]
theorem tabN_congr {f g : Nat → Nat} {n : Nat} (h : ∀ i, i < n → f i = g i) : tabN f n = tabN g n := List.map_congr_left fun i hi => h i (List.mem_range.1 hi)
theorem tabN_of (l : List Nat) : tabN (fun i => l.getD i 0) l.length = l := by
  apply List.ext_getElem
  · simp [tabN]
  · intro i h1 h2
    simp [tabN, List.getD_eq_getElem?_getD, h2]
/-- Numbers up to a power of two. -/
def Lt (k : Nat) (l : List Nat) : Prop := ∀ i, l.getD i 0 < 2 ^ k
theorem Lt.mono {k m : Nat} {l : List Nat} (h : Lt k l) (hk : k ≤ m) : Lt m l := fun i => Nat.lt_of_lt_of_le (h i) (Nat.pow_le_pow_right (by decide) hk)
theorem Lt.tab {k n : Nat} {f : Nat → Nat} (h : ∀ i, i < n → f i < 2 ^ k) : Lt k (tabN f n) := by
  intro i
  by_cases hi : i < n
  · rw [tabN_getD f n i hi]; exact h i hi
  · rw [List.getD_eq_getElem?_getD, List.getElem?_eq_none (by rw [tabN_length]; omega)]
    exact Nat.pow_pos (by decide)
/-- How many digits a number below a power of two has. -/
theorem d16 {p k m : Nat} (h : p < 2 ^ k) (hm : k ≤ 8 * m) : (dg 256 p).length ≤ m := by
  refine dg_len_le (by decide) (Nat.lt_of_lt_of_le h ?_)
  rw [show (256 : Nat) = 2 ^ 8 by decide, ← Nat.pow_mul]
  exact Nat.pow_le_pow_right (by decide) hm
/-- The sum of so many of the first. -/
def sumN (l : List Nat) (k : Nat) : Nat := (l.take k).sum
theorem sumN_next (l : List Nat) (k : Nat) : sumN l (k + 1) = sumN l k + l.getD k 0 := by
  unfold sumN
  rw [List.take_add_one, List.sum_append, List.getD_eq_getElem?_getD]
  cases l[k]? <;> simp
theorem sumN_all (l : List Nat) : sumN l l.length = l.sum := by unfold sumN; rw [List.take_length]
theorem sumN_le {k : Nat} {l : List Nat} (h : Lt k l) : ∀ n, sumN l n ≤ n * 2 ^ k
  | 0 => by simp [sumN]
  | n + 1 => by
    rw [sumN_next, Nat.add_mul, Nat.one_mul]
    have := sumN_le h n
    have := h n
    omega
theorem sumN_lt {k m : Nat} {l : List Nat} (h : Lt k l) (n : Nat) (hn : n < 2 ^ m) : sumN l n < 2 ^ (k + m) := by
  have h1 := sumN_le h n
  rw [Nat.pow_add, Nat.mul_comm]
  exact Nat.lt_of_le_of_lt h1 (Nat.mul_lt_mul_of_pos_right hn (Nat.pow_pos (by decide)))
/-- Small numbers as digits, one behind the other: so many digits were told, and x is left. -/
structure Sml (n k x : Nat) (pre : List Nat) : Prop where
  len : pre.length = k
  lt : ∀ d ∈ pre, d < 256
  val : val 256 pre + 256 ^ k * x = n
  top : k = 0 ∨ 256 ^ (k - 1) ≤ n
theorem Sml.start (n : Nat) : Sml n 0 n [] := ⟨rfl, by simp, by simp [Dig.val], .inl rfl⟩
theorem Sml.step {n k x : Nat} {pre : List Nat} (h : Sml n k x pre) (hx : 0 < x) : Sml n (k + 1) (x / 256) (pre ++ [x % 256]) := by
  refine ⟨by simp [h.len], ?_, ?_, .inr ?_⟩
  · intro d hd
    rcases List.mem_append.1 hd with hd | hd
    · exact h.lt d hd
    · rw [List.mem_singleton.1 hd]; exact Nat.mod_lt _ (by decide)
  · rw [val_snoc, h.len, Nat.add_assoc, Nat.pow_succ, Nat.mul_assoc, ← Nat.mul_add, Nat.mod_add_div]
    exact h.val
  · have h1 := h.val
    have h2 : 256 ^ k * 1 ≤ 256 ^ k * x := Nat.mul_le_mul_left _ hx
    show 256 ^ (k + 1 - 1) ≤ n
    rw [Nat.add_sub_cancel]
    omega
theorem Sml.done {n k : Nat} {pre : List Nat} (h : Sml n k 0 pre) : pre = dg 256 n := by
  have hv : Dig.val 256 pre = n := by have := h.val; simpa using this
  refine dg_of (by decide) h.lt ?_ hv
  intro d hd h0
  subst h0
  rcases List.eq_nil_or_concat pre with rfl | ⟨l, b, rfl⟩
  · simp at hd
  · simp at hd
    subst hd
    have hk := h.len
    simp only [List.concat_eq_append, List.length_append, List.length_cons, List.length_nil] at hk
    rw [List.concat_eq_append, val_snoc] at hv
    have hl := val_lt (B := 256) (by decide) (l := l) (fun d hd => h.lt d (by simp [hd]))
    rcases h.top with h1 | h1
    · omega
    · have e : k - 1 = l.length := by omega
      rw [e] at h1
      omega
theorem Sml.len_le {n k x : Nat} {pre : List Nat} (h : Sml n k x pre) (hn : n < 18446744073709551616) : k ≤ 8 := by
  rcases h.top with h1 | h1
  · omega
  · apply Decidable.byContradiction
    intro hk
    have h2 : 256 ^ 8 ≤ 256 ^ (k - 1) := Nat.pow_le_pow_right (by decide) (by omega)
    have h3 : 256 ^ 8 = 18446744073709551616 := by decide
    omega
end Go.Th.Ex
