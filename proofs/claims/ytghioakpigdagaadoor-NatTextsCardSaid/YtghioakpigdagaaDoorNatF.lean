/-
  Numbers as digits of ten, by those of 256, the highest first: plain.
-/
import Derived.Test.YtghioakpigdagaaDoorNatE
set_option linter.unusedVariables false
set_option linter.unusedSimpArgs false
namespace Go.Th.Dig
/-- The digits of a number; of 0 one. -/
def dz (B n : Nat) : List Nat := if n = 0 then [0] else dg B n
theorem dz_val {B : Nat} (hB : 2 ≤ B) (n : Nat) : val B (dz B n) = n := by
  unfold dz
  split
  · rename_i h; subst h; simp [val]
  · exact dg_val hB n
theorem dz_lt {B : Nat} (hB : 2 ≤ B) (n : Nat) : ∀ d ∈ dz B n, d < B := by
  unfold dz
  split
  · intro d hd; rw [List.mem_singleton.1 hd]; omega
  · exact dg_lt (by omega) n
theorem dz_last {B : Nat} (hB : 2 ≤ B) {n d : Nat} (h : (dz B n).getLast? = some d) : d = 0 → n = 0 := by
  unfold dz at h
  split at h
  · rename_i h0; exact fun _ => h0
  · exact fun e => absurd e (dg_last hB n d h)
theorem dz_pos {B : Nat} (hB : 2 ≤ B) (n : Nat) : 0 < (dz B n).length := by
  refine Nat.pos_of_ne_zero fun h => ?_
  have e := dz_val hB n
  rw [List.eq_nil_of_length_eq_zero h] at e
  have e : 0 = n := e
  subst e
  simp [dz] at h
theorem dz_of {B : Nat} (hB : 2 ≤ B) {l : List Nat} {n : Nat} (h1 : ∀ d ∈ l, d < B) (h2 : ∀ d, l.getLast? = some d → d = 0 → l = [0]) (h3 : val B l = n) (h4 : l ≠ []) : l = dz B n := by
  unfold dz
  split
  · rename_i h0
    rw [h0] at h3
    have hz := val_0 (by omega) l h3
    have hl := List.getLast?_eq_some_getLast h4
    exact h2 _ hl (hz _ (List.getLast_mem _))
  · rename_i h0
    refine dg_of hB h1 (fun d hd e => h0 ?_) h3
    rw [h2 d hd e] at h3
    rw [← h3]
    simp [val]
/-- Digits of ten, times 256, and so much more: so many are done. -/
structure Row16 (v a k c : Nat) (N : List Nat) : Prop where
  len : N.length = (dz 10 v).length
  dig : ∀ d ∈ N, d < 10
  car : c ≤ 255
  sum : val 10 (N.take k) + 10 ^ k * (c + 256 * val 10 (N.drop k)) = a + 256 * v
  rest : N.drop k = (dz 10 v).drop k
  fin : N.length ≤ k → c = 0 → v = 0
theorem Row16.start (v a : Nat) (h : a ≤ 255) : Row16 v a 0 a (dz 10 v) :=
  ⟨rfl, dz_lt (by decide) v, h, by rw [List.drop_zero, dz_val (by decide)]; simp [val], rfl, fun h => absurd (dz_pos (by decide : 2 ≤ 10) v) (by omega)⟩
theorem Row16.step {v a k c : Nat} {N : List Nat} (h : Row16 v a k c N) (hk : k < N.length) : Row16 v a (k + 1) ((c + 256 * N.getD k 0) / 10) (N.set k ((c + 256 * N.getD k 0) % 10)) := by
  obtain ⟨h1, h2, h3, h4, h5, h6⟩ := h
  have hd : N.getD k 0 < 10 := by
    rw [List.getD_eq_getElem?_getD, List.getElem?_eq_getElem hk]; exact h2 _ (List.getElem_mem _)
  have e2 : (N.set k ((c + 256 * N.getD k 0) % 10)).drop (k + 1) = N.drop (k + 1) := by rw [List.drop_set, if_pos (by omega)]
  have e1 : (N.set k ((c + 256 * N.getD k 0) % 10)).take (k + 1) = N.take k ++ [(c + 256 * N.getD k 0) % 10] := by
    rw [List.take_add_one, List.take_set_of_le (Nat.le_refl _), List.getElem?_set, if_pos rfl, if_pos hk]; rfl
  refine ⟨by simpa using h1, fun d hd' => ?_, by omega, ?_, ?_, fun hl hc => ?_⟩
  · rcases List.mem_or_eq_of_mem_set hd' with h | h
    · exact h2 d h
    · rw [h]; omega
  · rw [e1, e2, val_snoc, List.length_take, Nat.min_eq_left (by omega), ← h4, drop_step hk, val, Nat.pow_succ, Nat.add_assoc, Nat.mul_assoc, ← Nat.mul_add]
    congr 2
    omega
  · rw [e2]
    have e := congrArg (List.drop 1) h5
    simpa using e
  · rw [List.length_set] at hl
    have hz : N.getD k 0 = 0 := by omega
    refine dz_last (B := 10) (by decide) (d := N.getD k 0) ?_ hz
    have e := congrArg (fun l : List Nat => l[0]?) h5
    simp only [List.getElem?_drop, Nat.add_zero] at e
    rw [List.getLast?_eq_getElem?, ← h1, show N.length - 1 = k by omega, ← e, List.getD_eq_getElem?_getD, List.getElem?_eq_getElem hk]
    rfl
/-- What is carried behind the last one. -/
structure App16 (s c : Nat) (N : List Nat) : Prop where
  dig : ∀ d ∈ N, d < 10
  car : c ≤ 255
  sum : val 10 N + 10 ^ N.length * c = s
  pos : 0 < N.length
  fin : c = 0 → ∀ d, N.getLast? = some d → d = 0 → N = [0]
theorem Row16.done {v a k c : Nat} {N : List Nat} (h : Row16 v a k c N) (hk : N.length = k) : App16 (a + 256 * v) c N := by
  obtain ⟨h1, h2, h3, h4, h5, h6⟩ := h
  refine ⟨h2, h3, ?_, by rw [h1]; exact dz_pos (by decide) v, fun hc d hd e => ?_⟩
  · rw [← h4, List.take_of_length_le (by omega), List.drop_of_length_le (by omega), hk]; simp [val]
  · have hv := h6 (by omega) hc
    subst hv
    have hl : N.length = 1 := h1
    obtain ⟨x, rfl⟩ := List.length_eq_one_iff.1 hl
    simp at hd
    rw [hd, e]
theorem App16.step {s c : Nat} {N : List Nat} (h : App16 s c N) (hc : 0 < c) : App16 s (c / 10) (N ++ [c % 10]) := by
  obtain ⟨h1, h2, h3, h4, h5⟩ := h
  refine ⟨fun d hd => ?_, by omega, ?_, by simp, fun h0 d hd e => ?_⟩
  · rcases List.mem_append.1 hd with hd | hd
    · exact h1 d hd
    · rw [List.mem_singleton.1 hd]; omega
  · rw [val_snoc, List.length_append, List.length_singleton, Nat.pow_succ, ← h3, Nat.add_assoc, Nat.mul_assoc, ← Nat.mul_add, Nat.mod_add_div]
  · rw [List.getLast?_append] at hd
    simp at hd
    omega
theorem App16.done {s : Nat} {N : List Nat} (h : App16 s 0 N) : N = dz 10 s :=
  dz_of (by decide) h.dig (h.fin rfl) (by simpa using h.sum) (fun e => by have := h.pos; rw [e] at this; simp at this)
/-- There are not many of them. -/
theorem App16.len {s c n : Nat} {N : List Nat} (h : App16 s c N) (hc : 0 < c) (hs : s < 256 ^ n) : N.length < 3 * n := by
  have h1 : 10 ^ N.length * 1 ≤ 10 ^ N.length * c := Nat.mul_le_mul_left _ hc
  have h2 := h.sum
  have h3 : 256 ^ n ≤ (10 ^ 3) ^ n := Nat.pow_le_pow_left (by decide) n
  rw [← Nat.pow_mul] at h3
  exact (Nat.pow_lt_pow_iff_right (by decide : 1 < 10)).1 (show 10 ^ N.length < 10 ^ (3 * n) by omega)
theorem dz_len {s n : Nat} (hs : s < 256 ^ n) : (dz 10 s).length ≤ 3 * n + 1 := by
  unfold dz
  split
  · simp
  · have h3 : 256 ^ n ≤ (10 ^ 3) ^ n := Nat.pow_le_pow_left (by decide) n
    rw [← Nat.pow_mul] at h3
    have := dg_len_le (B := 10) (by decide) (p := s) (k := 3 * n) (by omega)
    omega
/-- A number's text. -/
def txt (s : Nat) : List Nat := ((dz 10 s).map (48 + ·)).reverse
end Go.Th.Dig
