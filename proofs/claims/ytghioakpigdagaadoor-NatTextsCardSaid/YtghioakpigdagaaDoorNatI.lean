/-
  Numbers by parts of 32 bits: carried, borrowed, moved, divided, from the lowest part up or from the highest one down; plain.
-/
import Derived.Test.YtghioakpigdagaaDoorNatF
set_option linter.unusedVariables false
set_option linter.unusedSimpArgs false
namespace Go.Th.Dig

theorem val_set_of {B : Nat} {l : List Nat} {i : Nat} (h : i < l.length) (d : Nat) : val B ((l.set i d).take (i + 1)) = val B (l.take i) + B ^ i * d := by
  rw [take_val (by simpa using h), List.take_set_of_le (Nat.le_refl _), getD_set _ _ _ _ h, if_pos rfl]
theorem drop_set {l : List Nat} {i d : Nat} : (l.set i d).drop (i + 1) = l.drop (i + 1) := by rw [List.drop_set, if_pos (by omega)]
theorem drop_next {l m : List Nat} {i : Nat} (h : l.drop i = m.drop i) : l.drop (i + 1) = m.drop (i + 1) := by
  have := congrArg (List.drop 1) h
  simpa using this
theorem getD_drop {l m : List Nat} {i : Nat} (h : l.drop i = m.drop i) : l.getD i 0 = m.getD i 0 := by
  have := congrArg (fun l : List Nat => l.getD 0 0) h
  simp only [List.getD_eq_getElem?_getD, List.getElem?_drop, Nat.add_zero] at this ⊢
  exact this
theorem getD_take {l m : List Nat} {i j : Nat} (h : l.take i = m.take i) (hj : j < i) : l.getD j 0 = m.getD j 0 := by
  have := congrArg (fun l : List Nat => l.getD j 0) h
  simp only [List.getD_eq_getElem?_getD, List.getElem?_take, if_pos hj] at this ⊢
  exact this
theorem mem_set {B : Nat} {l : List Nat} (h : ∀ d ∈ l, d < B) {i v : Nat} (hv : v < B) : ∀ d ∈ l.set i v, d < B := by
  intro d hd
  rcases List.mem_or_eq_of_mem_set hd with h' | h'
  · exact h d h'
  · omega
theorem getD_mem {B : Nat} (hB : 0 < B) {l : List Nat} (h : ∀ d ∈ l, d < B) (i : Nat) : l.getD i 0 < B := by
  rw [List.getD_eq_getElem?_getD]
  by_cases hi : i < l.length
  · rw [List.getElem?_eq_getElem hi]; exact h _ (List.getElem_mem _)
  · rw [List.getElem?_eq_none (by omega)]; exact hB
theorem val_join {B : Nat} (l : List Nat) {i : Nat} (hi : i ≤ l.length) : val B l = val B (l.take i) + B ^ i * val B (l.drop i) := by
  have := val_take B l i
  rwa [Nat.min_eq_left hi] at this

/-- From the lowest part up: S is added to W; so many parts of O are done, and c is carried. -/
structure Car (B S : Nat) (W : List Nat) (i c : Nat) (O : List Nat) : Prop where
  len : O.length = W.length
  dig : ∀ d ∈ O, d < B
  sum : val B (O.take i) + B ^ i * c = val B (W.take i) + S
  rest : O.drop i = W.drop i
theorem Car.start {B : Nat} {W : List Nat} (h : ∀ d ∈ W, d < B) : Car B 0 W 0 0 W := ⟨rfl, h, by simp [val], rfl⟩
theorem Car.step {B S : Nat} {W : List Nat} {i c p : Nat} {O : List Nat} (hB : 0 < B) (h : Car B S W i c O) (hi : i < W.length) :
    Car B (S + B ^ i * p) W (i + 1) ((c + p + O.getD i 0) / B) (O.set i ((c + p + O.getD i 0) % B)) := by
  obtain ⟨h1, h2, h3, h4⟩ := h
  refine ⟨by simpa using h1, mem_set h2 (Nat.mod_lt _ hB), ?_, by rw [drop_set]; exact drop_next h4⟩
  rw [val_set_of (by omega), take_val hi, ← getD_drop h4, Nat.pow_succ, Nat.add_assoc, Nat.mul_assoc, ← Nat.mul_add, Nat.mod_add_div, Nat.mul_add, Nat.mul_add]
  omega
theorem Car.total {B S : Nat} {W : List Nat} {i c : Nat} {O : List Nat} (h : Car B S W i c O) (hi : i ≤ W.length) (hz : c = 0 ∨ i = W.length) : val B O + B ^ W.length * c = val B W + S := by
  obtain ⟨h1, h2, h3, h4⟩ := h
  rw [val_join O (i := i) (by omega), val_join W hi, h4]
  rcases hz with rfl | rfl
  · simp at h3 ⊢; omega
  · have e : val B (W.drop W.length) = 0 := by simp [val]
    rw [e]; omega
/-- .., taken off. -/
structure Bor (B S : Nat) (W : List Nat) (i c : Nat) (O : List Nat) : Prop where
  len : O.length = W.length
  dig : ∀ d ∈ O, d < B
  sum : val B (O.take i) + S = val B (W.take i) + B ^ i * c
  rest : O.drop i = W.drop i
theorem Bor.start {B : Nat} {W : List Nat} (h : ∀ d ∈ W, d < B) : Bor B 0 W 0 0 W := ⟨rfl, h, by simp [val], rfl⟩
/-- What is borrowed of one part. -/
def brw (o x : Nat) : Nat := if o < x then 1 else 0
def tkn (B o x : Nat) : Nat := (o + B - x) % B
theorem tkn_eq {B o x : Nat} (ho : o < B) (hx : x < B) : tkn B o x + x = o + B * brw o x := by
  unfold tkn brw
  by_cases h : o < x
  · rw [if_pos h, Nat.mod_eq_of_lt (by omega)]; omega
  · rw [if_neg h, show o + B - x = (o - x) + B by omega, Nat.add_mod_right, Nat.mod_eq_of_lt (by omega)]; omega
theorem tkn_lt {B o x : Nat} (hB : 0 < B) : tkn B o x < B := Nat.mod_lt _ hB
theorem Bor.step {B S : Nat} {W : List Nat} {i c p : Nat} {O : List Nat} (hB : 0 < B) (h : Bor B S W i c O) (hi : i < W.length) :
    Bor B (S + B ^ i * p) W (i + 1) ((c + p) / B + brw (O.getD i 0) ((c + p) % B)) (O.set i (tkn B (O.getD i 0) ((c + p) % B))) := by
  obtain ⟨h1, h2, h3, h4⟩ := h
  have hd := getD_mem hB h2 i
  have e := tkn_eq hd (Nat.mod_lt (c + p) hB)
  have e2 := Nat.mod_add_div (c + p) B
  refine ⟨by simpa using h1, mem_set h2 (tkn_lt hB), ?_, by rw [drop_set]; exact drop_next h4⟩
  rw [val_set_of (by omega), take_val hi, ← getD_drop h4, Nat.pow_succ, Nat.mul_assoc]
  generalize hu : (c + p) % B = u at *
  generalize hq : (c + p) / B = q at *
  generalize ht : tkn B (O.getD i 0) u = t at *
  generalize hb : brw (O.getD i 0) u = b at *
  generalize ho : O.getD i 0 = o at *
  have k1 : B ^ i * (t + u) = B ^ i * (o + B * b) := by rw [e]
  have k2 : B ^ i * (u + B * q) = B ^ i * (c + p) := by rw [e2]
  simp only [Nat.mul_add] at k1 k2 ⊢
  omega
theorem Bor.total {B S : Nat} {W : List Nat} {i c : Nat} {O : List Nat} (h : Bor B S W i c O) (hi : i ≤ W.length) (hz : c = 0 ∨ i = W.length) : val B O + S = val B W + B ^ W.length * c := by
  obtain ⟨h1, h2, h3, h4⟩ := h
  rw [val_join O (i := i) (by omega), val_join W hi, h4]
  rcases hz with rfl | rfl
  · simp at h3 ⊢; omega
  · have e : val B (W.drop W.length) = 0 := by simp [val]
    rw [e]; omega
/-- From the lowest part up: times M. -/
structure Cli (B M : Nat) (W : List Nat) (i c : Nat) (O : List Nat) : Prop where
  len : O.length = W.length
  dig : ∀ d ∈ O, d < B
  sum : val B (O.take i) + B ^ i * c = M * val B (W.take i)
  rest : O.drop i = W.drop i
  car : c < M
theorem Cli.start {B M : Nat} (hM : 0 < M) {W : List Nat} (h : ∀ d ∈ W, d < B) : Cli B M W 0 0 W := ⟨rfl, h, by simp [val], rfl, hM⟩
theorem Cli.step {B M : Nat} {W : List Nat} {i c : Nat} {O : List Nat} (hB : 0 < B) (h : Cli B M W i c O) (hi : i < W.length) :
    Cli B M W (i + 1) ((c + W.getD i 0 * M) / B) (O.set i ((c + W.getD i 0 * M) % B)) := by
  obtain ⟨h1, h2, h3, h4, h5⟩ := h
  have hd := getD_mem hB h2 i
  rw [getD_drop h4] at hd
  refine ⟨by simpa using h1, mem_set h2 (Nat.mod_lt _ hB), ?_, by rw [drop_set]; exact drop_next h4, ?_⟩
  · rw [val_set_of (by omega), take_val hi, Nat.pow_succ, Nat.add_assoc, Nat.mul_assoc, ← Nat.mul_add, Nat.mod_add_div, Nat.mul_add, Nat.mul_add, ← h3, Nat.mul_left_comm M, Nat.mul_comm M (W.getD i 0)]
    omega
  · refine Nat.div_lt_of_lt_mul ?_
    have : (W.getD i 0 + 1) * M ≤ B * M := Nat.mul_le_mul_right _ hd
    rw [Nat.add_mul] at this
    omega
theorem Cli.total {B M : Nat} {W : List Nat} {c : Nat} {O : List Nat} (h : Cli B M W W.length c O) : val B O + B ^ W.length * c = M * val B W := by
  have := h.sum
  rwa [List.take_of_length_le (by rw [h.len]; exact Nat.le_refl _), List.take_of_length_le (Nat.le_refl _)] at this
theorem Cli.room {B M : Nat} {W : List Nat} {c : Nat} {O : List Nat} (h : Cli B M W W.length c O) (hr : M * val B W < B ^ W.length) : val B O = M * val B W := by
  have := h.total
  by_cases h0 : c = 0
  · rw [h0] at this; simpa using this
  · have : B ^ W.length * 1 ≤ B ^ W.length * c := Nat.mul_le_mul_left _ (by omega)
    omega

theorem val_set_high {B : Nat} {l : List Nat} {i d : Nat} (h : i < l.length) : val B ((l.set i d).drop i) = d + B * val B (l.drop (i + 1)) := by
  rw [List.drop_set, if_neg (by omega), Nat.sub_self, drop_step h, List.set_cons_zero, val]
theorem take_set {l m : List Nat} {i d : Nat} (h : l.take (i + 1) = m.take (i + 1)) : (l.set i d).take i = m.take i := by
  rw [List.take_set_of_le (Nat.le_refl _)]
  have := congrArg (List.take i) h
  simpa [List.take_take, Nat.min_eq_left (Nat.le_succ i)] using this
/-- From the highest part down: divided by M, which divides B. -/
structure Snk (B M : Nat) (W : List Nat) (i : Nat) (O : List Nat) : Prop where
  len : O.length = W.length
  dig : ∀ d ∈ O, d < B
  quo : val B (O.drop i) = val B (W.drop i) / M
  rest : O.take i = W.take i
theorem Snk.start {B M : Nat} {W : List Nat} (h : ∀ d ∈ W, d < B) : Snk B M W W.length W := ⟨rfl, h, by simp [val], rfl⟩
theorem Snk.step {B M K : Nat} {W : List Nat} {i : Nat} {O : List Nat} (hM : 0 < M) (hB : B = M * K) (hB0 : 0 < B) (h : Snk B M W (i + 1) O) (hi : i < W.length) :
    Snk B M W i (O.set i ((W.getD (i + 1) 0 * B + W.getD i 0) / M % B)) := by
  obtain ⟨h1, h2, h3, h4⟩ := h
  have hd : W.getD i 0 < B := by rw [← getD_take h4 (Nat.lt_succ_self i)]; exact getD_mem hB0 h2 i
  refine ⟨by simpa using h1, mem_set h2 (Nat.mod_lt _ hB0), ?_, take_set h4⟩
  rw [val_set_high (by omega), h3, drop_any W i B]
  obtain ⟨V, hV⟩ : ∃ V, V = val B (W.drop (i + 1)) := ⟨_, rfl⟩
  have e1 : W.getD (i + 1) 0 % M = V % M := by
    rw [hV, drop_any W (i + 1) B, hB, Nat.mul_assoc, Nat.add_mul_mod_self_left]
  rw [← hV]
  have hK : 0 < K := by
    rcases Nat.eq_zero_or_pos K with h | h
    · rw [h, Nat.mul_zero] at hB; omega
    · exact h
  have q : ∀ x, (x * B + W.getD i 0) / M = x * K + W.getD i 0 / M := fun x => by
    rw [hB, show x * (M * K) + W.getD i 0 = W.getD i 0 + M * (x * K) by rw [Nat.mul_left_comm, Nat.add_comm], Nat.add_mul_div_left _ _ hM, Nat.add_comm]
  have hdK : W.getD i 0 / M < K := Nat.div_lt_of_lt_mul (by rw [← hB]; exact hd)
  rw [show W.getD i 0 + B * V = V * B + W.getD i 0 by rw [Nat.mul_comm, Nat.add_comm], q, q]
  obtain ⟨y, hy⟩ : ∃ y, y = W.getD i 0 / M := ⟨_, rfl⟩
  obtain ⟨x, hx⟩ : ∃ x, x = W.getD (i + 1) 0 := ⟨_, rfl⟩
  rw [← hx] at e1
  rw [← hx, ← hy]
  rw [← hy] at hdK
  have r : ∀ z, z * K = (z % M) * K + B * (z / M) := fun z => by
    have := Nat.mod_add_div z M
    calc z * K = (z % M + M * (z / M)) * K := by rw [this]
      _ = (z % M) * K + B * (z / M) := by rw [Nat.add_mul, hB, Nat.mul_right_comm]
  have hlt : (x % M) * K + y < B := by
    have : (x % M + 1) * K ≤ M * K := Nat.mul_le_mul_right _ (Nat.mod_lt _ hM)
    rw [Nat.add_mul] at this
    omega
  rw [r x, r V, show x % M * K + B * (x / M) + y = x % M * K + y + B * (x / M) by omega, Nat.add_mul_mod_self_left, Nat.mod_eq_of_lt hlt, e1]
  omega
theorem Snk.total {B M : Nat} {W O : List Nat} (h : Snk B M W 0 O) : val B O = val B W / M := by simpa using h.quo
/-- From the highest part down: divided by M; r is left. -/
structure Nin (B M : Nat) (W : List Nat) (i r : Nat) (O : List Nat) : Prop where
  len : O.length = W.length
  dig : ∀ d ∈ O, d < B
  quo : M * val B (O.drop i) + r = val B (W.drop i)
  rest : O.take i = W.take i
  lt : r < M
theorem Nin.start {B M : Nat} (hM : 0 < M) {W : List Nat} (h : ∀ d ∈ W, d < B) : Nin B M W W.length 0 W := ⟨rfl, h, by simp [val], rfl, hM⟩
theorem Nin.step {B M : Nat} {W : List Nat} {i r : Nat} {O : List Nat} (hB : 0 < B) (h : Nin B M W (i + 1) r O) (hi : i < W.length) :
    Nin B M W i ((r * B + W.getD i 0) % M) (O.set i ((r * B + W.getD i 0) / M)) ∧ (r * B + W.getD i 0) / M < B := by
  obtain ⟨h1, h2, h3, h4, h5⟩ := h
  have hd : W.getD i 0 < B := by rw [← getD_take h4 (Nat.lt_succ_self i)]; exact getD_mem hB h2 i
  have hlt : (r * B + W.getD i 0) / M < B := by
    refine Nat.div_lt_of_lt_mul ?_
    have : (r + 1) * B ≤ M * B := Nat.mul_le_mul_right _ h5
    rw [Nat.add_mul] at this
    omega
  refine ⟨⟨by simpa using h1, mem_set h2 hlt, ?_, take_set h4, Nat.mod_lt _ (by omega)⟩, hlt⟩
  rw [val_set_high (by omega), drop_any W i B, ← h3]
  have e := Nat.mod_add_div (r * B + W.getD i 0) M
  simp only [Nat.mul_add]
  rw [Nat.mul_left_comm B M]
  rw [Nat.mul_comm B r]
  omega
theorem Nin.total {B M : Nat} {W : List Nat} {r : Nat} {O : List Nat} (h : Nin B M W 0 r O) : val B O = val B W / M ∧ r = val B W % M := by
  have e := h.quo
  rw [List.drop_zero, List.drop_zero] at e
  rw [← e]
  exact ⟨by rw [Nat.mul_add_div (by have := h.lt; omega), Nat.div_eq_of_lt h.lt, Nat.add_zero], by rw [Nat.mul_add_mod, Nat.mod_eq_of_lt h.lt]⟩
end Go.Th.Dig
