/-
  How far two filters are apart, and what becomes of that: plain.
-/
import Derived.Test.YtallbegibdlpaaaGreatPackGridA
import Derived.Test.YtallbegibdlpaaaGreatPackExactB
set_option linter.unusedVariables false
set_option linter.unusedSimpArgs false
namespace Go.Th.Led
open Go.Th.Grid

/-- A number, or nought where it is below. -/
def pp (a : Int) : Int := if a ≤ 0 then 0 else a
theorem pp_nn (a : Int) : 0 ≤ pp a := by unfold pp; split <;> omega
theorem pp_mono {a b : Int} (h : a ≤ b) : pp a ≤ pp b := by unfold pp; split <;> split <;> omega
theorem pp_add (a b : Int) : pp (a + b) ≤ pp a + pp b := by unfold pp; split <;> split <;> split <;> omega
theorem pp_of {a : Int} (h : 0 ≤ a) : pp a = a := by unfold pp; split <;> omega
theorem pp_neg (a : Int) : pp a - pp (-a) = a := by unfold pp; split <;> split <;> omega
theorem pp_mul {c : Int} (hc : 0 ≤ c) (a : Int) : pp (c * a) = c * pp a := by
  unfold pp
  by_cases h : a ≤ 0
  · rw [if_pos h, Int.mul_zero, if_pos (by
      have := Int.mul_le_mul_of_nonneg_left h hc
      rw [Int.mul_zero] at this
      exact this)]
  · rw [if_neg h]
    split
    · rename_i h2
      have := Int.mul_nonneg hc (show 0 ≤ a by omega)
      omega
    · rfl

theorem su_nn {f : Nat → Int} {n : Nat} (h : ∀ i, i < n → 0 ≤ f i) : 0 ≤ su f n := by
  have := su_le (f := fun _ => 0) (g := f) n h
  rw [su_zero] at this
  exact this
theorem su_sub (f g : Nat → Int) (n : Nat) : su (fun i => f i - g i) n = su f n - su g n := by
  have h := su_add (fun i => f i - g i) g n
  have e : su (fun i => f i - g i + g i) n = su f n := su_congr n fun i _ => by omega
  rw [e] at h
  omega
theorem su_mulr (f : Nat → Int) (c : Int) (n : Nat) : su (fun i => f i * c) n = su f n * c := by
  rw [Int.mul_comm, ← su_mul]
  exact su_congr n fun i _ => Int.mul_comm _ _

/-- Two to the forty. -/
abbrev One : Int := 1099511627776
/-- By how much the first is above the other one, each in parts of what is believed together. -/
def dev (f g : Nat → Int) (n : Nat) (S T : Int) : Int := su (fun i => pp (f i * T - g i * S)) n
theorem dev_nn (f g : Nat → Int) (n : Nat) (S T : Int) : 0 ≤ dev f g n S T := su_nn fun i _ => pp_nn _
/-- It is as much the other way round. -/
theorem dev_turn (f g : Nat → Int) (n : Nat) : dev f g n (su f n) (su g n) = dev g f n (su g n) (su f n) := by
  have h : dev f g n (su f n) (su g n) - dev g f n (su g n) (su f n) = 0 := by
    unfold dev
    rw [← su_sub]
    have e : su (fun i => pp (f i * su g n - g i * su f n) - pp (g i * su f n - f i * su g n)) n = su (fun i => f i * su g n - g i * su f n) n := su_congr n fun i _ => by
      have := pp_neg (f i * su g n - g i * su f n)
      rw [show -(f i * su g n - g i * su f n) = g i * su f n - f i * su g n by omega] at this
      exact this
    rw [e, su_sub, su_mulr, su_mulr, Int.mul_comm (su g n)]
    omega
  omega
/-- A grid and a filter are no further apart than a bound. -/
structure Near (f g : Nat → Int) (n : Nat) (b : Int) : Prop where
  f0 : ∀ i, i < n → 0 ≤ f i
  g0 : ∀ i, i < n → 0 ≤ g i
  fs : 0 < su f n
  gs : 0 < su g n
  near : One * dev f g n (su f n) (su g n) ≤ su f n * su g n * b

theorem dev_most {f g : Nat → Int} {n : Nat} (hg : ∀ i, i < n → 0 ≤ g i) (hf : ∀ i, i < n → 0 ≤ f i) : dev f g n (su f n) (su g n) ≤ su f n * su g n := by
  unfold dev
  rw [← su_mulr]
  have hG := su_nn hg
  have hF := su_nn hf
  refine su_le n fun i hi => ?_
  have h1 : 0 ≤ f i * su g n := Int.mul_nonneg (hf i hi) hG
  have h2 : 0 ≤ g i * su f n := Int.mul_nonneg (hg i hi) hF
  have h3 : pp (f i * su g n - g i * su f n) ≤ pp (f i * su g n) := pp_mono (by omega)
  rw [pp_of h1] at h3
  exact h3
/-- No two are further apart than one. -/
theorem Near.one {f g : Nat → Int} {n : Nat} {b c : Int} (h : Near f g n b) (hc : One ≤ c) : Near f g n c := by
  refine ⟨h.f0, h.g0, h.fs, h.gs, ?_⟩
  have h1 := dev_most h.g0 h.f0
  have h2 : One * dev f g n (su f n) (su g n) ≤ One * (su f n * su g n) := Int.mul_le_mul_of_nonneg_left h1 (by decide)
  have h3 : su f n * su g n * One ≤ su f n * su g n * c := Int.mul_le_mul_of_nonneg_left hc (Int.mul_nonneg (by have := h.fs; omega) (by have := h.gs; omega))
  rw [Int.mul_comm One (su f n * su g n)] at h2
  omega
theorem Near.mono {f g : Nat → Int} {n : Nat} {b c : Int} (h : Near f g n b) (hc : b ≤ c) : Near f g n c := by
  refine ⟨h.f0, h.g0, h.fs, h.gs, Int.le_trans h.near ?_⟩
  exact Int.mul_le_mul_of_nonneg_left hc (Int.mul_nonneg (by have := h.fs; omega) (by have := h.gs; omega))
/-- .. or one, if it is more. -/
theorem Near.least {f g : Nat → Int} {n : Nat} {b c : Int} (h : Near f g n b) (hc : c = One ∨ b ≤ c) : Near f g n c := by
  rcases hc with rfl | hc
  · exact h.one (Int.le_refl _)
  · exact h.mono hc

theorem mul_cancel {c a b : Int} (hc : 0 < c) (h : c * a ≤ c * b) : a ≤ b := Int.le_of_mul_le_mul_left h hc
/-- What becomes of a bound, where each place's surplus becomes no more than so many times as much, all together. -/
theorem gen {x ws f g : Nat → Int} {m n : Nat} {M b b' : Int} (h : Near f g n b) (hx : ∀ j, j < m → 0 ≤ x j) (hw : ∀ j, j < m → 0 ≤ ws j) (hX : 0 < su x m) (hW : 0 < su ws m) (hM : 0 ≤ M)
    (h1 : su (fun j => pp (x j * su g n - ws j * su f n)) m ≤ M * dev f g n (su f n) (su g n))
    (h2 : su (fun j => pp (ws j * su f n - x j * su g n)) m ≤ M * dev g f n (su g n) (su f n))
    (hb : M * su f n * b ≤ b' * su x m) (hbn : 0 ≤ b) : Near x ws m b' := by
  refine ⟨hx, hw, hX, hW, ?_⟩
  obtain ⟨_, _, hS, hT, hn⟩ := h
  rw [← dev_turn f g n] at h2
  obtain ⟨D, hD⟩ : ∃ D, D = dev f g n (su f n) (su g n) := ⟨_, rfl⟩
  have hD0 : 0 ≤ D := by rw [hD]; exact dev_nn _ _ _ _ _
  rw [← hD] at h1 h2 hn
  have hturn := dev_turn x ws m
  obtain ⟨S, eS⟩ : ∃ S, S = su f n := ⟨_, rfl⟩
  obtain ⟨T, eT⟩ : ∃ T, T = su g n := ⟨_, rfl⟩
  obtain ⟨X, eX⟩ : ∃ X, X = su x m := ⟨_, rfl⟩
  obtain ⟨W, eW⟩ : ∃ W, W = su ws m := ⟨_, rfl⟩
  rw [← eS] at h1 h2 hn hb hS
  rw [← eT] at h1 h2 hn hT
  rw [← eX] at hb hX hturn ⊢
  rw [← eW] at hW hturn ⊢
  clear hD eS eT eX eW
  by_cases hc : W * S ≤ X * T
  · -- the first way
    have k1 : T * dev x ws m X W ≤ W * (M * D) := by
      refine Int.le_trans ?_ (Int.mul_le_mul_of_nonneg_left h1 (by omega))
      unfold dev
      rw [← su_mul, ← su_mul]
      refine su_le m fun j hj => ?_
      rw [← pp_mul (by omega), ← pp_mul (by omega)]
      refine pp_mono ?_
      have := Int.mul_le_mul_of_nonneg_left hc (hw j hj)
      have e1 : T * (x j * W - ws j * X) = x j * W * T - ws j * (X * T) := by grind
      have e2 : W * (x j * T - ws j * S) = x j * W * T - ws j * (W * S) := by grind
      rw [e1, e2]
      omega
    -- T * (One * dev) ≤ W * M * (S * T * b) ≤ T * (X * W * b')
    refine mul_cancel (c := T) hT ?_
    have k2 : One * (T * dev x ws m X W) ≤ One * (W * (M * D)) := Int.mul_le_mul_of_nonneg_left k1 (by decide)
    have k3 : W * M * (One * D) ≤ W * M * (S * T * b) := Int.mul_le_mul_of_nonneg_left hn (Int.mul_nonneg (by omega) hM)
    have k4 : W * T * (M * S * b) ≤ W * T * (b' * X) := Int.mul_le_mul_of_nonneg_left hb (Int.mul_nonneg (by omega) (by omega))
    have e1 : T * (One * dev x ws m X W) = One * (T * dev x ws m X W) := by grind
    have e2 : One * (W * (M * D)) = W * M * (One * D) := by grind
    have e3 : W * M * (S * T * b) = W * T * (M * S * b) := by grind
    have e4 : W * T * (b' * X) = T * (X * W * b') := by grind
    rw [e1]
    rw [e2] at k2
    rw [e3] at k3
    rw [e4] at k4
    omega
  · rw [hturn]
    have k1 : S * dev ws x m W X ≤ X * (M * D) := by
      refine Int.le_trans ?_ (Int.mul_le_mul_of_nonneg_left h2 (by omega))
      unfold dev
      rw [← su_mul, ← su_mul]
      refine su_le m fun j hj => ?_
      rw [← pp_mul (by omega), ← pp_mul (by omega)]
      refine pp_mono ?_
      have := Int.mul_le_mul_of_nonneg_left (show X * T ≤ W * S by omega) (hx j hj)
      have e1 : S * (ws j * X - x j * W) = ws j * X * S - x j * (W * S) := by grind
      have e2 : X * (ws j * S - x j * T) = ws j * X * S - x j * (X * T) := by grind
      rw [e1, e2]
      omega
    have k2 : One * (S * dev ws x m W X) ≤ One * (X * (M * D)) := Int.mul_le_mul_of_nonneg_left k1 (by decide)
    have k3 : X * M * (One * D) ≤ X * M * (S * T * b) := Int.mul_le_mul_of_nonneg_left hn (Int.mul_nonneg (by omega) hM)
    have k4 : M * S * b * (X * T) ≤ M * S * b * (W * S) := Int.mul_le_mul_of_nonneg_left (by omega) (Int.mul_nonneg (Int.mul_nonneg hM (by omega)) hbn)
    have k5 : W * S * (M * S * b) ≤ W * S * (b' * X) := Int.mul_le_mul_of_nonneg_left hb (Int.mul_nonneg (by omega) (by omega))
    refine mul_cancel (c := S) hS ?_
    have e1 : S * (One * dev ws x m W X) = One * (S * dev ws x m W X) := by grind
    have e2 : One * (X * (M * D)) = X * M * (One * D) := by grind
    have e3 : X * M * (S * T * b) = M * S * b * (X * T) := by grind
    have e4 : M * S * b * (W * S) = W * S * (M * S * b) := by grind
    have e5 : W * S * (b' * X) = S * (X * W * b') := by grind
    rw [e1]
    rw [e2] at k2
    rw [e3] at k3
    rw [e4] at k4
    rw [e5] at k5
    omega

/-- What rounding down costs: a place is so many parts of a number, rounded down. -/
theorem rounded {a x ws : Nat → Int} {n : Nat} {K b c : Int} (h : Near x ws n b) (hK : 0 < K) (ha : ∀ i, i < n → 0 ≤ a i) (hlo : ∀ i, i < n → K * a i ≤ x i) (hA : 0 < su a n) (hc : One * (su x n - K * su a n) ≤ su x n * c) : Near a ws n (b + c) := by
  refine ⟨ha, h.g0, hA, h.gs, ?_⟩
  have hn := h.near
  have hX := h.fs
  have hW := h.gs
  rw [dev_turn] at hn ⊢
  obtain ⟨X, eX⟩ : ∃ X, X = su x n := ⟨_, rfl⟩
  obtain ⟨W, eW⟩ : ∃ W, W = su ws n := ⟨_, rfl⟩
  obtain ⟨A, eA⟩ : ∃ A, A = su a n := ⟨_, rfl⟩
  have k1 : X * dev ws a n W A ≤ A * (dev ws x n W X + W * (X - K * A)) := by
    have hKA : K * A ≤ X := by
      rw [eA, eX, ← su_mul]
      exact su_le n hlo
    have s1 : su (fun i => A * (pp (ws i * X - x i * W) + W * (x i - K * a i))) n = A * (dev ws x n W X + W * (X - K * A)) := by
      rw [su_mul, su_add, su_mul, su_sub, su_mul, ← eX, ← eA]
      rfl
    rw [← s1]
    unfold dev
    rw [← su_mul]
    refine su_le n fun i hi => ?_
    rw [← pp_mul (by omega)]
    have h0 : 0 ≤ x i - K * a i := by have := hlo i hi; omega
    have hW0 : 0 ≤ W * (x i - K * a i) := Int.mul_nonneg (by omega) h0
    rw [← pp_of hW0, Int.mul_add, ← pp_mul (by omega), ← pp_mul (by omega)]
    refine Int.le_trans (pp_mono ?_) (pp_add _ _)
    -- X * (ws A - a W) ≤ A * (ws X - x W) + A * (W * (x - K a))
    have k2 : W * (a i * (K * A)) ≤ W * (a i * X) := Int.mul_le_mul_of_nonneg_left (Int.mul_le_mul_of_nonneg_left hKA (ha i hi)) (by omega)
    have e1 : X * (ws i * A - a i * W) = ws i * A * X - W * (a i * X) := by grind
    have e2 : A * (ws i * X - x i * W) + A * (W * (x i - K * a i)) = ws i * A * X - W * (a i * (K * A)) := by grind
    rw [e1, e2]
    omega
  rw [← eX] at hn hX hc
  rw [← eW] at hn hW ⊢
  rw [← eA] at hA hc ⊢
  clear eX eW eA
  refine mul_cancel (c := X) hX ?_
  have k2 : One * (X * dev ws a n W A) ≤ One * (A * (dev ws x n W X + W * (X - K * A))) := Int.mul_le_mul_of_nonneg_left k1 (by decide)
  have k3 : A * (One * dev ws x n W X) ≤ A * (X * W * b) := Int.mul_le_mul_of_nonneg_left hn (by omega)
  have k4 : A * W * (One * (X - K * A)) ≤ A * W * (X * c) := Int.mul_le_mul_of_nonneg_left hc (Int.mul_nonneg (by omega) (by omega))
  have e1 : X * (One * dev ws a n W A) = One * (X * dev ws a n W A) := by grind
  have e2 : One * (A * (dev ws x n W X + W * (X - K * A))) = A * (One * dev ws x n W X) + A * W * (One * (X - K * A)) := by grind
  have e3 : X * (A * W * (b + c)) = A * (X * W * b) + A * W * (X * c) := by grind
  rw [e1, e3]
  rw [e2] at k2
  omega
end Go.Th.Led
