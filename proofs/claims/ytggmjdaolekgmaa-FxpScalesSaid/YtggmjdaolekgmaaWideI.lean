/-
  Numbers of 128 bits: the rounded quotient, whole.
-/
import Derived.Test.YtggmjdaolekgmaaWideH
set_option linter.unusedVariables false
set_option linter.unusedSimpArgs false
namespace Go.Proofs.Ytggmjdaolekgmaa
open Go Go.RowKit Go.Th Go.Th.Wide

theorem n_hi (N : Nat) (h : N ≤ 170141183460469231731687303715884105728) : IntKind.u64.wrap (wrap64 ((N : Int) / 18446744073709551616)) = ((N / 18446744073709551616 : Nat) : Int) := by
  rw [IntKind.wrap_u64]; simp only [wrap64]; omega
theorem n_lo (N : Nat) : (N : Int) % 18446744073709551616 = ((N % 18446744073709551616 : Nat) : Int) := by omega
theorem q_hi (q : Nat) (h : q < 18446744073709551616) : hiZ (q : Int) = 0 := by unfold hiZ; omega
theorem q_lo (q : Nat) (h : q < 18446744073709551616) : loZ (q : Int) = (q : Int) := by unfold loZ; omega
theorem hi_neg (z : Int) : decide (hiZ z < 0) = decide (z < 0) := by unfold hiZ; rw [decide_eq_decide]; omega
theorem q_lt (N D : Nat) (h : N / 18446744073709551616 < D) : N / D < 18446744073709551616 := by
  have hD : 0 < D := by omega
  rw [Nat.div_lt_iff_lt_mul hD]; omega
theorem q_ge (N D : Nat) (hD : 0 < D) (h : D ≤ N / 18446744073709551616) : 18446744073709551616 ≤ N / D := by
  rw [Nat.le_div_iff_mul_le hD]; omega

theorem wmore_0 (d : Nat) (m : Bool) (mode : Int) : moreS 0 d m mode = false := by simp [moreS]
theorem more_same (r d : Nat) (mode q : Int) (hr : r ≠ 0) (hd : r < d) (hm : 0 ≤ mode ∧ mode ≤ 3) (hq : 0 ≤ q) : moreS r d false mode = isUpS mode q r d := by
  unfold moreS isUpS
  have e : mode = 0 ∨ mode = 1 ∨ mode = 2 ∨ mode = 3 := by omega
  rcases e with rfl | rfl | rfl | rfl
  · simp [hr]
  · simp [hr]
  · simp [hr]
    rw [← Bool.decide_or]
    apply decide_eq_decide.mpr
    omega
  · simp; omega
theorem more_diff (r d : Nat) (mode X : Int) (hr : r ≠ 0) (hd : r < d) (hm : 0 ≤ mode ∧ mode ≤ 3) (hX : X < 0) : moreS r d true mode = !isUpS mode X (d - r) d := by
  unfold moreS isUpS
  have e : mode = 0 ∨ mode = 1 ∨ mode = 2 ∨ mode = 3 := by omega
  rcases e with rfl | rfl | rfl | rfl
  · simp [hr]
  · simp [hr]
  · simp [hr]
    rw [Bool.eq_iff_iff]
    simp
    omega
  · simp; exact hX

theorem signed_t (Q : Nat) : signed true Q = -(Q : Int) := rfl
theorem signed_f (Q : Nat) : signed false Q = (Q : Int) := rfl
theorem fits_t (Q : Nat) : fitsS true Q 63 = decide (Q ≤ 9223372036854775808) := by unfold fitsS; rw [Bool.and_true, ← Bool.decide_or]; exact decide_eq_decide.mpr (by omega)
theorem fits_f (Q : Nat) : fitsS false Q 63 = decide (Q < 9223372036854775808) := by unfold fitsS; rw [Bool.and_false, Bool.or_false]
theorem divV_fits (m : Bool) (Q : Nat) : (if Q = 0 then 0 else if fitsS m Q 63 then signed m Q else 0) = if -9223372036854775808 ≤ signed m Q ∧ signed m Q ≤ 9223372036854775807 then signed m Q else 0 := by
  cases m
  · rw [signed_f, fits_f]
    by_cases h0 : Q = 0
    · subst h0; simp
    · by_cases h1 : Q < 9223372036854775808
      · rw [if_neg h0, if_pos (decide_eq_true h1), if_pos (by omega)]
      · rw [if_neg h0, if_neg (by rw [decide_eq_true_eq]; exact h1), if_neg (by omega)]
  · rw [signed_t, fits_t]
    by_cases h0 : Q = 0
    · subst h0; simp
    · by_cases h1 : Q ≤ 9223372036854775808
      · rw [if_neg h0, if_pos (decide_eq_true h1), if_pos (by omega)]
      · rw [if_neg h0, if_neg (by rw [decide_eq_true_eq]; exact h1), if_neg (by omega)]
theorem divE_fits (m : Bool) (Q : Nat) : (if Q = 0 then (0 : Int) else if fitsS m Q 63 then 0 else 10) = if -9223372036854775808 ≤ signed m Q ∧ signed m Q ≤ 9223372036854775807 then 0 else 10 := by
  cases m
  · rw [signed_f, fits_f]
    by_cases h0 : Q = 0
    · subst h0; simp
    · by_cases h1 : Q < 9223372036854775808
      · rw [if_neg h0, if_pos (decide_eq_true h1), if_pos (by omega)]
      · rw [if_neg h0, if_neg (by rw [decide_eq_true_eq]; exact h1), if_neg (by omega)]
  · rw [signed_t, fits_t]
    by_cases h0 : Q = 0
    · subst h0; simp
    · by_cases h1 : Q ≤ 9223372036854775808
      · rw [if_neg h0, if_pos (decide_eq_true h1), if_pos (by omega)]
      · rw [if_neg h0, if_neg (by rw [decide_eq_true_eq]; exact h1), if_neg (by omega)]

/-- The two answers of the rounded quotient, told of the rounded number. -/
theorem divVE (z b mode : Int) (ha : ¬ (b = 0 ∨ mode < 0 ∨ 3 < mode)) (m : Bool) (hm : m = (decide (z < 0) != decide (b < 0))) (X : Int) (hX : X = signed m (magS z.natAbs m b.natAbs mode)) :
    divV z b mode = (if -9223372036854775808 ≤ X ∧ X ≤ 9223372036854775807 then X else 0) ∧ divE z b mode = (if -9223372036854775808 ≤ X ∧ X ≤ 9223372036854775807 then 0 else 10) := by
  subst hX hm
  unfold divV divE
  rw [if_neg ha, if_neg ha]
  exact ⟨divV_fits _ _, divE_fits _ _⟩

theorem decide_no {p : Prop} [Decidable p] (h : ¬ p) : decide p = false := decide_eq_false h
theorem beq_no (b : Int) (h : b ≠ 0) : (b == 0) = false := by rw [beq_eq_false_iff_ne]; exact h

theorem Div_any (z b mode : Int) (hz : -170141183460469231731687303715884105728 ≤ z ∧ z < 170141183460469231731687303715884105728) (hb : -9223372036854775808 ≤ b ∧ b ≤ 9223372036854775807) (w : World) :
    Calls Try.prog 61 #[.agg #[.int .i64 (hiZ z), .int .u64 (loZ z)], .int .i64 b, .int .i64 mode] w fun e w' =>
      e = .returned (.tuple #[.int .i64 (divV z b mode), .int .i64 (divE z b mode)]) ∧ Below w.heap.size w w' := by
  by_cases ha : b = 0 ∨ mode < 0 ∨ 3 < mode
  · have e1 : divV z b mode = 0 := by unfold divV; rw [if_pos ha]
    have e2 : divE z b mode = 1 := by unfold divE; rw [if_pos ha]
    rw [e1, e2]
    exact Div_arg _ _ b mode ha w
  · have hb2 : (b == 0) = false := beq_no b (fun h => ha (Or.inl h))
    have hd1 : decide (mode < 0) = false := decide_no (fun h => ha (Or.inr (Or.inl h)))
    have hd2 : decide (3 < mode) = false := decide_no (fun h => ha (Or.inr (Or.inr h)))
    have hm : 0 ≤ mode ∧ mode ≤ 3 := by omega
    have hD0 : 0 < b.natAbs := by omega
    have hD2 : b.natAbs < 18446744073709551616 := by omega
    have hNle : z.natAbs ≤ 170141183460469231731687303715884105728 := by omega
    have C1 := away_any z hz
    rw [n_lo] at C1
    have C2 := Of_any b hb
    have C3 := away_of b hb
    have hHn := n_hi z.natAbs hNle
    have hHlt : z.natAbs / 18446744073709551616 < 18446744073709551616 := by omega
    have hLlt : z.natAbs % 18446744073709551616 < 18446744073709551616 := Nat.mod_lt _ (by decide)
    obtain ⟨m, hmm⟩ : ∃ m, m = (decide (z < 0) != decide (b < 0)) := ⟨_, rfl⟩
    have K := divVE z b mode ha m hmm
    obtain ⟨D, hD⟩ : ∃ D, D = b.natAbs := ⟨_, rfl⟩
    obtain ⟨N, hN⟩ : ∃ N, N = z.natAbs := ⟨_, rfl⟩
    rw [← hD] at hD0 hD2 C3 K
    rw [← hN] at hNle C1 hHn hHlt hLlt K
    obtain ⟨V, hV⟩ : ∃ V, V = divV z b mode := ⟨_, rfl⟩
    obtain ⟨E, hE⟩ : ∃ E, E = divE z b mode := ⟨_, rfl⟩
    rw [← hV, ← hE] at K ⊢
    have d1 := hi_neg z
    clear hV hE hD hN ha hz hb
    by_cases hgn : D ≤ N / 18446744073709551616
    · have hq := q_ge N D hD0 hgn
      have hQ : 18446744073709551616 ≤ magS N m D mode := by unfold magS; omega
      obtain ⟨e1, e2⟩ := K _ rfl
      have hno : ¬ (-9223372036854775808 ≤ signed m (magS N m D mode) ∧ signed m (magS N m D mode) ≤ 9223372036854775807) := by
        unfold signed; cases m <;> simp <;> omega
      rw [if_neg hno] at e1 e2
      subst e1 e2
      exact Div_big _ _ _ _ _ _ _ _ _ _ hb2 hd1 hd2 C1 C2 C3 hHn hHlt hLlt hD2 hgn w
    · have hgn' : N / 18446744073709551616 < D := by omega
      have C4 := Div64_any N D hgn' hD2
      have hql := q_lt N D hgn'
      have hrl : N % D < D := Nat.mod_lt _ hD0
      have hrl2 : N % D < 18446744073709551616 := by omega
      have qh := q_hi _ hql
      have ql := q_lo _ hql
      unfold magS at K
      obtain ⟨q, hq⟩ : ∃ q, q = N / D := ⟨_, rfl⟩
      obtain ⟨r, hr⟩ : ∃ r, r = N % D := ⟨_, rfl⟩
      rw [← hq, ← hr] at C4 K
      rw [← hq] at hql qh ql
      rw [← hr] at hrl hrl2
      clear hq hr
      have h0q : (0 : Int) ≤ q := Int.natCast_nonneg q
      cases m with
      | false =>
        have hss := bne_f hmm.symm
        by_cases h0 : r = 0
        · rw [h0, wmore_0] at K
          rw [h0] at C4
          obtain ⟨e1, e2⟩ := K (q : Int) (by simp [signed])
          have C6 := narrow_any (q : Int) (by omega) V E e1 e2
          rw [qh, ql] at C6
          exact Div_same_0 _ _ _ _ _ _ _ _ _ _ hb2 hd1 hd2 C1 C2 C3 hHn hHlt hLlt hD2 hgn' _ _ d1 rfl hss q r hql hrl2 V E C4 C6 w
        · have C5 := isUp_any mode (q : Int) (by omega) r D hrl hD2
          rw [more_same r D mode q h0 hrl hm h0q] at K
          rw [qh, ql] at C5
          cases hu : isUpS mode (q : Int) r D with
          | true =>
            rw [hu] at C5 K
            obtain ⟨e1, e2⟩ := K ((q : Int) + 1) (by simp [signed])
            have C6 := narrow_any ((q : Int) + 1) (by omega) V E e1 e2
            have C7 := next_any (q : Int) (by omega)
            rw [qh, ql] at C7
            exact Div_same_up _ _ _ _ _ _ _ _ _ _ hb2 hd1 hd2 C1 C2 C3 hHn hHlt hLlt hD2 hgn' _ _ d1 rfl hss q r hql hrl2 V E C4 h0 C5 _ _ C7 C6 w
          | false =>
            rw [hu] at C5 K
            obtain ⟨e1, e2⟩ := K (q : Int) (by simp [signed])
            have C6 := narrow_any (q : Int) (by omega) V E e1 e2
            rw [qh, ql] at C6
            exact Div_same_no _ _ _ _ _ _ _ _ _ _ hb2 hd1 hd2 C1 C2 C3 hHn hHlt hLlt hD2 hgn' _ _ d1 rfl hss q r hql hrl2 V E C4 h0 C5 C6 w
      | true =>
        have hss := bne_t hmm.symm
        by_cases h0 : r = 0
        · rw [h0, wmore_0] at K
          rw [h0] at C4
          obtain ⟨e1, e2⟩ := K (-(q : Int)) (by simp [signed])
          have C6 := narrow_any (-(q : Int)) (by omega) V E e1 e2
          have CT := turn_0 (q : Int) (by omega) D
          rw [qh, ql] at CT
          exact Div_diff_0 _ _ _ _ _ _ _ _ _ _ hb2 hd1 hd2 C1 C2 C3 hHn hHlt hLlt hD2 hgn' _ _ d1 rfl hss q r hql hrl2 V E C4 _ _ r CT C6 w
        · have C5 := isUp_any mode (-((q : Int) + 1)) (by omega) (D - r) D (by omega) hD2
          rw [more_diff r D mode (-((q : Int) + 1)) h0 hrl hm (by omega)] at K
          have CT := turn_1 (q : Int) (by omega) r D h0 hrl hD2
          rw [qh, ql] at CT
          have hR0 : D - r ≠ 0 := by omega
          cases hu : isUpS mode (-((q : Int) + 1)) (D - r) D with
          | true =>
            rw [hu] at C5 K
            obtain ⟨e1, e2⟩ := K (-((q : Int) + 1) + 1) (by simp [signed]; omega)
            have C6 := narrow_any (-((q : Int) + 1) + 1) (by omega) V E e1 e2
            have C7 := next_any (-((q : Int) + 1)) (by omega)
            exact Div_diff_up _ _ _ _ _ _ _ _ _ _ hb2 hd1 hd2 C1 C2 C3 hHn hHlt hLlt hD2 hgn' _ _ d1 rfl hss q r hql hrl2 V E C4 _ _ (D - r) CT hR0 C5 _ _ C7 C6 w
          | false =>
            rw [hu] at C5 K
            obtain ⟨e1, e2⟩ := K (-((q : Int) + 1)) (by simp [signed])
            have C6 := narrow_any (-((q : Int) + 1)) (by omega) V E e1 e2
            exact Div_diff_no _ _ _ _ _ _ _ _ _ _ hb2 hd1 hd2 C1 C2 C3 hHn hHlt hLlt hD2 hgn' _ _ d1 rfl hss q r hql hrl2 V E C4 _ _ (D - r) CT hR0 C5 C6 w
end Go.Proofs.Ytggmjdaolekgmaa
