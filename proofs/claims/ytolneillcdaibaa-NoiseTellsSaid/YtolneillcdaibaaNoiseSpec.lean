/-
  How much a difference is to be believed: the power, the weight, its logarithm; plain.
-/
import Derived.Test.YtolneillcdaibaaPackExpoA
set_option linter.unusedVariables false
set_option linter.unusedSimpArgs false
namespace Go.Th.Noise
open Go.Th.Expo Go.Th.Root

/-- A noise is right. -/
def okN (s f g : Int) : Bool := decide ((1 ≤ s ∧ s ≤ 1048576) ∧ (1 ≤ f ∧ f ≤ 16384) ∧ 1 ≤ g ∧ g ≤ 16)
/-- .., and a difference no more than so many deviations. -/
def inN (s f g d k : Int) : Bool := okN s f g && decide (-(k * s) ≤ d ∧ d ≤ k * s)
/-- The power, to the nearer one. -/
def powQ (s d : Nat) : Nat := (2 * (d * d * 47274) + s * s) / (2 * (s * s))
def powS (s f g d : Int) : Nat := if inN s f g d 32 then min 2621440 (powQ s.natAbs d.natAbs) else 2621440
def wgt (f e : Nat) : Nat := (2 * (e * (65536 - f)) + 4294967296) / 8589934592 + f
def wgtS (s f g d : Int) : Nat := if okN s f g then wgt f.natAbs (expS (powS s f g d)) else 0
def logN (s f g d : Int) : Int := if okN s f g then (logS (wgtS s f g d) : Int) - 1048576 else -2621440
def widS (s r : Int) : Int := min (s + min (max r 0) 1048576) 1048576

theorem okN_iff {s f g : Int} : okN s f g = true ↔ (1 ≤ s ∧ s ≤ 1048576) ∧ (1 ≤ f ∧ f ≤ 16384) ∧ 1 ≤ g ∧ g ≤ 16 := by unfold okN; rw [decide_eq_true_eq]
theorem powS_le (s f g d : Int) : powS s f g d ≤ 2621440 := by
  unfold powS
  split <;> omega
theorem wgt_le {f e : Nat} (hf : f ≤ 16384) (he : e ≤ 4294967296) : f ≤ wgt f e ∧ wgt f e ≤ 65536 := by
  have h := Nat.mul_le_mul he (Nat.le_refl (65536 - f))
  unfold wgt
  omega
theorem wgtS_le {s f g d : Int} (h : okN s f g = true) : f ≤ (wgtS s f g d : Int) ∧ wgtS s f g d ≤ 65536 := by
  have h1 := okN_iff.1 h
  have h2 := wgt_le (f := f.natAbs) (e := expS (powS s f g d)) (by omega) (expS_le _)
  unfold wgtS
  rw [if_pos h]
  omega

/-- Divided by more it is no more. -/
theorem near_anti {a b c : Nat} (hb : 0 < b) (h : b ≤ c) : (2 * a + c) / (2 * c) ≤ (2 * a + b) / (2 * b) := by
  rw [Nat.le_div_iff_mul_le (by omega)]
  obtain ⟨q, hq⟩ : ∃ q, q = (2 * a + c) / (2 * c) := ⟨_, rfl⟩
  rw [← hq]
  have h1 : q * (2 * c) ≤ 2 * a + c := by rw [hq]; exact Nat.div_mul_le_self _ _
  match q with
  | 0 => omega
  | q + 1 =>
    have e1 : (q + 1) * (2 * c) = 2 * (q * c) + 2 * c := by rw [Nat.add_mul]; rw [Nat.mul_left_comm]; omega
    have e2 : (q + 1) * (2 * b) = 2 * (q * b) + 2 * b := by rw [Nat.add_mul]; rw [Nat.mul_left_comm]; omega
    have e3 : 2 * (q * b) + b ≤ 2 * (q * c) + c := by have := Nat.mul_le_mul_left q h; omega
    omega
theorem powQ_mono (s : Nat) {d e : Nat} (h : d ≤ e) : powQ s d ≤ powQ s e := by
  unfold powQ
  have := Nat.mul_le_mul h h
  exact Nat.div_le_div_right (by omega)
theorem powQ_anti {s t : Nat} (hs : 0 < s) (h : s ≤ t) (d : Nat) : powQ t d ≤ powQ s d := near_anti (Nat.mul_pos hs hs) (Nat.mul_le_mul h h)
theorem powQ_far {s d : Nat} (hs : 0 < s) (h : 32 * s ≤ d) : 2621440 ≤ powQ s d := by
  have h1 := Nat.mul_le_mul h h
  have e : 32 * s * (32 * s) = 1024 * (s * s) := by rw [Nat.mul_mul_mul_comm]
  have h2 : 0 < s * s := Nat.mul_pos hs hs
  unfold powQ
  rw [Nat.le_div_iff_mul_le (by omega)]
  omega
/-- Of a right noise the power is that, but no more than 40, wherever the difference is. -/
theorem powS_ok {s f g d : Int} (h : okN s f g = true) : powS s f g d = min 2621440 (powQ s.natAbs d.natAbs) := by
  have h1 := okN_iff.1 h
  unfold powS
  split
  · rfl
  · rename_i hn
    unfold inN at hn
    rw [h, Bool.true_and, decide_eq_true_eq] at hn
    have := powQ_far (s := s.natAbs) (d := d.natAbs) (by omega) (by omega)
    omega
theorem powS_wrong {s f g : Int} (d : Int) (h : okN s f g = false) : powS s f g d = 2621440 := by
  unfold powS inN
  rw [h, Bool.false_and, if_neg (by decide)]
theorem powQ_0 (s : Nat) (hs : 0 < s) : powQ s 0 = 0 := by
  have h2 : 0 < s * s := Nat.mul_pos hs hs
  unfold powQ
  refine Nat.div_eq_of_lt ?_
  omega
theorem wgtS_0 {s f g : Int} (h : okN s f g = true) : wgtS s f g 0 = 65536 := by
  have h1 := okN_iff.1 h
  unfold wgtS
  rw [if_pos h, powS_ok h, show (0 : Int).natAbs = 0 from rfl, powQ_0 _ (by omega), show min 2621440 0 = 0 from rfl, expS_0]
  unfold wgt
  omega
theorem wgtS_neg (s f g d : Int) : wgtS s f g (-d) = wgtS s f g d := by
  unfold wgtS
  split
  · rename_i h
    rw [powS_ok h, powS_ok h, Int.natAbs_neg]
  · rfl
theorem pow_mono {s f g d e : Int} (h : okN s f g = true) (h0 : 0 ≤ d) (hd : d ≤ e) : powS s f g d ≤ powS s f g e := by
  rw [powS_ok h, powS_ok h]
  have := powQ_mono s.natAbs (d := d.natAbs) (e := e.natAbs) (by omega)
  omega
theorem pow_wide {s t f g d : Int} (h : okN s f g = true) (h' : okN t f g = true) (hs : s ≤ t) : powS t f g d ≤ powS s f g d := by
  have h1 := okN_iff.1 h
  rw [powS_ok h, powS_ok h']
  have := powQ_anti (s := s.natAbs) (t := t.natAbs) (by omega) (by omega) d.natAbs
  omega
theorem logS_16 : logS 65536 = 1048576 := by
  have e : pl 65536 = 16 := pl_eq (by decide) (by decide)
  have m : mant 65536 = 4611686018427387904 := by unfold mant; rw [e]; decide
  unfold logS
  rw [e, m]
  decide
theorem logN_le {s f g d : Int} (h : okN s f g = true) : logN s f g d ≤ 0 := by
  have h1 := okN_iff.1 h
  have h2 := wgtS_le (d := d) h
  have h3 := logS_mono (x := wgtS s f g d) (y := 65536) (by omega) h2.2
  rw [logS_16] at h3
  unfold logN
  rw [if_pos h]
  omega
theorem logN_0 {s f g : Int} (h : okN s f g = true) : logN s f g 0 = 0 := by
  unfold logN
  rw [if_pos h, wgtS_0 h, logS_16]
  rfl
theorem widS_ok {s f g : Int} (r : Int) (h : okN s f g = true) : okN (widS s r) f g = true ∧ s ≤ widS s r := by
  have h1 := okN_iff.1 h
  rw [okN_iff]
  unfold widS
  omega

/-! ### the chapter's example -/
theorem ex_odd {k p h m h' m' : Nat} (hh : h' * h' ≤ h * 4611686018427387904) (hh2 : h * 4611686018427387904 < (h' + 1) * (h' + 1)) (hp : p / 2 ^ k % 2 = 1) (hm : m * h' / 4611686018427387904 = m') : ex (k + 1) p h m = ex k p h' m' := by
  have e : rt 2 (h * 4611686018427387904) = h' := rt_eq (by decide) (by rw [Nat.pow_two]; exact hh) (by rw [Nat.pow_two]; exact hh2)
  rw [ex_step, e, if_pos hp, hm]
theorem ex_even {k p h m h' : Nat} (hh : h' * h' ≤ h * 4611686018427387904) (hh2 : h * 4611686018427387904 < (h' + 1) * (h' + 1)) (hp : p / 2 ^ k % 2 = 0) : ex (k + 1) p h m = ex k p h' m := by
  have e : rt 2 (h * 4611686018427387904) = h' := rt_eq (by decide) (by rw [Nat.pow_two]; exact hh) (by rw [Nat.pow_two]; exact hh2)
  rw [ex_step, e, if_neg (by omega)]
theorem exM_47274 : exM 47274 = 2797135800028334957 := by
  unfold exM
  rw [ex_odd (h' := 3260954456333195553) (m' := 3260954456333195553) (by decide) (by decide) (by decide) (by decide)]
  rw [ex_even (h' := 3877950241171266237) (by decide) (by decide) (by decide)]
  rw [ex_odd (h' := 4228934724888366667) (m' := 2990308421163830841) (by decide) (by decide) (by decide) (by decide)]
  rw [ex_odd (h' := 4416165660797809418) (m' := 2863529154407056489) (by decide) (by decide) (by decide) (by decide)]
  rw [ex_odd (h' := 4512867096753504462) (m' := 2802169629476361547) (by decide) (by decide) (by decide) (by decide)]
  rw [ex_even (h' := 4562008997483360348) (by decide) (by decide) (by decide)]
  rw [ex_even (h' := 4586780255215411730) (by decide) (by decide) (by decide)]
  rw [ex_even (h' := 4599216278082138664) (by decide) (by decide) (by decide)]
  rw [ex_odd (h' := 4605446927862164403) (m' := 2798378610307328091) (by decide) (by decide) (by decide) (by decide)]
  rw [ex_even (h' := 4608565417332308034) (by decide) (by decide) (by decide)]
  rw [ex_odd (h' := 4610125453837388244) (m' := 2797431657164549462) (by decide) (by decide) (by decide) (by decide)]
  rw [ex_even (h' := 4610905670110601998) (by decide) (by decide) (by decide)]
  rw [ex_odd (h' := 4611295827762151832) (m' := 2797194968952277434) (by decide) (by decide) (by decide) (by decide)]
  rw [ex_even (h' := 4611490918967884500) (by decide) (by decide) (by decide)]
  rw [ex_odd (h' := 4611588467665893035) (m' := 2797135800028334957) (by decide) (by decide) (by decide) (by decide)]
  rw [ex_low _ _ _ _ (by decide)]
theorem expS_47274 : expS 47274 = 2605035714 := by
  unfold expS
  rw [if_neg (by decide), show 47274 % 65536 = 47274 from rfl, exM_47274]
theorem ok_160 : okN 160 655 4 = true := by decide
theorem pow_160 : powS 160 655 4 160 = 47274 := by decide
theorem wgt_160 : wgtS 160 655 4 160 = 40007 := by
  unfold wgtS
  rw [if_pos ok_160, pow_160, expS_47274]
  decide
theorem log_160 : logN 160 655 4 160 < 0 := by
  have e : pl 40007 = 15 := pl_eq (by decide) (by decide)
  have := logS_whole 40007
  unfold logN
  rw [if_pos ok_160, wgt_160]
  omega
theorem wgt_far : wgtS 160 655 4 1099511627776 = 655 := by
  unfold wgtS
  rw [if_pos ok_160, show powS 160 655 4 1099511627776 = 2621440 from by decide, show expS 2621440 = 0 from by unfold expS; rw [if_neg (by decide), show 2621440 % 65536 = 0 from rfl, exM_0]]
  decide
end Go.Th.Noise
