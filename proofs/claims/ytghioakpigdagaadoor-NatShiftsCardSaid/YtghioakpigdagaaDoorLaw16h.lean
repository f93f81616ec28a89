/-
  NatShifts, for every input.
-/
import Derived.Test.YtghioakpigdagaaDoorLaw16e
set_option linter.unusedVariables false
set_option linter.unusedSimpArgs false
namespace Go.Proofs.YtghioakpigdagaaDoor
open Go Go.RowKit Go.Th Go.Th.Dig
theorem pw32 (k : Nat) : (4294967296 : Nat) ^ k = 2 ^ (32 * k) := by rw [show (4294967296 : Nat) = 2 ^ 32 by decide, ← Nat.pow_mul]
theorem pw32_lt {s k : Nat} (h : s < 32 * k) : (2 : Nat) ^ s < 4294967296 ^ k := by rw [pw32]; exact Nat.pow_lt_pow_right (by decide) h
theorem shifts_any (wk : Works) (a : Option Addr) (n ca : Nat) (s : Nat) (hs : s < 256) (zs : List Int) (w : World) (sa : Sl w 1 (.slice a n ca) n (zs.map (.int .u32))) (ha : ∀ z ∈ zs, 0 ≤ z ∧ z < 4294967296) :
    AnsV 6 #[.slice a n ca, .int .u8 s] w (.bool true) := by
  by_cases hn : n ≤ 20
  · obtain ⟨p, IA⟩ := in16 sa ha hn
    have l1 := IA.lt
    have e640 := pw32 20
    have l2 : (2 : Nat) ^ s < 4294967296 ^ 9 := pw32_lt (by omega)
    have st : Sm (2 ^ s) := sm_of l2 (by decide)
    have sr : Sm (p / 2 ^ s) := sm_le l1 (by decide) (Nat.div_le_self _ _)
    have sk : Sm (p * 2 ^ s) := sm_of (k := 29) (sm_mul l1 l2 (by decide)) (by decide)
    have hb0 : nb p ≤ 32 * 20 := nb_le (e640 ▸ l1)
    have hb : nb p ≤ 640 := by omega
    have spb : Sm (2 ^ nb p) := sm_of (k := 21) (pw32_lt (by omega)) (by decide)
    by_cases h0 : nb p = 0
    · have hp : p = 0 := by
        have := nb_lt p
        rw [h0] at this
        omega
      exact shifts_go a n ca p s (2 ^ s) (p / 2 ^ s) (p % 2 ^ s) (p * 2 ^ s) (2 ^ nb p) (nb p) 0 1 wk w IA hn hs st sr sk spb rfl rfl rfl rfl rfl (decide_eq_true (nb_lt p)) (Lib.hid rfl) (Lib.hid rfl) (Lib.hid rfl) (sm_of (k := 1) (by decide) (by decide)) rfl hb (Or.inl h0)
    · have hp : p ≠ 0 := by
        intro h
        subst h
        exact h0 (by unfold nb; simp)
      have hg := nb_ge hp
      have spe : Sm (2 ^ (nb p - 1)) := sm_of (k := 21) (pw32_lt (by omega)) (by decide)
      exact shifts_go a n ca p s (2 ^ s) (p / 2 ^ s) (p % 2 ^ s) (p * 2 ^ s) (2 ^ nb p) (nb p) (nb p - 1) (2 ^ (nb p - 1)) wk w IA hn hs st sr sk spb rfl rfl rfl rfl rfl (decide_eq_true (nb_lt p)) (Lib.hid rfl) (Lib.hid rfl) (Lib.hid rfl) spe rfl hb (Or.inr ⟨by omega, decide_eq_false (by omega)⟩)
  · exact shifts_heavy a n ca s wk w hn
end Go.Proofs.YtghioakpigdagaaDoor
