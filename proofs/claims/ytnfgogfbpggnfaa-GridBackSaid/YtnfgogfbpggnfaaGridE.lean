/-
  A place of which parts went to either side, and came from there: the code's.
-/
import Derived.Test.YtnfgogfbpggnfaaGridC
set_option linter.unusedVariables false
set_option linter.unusedSimpArgs false
namespace Go.Proofs.Ytnfgogfbpggnfaa
open Go Go.RowKit Go.Th Go.Th.Grid Go.Th.Wide

set_option maxRecDepth 20000 in
set_option maxHeartbeats 1600000 in
theorem mixed_go (a : Option Addr) (nn cap : Nat) (l : List Int) (hl : l.length = nn) (hnn : nn ≤ 1000000) (i n b A B k1 k2 k3 : Nat) (q u1 u2 u3 p1 p2 p3 : Int) (hi : i < n) (hn : n ≤ 64) (hq : 0 ≤ q ∧ q ≤ 85) (hA : A = i - 1) (hB : B = min (i + 1) (n - 1))
    (e1 : (A : Int) * (b : Int) = (k1 : Int)) (e2 : (i : Int) * (b : Int) = (k2 : Int)) (e3 : (B : Int) * (b : Int) = (k3 : Int)) (h1 : k1 < nn) (h2 : k2 < nn) (h3 : k3 < nn) (hu1 : l.getD k1 0 = u1) (hu2 : l.getD k2 0 = u2) (hu3 : l.getD k3 0 = u3)
    (r1 : q * u1 = p1) (r2 : (256 - 2 * q) * u2 = p2) (r3 : q * u3 = p3) (b1 : 0 ≤ p1 ∧ p1 ≤ 1000000000000) (b2 : 0 ≤ p2 ∧ p2 ≤ 1000000000000) (b3 : 0 ≤ p3 ∧ p3 ≤ 1000000000000) (w : World) (hS : Sl w 1 (.slice a nn cap) nn (i64s l)) :
    Calls Try.prog 46 #[.slice a nn cap, .int .i64 i, .int .i64 n, .int .i64 b, .int .i64 q] w fun e w' => e = .returned (.int .i64 ((p1 + p2 + p3) / 256)) ∧ Below w.heap.size w w' := by
  obtain ⟨bb, o, rfl, _, c1⟩ := cell64 hS k1 (by omega)
  obtain ⟨_, _, e', _, c2⟩ := cell64 hS k2 (by omega)
  cases e'
  obtain ⟨_, _, e', _, c3⟩ := cell64 hS k3 (by omega)
  cases e'
  rw [hu1] at c1
  rw [hu2] at c2
  rw [hu3] at c3
  have hmx1 : ∀ (ts : Array TypeId) (t : TypeId) (wx : World), (Builtin.max_ ts t #[.int .i64 ((i : Int) - 1), .int .i64 0]).run Try.prog wx = .ok (.int .i64 (A : Int)) wx := by
    intro ts t wx
    subst hA
    rcases Nat.eq_zero_or_pos i with h0 | h0
    · subst h0; rfl
    · have : ¬ ((i : Int) - 1 < 0) := by omega
      have e : ((i - 1 : Nat) : Int) = (i : Int) - 1 := by omega
      rw [e]
      simp [Builtin.max_, Builtin.max2, this]
  have hmx2 : ∀ (ts : Array TypeId) (t : TypeId) (wx : World), (Builtin.min_ ts t #[.int .i64 ((i : Int) + 1), .int .i64 ((n : Int) - 1)]).run Try.prog wx = .ok (.int .i64 (B : Int)) wx := by
    intro ts t wx
    subst hB
    by_cases h0 : i + 1 < n
    · have : ¬ ((n : Int) - 1 < (i : Int) + 1) := by omega
      have e : ((min (i + 1) (n - 1) : Nat) : Int) = (i : Int) + 1 := by omega
      rw [e]
      simp [Builtin.min_, Builtin.min2, this]
    · have : (n : Int) - 1 < (i : Int) + 1 := by omega
      have e : ((min (i + 1) (n - 1) : Nat) : Int) = (n : Int) - 1 := by omega
      rw [e]
      simp [Builtin.min_, Builtin.min2, this]
  have w1 : IntKind.i64.wrap (q * u1) = p1 := by rw [r1]; exact IntWalk.i64_in _ (by omega)
  have w2 : IntKind.i64.wrap ((256 - 2 * q) * u2) = p2 := by rw [r2]; exact IntWalk.i64_in _ (by omega)
  have w3 : IntKind.i64.wrap (q * u3) = p3 := by rw [r3]; exact IntWalk.i64_in _ (by omega)
  have hq1 := hq.1
  have hq2 := hq.2
  have hmx := hS.max
  clear hA hB hu1 hu2 hu3 hS hl
  go_enter Try.func46, Try.ntmps46
  go_wp2_with fail
  go_quiet (fail)
  go_wp2_with fail
  go_ret
  exact ⟨rfl, below_dN (Below.refl _ _) _⟩

theorem mixed_any (a : Option Addr) (nn cap : Nat) (l : List Int) (hl : l.length = nn) (hnn : nn ≤ 1000000) (i n b : Nat) (q : Int) (hi : i < n) (hn : n ≤ 64) (hq : 0 ≤ q ∧ q ≤ 85) (hf : ∀ j, j < n → j * b < nn) (hr : ∀ u ∈ l, 0 ≤ u ∧ u ≤ 1073741824) (w : World) (hS : Sl w 1 (.slice a nn cap) nn (i64s l)) :
    Calls Try.prog 46 #[.slice a nn cap, .int .i64 i, .int .i64 n, .int .i64 b, .int .i64 q] w fun e w' => e = .returned (.int .i64 (mix q (l.getD ((i - 1) * b) 0) (l.getD (i * b) 0) (l.getD (min (i + 1) (n - 1) * b) 0))) ∧ Below w.heap.size w w' := by
  have f1 := hf (i - 1) (by omega)
  have f2 := hf i hi
  have f3 := hf (min (i + 1) (n - 1)) (by omega)
  have m := mix_sum hq (getD_mem (P := fun u => 0 ≤ u ∧ u ≤ 1073741824) hr (by rw [hl]; exact f1 : (i - 1) * b < l.length)) (getD_mem (P := fun u => 0 ≤ u ∧ u ≤ 1073741824) hr (by rw [hl]; exact f2 : i * b < l.length)) (getD_mem (P := fun u => 0 ≤ u ∧ u ≤ 1073741824) hr (by rw [hl]; exact f3 : min (i + 1) (n - 1) * b < l.length))
  exact mixed_go a nn cap l hl hnn i n b _ _ _ _ _ q _ _ _ _ _ _ hi hn hq rfl rfl (by simp) (by simp) (by simp) f1 f2 f3 rfl rfl rfl rfl rfl rfl (by omega) (by omega) (by omega) w hS
end Go.Proofs.Ytnfgogfbpggnfaa
