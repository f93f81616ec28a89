/-
  The reference's quotients; whether a place lies on the map; the four around it.
-/
import Derived.Test.YtlkjcamjgaecgaaGreatTerrA
import Derived.Test.YtlkjcamjgaecgaaGreatPackCacheB
set_option linter.unusedVariables false
set_option linter.unusedSimpArgs false
namespace Go.Proofs.YtlkjcamjgaecgaaGreat
open Go Go.RowKit Go.Th Go.Th.Crc

theorem hgt_eq (z : Int) : hgt z = .tuple #[.int .i16 (czT z), .int .i64 (ccT z)] := by
  unfold hgt czT ccT
  split <;> rfl

set_option maxRecDepth 20000 in
theorem down_go (a b q r : Int) (hq : wrap64 (a.tdiv b) = q) (hr : a.tmod b = r) (hq1 : -9000000000000000000 ≤ q ∧ q ≤ 9000000000000000000) (hb : ¬ b = 0) : Ans 41 #[.int .i64 a, .int .i64 b] (.int .i64 (if r < 0 then q - 1 else q)) := by
  intro w
  by_cases h : r < 0
  · have e : (if r < 0 then q - 1 else q) = q - 1 := if_pos h
    rw [e]
    have h2 : a.tmod b < 0 := by omega
    clear e
    go_enter Tryz.func41, Tryz.ntmps41
    go_wp2_with fail
    go_ret
    exact ⟨rfl, Below.refl _ _⟩
  · have e : (if r < 0 then q - 1 else q) = q := if_neg h
    rw [e]
    have h2 : ¬ a.tmod b < 0 := by omega
    clear e
    go_enter Tryz.func41, Tryz.ntmps41
    go_wp2_with fail
    go_ret
    exact ⟨rfl, Below.refl _ _⟩
theorem down_any (a b : Int) (hb : 0 < b) (ha : -4000000000000000000 ≤ a ∧ a ≤ 4000000000000000000) : Ans 41 #[.int .i64 a, .int .i64 b] (.int .i64 (a / b)) := by
  have hq : -4000000000000000000 ≤ a.tdiv b ∧ a.tdiv b ≤ 4000000000000000000 := by
    have h := Int.natAbs_tdiv_le_natAbs a b
    omega
  have h := down_go a b (a.tdiv b) (a.tmod b) (IntWalk.wrap64_in _ (by omega)) rfl (by omega) (by omega)
  rw [tdiv_floor a b hb] at h
  exact h
theorem rnear_go (a b u v c : Int) (hu : wrap64 (wrap64 (2 * a) + b) = u) (hv : wrap64 (2 * b) = v) (C1 : Ans 41 #[.int .i64 u, .int .i64 v] (.int .i64 c)) : Ans 32 #[.int .i64 a, .int .i64 b] (.int .i64 c) := by
  intro w
  go_enter Tryz.func32, Tryz.ntmps32
  go_wp2_with fail
  refine (C1 _).mono ?_
  rintro e w2 ⟨rfl, hB⟩
  go_wp2_with fail
  go_ret
  exact ⟨rfl, hB⟩
theorem rnear_any (a b : Int) (hb : 0 < b) (hb2 : b ≤ 1000000) (ha : -1000000000000000000 ≤ a ∧ a ≤ 1000000000000000000) : Ans 32 #[.int .i64 a, .int .i64 b] (.int .i64 (nearQ a b)) :=
  rnear_go a b (2 * a + b) (2 * b) _ (by rw [IntWalk.wrap64_in (2 * a) (by omega)]; exact IntWalk.wrap64_in _ (by omega)) (IntWalk.wrap64_in _ (by omega)) (down_any _ _ (by omega) (by omega))

set_option maxRecDepth 20000 in
theorem rinside_any (W H : Nat) (x y : Int) (a : Option Addr) (n cap : Nat) (hW : 1 ≤ W ∧ W ≤ 1000) (hH : 1 ≤ H ∧ H ≤ 1000) : Ans 14 #[hv W H (.slice a n cap), .int .i64 x, .int .i64 y] (.bool (decide (inS W H x y))) := by
  intro w
  have e1 : wrap64 ((W : Int) - 1) = (W : Int) - 1 := IntWalk.wrap64_in _ (by omega)
  have e2 : wrap64 ((H : Int) - 1) = (H : Int) - 1 := IntWalk.wrap64_in _ (by omega)
  have hB : Below w.heap.size w (w.alloc (.cells #[.int .i64 W, .int .i64 H, .slice a n cap] 26)) := (Below.refl _ _).alloc (Nat.le_refl _) _
  by_cases h1 : 0 ≤ x
  · by_cases h2 : 0 ≤ y
    · by_cases h3 : x ≤ 256 * ((W : Int) - 1)
      · by_cases h4 : y ≤ 256 * ((H : Int) - 1)
        · rw [decide_eq_true (show inS W H x y from ⟨h1, h2, h3, h4⟩)]
          go_enter Tryz.func14, Tryz.ntmps14
          go_wp2_with fail
          go_ret
          exact ⟨by simp, hB⟩
        · rw [decide_eq_false (show ¬ inS W H x y from fun k => h4 k.2.2.2)]
          go_enter Tryz.func14, Tryz.ntmps14
          go_wp2_with fail
          go_ret
          exact ⟨by simp, hB⟩
      · rw [decide_eq_false (show ¬ inS W H x y from fun k => h3 k.2.2.1)]
        go_enter Tryz.func14, Tryz.ntmps14
        go_wp2_with fail
        go_ret
        exact ⟨by simp, hB⟩
    · rw [decide_eq_false (show ¬ inS W H x y from fun k => h2 k.2.1)]
      go_enter Tryz.func14, Tryz.ntmps14
      go_wp2_with fail
      go_ret
      exact ⟨by simp, hB⟩
  · rw [decide_eq_false (show ¬ inS W H x y from fun k => h1 k.1)]
    go_enter Tryz.func14, Tryz.ntmps14
    go_wp2_with fail
    go_ret
    exact ⟨by simp, hB⟩
end Go.Proofs.YtlkjcamjgaecgaaGreat
