/-
  A noise: whether it is right; whether a difference lies within so many deviations: the code's.
-/
import Derived.Test.YtolneillcdaibaaNoiseSpec
import Derived.Test.YtolneillcdaibaaPackBits
import Derived.Deep.Cut
import Derived.BigQuiet
set_option linter.unusedVariables false
set_option linter.unusedSimpArgs false
namespace Go.Proofs.Ytolneillcdaibaa
open Go Go.RowKit Go.Th Go.Th.Noise

/-- A noise as a value. -/
abbrev nv (s f g : Int) : Value := .agg #[.int .i64 s, .int .i64 f, .int .i64 g]
abbrev nc (s f g : Int) : List Value := [.int .i64 s, .int .i64 f, .int .i64 g]

set_option maxRecDepth 20000 in
theorem isUpTo_any (x m : Int) : Ans 19 #[.int .i64 x, .int .i64 m] (.bool (decide (1 ≤ x ∧ x ≤ m))) := by
  intro w
  by_cases h1 : 1 ≤ x
  · by_cases h2 : x ≤ m
    · rw [decide_eq_true (show 1 ≤ x ∧ x ≤ m from ⟨h1, h2⟩)]
      go_enter Try.func19, Try.ntmps19
      go_wp2_with fail
      go_ret
      exact ⟨rfl, Below.refl _ _⟩
    · rw [decide_eq_false (show ¬ (1 ≤ x ∧ x ≤ m) from fun h => h2 h.2)]
      go_enter Try.func19, Try.ntmps19
      go_wp2_with fail
      go_ret
      exact ⟨rfl, Below.refl _ _⟩
  · rw [decide_eq_false (show ¬ (1 ≤ x ∧ x ≤ m) from fun h => h1 h.1)]
    go_enter Try.func19, Try.ntmps19
    go_wp2_with fail
    go_ret
    exact ⟨rfl, Below.refl _ _⟩

set_option maxRecDepth 20000 in
set_option maxHeartbeats 1600000 in
theorem ncheck_go (s f g : Int) (b1 b2 b3 : Bool) (C1 : Ans 19 #[.int .i64 s, .int .i64 1048576] (.bool b1)) (C2 : Ans 19 #[.int .i64 f, .int .i64 16384] (.bool b2)) (C3 : Ans 19 #[.int .i64 g, .int .i64 16] (.bool b3)) :
    Ans 6 #[nv s f g] (.int .i64 (if (b1 && (b2 && b3)) = true then 0 else 2)) := by
  intro w
  obtain ⟨w1, hw1⟩ : ∃ w1, (w.alloc (.cells #[.int .i64 s, .int .i64 f, .int .i64 g] 23)) = w1 := ⟨_, rfl⟩
  have hB1 : Below w.heap.size w w1 := by rw [← hw1]; exact (Below.refl _ _).alloc (Nat.le_refl _) _
  have K1 : Blk w1 w.heap.size 23 (nc s f g) := by rw [← hw1]; exact Blk.new w _ _
  have c0 := K1.cell (i := 0) rfl
  have HW1 := Lib.hid hw1
  clear hw1
  go_enter Try.func6, Try.ntmps6
  go_upto_region 1 with fail
  rw [HW1.out]
  go_wp2_with fail
  refine (C1 w1).mono ?_
  rintro e w2 ⟨rfl, hA⟩
  have K2 := K1.below hA K1.lt
  have hB2 := hB1.trans (hA.mono hB1.size)
  have c1 := K2.cell (i := 1) rfl
  clear C1 hA K1 HW1 hB1 c0
  cases b1
  · go_wp2_with fail
    go_ret
    exact ⟨rfl, hB2⟩
  · go_wp2_with fail
    refine (C2 w2).mono ?_
    rintro e w3 ⟨rfl, hA⟩
    have K3 := K2.below hA K2.lt
    have hB3 := hB2.trans (hA.mono hB2.size)
    have c2 := K3.cell (i := 2) rfl
    clear C2 hA K2 hB2 c1
    cases b2
    · go_wp2_with fail
      go_ret
      exact ⟨rfl, hB3⟩
    · go_wp2_with fail
      refine (C3 w3).mono ?_
      rintro e w4 ⟨rfl, hA⟩
      have hB4 := hB3.trans (hA.mono hB3.size)
      cases b3
      · go_wp2_with fail
        go_ret
        exact ⟨rfl, hB4⟩
      · go_wp2_with fail
        go_ret
        exact ⟨rfl, hB4⟩
/-- The code of a noise: right or not. -/
def ncode (s f g : Int) : Int := if okN s f g = true then 0 else 2
theorem ncheck_any (s f g : Int) : Ans 6 #[nv s f g] (.int .i64 (ncode s f g)) := by
  have h := ncheck_go s f g _ _ _ (isUpTo_any s 1048576) (isUpTo_any f 16384) (isUpTo_any g 16)
  unfold ncode okN
  rw [← Bool.decide_and, ← Bool.decide_and] at h
  exact h

set_option maxRecDepth 20000 in
set_option maxHeartbeats 1600000 in
theorem within_no (s f g d k : Int) (C1 : Ans 6 #[nv s f g] (.int .i64 2)) : Ans 21 #[nv s f g, .int .i64 d, .int .i64 k] (.bool false) := by
  intro w
  obtain ⟨w1, hw1⟩ : ∃ w1, (w.alloc (.cells #[.int .i64 s, .int .i64 f, .int .i64 g] 23)) = w1 := ⟨_, rfl⟩
  have hB1 : Below w.heap.size w w1 := by rw [← hw1]; exact (Below.refl _ _).alloc (Nat.le_refl _) _
  have K1 : Blk w1 w.heap.size 23 (nc s f g) := by rw [← hw1]; exact Blk.new w _ _
  have c0 := K1.cell (i := 0) rfl
  have c1 := K1.cell (i := 1) rfl
  have c2 := K1.cell (i := 2) rfl
  have HW1 := Lib.hid hw1
  clear hw1
  go_enter Try.func21, Try.ntmps21
  go_upto_region 1 with fail
  rw [HW1.out]
  go_wp2_with fail
  refine (C1 w1).mono ?_
  rintro e w2 ⟨rfl, hA⟩
  have hB2 := hB1.trans (hA.mono hB1.size)
  clear C1 hA K1 HW1 hB1 c0 c1 c2
  go_wp2_with fail
  go_ret
  exact ⟨rfl, hB2⟩
set_option maxRecDepth 20000 in
set_option maxHeartbeats 1600000 in
theorem within_yes (s f g d k m l : Int) (b1 b2 : Bool) (e1 : wrap64 (wrap64 (-k) * s) = l) (e2 : wrap64 (k * s) = m) (hb1 : decide (l ≤ d) = b1) (hb2 : decide (d ≤ m) = b2) (C1 : Ans 6 #[nv s f g] (.int .i64 0)) : Ans 21 #[nv s f g, .int .i64 d, .int .i64 k] (.bool (b1 && b2)) := by
  intro w
  obtain ⟨w1, hw1⟩ : ∃ w1, (w.alloc (.cells #[.int .i64 s, .int .i64 f, .int .i64 g] 23)) = w1 := ⟨_, rfl⟩
  have hB1 : Below w.heap.size w w1 := by rw [← hw1]; exact (Below.refl _ _).alloc (Nat.le_refl _) _
  have K1 : Blk w1 w.heap.size 23 (nc s f g) := by rw [← hw1]; exact Blk.new w _ _
  have c0 := K1.cell (i := 0) rfl
  have c1 := K1.cell (i := 1) rfl
  have c2 := K1.cell (i := 2) rfl
  have HW1 := Lib.hid hw1
  clear hw1
  go_enter Try.func21, Try.ntmps21
  go_upto_region 1 with fail
  rw [HW1.out]
  go_wp2_with fail
  refine (C1 w1).mono ?_
  rintro e w2 ⟨rfl, hA⟩
  have c0 := (K1.below hA K1.lt).cell (i := 0) rfl
  have hB2 := hB1.trans (hA.mono hB1.size)
  clear C1 hA K1 HW1 hB1 c1 c2
  cases b1
  · have h1 := of_decide_eq_false hb1
    go_wp2_with fail
    go_ret
    exact ⟨rfl, hB2⟩
  · have h1 := of_decide_eq_true hb1
    cases b2
    · have h2 := of_decide_eq_false hb2
      go_wp2_with fail
      go_ret
      exact ⟨rfl, hB2⟩
    · have h2 := of_decide_eq_true hb2
      go_wp2_with fail
      go_ret
      exact ⟨rfl, hB2⟩
theorem mul_small {s k : Int} (hs : 1 ≤ s ∧ s ≤ 1048576) (hk : 0 ≤ k ∧ k ≤ 32) : 0 ≤ k * s ∧ k * s ≤ 33554432 := by
  constructor
  · exact Int.mul_nonneg hk.1 (by omega)
  · have := Int.mul_le_mul hk.2 hs.2 (by omega) (by omega)
    omega
theorem isWithin_any (s f g d k : Int) (hk : okN s f g = true → 0 ≤ k ∧ k ≤ 32) : Ans 21 #[nv s f g, .int .i64 d, .int .i64 k] (.bool (inN s f g d k)) := by
  have C := ncheck_any s f g
  unfold ncode at C
  unfold inN
  cases h : okN s f g
  · rw [h, if_neg (by decide)] at C
    exact within_no s f g d k C
  · rw [h, if_pos rfl] at C
    have hk := hk h
    have h1 := okN_iff.1 h
    have hm := mul_small h1.1 hk
    have := within_yes s f g d k (k * s) (-(k * s)) _ _ (by rw [IntWalk.wrap64_in (-k) (by omega), Int.neg_mul, IntWalk.wrap64_in _ (by omega)]) (IntWalk.wrap64_in _ (by omega)) rfl rfl C
    rw [Bool.true_and, Bool.decide_and]
    exact this

set_option maxRecDepth 20000 in
theorem far_go (s f g d : Int) (b : Bool) (C1 : Ans 21 #[nv s f g, .int .i64 d, .int .i64 g] (.bool b)) : Ans 12 #[nv s f g, .int .i64 d] (.bool (!b)) := by
  intro w
  obtain ⟨w1, hw1⟩ : ∃ w1, (w.alloc (.cells #[.int .i64 s, .int .i64 f, .int .i64 g] 23)) = w1 := ⟨_, rfl⟩
  have hB1 : Below w.heap.size w w1 := by rw [← hw1]; exact (Below.refl _ _).alloc (Nat.le_refl _) _
  have K1 : Blk w1 w.heap.size 23 (nc s f g) := by rw [← hw1]; exact Blk.new w _ _
  have c0 := K1.cell (i := 0) rfl
  have c1 := K1.cell (i := 1) rfl
  have c2 := K1.cell (i := 2) rfl
  have HW1 := Lib.hid hw1
  clear hw1
  go_enter Try.func12, Try.ntmps12
  go_upto_region 1 with fail
  rw [HW1.out]
  go_wp2_with fail
  refine (C1 w1).mono ?_
  rintro e w2 ⟨rfl, hA⟩
  have hB2 := hB1.trans (hA.mono hB1.size)
  clear C1 hA K1 HW1 hB1 c0 c1 c2
  go_wp2_with fail
  go_ret
  exact ⟨rfl, hB2⟩
theorem far_any (s f g d : Int) : Ans 12 #[nv s f g, .int .i64 d] (.bool (!inN s f g d g)) :=
  far_go s f g d _ (isWithin_any s f g d g (fun h => by have := okN_iff.1 h; omega))
end Go.Proofs.Ytolneillcdaibaa
