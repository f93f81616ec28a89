/-
  A noise, and how much a difference is to be believed: the reference's.
-/
import Derived.Test.YtolneillcdaibaaNoiseA
import Derived.Test.YtolneillcdaibaaPackExpoB
import Derived.Deep.Cut
set_option linter.unusedVariables false
set_option linter.unusedSimpArgs false
namespace Go.Proofs.Ytolneillcdaibaa
open Go Go.RowKit Go.Th Go.Th.Noise Go.Th.Expo

theorem ncode_tests (s f g : Int) : ncode s f g = if s < 1 then 2 else if 1048576 < s then 2 else if f < 1 then 2 else if 16384 < f then 2 else if g < 1 then 2 else if 16 < g then 2 else 0 := by
  unfold ncode
  by_cases h : okN s f g = true
  · have := okN_iff.1 h
    rw [if_pos h]
    repeat' split
    all_goals omega
  · have : ¬ ((1 ≤ s ∧ s ≤ 1048576) ∧ (1 ≤ f ∧ f ≤ 16384) ∧ 1 ≤ g ∧ g ≤ 16) := fun h' => h (okN_iff.2 h')
    rw [if_neg h]
    repeat' split
    all_goals omega
set_option maxRecDepth 20000 in
set_option maxHeartbeats 1600000 in
theorem ref13Check_any (s f g : Int) : Ans 7 #[nv s f g] (.int .i64 (ncode s f g)) := by
  intro w
  rw [ncode_tests]
  repeat' split
  all_goals
    go_enter Try.func7, Try.ntmps7
    go_wp2_with fail
    go_ret
    exact ⟨rfl, (Below.refl _ _).alloc (Nat.le_refl _) _⟩

/-- The reference's test of how far a difference is. -/
def ntest (s d k : Int) : Bool := decide (k * s < d) || decide (d < -(k * s))
theorem inN_test {s f g d k : Int} (h : okN s f g = true) : inN s f g d k = !ntest s d k := by
  unfold inN ntest
  rw [h, Bool.true_and, Bool.eq_iff_iff]
  simp only [Bool.not_eq_true', Bool.or_eq_false_iff, decide_eq_true_eq, decide_eq_false_iff_not]
  omega

set_option maxRecDepth 20000 in
set_option maxHeartbeats 1600000 in
theorem ref13Far_no (s f g d : Int) (C1 : Ans 7 #[nv s f g] (.int .i64 2)) : Ans 13 #[nv s f g, .int .i64 d] (.bool true) := by
  intro w
  obtain ⟨w1, hw1⟩ : ∃ w1, (w.alloc (.cells #[.int .i64 s, .int .i64 f, .int .i64 g] 23)) = w1 := ⟨_, rfl⟩
  have hB1 : Below w.heap.size w w1 := by rw [← hw1]; exact (Below.refl _ _).alloc (Nat.le_refl _) _
  have K1 : Blk w1 w.heap.size 23 (nc s f g) := by rw [← hw1]; exact Blk.new w _ _
  have c0 := K1.cell (i := 0) rfl
  have c1 := K1.cell (i := 1) rfl
  have c2 := K1.cell (i := 2) rfl
  have HW1 := Lib.hid hw1
  clear hw1
  go_enter Try.func13, Try.ntmps13
  go_upto_region 1 with fail
  rw [HW1.out]
  go_wp2_with fail
  refine (C1 w1).mono ?_
  rintro e w2 ⟨rfl, hA⟩
  have hB2 := hB1.trans (hA.mono hB1.size)
  clear C1 hA K1 HW1 hB1 c0 c1 c2
  go_wp2_with fail
  go_ret
  exact ⟨rfl, hB2⟩
set_option maxRecDepth 20000 in
set_option maxHeartbeats 1600000 in
theorem ref13Far_yes (s f g d m l : Int) (b1 b2 : Bool) (e2 : wrap64 (wrap64 (-g) * s) = l) (e1 : wrap64 (g * s) = m) (hb1 : decide (m < d) = b1) (hb2 : decide (d < l) = b2) (C1 : Ans 7 #[nv s f g] (.int .i64 0)) : Ans 13 #[nv s f g, .int .i64 d] (.bool (b1 || b2)) := by
  intro w
  obtain ⟨w1, hw1⟩ : ∃ w1, (w.alloc (.cells #[.int .i64 s, .int .i64 f, .int .i64 g] 23)) = w1 := ⟨_, rfl⟩
  have hB1 : Below w.heap.size w w1 := by rw [← hw1]; exact (Below.refl _ _).alloc (Nat.le_refl _) _
  have K1 : Blk w1 w.heap.size 23 (nc s f g) := by rw [← hw1]; exact Blk.new w _ _
  have c0 := K1.cell (i := 0) rfl
  have c1 := K1.cell (i := 1) rfl
  have c2 := K1.cell (i := 2) rfl
  have HW1 := Lib.hid hw1
  clear hw1
  go_enter Try.func13, Try.ntmps13
  go_upto_region 1 with fail
  rw [HW1.out]
  go_wp2_with fail
  refine (C1 w1).mono ?_
  rintro e w2 ⟨rfl, hA⟩
  have c0 := (K1.below hA K1.lt).cell (i := 0) rfl
  have c2 := (K1.below hA K1.lt).cell (i := 2) rfl
  have hB2 := hB1.trans (hA.mono hB1.size)
  clear C1 hA K1 HW1 hB1 c1
  cases b1
  · have h1 := of_decide_eq_false hb1
    cases b2
    · have h2 := of_decide_eq_false hb2
      go_wp2_with fail
      go_ret
      exact ⟨rfl, hB2⟩
    · have h2 := of_decide_eq_true hb2
      go_wp2_with fail
      go_ret
      exact ⟨rfl, hB2⟩
  · have h1 := of_decide_eq_true hb1
    go_wp2_with fail
    go_ret
    exact ⟨rfl, hB2⟩
theorem ref13Far_any (s f g d : Int) : Ans 13 #[nv s f g, .int .i64 d] (.bool (!inN s f g d g)) := by
  have C := ref13Check_any s f g
  unfold ncode at C
  cases h : okN s f g
  · rw [h, if_neg (by decide)] at C
    have e : inN s f g d g = false := by unfold inN; rw [h]; rfl
    rw [e]
    exact ref13Far_no s f g d C
  · rw [h, if_pos rfl] at C
    have h1 := okN_iff.1 h
    have hm := mul_small h1.1 (k := g) (by omega)
    rw [inN_test h, Bool.not_not]
    exact ref13Far_yes s f g d (g * s) (-(g * s)) _ _ (by rw [IntWalk.wrap64_in (-g) (by omega), Int.neg_mul, IntWalk.wrap64_in _ (by omega)]) (IntWalk.wrap64_in _ (by omega)) rfl rfl C

set_option maxRecDepth 20000 in
set_option maxHeartbeats 1600000 in
theorem ref13Power_no (s f g d : Int) (C1 : Ans 7 #[nv s f g] (.int .i64 2)) : Ans 9 #[nv s f g, .int .i64 d] (.int .i64 2621440) := by
  intro w
  obtain ⟨w1, hw1⟩ : ∃ w1, (w.alloc (.cells #[.int .i64 s, .int .i64 f, .int .i64 g] 23)) = w1 := ⟨_, rfl⟩
  have hB1 : Below w.heap.size w w1 := by rw [← hw1]; exact (Below.refl _ _).alloc (Nat.le_refl _) _
  have K1 : Blk w1 w.heap.size 23 (nc s f g) := by rw [← hw1]; exact Blk.new w _ _
  have c0 := K1.cell (i := 0) rfl
  have c1 := K1.cell (i := 1) rfl
  have c2 := K1.cell (i := 2) rfl
  have HW1 := Lib.hid hw1
  clear hw1
  go_enter Try.func9, Try.ntmps9
  go_upto_region 1 with fail
  rw [HW1.out]
  go_wp2_with fail
  refine (C1 w1).mono ?_
  rintro e w2 ⟨rfl, hA⟩
  have hB2 := hB1.trans (hA.mono hB1.size)
  clear C1 hA K1 HW1 hB1 c0 c1 c2
  go_wp2_with fail
  go_ret
  exact ⟨rfl, hB2⟩
set_option maxRecDepth 20000 in
set_option maxHeartbeats 3200000 in
theorem ref13Power_yes (s f g d m l : Int) (b1 b2 b3 : Bool) (D2 S2 q r a b c x : Nat) (e1 : wrap64 (32 * s) = m) (e2 : wrap64 (-32 * s) = l) (hb1 : decide (m < d) = b1) (hb2 : decide (d < l) = b2)
    (hS : wrap64 (s * s) = (S2 : Int)) (h0 : 0 < S2) (hD : b1 = false → b2 = false → wrap64 (d * d) = (D2 : Int))
    (hq : (D2 : Int) / (S2 : Int) = (q : Int)) (hr : (D2 : Int) % (S2 : Int) = (r : Int)) (ha : wrap64 ((q : Int) * 47274) = (a : Int)) (hb : wrap64 (wrap64 (2 * (r : Int)) * 47274) = (b : Int)) (hb' : wrap64 ((b : Int) + (S2 : Int)) = (c : Int)) (hx : (c : Int) / (2 * (S2 : Int)) = (x : Int))
    (ht : wrap64 (2 * (S2 : Int)) = 2 * (S2 : Int)) (hz : wrap64 ((a : Int) + (x : Int)) = ((a + x : Nat) : Int)) (hwq : wrap64 (q : Int) = (q : Int)) (hwx : wrap64 (x : Int) = (x : Int)) (hb3 : decide (2621440 < ((a + x : Nat) : Int)) = b3)
    (C1 : Ans 7 #[nv s f g] (.int .i64 0)) : Ans 9 #[nv s f g, .int .i64 d] (.int .i64 (if (b1 || b2) = true then 2621440 else if b3 = true then 2621440 else ((a + x : Nat) : Int))) := by
  intro w
  obtain ⟨w1, hw1⟩ : ∃ w1, (w.alloc (.cells #[.int .i64 s, .int .i64 f, .int .i64 g] 23)) = w1 := ⟨_, rfl⟩
  have hB1 : Below w.heap.size w w1 := by rw [← hw1]; exact (Below.refl _ _).alloc (Nat.le_refl _) _
  have K1 : Blk w1 w.heap.size 23 (nc s f g) := by rw [← hw1]; exact Blk.new w _ _
  have c0 := K1.cell (i := 0) rfl
  have c1 := K1.cell (i := 1) rfl
  have c2 := K1.cell (i := 2) rfl
  have HW1 := Lib.hid hw1
  clear hw1
  obtain ⟨X, hX⟩ : ∃ X, X = ((a + x : Nat) : Int) := ⟨_, rfl⟩
  rw [← hX] at hz hb3 ⊢
  have hn : ¬ (S2 : Int) = 0 := by omega
  have hn2 : ¬ 2 * (S2 : Int) = 0 := by omega
  have H := Lib.hid (And.intro hD (And.intro hS (And.intro hq (And.intro hr (And.intro ha (And.intro hb (And.intro hb' (And.intro hx (And.intro ht (And.intro hz (And.intro hwq (And.intro hwx (And.intro hn hn2)))))))))))))
  have E1 := Lib.hid e1
  have E2 := Lib.hid e2
  clear hD hS hq hr ha hb hb' hx ht hz hwq hwx hn hn2 hX h0 e1 e2
  have E3 := Lib.hid (And.intro hb1 (And.intro hb2 hb3))
  clear hb1 hb2 hb3
  go_enter Try.func9, Try.ntmps9
  go_upto_region 1 with fail
  rw [HW1.out]
  go_wp2_with fail
  refine (C1 w1).mono ?_
  rintro e w2 ⟨rfl, hA⟩
  have c0 := (K1.below hA K1.lt).cell (i := 0) rfl
  have hB2 := hB1.trans (hA.mono hB1.size)
  clear C1 hA K1 HW1 hB1 c1 c2
  obtain ⟨hb1, hb2, hb3⟩ := E3.out
  clear E3
  have e1 := E1.out
  cases b1
  · have h1 := of_decide_eq_false hb1
    have e2 := E2.out
    clear hb1
    cases b2
    · have h2 := of_decide_eq_false hb2
      clear hb2
      obtain ⟨hD, hS, hq, hr, ha, hb, hb', hx, ht, hz, hwq, hwx, hn, hn2⟩ := H.out
      clear H
      replace hD := hD rfl rfl
      cases b3
      · have h3 := of_decide_eq_false hb3
        clear hb3
        go_wp2_with fail
        go_ret
        exact ⟨rfl, hB2⟩
      · have h3 := of_decide_eq_true hb3
        clear hb3
        go_wp2_with fail
        go_ret
        exact ⟨rfl, hB2⟩
    · have h2 := of_decide_eq_true hb2
      clear hb2 hb3 H
      go_wp2_with fail
      go_ret
      exact ⟨rfl, hB2⟩
  · have h1 := of_decide_eq_true hb1
    clear hb1 hb2 hb3 H E2
    go_wp2_with fail
    go_ret
    exact ⟨rfl, hB2⟩
theorem ref13Power_any (s f g d : Int) : Ans 9 #[nv s f g, .int .i64 d] (.int .i64 (powS s f g d : Nat)) := by
  have C := ref13Check_any s f g
  unfold ncode at C
  cases h : okN s f g
  · rw [h, if_neg (by decide)] at C
    rw [powS_wrong d h]
    exact ref13Power_no s f g d C
  · rw [h, if_pos rfl] at C
    have h1 := okN_iff.1 h
    have ht := inN_test (d := d) (k := 32) h
    obtain ⟨n, rfl⟩ := Int.eq_ofNat_of_zero_le (show 0 ≤ s by omega)
    have hn : n ≤ 1048576 := by omega
    have hS2 := Nat.mul_le_mul hn hn
    have hS0 : 0 < n * n := Nat.mul_pos (by omega) (by omega)
    have eS : wrap64 ((n : Int) * (n : Int)) = ((n * n : Nat) : Int) := by
      rw [show (n : Int) * (n : Int) = ((n * n : Nat) : Int) from by simp]
      exact IntWalk.wrap64_in _ (by omega)
    by_cases hb : 32 * (n : Int) < d ∨ d < -(32 * (n : Int))
    · have hT : ntest n d 32 = true := by unfold ntest; rw [Bool.or_eq_true, decide_eq_true_eq, decide_eq_true_eq]; exact hb
      have := ref13Power_yes n f g d (32 * n) (-(32 * n)) _ _ _ 0 (n * n) 0 0 0 0 (n * n) 0 (IntWalk.wrap64_in _ (by omega)) (by rw [IntWalk.wrap64_in _ (by omega)]; omega) rfl rfl eS hS0
        (fun h2 h3 => by rw [ntest, h2, h3] at hT; cases hT) (by simp) (by simp) (IntWalk.wrap64_in _ (by omega)) (by rw [IntWalk.wrap64_in (2 * ((0 : Nat) : Int)) (by omega), IntWalk.wrap64_in _ (by omega)]; rfl) (by rw [IntWalk.wrap64_in _ (by omega)]; omega)
        (by have : n * n / (2 * (n * n)) = 0 := Nat.div_eq_of_lt (by omega)
            have e : ((n * n : Nat) : Int) / (2 * ((n * n : Nat) : Int)) = ((n * n / (2 * (n * n)) : Nat) : Int) := by simp
            rw [e, this]) (IntWalk.wrap64_in _ (by omega)) (by rw [IntWalk.wrap64_in _ (by omega)]; omega) (IntWalk.wrap64_in _ (by omega)) (IntWalk.wrap64_in _ (by omega)) rfl C
      rw [show (decide (32 * (n : Int) < d) || decide (d < -(32 * (n : Int)))) = true from hT, if_pos rfl] at this
      unfold powS
      rw [ht, hT, if_neg (by decide)]
      exact this
    · have hT : ntest n d 32 = false := by unfold ntest; rw [Bool.or_eq_false_iff, decide_eq_false_iff_not, decide_eq_false_iff_not]; omega
      obtain ⟨D, hD⟩ : ∃ D, D = d.natAbs * d.natAbs := ⟨_, rfl⟩
      obtain ⟨S, hS⟩ : ∃ S, S = n * n := ⟨_, rfl⟩
      have hd : d.natAbs ≤ 32 * n := by omega
      have hDS : D ≤ 1024 * S := by
        have := Nat.mul_le_mul hd hd
        rw [← hD] at this
        have e : 32 * n * (32 * n) = 1024 * (n * n) := by rw [Nat.mul_mul_mul_comm]
        omega
      have eD : d * d = (D : Int) := by rw [hD]; simp
      rw [← hS] at eS hS0 hS2
      have hq1 : D / S ≤ 1024 := Nat.div_le_of_le_mul (by omega)
      have hr1 := Nat.mod_lt D hS0
      have hdm := Nat.div_add_mod D S
      have hx1 : (2 * (D % S) * 47274 + S) / (2 * S) ≤ 47274 := by
        rw [← Nat.lt_succ_iff, Nat.div_lt_iff_lt_mul (by omega)]
        omega
      have eP : powQ n d.natAbs = D / S * 47274 + (2 * (D % S) * 47274 + S) / (2 * S) := by
        unfold powQ
        rw [← hD, ← hS]
        have : 2 * (D * 47274) + S = 2 * (D % S) * 47274 + S + 2 * S * (D / S * 47274) := by
          have e : 2 * S * (D / S * 47274) = 94548 * (S * (D / S)) := by rw [Nat.mul_assoc, ← Nat.mul_assoc S, ← Nat.mul_assoc]; omega
          omega
        rw [this, Nat.add_mul_div_left _ _ (by omega), Nat.add_comm]
      have := ref13Power_yes n f g d (32 * n) (-(32 * n)) _ _ _ D S (D / S) (D % S) (D / S * 47274) (2 * (D % S) * 47274) (2 * (D % S) * 47274 + S) ((2 * (D % S) * 47274 + S) / (2 * S)) (IntWalk.wrap64_in _ (by omega)) (by rw [IntWalk.wrap64_in _ (by omega)]; omega) rfl rfl eS hS0
        (fun _ _ => by rw [eD]; exact IntWalk.wrap64_in _ (by omega)) (by simp) (by simp) (by rw [IntWalk.wrap64_in _ (by omega)]; omega) (by rw [IntWalk.wrap64_in (2 * ((D % S : Nat) : Int)) (by omega), IntWalk.wrap64_in _ (by omega)]; omega) (by rw [IntWalk.wrap64_in _ (by omega)]; omega)
        (by simp) (IntWalk.wrap64_in _ (by omega)) (by rw [IntWalk.wrap64_in _ (by omega)]; omega) (IntWalk.wrap64_in _ (by omega)) (IntWalk.wrap64_in _ (by omega)) rfl C
      rw [show (decide (32 * (n : Int) < d) || decide (d < -(32 * (n : Int)))) = false from hT, if_neg (by decide), ← eP] at this
      unfold powS
      rw [ht, hT, if_pos (by decide), Int.natAbs_natCast]
      have e : (if decide (2621440 < (powQ n d.natAbs : Int)) = true then (2621440 : Int) else (powQ n d.natAbs : Int)) = ((min 2621440 (powQ n d.natAbs) : Nat) : Int) := by
        by_cases hc : 2621440 < (powQ n d.natAbs : Int)
        · rw [decide_eq_true hc, if_pos rfl]; omega
        · rw [decide_eq_false hc, if_neg (by decide)]; omega
      rw [← e]
      exact this
end Go.Proofs.Ytolneillcdaibaa
