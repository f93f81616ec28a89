/-
  The laws of roots: the examples, the roots of any number, powers, the greatest divisor.
-/
import Derived.Test.YtbajkjekpgmmfaaRootE
set_option linter.unusedVariables false
set_option linter.unusedSimpArgs false
namespace Go.Proofs.Ytbajkjekpgmmfaa
open Go Go.RowKit Go.Th Go.Th.Root Go.Th.Wide

theorem works_ok (C1 : Ans 21 #[.int .i64 3, .int .i64 (-4)] (.tuple #[.int .u64 5, .bool true]))
    (C2 : Ans 21 #[.int .i64 (-9223372036854775808), .int .i64 (-9223372036854775808)] (.tuple #[.int .u64 0, .bool false]))
    (C3 : Ans 9 #[.int .u64 8] (.int .u64 2)) (C4 : Ans 10 #[.int .u64 8] (.int .u64 3)) (C5 : Ans 11 #[.int .u64 8] (.int .u64 3))
    (C6 : Ans 11 #[.int .u64 6] (.int .u64 2)) (C7 : Ans 9 #[.int .u64 18446744073709551615] (.int .u64 4294967295)) (C8 : Ans 12 #[.int .u64 255] (.int .i64 8))
    (C9 : Ans 31 #[.int .i64 4611686018427387904, .int .i64 4611686018427387904] (wv 1152921504606846976 0)) (C10 : Ans 15 #[wv 1152921504606846976 0] (.int .u64 4611686018427387904))
    (C11 : Ans 26 #[.int .u64 1000, .int .i64 3] (.int .u64 10)) (C12 : Ans 26 #[.int .u64 999, .int .i64 3] (.int .u64 9)) (C13 : Ans 26 #[.int .u64 5, .int .i64 0] (.int .u64 0))
    (C14 : Ans 27 #[.int .u64 12, .int .u64 18] (.int .u64 6)) (C15 : Ans 27 #[.int .u64 0, .int .u64 5] (.int .u64 5)) :
    Ans 14 #[] (.bool true) := by
  intro w
  have M0 := Mem.start w
  go_enter Try.func14, Try.ntmps14
  go_wp2_with fail
  (refine (C1 _).mono ?_; rintro e w2 ⟨rfl, hBl⟩; replace M0 := M0.call hBl; clear hBl C1)
  go_wp2_with fail
  (refine (C2 _).mono ?_; rintro e w2 ⟨rfl, hBl⟩; replace M0 := M0.call hBl; clear hBl C2)
  go_wp2_with fail
  (refine (C3 _).mono ?_; rintro e w2 ⟨rfl, hBl⟩; replace M0 := M0.call hBl; clear hBl C3)
  go_wp2_with fail
  (refine (C4 _).mono ?_; rintro e w2 ⟨rfl, hBl⟩; replace M0 := M0.call hBl; clear hBl C4)
  go_wp2_with fail
  (refine (C5 _).mono ?_; rintro e w2 ⟨rfl, hBl⟩; replace M0 := M0.call hBl; clear hBl C5)
  go_wp2_with fail
  (refine (C6 _).mono ?_; rintro e w2 ⟨rfl, hBl⟩; replace M0 := M0.call hBl; clear hBl C6)
  go_wp2_with fail
  (refine (C7 _).mono ?_; rintro e w2 ⟨rfl, hBl⟩; replace M0 := M0.call hBl; clear hBl C7)
  go_wp2_with fail
  (refine (C8 _).mono ?_; rintro e w2 ⟨rfl, hBl⟩; replace M0 := M0.call hBl; clear hBl C8)
  go_wp2_with fail
  (refine (C9 _).mono ?_; rintro e w2 ⟨rfl, hBl⟩; replace M0 := M0.call hBl; clear hBl C9)
  go_wp2_with fail
  (refine (C10 _).mono ?_; rintro e w2 ⟨rfl, hBl⟩; replace M0 := M0.call hBl; clear hBl C10)
  go_wp2_with fail
  (refine (C11 _).mono ?_; rintro e w2 ⟨rfl, hBl⟩; replace M0 := M0.call hBl; clear hBl C11)
  go_wp2_with fail
  (refine (C12 _).mono ?_; rintro e w2 ⟨rfl, hBl⟩; replace M0 := M0.call hBl; clear hBl C12)
  go_wp2_with fail
  (refine (C13 _).mono ?_; rintro e w2 ⟨rfl, hBl⟩; replace M0 := M0.call hBl; clear hBl C13)
  go_wp2_with fail
  (refine (C14 _).mono ?_; rintro e w2 ⟨rfl, hBl⟩; replace M0 := M0.call hBl; clear hBl C14)
  go_wp2_with fail
  (refine (C15 _).mono ?_; rintro e w2 ⟨rfl, hBl⟩; replace M0 := M0.call hBl; clear hBl C15)
  go_wp2_with fail
  go_ret
  exact ⟨rfl, M0.below⟩

theorem rt_at {d N r : Nat} (h : (0 < d ∧ r ^ d ≤ N) ∧ N < (r + 1) ^ d) : rt d N = r := rt_eq h.1.1 h.1.2 h.2
theorem works_any : Ans 14 #[] (.bool true) := by
  have e25 : rt 2 25 = 5 := rt_at (by decide)
  have e8 : rt 2 8 = 2 := rt_at (by decide)
  have e6 : rt 2 6 = 2 := rt_at (by decide)
  have eb : rt 2 18446744073709551615 = 4294967295 := rt_at (by decide)
  have ew : rt 2 (1152921504606846976 * 18446744073709551616 + 0) = 4611686018427387904 := rt_at (by decide)
  have e3 : rt 3 1000 = 10 := rt_at (by decide)
  have e4 : rt 3 999 = 9 := rt_at (by decide)
  have C1 := hypot_ok 3 (-4) (by decide) (by decide) 25 (by decide) (by decide)
  rw [e25] at C1
  have C2 := hypot_out (-9223372036854775808) (-9223372036854775808) (by decide) (by decide) (by decide)
  have C3 := floor_any 8 (by decide)
  rw [e8] at C3
  have C4 := ceil_any 8 (by decide)
  rw [show ceilS 8 = 3 by unfold ceilS; rw [e8]; rfl] at C4
  have C5 := near_any 8 (by decide)
  rw [show nearS 8 = 3 by unfold nearS; rw [e8]; rfl] at C5
  have C6 := near_any 6 (by decide)
  rw [show nearS 6 = 2 by unfold nearS; rw [e6]; rfl] at C6
  have C7 := floor_any 18446744073709551615 (by decide)
  rw [eb] at C7
  have C8 := bits_any 255 (by decide)
  rw [show Lib.bitLen 255 = 8 by decide] at C8
  have C9 : Ans 31 #[.int .i64 4611686018427387904, .int .i64 4611686018427387904] (wv 1152921504606846976 0) := Mul_any 4611686018427387904 4611686018427387904 (by decide) (by decide)
  have C10 := wide_any 1152921504606846976 0 (by decide) (by decide)
  rw [ew] at C10
  have C11 := pw_any 1000 3 (by decide) (by decide)
  rw [show (3 : Int).toNat = 3 from rfl, e3] at C11
  have C12 := pw_any 999 3 (by decide) (by decide)
  rw [show (3 : Int).toNat = 3 from rfl, e4] at C12
  have C13 := pw_low 5 0 (by decide)
  have C14 := gcd_any 12 18 (by decide) (by decide)
  have C15 := gcd_any 0 5 (by decide) (by decide)
  exact works_ok C1 C2 C3 C4 C5 C6 C7 C8 C9 C10 C11 C12 C13 C14 C15

set_option maxRecDepth 20000 in
set_option maxHeartbeats 16000000 in
theorem rootTells_go (x r Q D u n L : Nat) (hx : x < 18446744073709551616) (hr : r < 4294967296) (hQ : Q ≤ x) (eq : IntKind.u64.wrap ((r : Int) * (r : Int)) = (Q : Int)) (ed : (x : Int) - (Q : Int) = (D : Int))
    (hu : u = if Q = x then r else r + 1) (hn : n = if r < D then r + 1 else r)
    (C1 : Ans 8 #[.int .u64 x] (.int .u64 r)) (C2 : Ans 9 #[.int .u64 x] (.int .u64 r)) (C3 : Ans 10 #[.int .u64 x] (.int .u64 u)) (C4 : Ans 11 #[.int .u64 x] (.int .u64 n))
    (C5 : Ans 12 #[.int .u64 x] (.int .i64 L)) (C6 : Ans 13 #[.int .u64 x] (.int .i64 L)) :
    Ans 3 #[.int .u64 x] (.bool true) := by
  intro w
  have C7 := works_any
  have M0 := Mem.start w
  by_cases h1 : Q = x
  · rw [if_pos h1] at hu
    subst h1
    rw [if_neg (by omega)] at hn
    rw [hu] at C3
    rw [hn] at C4
    clear hu hn
    have d0 : ¬ r < D := by omega
    have d1 : ((Q : Int) != (Q : Int)) = false := by simp
    have b1 : ((r : Int) == (r : Int)) = true := by simp
    have b2 : ((L : Int) == (L : Int)) = true := by simp
    go_enter Try.func3, Try.ntmps3
    go_wp2_with fail
    (refine (C1 _).mono ?_; rintro e w2 ⟨rfl, hBl⟩; replace M0 := M0.call hBl; clear hBl C1)
    go_wp2_with fail
    (refine (C2 _).mono ?_; rintro e w2 ⟨rfl, hBl⟩; replace M0 := M0.call hBl; clear hBl C2)
    go_wp2_with fail
    (refine (C3 _).mono ?_; rintro e w2 ⟨rfl, hBl⟩; replace M0 := M0.call hBl; clear hBl C3)
    go_wp2_with fail
    (refine (C4 _).mono ?_; rintro e w2 ⟨rfl, hBl⟩; replace M0 := M0.call hBl; clear hBl C4)
    go_wp2_with fail
    (refine (C5 _).mono ?_; rintro e w2 ⟨rfl, hBl⟩; replace M0 := M0.call hBl; clear hBl C5)
    go_wp2_with fail
    (refine (C6 _).mono ?_; rintro e w2 ⟨rfl, hBl⟩; replace M0 := M0.call hBl; clear hBl C6)
    go_wp2_with fail
    (refine (C7 _).mono ?_; rintro e w2 ⟨rfl, hBl⟩; replace M0 := M0.call hBl; clear hBl C7)
    go_wp2_with fail
    go_ret
    exact ⟨rfl, M0.below⟩
  · rw [if_neg h1] at hu
    rw [hu] at C3
    clear hu
    have d1 : ((Q : Int) != (x : Int)) = true := by rw [bne_iff_ne]; omega
    have b1 : ((r : Int) == (r : Int)) = true := by simp
    have b2 : ((L : Int) == (L : Int)) = true := by simp
    by_cases h2 : r < D
    · rw [if_pos h2] at hn
      rw [hn] at C4
      clear hn
      go_enter Try.func3, Try.ntmps3
      go_wp2_with fail
      (refine (C1 _).mono ?_; rintro e w2 ⟨rfl, hBl⟩; replace M0 := M0.call hBl; clear hBl C1)
      go_wp2_with fail
      (refine (C2 _).mono ?_; rintro e w2 ⟨rfl, hBl⟩; replace M0 := M0.call hBl; clear hBl C2)
      go_wp2_with fail
      (refine (C3 _).mono ?_; rintro e w2 ⟨rfl, hBl⟩; replace M0 := M0.call hBl; clear hBl C3)
      go_wp2_with fail
      (refine (C4 _).mono ?_; rintro e w2 ⟨rfl, hBl⟩; replace M0 := M0.call hBl; clear hBl C4)
      go_wp2_with fail
      (refine (C5 _).mono ?_; rintro e w2 ⟨rfl, hBl⟩; replace M0 := M0.call hBl; clear hBl C5)
      go_wp2_with fail
      (refine (C6 _).mono ?_; rintro e w2 ⟨rfl, hBl⟩; replace M0 := M0.call hBl; clear hBl C6)
      go_wp2_with fail
      (refine (C7 _).mono ?_; rintro e w2 ⟨rfl, hBl⟩; replace M0 := M0.call hBl; clear hBl C7)
      go_wp2_with fail
      go_ret
      exact ⟨rfl, M0.below⟩
    · rw [if_neg h2] at hn
      rw [hn] at C4
      clear hn
      go_enter Try.func3, Try.ntmps3
      go_wp2_with fail
      (refine (C1 _).mono ?_; rintro e w2 ⟨rfl, hBl⟩; replace M0 := M0.call hBl; clear hBl C1)
      go_wp2_with fail
      (refine (C2 _).mono ?_; rintro e w2 ⟨rfl, hBl⟩; replace M0 := M0.call hBl; clear hBl C2)
      go_wp2_with fail
      (refine (C3 _).mono ?_; rintro e w2 ⟨rfl, hBl⟩; replace M0 := M0.call hBl; clear hBl C3)
      go_wp2_with fail
      (refine (C4 _).mono ?_; rintro e w2 ⟨rfl, hBl⟩; replace M0 := M0.call hBl; clear hBl C4)
      go_wp2_with fail
      (refine (C5 _).mono ?_; rintro e w2 ⟨rfl, hBl⟩; replace M0 := M0.call hBl; clear hBl C5)
      go_wp2_with fail
      (refine (C6 _).mono ?_; rintro e w2 ⟨rfl, hBl⟩; replace M0 := M0.call hBl; clear hBl C6)
      go_wp2_with fail
      (refine (C7 _).mono ?_; rintro e w2 ⟨rfl, hBl⟩; replace M0 := M0.call hBl; clear hBl C7)
      go_wp2_with fail
      go_ret
      exact ⟨rfl, M0.below⟩
theorem rootTells_any (x : Nat) (hx : x < 18446744073709551616) : Ans 3 #[.int .u64 x] (.bool true) := by
  have h2 := rt_sq x
  have h3 := rt_32 x hx
  obtain ⟨Q, hQ⟩ : ∃ Q, Q = rt 2 x * rt 2 x := ⟨_, rfl⟩
  have eq : IntKind.u64.wrap ((rt 2 x : Int) * (rt 2 x : Int)) = (Q : Int) := by rw [← Int.natCast_mul, ← hQ, IntKind.wrap_u64]; omega
  exact rootTells_go x (rt 2 x) Q (x - Q) _ _ _ hx h3 (by omega) eq (by omega) (by rw [hQ]; rfl) (by rw [hQ]; rfl) (refFloor_any x hx) (floor_any x hx) (ceil_any x hx) (near_any x hx) (bits_any x hx) (refBits_any x hx)

set_option maxRecDepth 20000 in
set_option maxHeartbeats 16000000 in
theorem powers_go (x R : Nat) (D F : Int) (hx : x < 18446744073709551616) (C1 : Ans 26 #[.int .u64 x, .int .i64 D] (.int .u64 R)) (C2 : Ans 25 #[.int .u64 R, .int .u64 x, .int .i64 D] (.bool true))
    (h2 : D = 2 → Ans 26 #[.int .u64 x, .int .i64 2] (.int .u64 F) ∧ Ans 8 #[.int .u64 x] (.int .u64 F)) (h1 : D = 1 → Ans 26 #[.int .u64 x, .int .i64 1] (.int .u64 x)) :
    Ans 6 #[.int .u64 x, .int .i64 D] (.bool true) := by
  intro w
  have C7 := works_any
  have M0 := Mem.start w
  by_cases e2 : D = 2
  · obtain ⟨C3, C4⟩ := h2 e2
    clear h1 h2
    subst e2
    have b1 : (F == F) = true := by simp
    go_enter Try.func6, Try.ntmps6
    go_wp2_with fail
    (refine (C1 _).mono ?_; rintro e w2 ⟨rfl, hBl⟩; replace M0 := M0.call hBl; clear hBl C1)
    go_wp2_with fail
    (refine (C2 _).mono ?_; rintro e w2 ⟨rfl, hBl⟩; replace M0 := M0.call hBl; clear hBl C2)
    go_wp2_with fail
    (refine (C3 _).mono ?_; rintro e w2 ⟨rfl, hBl⟩; replace M0 := M0.call hBl; clear hBl C3)
    go_wp2_with fail
    (refine (C4 _).mono ?_; rintro e w2 ⟨rfl, hBl⟩; replace M0 := M0.call hBl; clear hBl C4)
    go_wp2_with fail
    (refine (C7 _).mono ?_; rintro e w2 ⟨rfl, hBl⟩; replace M0 := M0.call hBl; clear hBl C7)
    go_wp2_with fail
    go_ret
    exact ⟨rfl, M0.below⟩
  · have d2 : (D != 2) = true := by rw [bne_iff_ne]; exact e2
    by_cases e1 : D = 1
    · have C3 := h1 e1
      clear h1 h2
      subst e1
      have b1 : ((x : Int) == (x : Int)) = true := by simp
      go_enter Try.func6, Try.ntmps6
      go_wp2_with fail
      (refine (C1 _).mono ?_; rintro e w2 ⟨rfl, hBl⟩; replace M0 := M0.call hBl; clear hBl C1)
      go_wp2_with fail
      (refine (C2 _).mono ?_; rintro e w2 ⟨rfl, hBl⟩; replace M0 := M0.call hBl; clear hBl C2)
      go_wp2_with fail
      (refine (C3 _).mono ?_; rintro e w2 ⟨rfl, hBl⟩; replace M0 := M0.call hBl; clear hBl C3)
      go_wp2_with fail
      (refine (C7 _).mono ?_; rintro e w2 ⟨rfl, hBl⟩; replace M0 := M0.call hBl; clear hBl C7)
      go_wp2_with fail
      go_ret
      exact ⟨rfl, M0.below⟩
    · have d1 : (D != 1) = true := by rw [bne_iff_ne]; exact e1
      clear h1 h2
      go_enter Try.func6, Try.ntmps6
      go_wp2_with fail
      (refine (C1 _).mono ?_; rintro e w2 ⟨rfl, hBl⟩; replace M0 := M0.call hBl; clear hBl C1)
      go_wp2_with fail
      (refine (C2 _).mono ?_; rintro e w2 ⟨rfl, hBl⟩; replace M0 := M0.call hBl; clear hBl C2)
      go_wp2_with fail
      (refine (C7 _).mono ?_; rintro e w2 ⟨rfl, hBl⟩; replace M0 := M0.call hBl; clear hBl C7)
      go_wp2_with fail
      go_ret
      exact ⟨rfl, M0.below⟩
theorem rootPowers_any (x : Nat) (D : Int) (hx : x < 18446744073709551616) (hD : -9223372036854775808 ≤ D ∧ D ≤ 9223372036854775807) : Ans 6 #[.int .u64 x, .int .i64 D] (.bool true) := by
  have h2 : D = 2 → Ans 26 #[.int .u64 x, .int .i64 2] (.int .u64 ((rt 2 x : Nat) : Int)) ∧ Ans 8 #[.int .u64 x] (.int .u64 ((rt 2 x : Nat) : Int)) := fun _ => ⟨pw_any x 2 (by decide) hx, refFloor_any x hx⟩
  have h1 : D = 1 → Ans 26 #[.int .u64 x, .int .i64 1] (.int .u64 x) := fun _ => by
    have C := pw_any x 1 (by decide) hx
    rw [show (1 : Int).toNat = 1 from rfl, rt_one] at C
    exact C
  by_cases h : D < 1
  · exact powers_go x 0 D _ hx (pw_low x D h) (isPower_low 0 x D rfl (.inl h)) h2 h1
  · have C2 := isPower_rt x D.toNat hx (by omega) (by omega)
    rw [show ((D.toNat : Nat) : Int) = D by omega] at C2
    exact powers_go x _ D _ hx (pw_any x D (by omega) hx) C2 h2 h1

theorem quo_gcd (a g : Nat) (ha : a < 18446744073709551616) : IntKind.u64.wrap ((a : Int) / (g : Int)) = ((a / g : Nat) : Int) := quo_u a g _ ha rfl

set_option maxRecDepth 20000 in
set_option maxHeartbeats 16000000 in
theorem gcd_zero_go (C1 : Ans 27 #[.int .u64 0, .int .u64 0] (.int .u64 0)) (C2 : Ans 28 #[.int .u64 0, .int .u64 0] (.int .u64 0)) :
    Ans 7 #[.int .u64 0, .int .u64 0] (.bool true) := by
  intro w
  have C7 := works_any
  have M0 := Mem.start w
  go_enter Try.func7, Try.ntmps7
  go_wp2_with fail
  (refine (C1 _).mono ?_; rintro e w2 ⟨rfl, hBl⟩; replace M0 := M0.call hBl; clear hBl)
  go_wp2_with fail
  (refine (C2 _).mono ?_; rintro e w2 ⟨rfl, hBl⟩; replace M0 := M0.call hBl; clear hBl C2)
  go_wp2_with fail
  (refine (C1 _).mono ?_; rintro e w2 ⟨rfl, hBl⟩; replace M0 := M0.call hBl; clear hBl C1)
  go_wp2_with fail
  (refine (C7 _).mono ?_; rintro e w2 ⟨rfl, hBl⟩; replace M0 := M0.call hBl; clear hBl C7)
  go_wp2_with fail
  go_ret
  exact ⟨rfl, M0.below⟩

set_option maxRecDepth 20000 in
set_option maxHeartbeats 16000000 in
theorem gcd_go (a b g x y : Nat) (ha : a < 18446744073709551616) (hb : b < 18446744073709551616) (hg : 0 < g) (ra : (a : Int) % (g : Int) = 0) (rb : (b : Int) % (g : Int) = 0)
    (ta : (a : Int).tmod (g : Int) = 0) (tb : (b : Int).tmod (g : Int) = 0) (qa : IntKind.u64.wrap ((a : Int) / (g : Int)) = (x : Int)) (qb : IntKind.u64.wrap ((b : Int) / (g : Int)) = (y : Int))
    (da : (a : Int).tdiv (g : Int) = (x : Int)) (db : (b : Int).tdiv (g : Int) = (y : Int)) (hx : x < 18446744073709551616) (hy : y < 18446744073709551616)
    (C1 : Ans 27 #[.int .u64 a, .int .u64 b] (.int .u64 g)) (C2 : Ans 28 #[.int .u64 a, .int .u64 b] (.int .u64 g)) (C3 : Ans 27 #[.int .u64 b, .int .u64 a] (.int .u64 g))
    (C4 : Ans 27 #[.int .u64 x, .int .u64 y] (.int .u64 1)) :
    Ans 7 #[.int .u64 a, .int .u64 b] (.bool true) := by
  intro w
  have C7 := works_any
  have M0 := Mem.start w
  have d1 : ((g : Int) != (g : Int)) = false := by simp
  have d2 : ((g : Int) == 0) = false := by rw [beq_eq_false_iff_ne]; omega
  have hn : ¬ (g : Int) = 0 := by omega
  have hn2 : ¬ g = 0 := by omega
  have wx : IntKind.u64.wrap (x : Int) = (x : Int) := by rw [IntKind.wrap_u64]; omega
  have wy : IntKind.u64.wrap (y : Int) = (y : Int) := by rw [IntKind.wrap_u64]; omega
  go_enter Try.func7, Try.ntmps7
  go_wp2_with fail
  (refine (C1 _).mono ?_; rintro e w2 ⟨rfl, hBl⟩; replace M0 := M0.call hBl; clear hBl C1)
  go_wp2_with fail
  (refine (C2 _).mono ?_; rintro e w2 ⟨rfl, hBl⟩; replace M0 := M0.call hBl; clear hBl C2)
  go_wp2_with fail
  (refine (C3 _).mono ?_; rintro e w2 ⟨rfl, hBl⟩; replace M0 := M0.call hBl; clear hBl C3)
  go_wp2_with fail
  have M1 := M0.drew
  clear M0
  try dsimp only [Act.put]
  refine wp_region_held_drew (S := (fun w' : World => Mem w w' [])) (by kernel_rfl) (M1) (fun hHeld => ?_)
  refine wpAnyH_take (i := 0) (v := ?v1) rfl (by kernel_rfl) (by kernel_rfl) (by kernel_rfl) (fun _ _ _ h => h) (Or.inl ⟨by rfl, ?hy1⟩) hHeld ?rest1
  case hy1 => (intro w' hSw; (try dsimp only at hSw); go_simp; (try with_reducible rfl))
  try simp only [Act.put, List.setIfInBounds_toArray, List.set_cons_zero, List.set_cons_succ, List.getElem_toArray, List.getElem_cons_zero, List.getElem_cons_succ]
  refine wpAnyH_take (i := 1) (v := ?v2) rfl (by kernel_rfl) (by kernel_rfl) (by kernel_rfl) (fun _ _ _ h => h) (Or.inl ⟨by rfl, ?hy2⟩) hHeld ?rest2
  case hy2 => (intro w' hSw; (try dsimp only at hSw); go_simp; (try with_reducible rfl))
  try simp only [Act.put, List.setIfInBounds_toArray, List.set_cons_zero, List.set_cons_succ, List.getElem_toArray, List.getElem_cons_zero, List.getElem_cons_succ]
  refine wpAnyH_take (i := 2) (v := ?v3) rfl (by kernel_rfl) (by kernel_rfl) (by kernel_rfl) (fun _ _ _ h => h) (Or.inl ⟨by rfl, ?hy3⟩) hHeld ?rest3
  case hy3 => (intro w' hSw; (try dsimp only at hSw); go_simp; (try with_reducible rfl))
  try simp only [Act.put, List.setIfInBounds_toArray, List.set_cons_zero, List.set_cons_succ, List.getElem_toArray, List.getElem_cons_zero, List.getElem_cons_succ]
  refine wpAnyH_take (i := 3) (v := ?v4) rfl (by kernel_rfl) (by kernel_rfl) (by kernel_rfl) (fun _ _ _ h => h) (Or.inl ⟨by rfl, ?hy4⟩) hHeld ?rest4
  case hy4 => (intro w' hSw; (try dsimp only at hSw); go_simp; (try with_reducible rfl))
  try simp only [Act.put, List.setIfInBounds_toArray, List.set_cons_zero, List.set_cons_succ, List.getElem_toArray, List.getElem_cons_zero, List.getElem_cons_succ]
  refine wpAnyH_take (i := 4) (v := ?v5) rfl (by kernel_rfl) (by kernel_rfl) (by kernel_rfl) (fun _ _ _ h => h) (Or.inl ⟨by rfl, ?hy5⟩) hHeld ?rest5
  case hy5 => (intro w' hSw; (try dsimp only at hSw); go_simp; (try with_reducible rfl))
  try simp only [Act.put, List.setIfInBounds_toArray, List.set_cons_zero, List.set_cons_succ, List.getElem_toArray, List.getElem_cons_zero, List.getElem_cons_succ]
  refine wpAnyH_take (i := 5) (v := ?v6) rfl (by kernel_rfl) (by kernel_rfl) (by kernel_rfl) (fun _ _ _ h => h) (Or.inl ⟨by rfl, ?hy6⟩) hHeld ?rest6
  case hy6 => (intro w' hSw; (try dsimp only at hSw); go_simp; (try with_reducible rfl))
  try simp only [Act.put, List.setIfInBounds_toArray, List.set_cons_zero, List.set_cons_succ, List.getElem_toArray, List.getElem_cons_zero, List.getElem_cons_succ]
  refine wpAnyH_take (i := 6) (v := ?v7) rfl (by kernel_rfl) (by kernel_rfl) (by kernel_rfl) (fun _ _ _ h => h) (Or.inl ⟨by rfl, ?hy7⟩) hHeld ?rest7
  case hy7 => (intro w' hSw; (try dsimp only at hSw); go_simp; (try with_reducible rfl))
  try simp only [Act.put, List.setIfInBounds_toArray, List.set_cons_zero, List.set_cons_succ, List.getElem_toArray, List.getElem_cons_zero, List.getElem_cons_succ]
  refine wpAnyH_take (i := 7) (v := ?v8) rfl (by kernel_rfl) (by kernel_rfl) (by kernel_rfl) (fun _ _ _ h => h) (Or.inl ⟨by rfl, ?hy8⟩) hHeld ?rest8
  case hy8 => (intro w' hSw; (try dsimp only at hSw); go_simp; (try with_reducible rfl))
  try simp only [Act.put, List.setIfInBounds_toArray, List.set_cons_zero, List.set_cons_succ, List.getElem_toArray, List.getElem_cons_zero, List.getElem_cons_succ]
  refine wpAnyH_take (i := 8) (v := ?v9) rfl (by kernel_rfl) (by kernel_rfl) (by kernel_rfl) (fun _ _ _ h => h) (Or.inl ⟨by rfl, ?hy9⟩) hHeld ?rest9
  case hy9 => (intro w' hSw; (try dsimp only at hSw); go_simp; (try with_reducible rfl))
  try simp only [Act.put, List.setIfInBounds_toArray, List.set_cons_zero, List.set_cons_succ, List.getElem_toArray, List.getElem_cons_zero, List.getElem_cons_succ]
  refine wpAnyH_take (i := 9) (v := ?v10) rfl (by kernel_rfl) (by kernel_rfl) (by kernel_rfl) (fun _ _ _ h => h) (Or.inl ⟨by rfl, ?hy10⟩) hHeld ?rest10
  case hy10 => (intro w' hSw; (try dsimp only at hSw); go_simp; (try with_reducible rfl))
  try simp only [Act.put, List.setIfInBounds_toArray, List.set_cons_zero, List.set_cons_succ, List.getElem_toArray, List.getElem_cons_zero, List.getElem_cons_succ]
  refine wpAnyH_take (i := 10) (v := ?v11) rfl (by kernel_rfl) (by kernel_rfl) (by kernel_rfl) (fun _ _ _ h => h) (Or.inl ⟨by rfl, ?hy11⟩) hHeld ?rest11
  case hy11 => (intro w' hSw; (try dsimp only at hSw); go_simp; (try with_reducible rfl))
  try simp only [Act.put, List.setIfInBounds_toArray, List.set_cons_zero, List.set_cons_succ, List.getElem_toArray, List.getElem_cons_zero, List.getElem_cons_succ]
  refine wpAnyH_take (i := 11) (v := ?v12) rfl (by kernel_rfl) (by kernel_rfl) (by kernel_rfl) (fun _ _ _ h => h) (Or.inl ⟨by rfl, ?hy12⟩) hHeld ?rest12
  case hy12 => (intro w' hSw; (try dsimp only at hSw); go_simp; (try with_reducible rfl))
  try simp only [Act.put, List.setIfInBounds_toArray, List.set_cons_zero, List.set_cons_succ, List.getElem_toArray, List.getElem_cons_zero, List.getElem_cons_succ]
  refine wpAnyH_take (i := 12) (v := ?v13) rfl (by kernel_rfl) (by kernel_rfl) (by kernel_rfl) (fun _ _ _ h => h) (Or.inl ⟨by rfl, ?hy13⟩) hHeld ?rest13
  case hy13 => (intro w' hSw; (try dsimp only at hSw); go_simp; (try with_reducible rfl))
  try simp only [Act.put, List.setIfInBounds_toArray, List.set_cons_zero, List.set_cons_succ, List.getElem_toArray, List.getElem_cons_zero, List.getElem_cons_succ]
  refine wpAnyH_take (i := 13) (v := ?v14) rfl (by kernel_rfl) (by kernel_rfl) (by kernel_rfl) (fun _ _ _ h => h) (Or.inl ⟨by rfl, ?hy14⟩) hHeld ?rest14
  case hy14 => (intro w' hSw; (try dsimp only at hSw); go_simp; (try with_reducible rfl))
  try simp only [Act.put, List.setIfInBounds_toArray, List.set_cons_zero, List.set_cons_succ, List.getElem_toArray, List.getElem_cons_zero, List.getElem_cons_succ]
  refine wpAnyH_take (i := 14) (v := ?v15) rfl (by kernel_rfl) (by kernel_rfl) (by kernel_rfl) (fun _ _ _ h => h) (Or.inl ⟨by rfl, ?hy15⟩) hHeld ?rest15
  case hy15 => (intro w' hSw; (try dsimp only at hSw); go_simp; (try with_reducible rfl))
  try simp only [Act.put, List.setIfInBounds_toArray, List.set_cons_zero, List.set_cons_succ, List.getElem_toArray, List.getElem_cons_zero, List.getElem_cons_succ]
  refine wpAnyH_take (i := 15) (v := ?v16) rfl (by kernel_rfl) (by kernel_rfl) (by kernel_rfl) (fun _ _ _ h => h) (Or.inl ⟨by rfl, ?hy16⟩) hHeld ?rest16
  case hy16 => (intro w' hSw; (try dsimp only at hSw); go_simp; (try with_reducible rfl))
  try simp only [Act.put, List.setIfInBounds_toArray, List.set_cons_zero, List.set_cons_succ, List.getElem_toArray, List.getElem_cons_zero, List.getElem_cons_succ]
  refine wpAnyH_take (i := 16) (v := ?v17) rfl (by kernel_rfl) (by kernel_rfl) (by kernel_rfl) (fun _ _ _ h => h) (Or.inl ⟨by rfl, ?hy17⟩) hHeld ?rest17
  case hy17 => (intro w' hSw; (try dsimp only at hSw); go_simp; (try with_reducible rfl))
  try simp only [Act.put, List.setIfInBounds_toArray, List.set_cons_zero, List.set_cons_succ, List.getElem_toArray, List.getElem_cons_zero, List.getElem_cons_succ]
  refine wpAnyH_ready (rs := [17]) (by kernel_rfl) (by simp) ?_
  refine AllReadyH.cons rfl (fun K hK => ?_) AllReadyH.nil
  go_simp
  refine (C4 _).mono ?_
  rintro e w2 ⟨rfl, hBl⟩
  replace M1 := M1.call hBl
  clear hBl C4
  try go_wp2_with fail
  refine hK.out _ _ (M1) (fun hHeld => ?_)
  clear hK K
  try simp only [Act.put, List.setIfInBounds_toArray, List.set_cons_zero, List.set_cons_succ, List.getElem_toArray, List.getElem_cons_zero, List.getElem_cons_succ]
  refine wpAnyH_take (i := 18) (v := ?v19) rfl (by kernel_rfl) (by kernel_rfl) (by kernel_rfl) (fun _ _ _ h => h) (Or.inl ⟨by rfl, ?hy19⟩) hHeld ?rest19
  case hy19 => (intro w' hSw; (try dsimp only at hSw); go_simp; (try with_reducible rfl))
  try simp only [Act.put, List.setIfInBounds_toArray, List.set_cons_zero, List.set_cons_succ, List.getElem_toArray, List.getElem_cons_zero, List.getElem_cons_succ]
  refine wpAnyH_take (i := 19) (v := ?v20) rfl (by kernel_rfl) (by kernel_rfl) (by kernel_rfl) (fun _ _ _ h => h) (Or.inl ⟨by rfl, ?hy20⟩) hHeld ?rest20
  case hy20 => (intro w' hSw; (try dsimp only at hSw); go_simp; (try with_reducible rfl))
  try simp only [Act.put, List.setIfInBounds_toArray, List.set_cons_zero, List.set_cons_succ, List.getElem_toArray, List.getElem_cons_zero, List.getElem_cons_succ]
  refine wpAnyH_take (i := 20) (v := ?v21) rfl (by kernel_rfl) (by kernel_rfl) (by kernel_rfl) (fun _ _ _ h => h) (Or.inl ⟨by rfl, ?hy21⟩) hHeld ?rest21
  case hy21 => (intro w' hSw; (try dsimp only at hSw); go_simp; (try with_reducible rfl))
  try simp only [Act.put, List.setIfInBounds_toArray, List.set_cons_zero, List.set_cons_succ, List.getElem_toArray, List.getElem_cons_zero, List.getElem_cons_succ]
  refine wpAnyH_ready (rs := [21]) (by kernel_rfl) (by simp) ?_
  refine AllReadyH.cons rfl (fun K hK => ?_) AllReadyH.nil
  go_simp
  refine (C7 _).mono ?_
  rintro e w2 ⟨rfl, hBl⟩
  replace M1 := M1.call hBl
  clear hBl C7
  try go_wp2_with fail
  refine hK.out _ _ (M1) (fun hHeld => ?_)
  clear hK K
  try simp only [Act.put, List.setIfInBounds_toArray, List.set_cons_zero, List.set_cons_succ, List.getElem_toArray, List.getElem_cons_zero, List.getElem_cons_succ]
  refine wpAnyH_take (i := 22) (v := ?v23) rfl (by kernel_rfl) (by kernel_rfl) (by kernel_rfl) (fun _ _ _ h => h) (Or.inl ⟨by rfl, ?hy23⟩) hHeld ?rest23
  case hy23 => (intro w' hSw; (try dsimp only at hSw); go_simp; (try with_reducible rfl))
  try simp only [Act.put, List.setIfInBounds_toArray, List.set_cons_zero, List.set_cons_succ, List.getElem_toArray, List.getElem_cons_zero, List.getElem_cons_succ]
  refine wpAnyH_take (i := 23) (v := ?v24) rfl (by kernel_rfl) (by kernel_rfl) (by kernel_rfl) (fun _ _ _ h => h) (Or.inl ⟨by rfl, ?hy24⟩) hHeld ?rest24
  case hy24 => (intro w' hSw; (try dsimp only at hSw); go_simp; (try with_reducible rfl))
  try simp only [Act.put, List.setIfInBounds_toArray, List.set_cons_zero, List.set_cons_succ, List.getElem_toArray, List.getElem_cons_zero, List.getElem_cons_succ]
  refine wpAnyH_done (by kernel_rfl) ?_ _
  go_wp2
  go_ret
  exact ⟨rfl, M1.below⟩
theorem rootGcd_any (a b : Nat) (ha : a < 18446744073709551616) (hb : b < 18446744073709551616) : Ans 7 #[.int .u64 a, .int .u64 b] (.bool true) := by
  have C1 := gcd_any a b ha hb
  have C2 := refGcd_any a b ha hb
  have C3 := gcd_any b a hb ha
  rw [Nat.gcd_comm b a] at C3
  by_cases h : Nat.gcd a b = 0
  · obtain ⟨rfl, rfl⟩ := Nat.gcd_eq_zero_iff.1 h
    exact gcd_zero_go C1 C2
  · have hg : 0 < Nat.gcd a b := Nat.pos_of_ne_zero h
    have C4 := gcd_any (a / Nat.gcd a b) (b / Nat.gcd a b) (Nat.lt_of_le_of_lt (Nat.div_le_self _ _) ha) (Nat.lt_of_le_of_lt (Nat.div_le_self _ _) hb)
    rw [gcd_left a b hg] at C4
    have lx : a / Nat.gcd a b < 18446744073709551616 := Nat.lt_of_le_of_lt (Nat.div_le_self _ _) ha
    have ly : b / Nat.gcd a b < 18446744073709551616 := Nat.lt_of_le_of_lt (Nat.div_le_self _ _) hb
    have ma := Nat.mod_eq_zero_of_dvd (Nat.gcd_dvd_left a b)
    have mb := Nat.mod_eq_zero_of_dvd (Nat.gcd_dvd_right a b)
    exact gcd_go a b (Nat.gcd a b) _ _ ha hb hg (by rw [← Int.natCast_emod, ma]; rfl) (by rw [← Int.natCast_emod, mb]; rfl)
      (show ((a % Nat.gcd a b : Nat) : Int) = 0 by rw [ma]; rfl) (show ((b % Nat.gcd a b : Nat) : Int) = 0 by rw [mb]; rfl) (quo_gcd a _ ha) (quo_gcd b _ hb) rfl rfl lx ly C1 C2 C3 C4
end Go.Proofs.Ytbajkjekpgmmfaa
