/-
  The laws of logarithms and powers: the examples; what the chapter says.
-/
import Derived.Test.YtaofkoejlpchaaaExpoC
import Derived.Test.YtaofkoejlpchaaaExpoT
set_option linter.unusedVariables false
set_option linter.unusedSimpArgs false
namespace Go.Proofs.Ytaofkoejlpchaaa
open Go Go.RowKit Go.Th Go.Th.Root Go.Th.Wide Go.Th.Expo

set_option maxRecDepth 20000 in
set_option maxHeartbeats 3200000 in
theorem works_ok (C1 : Ans 8 #[.int .u64 8] (.tuple #[.int .i64 196608, .int .i64 0])) (C2 : Ans 8 #[.int .u64 3] (.tuple #[.int .i64 103872, .int .i64 0])) (C3 : Ans 8 #[.int .u64 0] (.tuple #[.int .i64 0, .int .i64 2]))
    (C4 : Ans 11 #[.int .i64 65536] (.tuple #[.int .u64 2147483648, .int .i64 0])) (C5 : Ans 11 #[.int .i64 32768] (.tuple #[.int .u64 3037000499, .int .i64 0])) (C6 : Ans 11 #[.int .i64 (-1)] (.tuple #[.int .u64 0, .int .i64 2])) (C7 : Ans 11 #[.int .i64 1099511627776] (.tuple #[.int .u64 0, .int .i64 0]))
    (C8 : Ans 13 #[.int .i64 327680, .int .i64 327680] (.int .i64 393216)) (C9 : Ans 15 #[.slice none 0 0] (.int .i64 (-9223372036854775808)))
    (C10 : ∀ (w : World), Calls Try.prog 15 #[.slice (some ⟨w.heap.size, 0, none⟩) 1 1] (w.alloc (.cells #[.int .i64 7] 2)) fun e w' => e = .returned (.int .i64 7) ∧ Below (w.alloc (.cells #[.int .i64 7] 2)).heap.size (w.alloc (.cells #[.int .i64 7] 2)) w')
    (C11 : Ans 13 #[.int .i64 9223372036854775807, .int .i64 9223372036854775807] (.int .i64 9223372036854775807)) :
    Ans 10 #[] (.bool true) := by
  intro w
  have M0 := Mem.start w
  go_enter Try.func10, Try.ntmps10
  go_wp2_with fail
  (refine (C1 _).mono ?_; rintro e w2 ⟨rfl, hBl⟩; replace M0 := M0.call hBl; clear hBl C1)
  go_wp2_with fail
  (refine (C2 _).mono ?_; rintro e w2 ⟨rfl, hBl⟩; replace M0 := M0.call hBl; clear hBl C2)
  go_wp2_with fail
  (refine (C3 _).mono ?_; rintro e w2 ⟨rfl, hBl⟩; replace M0 := M0.call hBl; clear hBl C3)
  go_wp2_with fail
  (refine (C4 _).mono ?_; rintro e w2 ⟨rfl, hBl⟩; replace M0 := M0.call hBl; clear hBl C4)
  go_wp2_with fail
  (refine (C5 _).mono ?_; rintro e w2 ⟨rfl, hBl⟩; replace M0 := M0.call hBl; clear hBl C5)
  go_wp2_with fail
  (refine (C6 _).mono ?_; rintro e w2 ⟨rfl, hBl⟩; replace M0 := M0.call hBl; clear hBl C6)
  go_wp2_with fail
  (refine (C7 _).mono ?_; rintro e w2 ⟨rfl, hBl⟩; replace M0 := M0.call hBl; clear hBl C7)
  go_wp2_with fail
  (refine (C8 _).mono ?_; rintro e w2 ⟨rfl, hBl⟩; replace M0 := M0.call hBl; clear hBl C8)
  go_wp2_with fail
  (refine (C9 _).mono ?_; rintro e w2 ⟨rfl, hBl⟩; replace M0 := M0.call hBl; clear hBl C9)
  go_wp2_with fail
  have M1 := (M0.alloc 2 [.int .i64 7]).bare
  (refine (C10 _).mono ?_; rintro e w3 ⟨rfl, hBl⟩; replace M1 := M1.call hBl; clear hBl C10 M0)
  go_wp2_with fail
  (refine (C11 _).mono ?_; rintro e w2 ⟨rfl, hBl⟩; replace M1 := M1.call hBl; clear hBl C11)
  go_wp2_with fail
  go_ret
  exact ⟨rfl, M1.below⟩
theorem works_any : Ans 10 #[] (.bool true) := by
  have C1 := Log_any 8 (by decide) (by decide)
  rw [logS_8] at C1
  have C2 := Log_any 3 (by decide) (by decide)
  rw [logS_3] at C2
  have C4 := Exp_any 65536 (by decide)
  rw [expS_one] at C4
  have C5 := Exp_any 32768 (by decide)
  rw [expS_half] at C5
  have C7 := Exp_any 1099511627776 (by decide)
  rw [expS_far] at C7
  have C8 := LogSum_any 327680 327680 (by decide) (by decide)
  rw [sumS_same _ (by decide)] at C8
  have C11 := LogSum_any 9223372036854775807 9223372036854775807 (by decide) (by decide)
  rw [sumS_top] at C11
  refine works_ok C1 C2 Log_0 C4 C5 (Exp_neg (-1) (by decide)) C7 C8 (fun w => ?_) (fun w => ?_) C11
  · exact LogSums_any [] (by simp) (by decide) none 0 w (Sl.nil w 1)
  · have C := LogSums_any [7] (by intro z hz; simp at hz; subst hz; exact ⟨by decide, by decide⟩) (by decide) (some ⟨w.heap.size, 0, none⟩) 1 _ (Sl.one w (.int .i64 7) 2)
    rw [show sums (-9223372036854775808) [7] = sumS (-9223372036854775808) 7 from rfl, sumS_min7] at C
    exact C

set_option maxRecDepth 20000 in
set_option maxHeartbeats 3200000 in
theorem logs_go (X R c : Int) (C1 : Ans 8 #[.int .u64 X] (.tuple #[.int .i64 R, .int .i64 c])) (C2 : Ans 9 #[.int .u64 X] (.tuple #[.int .i64 R, .int .i64 c])) (C3 : Ans 10 #[] (.bool true)) :
    Ans 3 #[.int .u64 X] (.bool true) := by
  intro w
  have b1 : (R == R) = true := beq_self_eq_true R
  have b2 : (c == c) = true := beq_self_eq_true c
  have M0 := Mem.start w
  go_enter Try.func3, Try.ntmps3
  go_wp2_with fail
  (refine (C1 _).mono ?_; rintro e w2 ⟨rfl, hBl⟩; replace M0 := M0.call hBl; clear hBl C1)
  go_wp2_with fail
  (refine (C2 _).mono ?_; rintro e w2 ⟨rfl, hBl⟩; replace M0 := M0.call hBl; clear hBl C2)
  go_wp2_with fail
  (refine (C3 _).mono ?_; rintro e w2 ⟨rfl, hBl⟩; replace M0 := M0.call hBl; clear hBl C3)
  go_wp2_with fail
  go_ret
  exact ⟨rfl, M0.below⟩
set_option maxRecDepth 20000 in
set_option maxHeartbeats 3200000 in
theorem powers_go (X R c : Int) (C1 : Ans 11 #[.int .i64 X] (.tuple #[.int .u64 R, .int .i64 c])) (C2 : Ans 12 #[.int .i64 X] (.tuple #[.int .u64 R, .int .i64 c])) (C3 : Ans 10 #[] (.bool true)) :
    Ans 5 #[.int .i64 X] (.bool true) := by
  intro w
  have b1 : (R == R) = true := beq_self_eq_true R
  have b2 : (c == c) = true := beq_self_eq_true c
  have M0 := Mem.start w
  go_enter Try.func5, Try.ntmps5
  go_wp2_with fail
  (refine (C1 _).mono ?_; rintro e w2 ⟨rfl, hBl⟩; replace M0 := M0.call hBl; clear hBl C1)
  go_wp2_with fail
  (refine (C2 _).mono ?_; rintro e w2 ⟨rfl, hBl⟩; replace M0 := M0.call hBl; clear hBl C2)
  go_wp2_with fail
  (refine (C3 _).mono ?_; rintro e w2 ⟨rfl, hBl⟩; replace M0 := M0.call hBl; clear hBl C3)
  go_wp2_with fail
  go_ret
  exact ⟨rfl, M0.below⟩
set_option maxRecDepth 20000 in
set_option maxHeartbeats 3200000 in
theorem rises_zero (X Y : Int) (h : X = 0 ∨ (¬ X = 0 ∧ Y = 0)) (C3 : Ans 10 #[] (.bool true)) :
    Ans 4 #[.int .u64 X, .int .u64 Y] (.bool true) := by
  intro w
  rcases h with rfl | ⟨h1, rfl⟩
  · have M0 := Mem.start w
    go_enter Try.func4, Try.ntmps4
    go_wp2_with fail
    (refine (C3 _).mono ?_; rintro e w2 ⟨rfl, hBl⟩; replace M0 := M0.call hBl; clear hBl C3)
    go_wp2_with fail
    go_ret
    exact ⟨rfl, M0.below⟩
  · have bX : (X == 0) = false := beq_eq_false_iff_ne.2 h1
    have M0 := Mem.start w
    go_enter Try.func4, Try.ntmps4
    go_wp2_with fail
    (refine (C3 _).mono ?_; rintro e w2 ⟨rfl, hBl⟩; replace M0 := M0.call hBl; clear hBl C3)
    go_wp2_with fail
    go_ret
    exact ⟨rfl, M0.below⟩
set_option maxRecDepth 20000 in
set_option maxHeartbeats 3200000 in
theorem rises_go (X Y a b : Int) (n : Nat) (hX : 0 ≤ X ∧ X < 18446744073709551616) (hY : 0 ≤ Y ∧ Y < 18446744073709551616) (bX : (X == 0) = false) (bY : (Y == 0) = false) (h : (X ≤ Y ∧ ¬ b < a) ∨ ¬ X ≤ Y) (ha0 : ¬ a < 0) (ha1 : ¬ 4194304 ≤ a) (en : a / 65536 = (n : Int)) (ex : X / 2 ^ n = 1) (hn : n < 64)
    (C1 : Ans 8 #[.int .u64 X] (.tuple #[.int .i64 a, .int .i64 0])) (C2 : Ans 8 #[.int .u64 Y] (.tuple #[.int .i64 b, .int .i64 0]))
    (hc : (X < 4611686018427387904 ∧ Ans 8 #[.int .u64 (2 * X)] (.tuple #[.int .i64 (a + 65536), .int .i64 0])) ∨ ¬ X < 4611686018427387904)
    (C4 : Ans 10 #[] (.bool true)) :
    Ans 4 #[.int .u64 X, .int .u64 Y] (.bool true) := by
  intro w
  rcases hc with ⟨h2, C3⟩ | h2
  · have b3 : (a + 65536 != a + 65536) = false := by simp
    rcases h with ⟨h, h'⟩ | h
    · have M0 := Mem.start w
      go_enter Try.func4, Try.ntmps4
      go_wp2_with fail
      (refine (C1 _).mono ?_; rintro e w2 ⟨rfl, hBl⟩; replace M0 := M0.call hBl; clear hBl C1)
      go_wp2_with fail
      (refine (C2 _).mono ?_; rintro e w2 ⟨rfl, hBl⟩; replace M0 := M0.call hBl; clear hBl C2)
      go_wp2_with fail
      (refine (C3 _).mono ?_; rintro e w2 ⟨rfl, hBl⟩; replace M0 := M0.call hBl; clear hBl C3)
      go_wp2_with fail
      (refine (C4 _).mono ?_; rintro e w2 ⟨rfl, hBl⟩; replace M0 := M0.call hBl; clear hBl C4)
      go_wp2_with fail
      go_ret
      exact ⟨rfl, M0.below⟩
    · have M0 := Mem.start w
      go_enter Try.func4, Try.ntmps4
      go_wp2_with fail
      (refine (C1 _).mono ?_; rintro e w2 ⟨rfl, hBl⟩; replace M0 := M0.call hBl; clear hBl C1)
      go_wp2_with fail
      (refine (C2 _).mono ?_; rintro e w2 ⟨rfl, hBl⟩; replace M0 := M0.call hBl; clear hBl C2)
      go_wp2_with fail
      (refine (C3 _).mono ?_; rintro e w2 ⟨rfl, hBl⟩; replace M0 := M0.call hBl; clear hBl C3)
      go_wp2_with fail
      (refine (C4 _).mono ?_; rintro e w2 ⟨rfl, hBl⟩; replace M0 := M0.call hBl; clear hBl C4)
      go_wp2_with fail
      go_ret
      exact ⟨rfl, M0.below⟩
  · rcases h with ⟨h, h'⟩ | h
    · have M0 := Mem.start w
      go_enter Try.func4, Try.ntmps4
      go_wp2_with fail
      (refine (C1 _).mono ?_; rintro e w2 ⟨rfl, hBl⟩; replace M0 := M0.call hBl; clear hBl C1)
      go_wp2_with fail
      (refine (C2 _).mono ?_; rintro e w2 ⟨rfl, hBl⟩; replace M0 := M0.call hBl; clear hBl C2)
      go_wp2_with fail
      (refine (C4 _).mono ?_; rintro e w2 ⟨rfl, hBl⟩; replace M0 := M0.call hBl; clear hBl C4)
      go_wp2_with fail
      go_ret
      exact ⟨rfl, M0.below⟩
    · have M0 := Mem.start w
      go_enter Try.func4, Try.ntmps4
      go_wp2_with fail
      (refine (C1 _).mono ?_; rintro e w2 ⟨rfl, hBl⟩; replace M0 := M0.call hBl; clear hBl C1)
      go_wp2_with fail
      (refine (C2 _).mono ?_; rintro e w2 ⟨rfl, hBl⟩; replace M0 := M0.call hBl; clear hBl C2)
      go_wp2_with fail
      (refine (C4 _).mono ?_; rintro e w2 ⟨rfl, hBl⟩; replace M0 := M0.call hBl; clear hBl C4)
      go_wp2_with fail
      go_ret
      exact ⟨rfl, M0.below⟩
set_option maxRecDepth 20000 in
set_option maxHeartbeats 3200000 in
theorem falls_out (X : Int) (n : Nat) (hn : n < 256) (h : X < 0 ∨ (¬ X < 0 ∧ 1099511627776 < X)) (C3 : Ans 10 #[] (.bool true)) :
    Ans 6 #[.int .i64 X, .int .u8 n] (.bool true) := by
  intro w
  rcases h with h | ⟨h, h'⟩
  · have M0 := Mem.start w
    go_enter Try.func6, Try.ntmps6
    go_wp2_with fail
    (refine (C3 _).mono ?_; rintro e w2 ⟨rfl, hBl⟩; replace M0 := M0.call hBl; clear hBl C3)
    go_wp2_with fail
    go_ret
    exact ⟨rfl, M0.below⟩
  · have M0 := Mem.start w
    go_enter Try.func6, Try.ntmps6
    go_wp2_with fail
    (refine (C3 _).mono ?_; rintro e w2 ⟨rfl, hBl⟩; replace M0 := M0.call hBl; clear hBl C3)
    go_wp2_with fail
    go_ret
    exact ⟨rfl, M0.below⟩
set_option maxRecDepth 20000 in
set_option maxHeartbeats 3200000 in
theorem falls_go (X a b : Int) (n : Nat) (hn : n < 256) (h1 : ¬ X < 0) (h2 : ¬ 1099511627776 < X) (ha0 : 0 ≤ a) (ha : a ≤ 4294967296) (eb : a / 2 ^ min n 64 = b) (h : (X = 0 ∧ a = 4294967296 ∧ Ans 11 #[.int .i64 ((n : Int) * 65536)] (.tuple #[.int .u64 b, .int .i64 0])) ∨ ¬ X = 0)
    (C1 : Ans 11 #[.int .i64 X] (.tuple #[.int .u64 a, .int .i64 0])) (C2 : Ans 11 #[.int .i64 (X + (n : Int) * 65536)] (.tuple #[.int .u64 b, .int .i64 0]))
    (C3 : Ans 10 #[] (.bool true)) :
    Ans 6 #[.int .i64 X, .int .u8 n] (.bool true) := by
  intro w
  have b1 : (b == b) = true := beq_self_eq_true b
  rcases h with ⟨rfl, rfl, C4⟩ | h
  · have M0 := Mem.start w
    go_enter Try.func6, Try.ntmps6
    go_wp2_with fail
    (refine (C1 _).mono ?_; rintro e w2 ⟨rfl, hBl⟩; replace M0 := M0.call hBl; clear hBl C1)
    go_wp2_with fail
    (refine (C4 _).mono ?_; rintro e w2 ⟨rfl, hBl⟩; replace M0 := M0.call hBl; clear hBl C4)
    go_wp2_with fail
    (refine (C3 _).mono ?_; rintro e w2 ⟨rfl, hBl⟩; replace M0 := M0.call hBl; clear hBl C3)
    go_wp2_with fail
    go_ret
    exact ⟨rfl, M0.below⟩
  · have bX : (X != 0) = true := by simpa using h
    have M0 := Mem.start w
    go_enter Try.func6, Try.ntmps6
    go_wp2_with fail
    (refine (C1 _).mono ?_; rintro e w2 ⟨rfl, hBl⟩; replace M0 := M0.call hBl; clear hBl C1)
    go_wp2_with fail
    (refine (C2 _).mono ?_; rintro e w2 ⟨rfl, hBl⟩; replace M0 := M0.call hBl; clear hBl C2)
    go_wp2_with fail
    (refine (C3 _).mono ?_; rintro e w2 ⟨rfl, hBl⟩; replace M0 := M0.call hBl; clear hBl C3)
    go_wp2_with fail
    go_ret
    exact ⟨rfl, M0.below⟩
theorem expoLogs_any (x : Nat) (hx : x < 18446744073709551616) (w : World) : Calls Try.prog 3 #[.int .u64 x] w fun e w' => e = .returned (.bool true) ∧ Below w.heap.size w w' := by
  rcases Nat.eq_zero_or_pos x with rfl | h
  · exact logs_go 0 0 2 Log_0 refLog_0 works_any w
  · exact logs_go x _ 0 (Log_any x h hx) (refLog_any x h hx) works_any w
theorem expoPowers_any (x : Int) (hx : -9223372036854775808 ≤ x ∧ x ≤ 9223372036854775807) (w : World) : Calls Try.prog 5 #[.int .i64 x] w fun e w' => e = .returned (.bool true) ∧ Below w.heap.size w w' := by
  by_cases h : x < 0
  · exact powers_go x 0 2 (Exp_neg x h) (refExp_neg x h) works_any w
  · obtain ⟨d, rfl⟩ : ∃ d : Nat, x = (d : Int) := ⟨x.toNat, by omega⟩
    exact powers_go d _ 0 (Exp_any d (by omega)) (refExp_any d (by omega)) works_any w
theorem expoRises_any (x y : Nat) (hx : x < 18446744073709551616) (hy : y < 18446744073709551616) (w : World) : Calls Try.prog 4 #[.int .u64 x, .int .u64 y] w fun e w' => e = .returned (.bool true) ∧ Below w.heap.size w w' := by
  by_cases h0 : x = 0 ∨ y = 0
  · exact rises_zero x y (by omega) works_any w
  · have x0 : 0 < x := by omega
    have y0 : 0 < y := by omega
    have l := logS_lt x0 hx
    have p := pl_63 x0 hx
    have s := logS_whole x
    have d := pl_div x0
    refine rises_go x y (logS x : Int) (logS y : Int) (pl x) (by omega) (by omega) (beq_eq_false_iff_ne.2 (by omega)) (beq_eq_false_iff_ne.2 (by omega)) ?_ (by omega) (by omega) (by omega) ?_ (by omega) (Log_any x x0 hx) (Log_any y y0 hy) ?_ works_any w
    · by_cases h : x ≤ y
      · have := logS_mono x0 h
        exact .inl ⟨by omega, by omega⟩
      · exact .inr (by omega)
    · have e : ((x / 2 ^ pl x : Nat) : Int) = 1 := by rw [d]; rfl
      simpa using e
    · by_cases h : x < 4611686018427387904
      · have C := Log_any (2 * x) (by omega) (by omega)
        rw [logS_twice x0 h] at C
        exact .inl ⟨by omega, C⟩
      · exact .inr (by omega)
theorem expoFalls_any (x : Int) (n : Nat) (hn : n < 256) (w : World) : Calls Try.prog 6 #[.int .i64 x, .int .u8 n] w fun e w' => e = .returned (.bool true) ∧ Below w.heap.size w w' := by
  by_cases h : x < 0 ∨ 1099511627776 < x
  · exact falls_out x n hn (by omega) works_any w
  · obtain ⟨d, rfl⟩ : ∃ d : Nat, x = (d : Int) := ⟨x.toNat, by omega⟩
    have a := expS_le d
    have f := expS_falls d n
    have C2 := Exp_any (d + n * 65536) (by omega)
    rw [f] at C2
    have e : (expS d : Int) / 2 ^ min n 64 = ((expS d / 2 ^ n : Nat) : Int) := by
      rcases Nat.le_total n 64 with h | h
      · rw [Nat.min_eq_left h]; simp
      · rw [Nat.min_eq_right h]
        have b := Nat.pow_le_pow_right (n := 2) (by decide) h
        rw [Nat.div_eq_of_lt (by omega)]
        omega
    refine falls_go d (expS d : Int) _ n hn (by omega) (by omega) (by omega) (by omega) e ?_ (Exp_any d (by omega)) C2 works_any w
    by_cases hd : d = 0
    · subst hd
      rw [Nat.zero_add] at C2
      exact .inl ⟨rfl, by rw [expS_0]; rfl, C2⟩
    · exact .inr (by omega)
end Go.Proofs.Ytaofkoejlpchaaa
