/-
  Numbers of 128 bits: the product.
-/
import Derived.Test.YtaofkoejlpchaaaWideA
import Derived.Lib.Mul64
import Derived.Laws.Bits64b
set_option linter.unusedVariables false
set_option linter.unusedSimpArgs false
namespace Go.Proofs.Ytaofkoejlpchaaa
open Go Go.RowKit Go.Th Go.Th.Wide

theorem low32 (a : Nat) (ha : a < 18446744073709551616) : bits .and .u64 (a : Int) 4294967295 = ((a % 4294967296 : Nat) : Int) := by
  have h := bits_and_u64_nat a 4294967295 ha (by omega)
  have e : a &&& 4294967295 = a % 4294967296 := Nat.and_two_pow_sub_one_eq_mod a 32
  rw [e] at h
  exact h
theorem high32 (a : Nat) : (a : Int) / 4294967296 = ((a / 4294967296 : Nat) : Int) := by omega
theorem times (a b : Nat) : (a : Int) * (b : Int) = ((a * b : Nat) : Int) := (Int.natCast_mul a b).symm
theorem plus (a b : Nat) : (a : Int) + (b : Int) = ((a + b : Nat) : Int) := (Int.natCast_add a b).symm
theorem held (a : Nat) (ha : a < 18446744073709551616) : IntKind.u64.wrap (a : Int) = (a : Int) := by rw [IntKind.wrap_u64]; omega
theorem turnedW (a : Nat) : IntKind.u64.wrap (a : Int) = ((a % 18446744073709551616 : Nat) : Int) := by rw [IntKind.wrap_u64]; omega

set_option maxHeartbeats 1600000 in
theorem Mul64_any (x y : Nat) (hx : x < 18446744073709551616) (hy : y < 18446744073709551616) (w : World) :
    Calls Try.prog 33 #[.int .u64 x, .int .u64 y] w fun e w' => e = .returned (.tuple #[.int .u64 ((x * y / 18446744073709551616 : Nat) : Int), .int .u64 ((x * y % 18446744073709551616 : Nat) : Int)]) ∧ w = w' := by
  obtain ⟨bd, bt, bw, hhi⟩ := Lib.mul64_hi x y hx hy
  have ba := Lib.half_mul_le (a := x / 4294967296) (b := y / 4294967296) (by omega) (by omega)
  have bb := Lib.half_mul_le (a := x / 4294967296) (b := y % 4294967296) (by omega) (by omega)
  have bc := Lib.half_mul_le (a := x % 4294967296) (b := y / 4294967296) (by omega) (by omega)
  have ba' : x / 4294967296 * (y / 4294967296) < 18446744073709551616 := by omega
  have bb' : x / 4294967296 * (y % 4294967296) < 18446744073709551616 := by omega
  have bc' : x % 4294967296 * (y / 4294967296) < 18446744073709551616 := by omega
  have bh1 : x / 4294967296 * (y / 4294967296) + (x / 4294967296 * (y % 4294967296) + x % 4294967296 * (y % 4294967296) / 4294967296) / 4294967296 < 18446744073709551616 := by omega
  have bh : x / 4294967296 * (y / 4294967296) + (x / 4294967296 * (y % 4294967296) + x % 4294967296 * (y % 4294967296) / 4294967296) / 4294967296 + ((x / 4294967296 * (y % 4294967296) + x % 4294967296 * (y % 4294967296) / 4294967296) % 4294967296 + x % 4294967296 * (y / 4294967296)) / 4294967296 < 18446744073709551616 := by omega
  go_enter Try.func33, Try.ntmps33
  go_wp2
  simp only [low32 x hx, low32 y hy, high32, times, plus, held _ bd, held _ bb', held _ bt, low32 _ bt, held _ bc', held _ bw, held _ ba', held _ bh1, held _ bh, turnedW (x * y)]
  rw [hhi]
  go_ret2
  exact ⟨rfl, rfl⟩

/-- The product's upper half: by the factors as words without a sign. -/
theorem mul_hi (a b : Int) (ha : -9223372036854775808 ≤ a ∧ a ≤ 9223372036854775807) (hb : -9223372036854775808 ≤ b ∧ b ≤ 9223372036854775807) (A B : Nat)
    (hA : (A : Int) = a % 18446744073709551616) (hB : (B : Int) = b % 18446744073709551616) :
    wrap64 (((A * B / 18446744073709551616 : Nat) : Int) - (if a < 0 then b else 0) - (if b < 0 then a else 0)) = a * b / 18446744073709551616 ∧
      ((A * B % 18446744073709551616 : Nat) : Int) = a * b % 18446744073709551616 := by
  have ea : (A : Int) = a + 18446744073709551616 * (if a < 0 then 1 else 0) := by split <;> omega
  have eb : (B : Int) = b + 18446744073709551616 * (if b < 0 then 1 else 0) := by split <;> omega
  have hp : ((A * B : Nat) : Int) = a * b + 18446744073709551616 * ((if a < 0 then b else 0) + (if b < 0 then a else 0)) + 18446744073709551616 * (18446744073709551616 * (if a < 0 ∧ b < 0 then 1 else 0)) := by
    rw [Int.natCast_mul, ea, eb]
    by_cases h1 : a < 0 <;> by_cases h2 : b < 0
    · simp only [h1, h2, if_true, and_self]; rw [Int.add_mul, Int.mul_add]; omega
    · simp only [h1, h2, if_true, if_false, and_false]; rw [Int.add_mul, Int.mul_add]; omega
    · simp only [h1, h2, if_true, if_false, false_and]; rw [Int.add_mul, Int.mul_add]; omega
    · simp only [h1, h2, if_false, false_and]; rw [Int.add_mul, Int.mul_add]; omega
  have bnd : -85070591730234615865843651857942052864 ≤ a * b ∧ a * b ≤ 85070591730234615865843651857942052864 := by
    have h := Nat.mul_le_mul (show a.natAbs ≤ 9223372036854775808 by omega) (show b.natAbs ≤ 9223372036854775808 by omega)
    rw [← Int.natAbs_mul] at h
    omega
  generalize a * b = p at *
  generalize A * B = P at *
  simp only [wrap64]
  refine ⟨?_, ?_⟩
  · by_cases h1 : a < 0 <;> by_cases h2 : b < 0 <;> simp only [h1, h2, if_true, if_false, and_self, and_false, false_and] at hp ⊢ <;> omega
  · by_cases h1 : a < 0 <;> by_cases h2 : b < 0 <;> simp only [h1, h2, if_true, if_false, and_self, and_false, false_and] at hp ⊢ <;> omega

theorem wrap_sub (x y : Int) : wrap64 (wrap64 x - y) = wrap64 (x - y) := by simp only [wrap64]; omega
set_option maxRecDepth 20000 in
set_option maxHeartbeats 1600000 in
theorem Mul_any (a b : Int) (ha : -9223372036854775808 ≤ a ∧ a ≤ 9223372036854775807) (hb : -9223372036854775808 ≤ b ∧ b ≤ 9223372036854775807) (w : World) :
    Calls Try.prog 25 #[.int .i64 a, .int .i64 b] w fun e w' => e = .returned (.agg #[.int .i64 (hiZ (a * b)), .int .u64 (loZ (a * b))]) ∧ Below w.heap.size w w' := by
  obtain ⟨A, hA⟩ := Int.eq_ofNat_of_zero_le (show 0 ≤ a % 18446744073709551616 by omega)
  obtain ⟨B, hB⟩ := Int.eq_ofNat_of_zero_le (show 0 ≤ b % 18446744073709551616 by omega)
  obtain ⟨e1, e2⟩ := mul_hi a b ha hb A B hA.symm hB.symm
  have C := Mul64_any A B (by omega) (by omega)
  have hP : A * B / 18446744073709551616 < 18446744073709551616 := by
    rw [Nat.div_lt_iff_lt_mul (by decide)]
    exact Nat.lt_of_le_of_lt (Nat.mul_le_mul (show A ≤ 18446744073709551615 by omega) (show B ≤ 18446744073709551615 by omega)) (by decide)
  obtain ⟨H, hH⟩ : ∃ H, H = A * B / 18446744073709551616 := ⟨_, rfl⟩
  obtain ⟨L, hL⟩ : ∃ L, L = A * B % 18446744073709551616 := ⟨_, rfl⟩
  have hL2 : L < 18446744073709551616 := by rw [hL]; exact Nat.mod_lt _ (by decide)
  rw [← hH] at e1 C hP
  rw [← hL] at e2 C
  unfold hiZ loZ
  rw [← e1, ← e2]
  have wa : IntKind.u64.wrap a = (A : Int) := by rw [IntKind.wrap_u64]; exact hA
  have wb : IntKind.u64.wrap b = (B : Int) := by rw [IntKind.wrap_u64]; exact hB
  clear hA hB e1 e2 hH hL
  have M0 := Mem.start w
  by_cases h1 : a < 0 <;> by_cases h2 : b < 0
  · have d1 : decide (a < 0) = true := by simpa using h1
    have d2 : decide (b < 0) = true := by simpa using h2
    rw [if_pos h1, if_pos h2]
    clear h1 h2
    go_enter Try.func25, Try.ntmps25
    go_wp2_with ((with_reducible refine (?_ : Go.wpList _ _ _ (_ :: _) _ _)); (first | go_skip | (refine wpL_bx M0 rfl rfl rfl rfl ?_; clear M0; intro g1 w1 M1) | (refine wpL_al M0 rfl rfl zero25 rfl ?_; clear M0; intro g1 w1 M1) | (refine wpL_ld M0 rfl rfl rfl (by repeat (first | exact Has.head _ _ _ _ | apply Has.tail)) (by first | exact rd_w _ _ | exact rd_hi _ _ | exact rd_lo _ _ | assumption) ?_) | (refine wpL_ldg M0 rfl rfl rfl (by repeat (first | exact Has.head _ _ _ _ | apply Has.tail)) (by first | exact rd_w _ _ | exact rd_hi _ _ | exact rd_lo _ _ | assumption) ?_) | (refine wpL_st M0 rfl rfl rfl rfl (by repeat (first | exact Has.head _ _ _ _ | apply Has.tail)) (by first | exact wr_w _ rfl _ _ | exact wr_hi _ _ _ | assumption) (by repeat (first | exact Upd.head _ _ _ _ _ | apply Upd.tail)) ?_; clear M0; intro w' M0) | (refine wpL_ld M1 rfl rfl rfl (by repeat (first | exact Has.head _ _ _ _ | apply Has.tail)) (by first | exact rd_w _ _ | exact rd_hi _ _ | exact rd_lo _ _ | assumption) ?_) | (refine wpL_ldg M1 rfl rfl rfl (by repeat (first | exact Has.head _ _ _ _ | apply Has.tail)) (by first | exact rd_w _ _ | exact rd_hi _ _ | exact rd_lo _ _ | assumption) ?_) | (refine wpL_st M1 rfl rfl rfl rfl (by repeat (first | exact Has.head _ _ _ _ | apply Has.tail)) (by first | exact wr_w _ rfl _ _ | exact wr_hi _ _ _ | assumption) (by repeat (first | exact Upd.head _ _ _ _ _ | apply Upd.tail)) ?_; clear M1; intro w' M1)))
    refine (C _).mono ?_
    rintro e w2 ⟨rfl, rfl⟩
    clear C
    go_wp2_with ((with_reducible refine (?_ : Go.wpList _ _ _ (_ :: _) _ _)); (first | go_skip | (refine wpL_bx M1 rfl rfl rfl rfl ?_; clear M1; intro g2 w2 M2) | (refine wpL_al M1 rfl rfl zero25 rfl ?_; clear M1; intro g2 w2 M2) | (refine wpL_ld M1 rfl rfl rfl (by repeat (first | exact Has.head _ _ _ _ | apply Has.tail)) (by first | exact rd_w _ _ | exact rd_hi _ _ | exact rd_lo _ _ | assumption) ?_) | (refine wpL_ldg M1 rfl rfl rfl (by repeat (first | exact Has.head _ _ _ _ | apply Has.tail)) (by first | exact rd_w _ _ | exact rd_hi _ _ | exact rd_lo _ _ | assumption) ?_) | (refine wpL_st M1 rfl rfl rfl rfl (by repeat (first | exact Has.head _ _ _ _ | apply Has.tail)) (by first | exact wr_w _ rfl _ _ | exact wr_hi _ _ _ | assumption) (by repeat (first | exact Upd.head _ _ _ _ _ | apply Upd.tail)) ?_; clear M1; intro w' M1) | (refine wpL_ld M2 rfl rfl rfl (by repeat (first | exact Has.head _ _ _ _ | apply Has.tail)) (by first | exact rd_w _ _ | exact rd_hi _ _ | exact rd_lo _ _ | assumption) ?_) | (refine wpL_ldg M2 rfl rfl rfl (by repeat (first | exact Has.head _ _ _ _ | apply Has.tail)) (by first | exact rd_w _ _ | exact rd_hi _ _ | exact rd_lo _ _ | assumption) ?_) | (refine wpL_st M2 rfl rfl rfl rfl (by repeat (first | exact Has.head _ _ _ _ | apply Has.tail)) (by first | exact wr_w _ rfl _ _ | exact wr_hi _ _ _ | assumption) (by repeat (first | exact Upd.head _ _ _ _ _ | apply Upd.tail)) ?_; clear M2; intro w' M2)))
    ((try simp only [Exit.inBlock, Exit.then]); refine bodyPost_ret (res_cell rfl M2 rfl (by repeat (first | exact Has.head _ _ _ _ | apply Has.tail)) (by first | exact rd_w _ _ | exact rd_hi _ _ | exact rd_lo _ _ | assumption)) rfl ?_)
    exact ⟨ret_agg (by simp only [wrap_sub, Int.sub_zero]) rfl, M2.below⟩
  · have d1 : decide (a < 0) = true := by simpa using h1
    have d2 : decide (b < 0) = false := by simpa using h2
    rw [if_pos h1, if_neg h2]
    clear h1 h2
    go_enter Try.func25, Try.ntmps25
    go_wp2_with ((with_reducible refine (?_ : Go.wpList _ _ _ (_ :: _) _ _)); (first | go_skip | (refine wpL_bx M0 rfl rfl rfl rfl ?_; clear M0; intro g1 w1 M1) | (refine wpL_al M0 rfl rfl zero25 rfl ?_; clear M0; intro g1 w1 M1) | (refine wpL_ld M0 rfl rfl rfl (by repeat (first | exact Has.head _ _ _ _ | apply Has.tail)) (by first | exact rd_w _ _ | exact rd_hi _ _ | exact rd_lo _ _ | assumption) ?_) | (refine wpL_ldg M0 rfl rfl rfl (by repeat (first | exact Has.head _ _ _ _ | apply Has.tail)) (by first | exact rd_w _ _ | exact rd_hi _ _ | exact rd_lo _ _ | assumption) ?_) | (refine wpL_st M0 rfl rfl rfl rfl (by repeat (first | exact Has.head _ _ _ _ | apply Has.tail)) (by first | exact wr_w _ rfl _ _ | exact wr_hi _ _ _ | assumption) (by repeat (first | exact Upd.head _ _ _ _ _ | apply Upd.tail)) ?_; clear M0; intro w' M0) | (refine wpL_ld M1 rfl rfl rfl (by repeat (first | exact Has.head _ _ _ _ | apply Has.tail)) (by first | exact rd_w _ _ | exact rd_hi _ _ | exact rd_lo _ _ | assumption) ?_) | (refine wpL_ldg M1 rfl rfl rfl (by repeat (first | exact Has.head _ _ _ _ | apply Has.tail)) (by first | exact rd_w _ _ | exact rd_hi _ _ | exact rd_lo _ _ | assumption) ?_) | (refine wpL_st M1 rfl rfl rfl rfl (by repeat (first | exact Has.head _ _ _ _ | apply Has.tail)) (by first | exact wr_w _ rfl _ _ | exact wr_hi _ _ _ | assumption) (by repeat (first | exact Upd.head _ _ _ _ _ | apply Upd.tail)) ?_; clear M1; intro w' M1)))
    refine (C _).mono ?_
    rintro e w2 ⟨rfl, rfl⟩
    clear C
    go_wp2_with ((with_reducible refine (?_ : Go.wpList _ _ _ (_ :: _) _ _)); (first | go_skip | (refine wpL_bx M1 rfl rfl rfl rfl ?_; clear M1; intro g2 w2 M2) | (refine wpL_al M1 rfl rfl zero25 rfl ?_; clear M1; intro g2 w2 M2) | (refine wpL_ld M1 rfl rfl rfl (by repeat (first | exact Has.head _ _ _ _ | apply Has.tail)) (by first | exact rd_w _ _ | exact rd_hi _ _ | exact rd_lo _ _ | assumption) ?_) | (refine wpL_ldg M1 rfl rfl rfl (by repeat (first | exact Has.head _ _ _ _ | apply Has.tail)) (by first | exact rd_w _ _ | exact rd_hi _ _ | exact rd_lo _ _ | assumption) ?_) | (refine wpL_st M1 rfl rfl rfl rfl (by repeat (first | exact Has.head _ _ _ _ | apply Has.tail)) (by first | exact wr_w _ rfl _ _ | exact wr_hi _ _ _ | assumption) (by repeat (first | exact Upd.head _ _ _ _ _ | apply Upd.tail)) ?_; clear M1; intro w' M1) | (refine wpL_ld M2 rfl rfl rfl (by repeat (first | exact Has.head _ _ _ _ | apply Has.tail)) (by first | exact rd_w _ _ | exact rd_hi _ _ | exact rd_lo _ _ | assumption) ?_) | (refine wpL_ldg M2 rfl rfl rfl (by repeat (first | exact Has.head _ _ _ _ | apply Has.tail)) (by first | exact rd_w _ _ | exact rd_hi _ _ | exact rd_lo _ _ | assumption) ?_) | (refine wpL_st M2 rfl rfl rfl rfl (by repeat (first | exact Has.head _ _ _ _ | apply Has.tail)) (by first | exact wr_w _ rfl _ _ | exact wr_hi _ _ _ | assumption) (by repeat (first | exact Upd.head _ _ _ _ _ | apply Upd.tail)) ?_; clear M2; intro w' M2)))
    ((try simp only [Exit.inBlock, Exit.then]); refine bodyPost_ret (res_cell rfl M2 rfl (by repeat (first | exact Has.head _ _ _ _ | apply Has.tail)) (by first | exact rd_w _ _ | exact rd_hi _ _ | exact rd_lo _ _ | assumption)) rfl ?_)
    exact ⟨ret_agg (by simp only [wrap_sub, Int.sub_zero]) rfl, M2.below⟩
  · have d1 : decide (a < 0) = false := by simpa using h1
    have d2 : decide (b < 0) = true := by simpa using h2
    rw [if_neg h1, if_pos h2]
    clear h1 h2
    go_enter Try.func25, Try.ntmps25
    go_wp2_with ((with_reducible refine (?_ : Go.wpList _ _ _ (_ :: _) _ _)); (first | go_skip | (refine wpL_bx M0 rfl rfl rfl rfl ?_; clear M0; intro g1 w1 M1) | (refine wpL_al M0 rfl rfl zero25 rfl ?_; clear M0; intro g1 w1 M1) | (refine wpL_ld M0 rfl rfl rfl (by repeat (first | exact Has.head _ _ _ _ | apply Has.tail)) (by first | exact rd_w _ _ | exact rd_hi _ _ | exact rd_lo _ _ | assumption) ?_) | (refine wpL_ldg M0 rfl rfl rfl (by repeat (first | exact Has.head _ _ _ _ | apply Has.tail)) (by first | exact rd_w _ _ | exact rd_hi _ _ | exact rd_lo _ _ | assumption) ?_) | (refine wpL_st M0 rfl rfl rfl rfl (by repeat (first | exact Has.head _ _ _ _ | apply Has.tail)) (by first | exact wr_w _ rfl _ _ | exact wr_hi _ _ _ | assumption) (by repeat (first | exact Upd.head _ _ _ _ _ | apply Upd.tail)) ?_; clear M0; intro w' M0) | (refine wpL_ld M1 rfl rfl rfl (by repeat (first | exact Has.head _ _ _ _ | apply Has.tail)) (by first | exact rd_w _ _ | exact rd_hi _ _ | exact rd_lo _ _ | assumption) ?_) | (refine wpL_ldg M1 rfl rfl rfl (by repeat (first | exact Has.head _ _ _ _ | apply Has.tail)) (by first | exact rd_w _ _ | exact rd_hi _ _ | exact rd_lo _ _ | assumption) ?_) | (refine wpL_st M1 rfl rfl rfl rfl (by repeat (first | exact Has.head _ _ _ _ | apply Has.tail)) (by first | exact wr_w _ rfl _ _ | exact wr_hi _ _ _ | assumption) (by repeat (first | exact Upd.head _ _ _ _ _ | apply Upd.tail)) ?_; clear M1; intro w' M1)))
    refine (C _).mono ?_
    rintro e w2 ⟨rfl, rfl⟩
    clear C
    go_wp2_with ((with_reducible refine (?_ : Go.wpList _ _ _ (_ :: _) _ _)); (first | go_skip | (refine wpL_bx M1 rfl rfl rfl rfl ?_; clear M1; intro g2 w2 M2) | (refine wpL_al M1 rfl rfl zero25 rfl ?_; clear M1; intro g2 w2 M2) | (refine wpL_ld M1 rfl rfl rfl (by repeat (first | exact Has.head _ _ _ _ | apply Has.tail)) (by first | exact rd_w _ _ | exact rd_hi _ _ | exact rd_lo _ _ | assumption) ?_) | (refine wpL_ldg M1 rfl rfl rfl (by repeat (first | exact Has.head _ _ _ _ | apply Has.tail)) (by first | exact rd_w _ _ | exact rd_hi _ _ | exact rd_lo _ _ | assumption) ?_) | (refine wpL_st M1 rfl rfl rfl rfl (by repeat (first | exact Has.head _ _ _ _ | apply Has.tail)) (by first | exact wr_w _ rfl _ _ | exact wr_hi _ _ _ | assumption) (by repeat (first | exact Upd.head _ _ _ _ _ | apply Upd.tail)) ?_; clear M1; intro w' M1) | (refine wpL_ld M2 rfl rfl rfl (by repeat (first | exact Has.head _ _ _ _ | apply Has.tail)) (by first | exact rd_w _ _ | exact rd_hi _ _ | exact rd_lo _ _ | assumption) ?_) | (refine wpL_ldg M2 rfl rfl rfl (by repeat (first | exact Has.head _ _ _ _ | apply Has.tail)) (by first | exact rd_w _ _ | exact rd_hi _ _ | exact rd_lo _ _ | assumption) ?_) | (refine wpL_st M2 rfl rfl rfl rfl (by repeat (first | exact Has.head _ _ _ _ | apply Has.tail)) (by first | exact wr_w _ rfl _ _ | exact wr_hi _ _ _ | assumption) (by repeat (first | exact Upd.head _ _ _ _ _ | apply Upd.tail)) ?_; clear M2; intro w' M2)))
    ((try simp only [Exit.inBlock, Exit.then]); refine bodyPost_ret (res_cell rfl M2 rfl (by repeat (first | exact Has.head _ _ _ _ | apply Has.tail)) (by first | exact rd_w _ _ | exact rd_hi _ _ | exact rd_lo _ _ | assumption)) rfl ?_)
    exact ⟨ret_agg (by simp only [wrap_sub, Int.sub_zero]) rfl, M2.below⟩
  · have d1 : decide (a < 0) = false := by simpa using h1
    have d2 : decide (b < 0) = false := by simpa using h2
    rw [if_neg h1, if_neg h2]
    clear h1 h2
    go_enter Try.func25, Try.ntmps25
    go_wp2_with ((with_reducible refine (?_ : Go.wpList _ _ _ (_ :: _) _ _)); (first | go_skip | (refine wpL_bx M0 rfl rfl rfl rfl ?_; clear M0; intro g1 w1 M1) | (refine wpL_al M0 rfl rfl zero25 rfl ?_; clear M0; intro g1 w1 M1) | (refine wpL_ld M0 rfl rfl rfl (by repeat (first | exact Has.head _ _ _ _ | apply Has.tail)) (by first | exact rd_w _ _ | exact rd_hi _ _ | exact rd_lo _ _ | assumption) ?_) | (refine wpL_ldg M0 rfl rfl rfl (by repeat (first | exact Has.head _ _ _ _ | apply Has.tail)) (by first | exact rd_w _ _ | exact rd_hi _ _ | exact rd_lo _ _ | assumption) ?_) | (refine wpL_st M0 rfl rfl rfl rfl (by repeat (first | exact Has.head _ _ _ _ | apply Has.tail)) (by first | exact wr_w _ rfl _ _ | exact wr_hi _ _ _ | assumption) (by repeat (first | exact Upd.head _ _ _ _ _ | apply Upd.tail)) ?_; clear M0; intro w' M0) | (refine wpL_ld M1 rfl rfl rfl (by repeat (first | exact Has.head _ _ _ _ | apply Has.tail)) (by first | exact rd_w _ _ | exact rd_hi _ _ | exact rd_lo _ _ | assumption) ?_) | (refine wpL_ldg M1 rfl rfl rfl (by repeat (first | exact Has.head _ _ _ _ | apply Has.tail)) (by first | exact rd_w _ _ | exact rd_hi _ _ | exact rd_lo _ _ | assumption) ?_) | (refine wpL_st M1 rfl rfl rfl rfl (by repeat (first | exact Has.head _ _ _ _ | apply Has.tail)) (by first | exact wr_w _ rfl _ _ | exact wr_hi _ _ _ | assumption) (by repeat (first | exact Upd.head _ _ _ _ _ | apply Upd.tail)) ?_; clear M1; intro w' M1)))
    refine (C _).mono ?_
    rintro e w2 ⟨rfl, rfl⟩
    clear C
    go_wp2_with ((with_reducible refine (?_ : Go.wpList _ _ _ (_ :: _) _ _)); (first | go_skip | (refine wpL_bx M1 rfl rfl rfl rfl ?_; clear M1; intro g2 w2 M2) | (refine wpL_al M1 rfl rfl zero25 rfl ?_; clear M1; intro g2 w2 M2) | (refine wpL_ld M1 rfl rfl rfl (by repeat (first | exact Has.head _ _ _ _ | apply Has.tail)) (by first | exact rd_w _ _ | exact rd_hi _ _ | exact rd_lo _ _ | assumption) ?_) | (refine wpL_ldg M1 rfl rfl rfl (by repeat (first | exact Has.head _ _ _ _ | apply Has.tail)) (by first | exact rd_w _ _ | exact rd_hi _ _ | exact rd_lo _ _ | assumption) ?_) | (refine wpL_st M1 rfl rfl rfl rfl (by repeat (first | exact Has.head _ _ _ _ | apply Has.tail)) (by first | exact wr_w _ rfl _ _ | exact wr_hi _ _ _ | assumption) (by repeat (first | exact Upd.head _ _ _ _ _ | apply Upd.tail)) ?_; clear M1; intro w' M1) | (refine wpL_ld M2 rfl rfl rfl (by repeat (first | exact Has.head _ _ _ _ | apply Has.tail)) (by first | exact rd_w _ _ | exact rd_hi _ _ | exact rd_lo _ _ | assumption) ?_) | (refine wpL_ldg M2 rfl rfl rfl (by repeat (first | exact Has.head _ _ _ _ | apply Has.tail)) (by first | exact rd_w _ _ | exact rd_hi _ _ | exact rd_lo _ _ | assumption) ?_) | (refine wpL_st M2 rfl rfl rfl rfl (by repeat (first | exact Has.head _ _ _ _ | apply Has.tail)) (by first | exact wr_w _ rfl _ _ | exact wr_hi _ _ _ | assumption) (by repeat (first | exact Upd.head _ _ _ _ _ | apply Upd.tail)) ?_; clear M2; intro w' M2)))
    ((try simp only [Exit.inBlock, Exit.then]); refine bodyPost_ret (res_cell rfl M2 rfl (by repeat (first | exact Has.head _ _ _ _ | apply Has.tail)) (by first | exact rd_w _ _ | exact rd_hi _ _ | exact rd_lo _ _ | assumption)) rfl ?_)
    exact ⟨ret_agg (by simp only [wrap_sub, Int.sub_zero]) rfl, M2.below⟩
end Go.Proofs.Ytaofkoejlpchaaa
