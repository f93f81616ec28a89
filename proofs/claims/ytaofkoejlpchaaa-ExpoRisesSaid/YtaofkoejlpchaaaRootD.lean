/-
  Roots of numbers of 128 bits, from the highest bit down.
-/
import Derived.Test.YtaofkoejlpchaaaRootC
set_option linter.unusedVariables false
set_option linter.unusedSimpArgs false
namespace Go.Proofs.Ytaofkoejlpchaaa
open Go Go.RowKit Go.Th Go.Th.Root Go.Th.Wide

set_option maxRecDepth 20000 in
set_option maxHeartbeats 1600000 in
theorem wide_neg (h l : Int) (s : Int) (hs : s < 0) (C1 : Ans 38 #[wv h l] (.int .i64 s)) : Ans 29 #[wv h l] (.int .u64 0) := by
  intro w
  have M0 := Mem.start w
  go_enter Try.func29, Try.ntmps29
  go_wp2_with ((with_reducible refine (?_ : Go.wpList _ _ _ (_ :: _) _ _)); (first | go_skip | (refine wpL_bx M0 rfl rfl rfl rfl ?_; clear M0; intro g1 w1 M1) | (refine wpL_al M0 rfl rfl zero25 rfl ?_; clear M0; intro g1 w1 M1) | (refine wpL_ld M0 rfl rfl rfl (by repeat (first | exact Has.head _ _ _ _ | apply Has.tail)) (by first | exact rd_w _ _ | exact rd_hi _ _ | exact rd_lo _ _ | assumption) ?_) | (refine wpL_ldg M0 rfl rfl rfl (by repeat (first | exact Has.head _ _ _ _ | apply Has.tail)) (by first | exact rd_w _ _ | exact rd_hi _ _ | exact rd_lo _ _ | assumption) ?_) | (refine wpL_st M0 rfl rfl rfl rfl (by repeat (first | exact Has.head _ _ _ _ | apply Has.tail)) (by first | exact wr_w _ rfl _ _ | exact wr_hi _ _ _ | assumption) (by repeat (first | exact Upd.head _ _ _ _ _ | apply Upd.tail)) ?_; clear M0; intro w' M0) | (refine wpL_ld M1 rfl rfl rfl (by repeat (first | exact Has.head _ _ _ _ | apply Has.tail)) (by first | exact rd_w _ _ | exact rd_hi _ _ | exact rd_lo _ _ | assumption) ?_) | (refine wpL_ldg M1 rfl rfl rfl (by repeat (first | exact Has.head _ _ _ _ | apply Has.tail)) (by first | exact rd_w _ _ | exact rd_hi _ _ | exact rd_lo _ _ | assumption) ?_) | (refine wpL_st M1 rfl rfl rfl rfl (by repeat (first | exact Has.head _ _ _ _ | apply Has.tail)) (by first | exact wr_w _ rfl _ _ | exact wr_hi _ _ _ | assumption) (by repeat (first | exact Upd.head _ _ _ _ _ | apply Upd.tail)) ?_; clear M1; intro w' M1)))
  (refine (C1 _).mono ?_; rintro e w2 ⟨rfl, hBl⟩; replace M1 := M1.call hBl; clear hBl C1)
  go_wp2_with ((with_reducible refine (?_ : Go.wpList _ _ _ (_ :: _) _ _)); (first | go_skip | (refine wpL_ld M1 rfl rfl rfl (by repeat (first | exact Has.head _ _ _ _ | apply Has.tail)) (by first | exact rd_w _ _ | exact rd_hi _ _ | exact rd_lo _ _ | assumption) ?_) | (refine wpL_ldg M1 rfl rfl rfl (by repeat (first | exact Has.head _ _ _ _ | apply Has.tail)) (by first | exact rd_w _ _ | exact rd_hi _ _ | exact rd_lo _ _ | assumption) ?_) | (refine wpL_st M1 rfl rfl rfl rfl (by repeat (first | exact Has.head _ _ _ _ | apply Has.tail)) (by first | exact wr_w _ rfl _ _ | exact wr_hi _ _ _ | assumption) (by repeat (first | exact Upd.head _ _ _ _ _ | apply Upd.tail)) ?_; clear M1; intro w' M1)))
  go_ret
  exact ⟨rfl, M1.below⟩

theorem or_u (a b : Nat) (ha : a < 2 ^ 64) (hb : b < 2 ^ 64) : bits .or .u64 (a : Int) (b : Int) = ((a ||| b : Nat) : Int) := bits_or_u64_nat a b ha hb
theorem shl_u (i : Nat) (h : 2 ^ i < 2 ^ 64) : IntKind.u64.wrap ((2 : Int) ^ i) = ((2 ^ i : Nat) : Int) := by
  have e : (2 : Int) ^ i = ((2 ^ i : Nat) : Int) := by simp
  rw [e, IntKind.wrap_u64]
  generalize 2 ^ i = P at h
  omega
theorem tried_u (i r : Nat) (hr : r < 2 ^ 64) (hi : 2 ^ i < 2 ^ 64) : bits .or .u64 (r : Int) (IntKind.u64.wrap ((2 : Int) ^ i)) = ((r ||| 2 ^ i : Nat) : Int) := by rw [shl_u i hi, or_u _ _ hr hi]

set_option maxRecDepth 20000 in
set_option maxHeartbeats 1600000 in
theorem wide_go (h l n s R : Nat) (g : Int) (hg : ¬ g < 0) (hn : n ≤ 127) (hs : s ≤ 64) (hR : R / 2 ^ s = 0) (C1 : Ans 38 #[wv h l] (.int .i64 g))
    (C2 : Ans 40 #[wv h l] (.int .i64 n)) (C3 : Ans 39 #[.int .i64 n, .int .i64 2] (.int .i64 s))
    (C4 : ∀ v : Nat, v < 2 ^ 64 → Ans 41 #[.int .u64 v, wv h l] (.bool (decide (¬ v ≤ R)))) (hR2 : R < 2 ^ 64) :
    Ans 29 #[wv h l] (.int .u64 R) := by
  intro w
  have HS := Lib.hid hR
  clear hR
  have HR := Lib.hid hR2
  clear hR2
  have HC := Lib.hid C4
  clear C4
  have M0 := Mem.start w
  go_enter Try.func29, Try.ntmps29
  go_wp2_with ((with_reducible refine (?_ : Go.wpList _ _ _ (_ :: _) _ _)); (first | go_skip | (refine wpL_bx M0 rfl rfl rfl rfl ?_; clear M0; intro g1 w1 M1) | (refine wpL_al M0 rfl rfl zero25 rfl ?_; clear M0; intro g1 w1 M1) | (refine wpL_ld M0 rfl rfl rfl (by repeat (first | exact Has.head _ _ _ _ | apply Has.tail)) (by first | exact rd_w _ _ | exact rd_hi _ _ | exact rd_lo _ _ | assumption) ?_) | (refine wpL_ldg M0 rfl rfl rfl (by repeat (first | exact Has.head _ _ _ _ | apply Has.tail)) (by first | exact rd_w _ _ | exact rd_hi _ _ | exact rd_lo _ _ | assumption) ?_) | (refine wpL_st M0 rfl rfl rfl rfl (by repeat (first | exact Has.head _ _ _ _ | apply Has.tail)) (by first | exact wr_w _ rfl _ _ | exact wr_hi _ _ _ | assumption) (by repeat (first | exact Upd.head _ _ _ _ _ | apply Upd.tail)) ?_; clear M0; intro w' M0) | (refine wpL_ld M1 rfl rfl rfl (by repeat (first | exact Has.head _ _ _ _ | apply Has.tail)) (by first | exact rd_w _ _ | exact rd_hi _ _ | exact rd_lo _ _ | assumption) ?_) | (refine wpL_ldg M1 rfl rfl rfl (by repeat (first | exact Has.head _ _ _ _ | apply Has.tail)) (by first | exact rd_w _ _ | exact rd_hi _ _ | exact rd_lo _ _ | assumption) ?_) | (refine wpL_st M1 rfl rfl rfl rfl (by repeat (first | exact Has.head _ _ _ _ | apply Has.tail)) (by first | exact wr_w _ rfl _ _ | exact wr_hi _ _ _ | assumption) (by repeat (first | exact Upd.head _ _ _ _ _ | apply Upd.tail)) ?_; clear M1; intro w' M1)))
  (refine (C1 _).mono ?_; rintro e w2 ⟨rfl, hBl⟩; replace M1 := M1.call hBl; clear hBl C1)
  go_wp2_with ((with_reducible refine (?_ : Go.wpList _ _ _ (_ :: _) _ _)); (first | go_skip | (refine wpL_ld M1 rfl rfl rfl (by repeat (first | exact Has.head _ _ _ _ | apply Has.tail)) (by first | exact rd_w _ _ | exact rd_hi _ _ | exact rd_lo _ _ | assumption) ?_) | (refine wpL_ldg M1 rfl rfl rfl (by repeat (first | exact Has.head _ _ _ _ | apply Has.tail)) (by first | exact rd_w _ _ | exact rd_hi _ _ | exact rd_lo _ _ | assumption) ?_) | (refine wpL_st M1 rfl rfl rfl rfl (by repeat (first | exact Has.head _ _ _ _ | apply Has.tail)) (by first | exact wr_w _ rfl _ _ | exact wr_hi _ _ _ | assumption) (by repeat (first | exact Upd.head _ _ _ _ _ | apply Upd.tail)) ?_; clear M1; intro w' M1)))
  (refine (C2 _).mono ?_; rintro e w2 ⟨rfl, hBl⟩; replace M1 := M1.call hBl; clear hBl C2)
  go_wp2_with ((with_reducible refine (?_ : Go.wpList _ _ _ (_ :: _) _ _)); (first | go_skip | (refine wpL_ld M1 rfl rfl rfl (by repeat (first | exact Has.head _ _ _ _ | apply Has.tail)) (by first | exact rd_w _ _ | exact rd_hi _ _ | exact rd_lo _ _ | assumption) ?_) | (refine wpL_ldg M1 rfl rfl rfl (by repeat (first | exact Has.head _ _ _ _ | apply Has.tail)) (by first | exact rd_w _ _ | exact rd_hi _ _ | exact rd_lo _ _ | assumption) ?_) | (refine wpL_st M1 rfl rfl rfl rfl (by repeat (first | exact Has.head _ _ _ _ | apply Has.tail)) (by first | exact wr_w _ rfl _ _ | exact wr_hi _ _ _ | assumption) (by repeat (first | exact Upd.head _ _ _ _ _ | apply Upd.tail)) ?_; clear M1; intro w' M1)))
  (refine (C3 _).mono ?_; rintro e w2 ⟨rfl, hBl⟩; replace M1 := M1.call hBl; clear hBl C3)
  go_wp2_with ((with_reducible refine (?_ : Go.wpList _ _ _ (_ :: _) _ _)); (first | go_skip | (refine wpL_ld M1 rfl rfl rfl (by repeat (first | exact Has.head _ _ _ _ | apply Has.tail)) (by first | exact rd_w _ _ | exact rd_hi _ _ | exact rd_lo _ _ | assumption) ?_) | (refine wpL_ldg M1 rfl rfl rfl (by repeat (first | exact Has.head _ _ _ _ | apply Has.tail)) (by first | exact rd_w _ _ | exact rd_hi _ _ | exact rd_lo _ _ | assumption) ?_) | (refine wpL_st M1 rfl rfl rfl rfl (by repeat (first | exact Has.head _ _ _ _ | apply Has.tail)) (by first | exact wr_w _ rfl _ _ | exact wr_hi _ _ _ | assumption) (by repeat (first | exact Upd.head _ _ _ _ _ | apply Upd.tail)) ?_; clear M1; intro w' M1)))
  go_loopw [3, 4] (fun r i wx => ∃ k q : Nat, k ≤ 64 ∧ r = .int .u64 q ∧ i = .int .i64 ((k : Int) - 1) ∧ Hid (q = 2 ^ k * (R / 2 ^ k)) ∧ Mem w wx [(g1, 48, [.int .i64 h, .int .u64 l])]) (fun _ i _ => (intOf i + 1).toNat)
  case atStart => exact ⟨s, 0, hs, rfl, rfl, by have := HS.out; show 0 = _; rw [this, Nat.mul_zero], M1⟩
  case round =>
    clear M1
    obtain ⟨k, q, hk, rfl, rfl, HQ, M1⟩ := hrel
    by_cases h0 : k = 0
    · subst h0
      obtain rfl : q = R := by have := HQ.out; rwa [Nat.pow_zero, Nat.div_one, Nat.one_mul] at this
      go_wp2_with ((with_reducible refine (?_ : Go.wpList _ _ _ (_ :: _) _ _)); (first | go_skip | (refine wpL_ld M1 rfl rfl rfl (by repeat (first | exact Has.head _ _ _ _ | apply Has.tail)) (by first | exact rd_w _ _ | exact rd_hi _ _ | exact rd_lo _ _ | assumption) ?_) | (refine wpL_ldg M1 rfl rfl rfl (by repeat (first | exact Has.head _ _ _ _ | apply Has.tail)) (by first | exact rd_w _ _ | exact rd_hi _ _ | exact rd_lo _ _ | assumption) ?_) | (refine wpL_st M1 rfl rfl rfl rfl (by repeat (first | exact Has.head _ _ _ _ | apply Has.tail)) (by first | exact wr_w _ rfl _ _ | exact wr_hi _ _ _ | assumption) (by repeat (first | exact Upd.head _ _ _ _ _ | apply Upd.tail)) ?_; clear M1; intro w' M1)))
      go_ret
      exact ⟨rfl, M1.below⟩
    · obtain ⟨i, rfl⟩ : ∃ i, k = i + 1 := ⟨k - 1, by omega⟩
      have e : ((i + 1 : Nat) : Int) - 1 = (i : Int) := by omega
      rw [e]
      obtain ⟨t1, t2, t3, t4, t5⟩ := tried HQ.out HR.out (by omega)
      have C4 := HC.out _ t3
      have eo := tried_u i q t1 t2
      have hi : i < 64 := by omega
      obtain ⟨v, hv⟩ : ∃ v, v = q ||| 2 ^ i := ⟨_, rfl⟩
      rw [← hv] at t3 t4 t5 C4 eo
      clear hv t1 t2 e hk h0
      by_cases hc : v ≤ R
      · rw [decide_eq_false (by simpa using hc)] at C4
        have HV := Lib.hid (t4 hc)
        have HV3 := Lib.hid t3
        clear t3 t4 t5 hc
        go_wp2_with ((with_reducible refine (?_ : Go.wpList _ _ _ (_ :: _) _ _)); (first | go_skip | (refine wpL_ld M1 rfl rfl rfl (by repeat (first | exact Has.head _ _ _ _ | apply Has.tail)) (by first | exact rd_w _ _ | exact rd_hi _ _ | exact rd_lo _ _ | assumption) ?_) | (refine wpL_ldg M1 rfl rfl rfl (by repeat (first | exact Has.head _ _ _ _ | apply Has.tail)) (by first | exact rd_w _ _ | exact rd_hi _ _ | exact rd_lo _ _ | assumption) ?_) | (refine wpL_st M1 rfl rfl rfl rfl (by repeat (first | exact Has.head _ _ _ _ | apply Has.tail)) (by first | exact wr_w _ rfl _ _ | exact wr_hi _ _ _ | assumption) (by repeat (first | exact Upd.head _ _ _ _ _ | apply Upd.tail)) ?_; clear M1; intro w' M1)))
        (refine (C4 _).mono ?_; rintro e w2 ⟨rfl, hBl⟩; replace M1 := M1.call hBl; clear hBl C4)
        go_wp2_with ((with_reducible refine (?_ : Go.wpList _ _ _ (_ :: _) _ _)); (first | go_skip | (refine wpL_ld M1 rfl rfl rfl (by repeat (first | exact Has.head _ _ _ _ | apply Has.tail)) (by first | exact rd_w _ _ | exact rd_hi _ _ | exact rd_lo _ _ | assumption) ?_) | (refine wpL_ldg M1 rfl rfl rfl (by repeat (first | exact Has.head _ _ _ _ | apply Has.tail)) (by first | exact rd_w _ _ | exact rd_hi _ _ | exact rd_lo _ _ | assumption) ?_) | (refine wpL_st M1 rfl rfl rfl rfl (by repeat (first | exact Has.head _ _ _ _ | apply Has.tail)) (by first | exact wr_w _ rfl _ _ | exact wr_hi _ _ _ | assumption) (by repeat (first | exact Upd.head _ _ _ _ _ | apply Upd.tail)) ?_; clear M1; intro w' M1)))
        go_roundw
        case rel => exact ⟨i, v, by omega, rfl, by go_num, HV.out, M1⟩
        case measure => simp [intOf] <;> omega
      · rw [decide_eq_true hc] at C4
        have HV := Lib.hid (t5 hc)
        clear t3 t4 t5 hc
        go_wp2_with ((with_reducible refine (?_ : Go.wpList _ _ _ (_ :: _) _ _)); (first | go_skip | (refine wpL_ld M1 rfl rfl rfl (by repeat (first | exact Has.head _ _ _ _ | apply Has.tail)) (by first | exact rd_w _ _ | exact rd_hi _ _ | exact rd_lo _ _ | assumption) ?_) | (refine wpL_ldg M1 rfl rfl rfl (by repeat (first | exact Has.head _ _ _ _ | apply Has.tail)) (by first | exact rd_w _ _ | exact rd_hi _ _ | exact rd_lo _ _ | assumption) ?_) | (refine wpL_st M1 rfl rfl rfl rfl (by repeat (first | exact Has.head _ _ _ _ | apply Has.tail)) (by first | exact wr_w _ rfl _ _ | exact wr_hi _ _ _ | assumption) (by repeat (first | exact Upd.head _ _ _ _ _ | apply Upd.tail)) ?_; clear M1; intro w' M1)))
        (refine (C4 _).mono ?_; rintro e w2 ⟨rfl, hBl⟩; replace M1 := M1.call hBl; clear hBl C4)
        go_wp2_with ((with_reducible refine (?_ : Go.wpList _ _ _ (_ :: _) _ _)); (first | go_skip | (refine wpL_ld M1 rfl rfl rfl (by repeat (first | exact Has.head _ _ _ _ | apply Has.tail)) (by first | exact rd_w _ _ | exact rd_hi _ _ | exact rd_lo _ _ | assumption) ?_) | (refine wpL_ldg M1 rfl rfl rfl (by repeat (first | exact Has.head _ _ _ _ | apply Has.tail)) (by first | exact rd_w _ _ | exact rd_hi _ _ | exact rd_lo _ _ | assumption) ?_) | (refine wpL_st M1 rfl rfl rfl rfl (by repeat (first | exact Has.head _ _ _ _ | apply Has.tail)) (by first | exact wr_w _ rfl _ _ | exact wr_hi _ _ _ | assumption) (by repeat (first | exact Upd.head _ _ _ _ _ | apply Upd.tail)) ?_; clear M1; intro w' M1)))
        go_roundw
        case rel => exact ⟨i, q, by omega, rfl, by go_num, HV.out, M1⟩
        case measure => simp [intOf] <;> omega

theorem wideNeg_any (h l : Int) (hl : 0 ≤ l ∧ l < 18446744073709551616) (hh : h < 0) : Ans 29 #[wv h l] (.int .u64 0) :=
  wide_neg h l _ (by unfold cmpZ; rw [if_pos (by omega)]; decide) (Sign_any h l hl)
/-- The root of a number of 128 bits. -/
theorem wide_any (h l : Nat) (hh : h < 9223372036854775808) (hl : l < 18446744073709551616) : Ans 29 #[wv h l] (.int .u64 ((rt 2 (h * 18446744073709551616 + l) : Nat) : Int)) := by
  have hN := lenS_lt h l hh hl
  have hL := lenS_le h l hh hl
  have hsh := share_le (lenS h l) 2 (by decide)
  have hs64 : shareS (lenS h l) 2 ≤ 64 := by unfold shareS; omega
  have hN2 : h * 18446744073709551616 + l < 2 ^ (2 * shareS (lenS h l) 2) := Nat.lt_of_lt_of_le hN (Nat.pow_le_pow_right (by decide) hsh)
  have hR := rt_lt (d := 2) (by decide) hN2
  have hR64 : rt 2 (h * 18446744073709551616 + l) < 2 ^ 64 := Nat.lt_of_lt_of_le hR (Nat.pow_le_pow_right (by decide) hs64)
  refine wide_go h l (lenS h l) (shareS (lenS h l) 2) _ _ ?_ hL hs64 (Nat.div_eq_of_lt hR) (Sign_any h l (by omega)) (length_any h l hh hl) (share_any _ 2 (by omega) (by decide) (by decide)) ?_ hR64
  · unfold cmpZ
    rw [if_neg (by omega)]
    split <;> decide
  · intro v hv
    have C := above_any v h l hv hh hl
    rw [show decide (h * 18446744073709551616 + l < v * v) = decide (¬ v ≤ rt 2 (h * 18446744073709551616 + l)) from decide_eq_decide.2 (by rw [le_rt (by decide), Nat.pow_two]; omega)] at C
    exact C

/-- What is rounded up, and to the nearer one. -/
def ceilS (x : Nat) : Nat := if rt 2 x * rt 2 x = x then rt 2 x else rt 2 x + 1
def nearS (x : Nat) : Nat := if rt 2 x < x - rt 2 x * rt 2 x then rt 2 x + 1 else rt 2 x
theorem rt_32 (x : Nat) (hx : x < 18446744073709551616) : rt 2 x < 4294967296 := rt_lt (d := 2) (s := 32) (by decide) hx

theorem sq_range (a : Int) (ha : -9223372036854775808 ≤ a ∧ a ≤ 9223372036854775807) : 0 ≤ a * a ∧ a * a ≤ 85070591730234615865843651857942052864 := by
  have h1 : a.natAbs ≤ 9223372036854775808 := by omega
  have h3 : a.natAbs * a.natAbs ≤ 9223372036854775808 * 9223372036854775808 := Nat.mul_le_mul h1 h1
  have h4 : ((a.natAbs * a.natAbs : Nat) : Int) = a * a := by rw [Int.natAbs_mul_self' a |>.symm]; rfl
  omega
end Go.Proofs.Ytaofkoejlpchaaa
