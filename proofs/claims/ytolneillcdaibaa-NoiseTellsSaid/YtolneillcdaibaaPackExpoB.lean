/-
  Texts in one: ExpoR, ExpoS, ExpoT.
-/
import Derived.Test.YtolneillcdaibaaPackBits
import Derived.Test.YtolneillcdaibaaPackNum
import Derived.Test.YtolneillcdaibaaPackExpoA
import Derived.Deep.RegionHeld3
set_option linter.unusedVariables false
set_option linter.unusedSimpArgs false

/-
  The reference's: a power of two, a number without its lowest bits, products of mantissas.
-/
namespace Go.Proofs.Ytolneillcdaibaa
open Go Go.RowKit Go.Th Go.Th.Root Go.Th.Wide Go.Th.Expo

theorem addN_any (a b : Nat) (ha : a < 2 ^ 128) (hb : b < 2 ^ 128) : ∃ f, Ans 50 #[.agg (numC false a).toArray, .agg (numC false b).toArray] (.tuple #[.agg (numC false (a + b)).toArray, .bool f]) := by
  have C1 := refAdd_any false false a b ha hb
  have s : ∀ Q : Nat, signed false Q = (Q : Int) := fun _ => rfl
  have e1 : sumM false a false b = false := by unfold sumM; rw [s, s]; exact decide_eq_false (by omega)
  have e2 : sumN false a false b = a + b := by unfold sumN; rw [s, s]; omega
  rw [e1, e2] at C1
  exact ⟨_, C1⟩
theorem mulN_any (x y : Nat) (hx : x ≤ 9223372036854775807) (hy : y ≤ 9223372036854775807) : Ans 48 #[.int .i64 x, .int .i64 y] (.agg (numC false (x * y)).toArray) := by
  have C := refMul_any (x : Int) (y : Int) (by omega) (by omega)
  have e : (x : Int) * (y : Int) = ((x * y : Nat) : Int) := (Int.natCast_mul x y).symm
  rw [e, decide_eq_false (by omega), Int.natAbs_natCast] at C
  exact C
theorem p62 {n : Nat} (h : n ≤ 62) : 2 ^ n ≤ 4611686018427387904 := (Nat.pow_le_pow_right (by decide) h : 2 ^ n ≤ 2 ^ 62)

set_option maxRecDepth 20000 in
set_option maxHeartbeats 1600000 in
theorem pow6_any (n : Nat) (hn : n ≤ 62) : Ans 33 #[.int .i64 n] (.int .i64 ((2 ^ n : Nat) : Int)) := by
  intro w
  go_enter Try.func33, Try.ntmps33
  go_wp2
  go_loop [3, 4] (fun o c => ∃ i : Nat, i ≤ n ∧ c = .int .i64 i ∧ o = .int .i64 ((2 ^ i : Nat) : Int)) (fun _ c => n - (intOf c).toNat)
  case atStart => exact ⟨0, by omega, rfl, rfl⟩
  case round =>
    obtain ⟨i, hi, rfl, rfl⟩ := hrel
    by_cases hlt : i < n
    · have hp := p62 (n := i + 1) (by omega)
      have he : 2 ^ (i + 1) = 2 * 2 ^ i := by rw [Nat.pow_succ, Nat.mul_comm]
      obtain ⟨p, hpe⟩ : ∃ p, p = 2 ^ i := ⟨_, rfl⟩
      rw [← hpe] at he ⊢
      have HE := Lib.hid he
      have hp2 : 2 * p ≤ 4611686018427387904 := by omega
      clear he hp hpe
      go_wp2
      go_round
      case rel => exact ⟨i + 1, by omega, by go_num, by rw [HE.out]; go_num⟩
      case measure => simp [intOf]; omega
    · obtain rfl : i = n := by omega
      go_wp2
      go_ret
      exact ⟨rfl, Below.refl _ _⟩

set_option maxRecDepth 20000 in
set_option maxHeartbeats 1600000 in
theorem shifted_any (m : Bool) (N : Nat) : Ans 51 #[.agg (numC m N).toArray, .int .i64 62] (.int .u64 ((N / 2 ^ 62 % 2 ^ 64 : Nat) : Int)) := by
  intro w
  obtain ⟨V, hV⟩ : ∃ V, V = N / 2 ^ 62 % 2 ^ 64 := ⟨_, rfl⟩
  have hV2 : V < 2 ^ 64 := by rw [hV]; exact Nat.mod_lt _ (by decide)
  have hB : ∀ i, i < 64 → bt N (62 + i) = bt V i := fun i hi => by rw [hV]; exact bt_from N 62 i hi
  rw [← hV]
  have HB := Lib.hid hB
  have HV := Lib.hid hV2
  clear hV hB hV2
  have M0 := Mem.start w
  go_enter Try.func51, Try.ntmps51
  go_wp2_with ((with_reducible refine (?_ : Go.wpList _ _ _ (_ :: _) _ _)); (first | go_skip | (refine wpL_bx M0 rfl rfl rfl rfl ?_; clear M0; intro g1 w1 M1) | (refine wpL_al M0 rfl rfl zero27 rfl ?_; clear M0; intro g1 w1 M1) | (refine wpL_al M0 rfl rfl zero29 rfl ?_; clear M0; intro g1 w1 M1) | (refine wpL_ld M0 rfl rfl rfl (by repeat (first | exact Has.head _ _ _ _ | apply Has.tail)) (by first | exact rd_num _ _ | exact rd_bits _ | exact rd_part _ _ | exact rd_minus _ _ | assumption) ?_) | (refine wpL_ldg M0 rfl rfl rfl (by repeat (first | exact Has.head _ _ _ _ | apply Has.tail)) (by first | exact rd_num _ _ | exact rd_bits _ | exact rd_part _ _ | exact rd_minus _ _ | assumption) ?_) | (refine wpN_1 rfl rfl rfl ?_) | (refine wpN_0 rfl rfl ?_) | (refine wpN_2 rfl rfl rfl rfl ?_) | (refine wpL_st M0 rfl rfl rfl rfl (by repeat (first | exact Has.head _ _ _ _ | apply Has.tail)) (by first | exact wr_num _ (numC_len _ _) _ _ | exact wr_bits _ (bitsC_len _) _ | exact wr_part _ _ _ | exact wr_minus _ _ _ | assumption) (by repeat (first | exact Upd.head _ _ _ _ _ | apply Upd.tail)) ?_; clear M0; intro w' M0) | (refine wpL_ld M1 rfl rfl rfl (by repeat (first | exact Has.head _ _ _ _ | apply Has.tail)) (by first | exact rd_num _ _ | exact rd_bits _ | exact rd_part _ _ | exact rd_minus _ _ | assumption) ?_) | (refine wpL_ldg M1 rfl rfl rfl (by repeat (first | exact Has.head _ _ _ _ | apply Has.tail)) (by first | exact rd_num _ _ | exact rd_bits _ | exact rd_part _ _ | exact rd_minus _ _ | assumption) ?_) | (refine wpN_1 rfl rfl rfl ?_) | (refine wpN_0 rfl rfl ?_) | (refine wpN_2 rfl rfl rfl rfl ?_) | (refine wpL_st M1 rfl rfl rfl rfl (by repeat (first | exact Has.head _ _ _ _ | apply Has.tail)) (by first | exact wr_num _ (numC_len _ _) _ _ | exact wr_bits _ (bitsC_len _) _ | exact wr_part _ _ _ | exact wr_minus _ _ _ | assumption) (by repeat (first | exact Upd.head _ _ _ _ _ | apply Upd.tail)) ?_; clear M1; intro w' M1)))
  go_loopw [5, 6] (fun n i wx => ∃ k : Nat, k ≤ 64 ∧ i = .int .i64 ((k : Int) - 1) ∧ n = .int .u64 (V / 2 ^ k : Nat) ∧ Mem w wx [(g1, 71, numC m N)]) (fun _ i _ => (intOf i + 1).toNat)
  case atStart => exact ⟨64, by omega, rfl, by rw [Nat.div_eq_of_lt HV.out]; rfl, M1⟩
  case round =>
    clear M1
    obtain ⟨k1, hk, rfl, rfl, M⟩ := hrel
    by_cases hlt : 0 < k1
    · obtain ⟨k, rfl⟩ : ∃ k, k1 = k + 1 := ⟨k1 - 1, by omega⟩
      have hk' : k < 64 := by omega
      have e : ((k + 1 : Nat) : Int) - 1 = (k : Int) := by omega
      rw [e]
      have c1 := M.cell (g := g1) (by repeat (first | exact Has.head _ _ _ _ | apply Has.tail)) (numC_at' m N (i := 62 + k) (by omega))
      rw [HB.out k hk'] at c1
      have ec : (k : Int) + 62 = ((62 + k : Nat) : Int) := by omega
      have hi0 : (62 + k : Nat) < 129 := by omega
      have l1 := bt_lt V k
      have hd := div_up V k
      have hs : V / 2 ^ k < 18446744073709551616 := Nat.lt_of_le_of_lt (Nat.div_le_self _ _) HV.out
      obtain ⟨x, hx⟩ : ∃ x, x = bt V k := ⟨_, rfl⟩
      obtain ⟨y, hy⟩ : ∃ y, y = V / 2 ^ (k + 1) := ⟨_, rfl⟩
      obtain ⟨z, hz⟩ : ∃ z, z = 62 + k := ⟨_, rfl⟩
      rw [← hx] at c1 l1 hd
      rw [← hy] at hd ⊢
      rw [← hz] at ec c1 hi0
      have hy2 : 2 * y + x < 18446744073709551616 := by omega
      have HD := Lib.hid hd
      clear hx hy hd e hs hz
      have hx2 : x = 0 ∨ x = 1 := by omega
      rcases hx2 with rfl | rfl
      · go_wp2
        go_roundw
        case rel => exact ⟨k, by omega, rfl, by rw [HD.out]; go_num, M⟩
        case measure => simp [intOf] <;> omega
      · go_wp2
        go_roundw
        case rel => exact ⟨k, by omega, rfl, by rw [HD.out]; go_num, M⟩
        case measure => simp [intOf] <;> omega
    · obtain rfl : k1 = 0 := by omega
      go_wp2
      go_ret
      exact ⟨ret_int (by simp), M.below⟩

set_option maxRecDepth 20000 in
set_option maxHeartbeats 1600000 in
theorem square_go (m N : Nat) (v : Int) (hm : m ≤ 9223372036854775807) (C1 : Ans 48 #[.int .i64 m, .int .i64 m] (.agg (numC false N).toArray)) (C2 : Ans 51 #[.agg (numC false N).toArray, .int .i64 62] (.int .u64 v)) :
    Ans 37 #[.int .u64 m] (.int .u64 v) := by
  intro w
  have M0 := Mem.start w
  go_enter Try.func37, Try.ntmps37
  go_wp2_with ((with_reducible refine (?_ : Go.wpList _ _ _ (_ :: _) _ _)); (first | go_skip | (refine wpL_ld M0 rfl rfl rfl (by repeat (first | exact Has.head _ _ _ _ | apply Has.tail)) (by first | exact rd_num _ _ | exact rd_bits _ | exact rd_part _ _ | exact rd_minus _ _ | assumption) ?_) | (refine wpL_ldg M0 rfl rfl rfl (by repeat (first | exact Has.head _ _ _ _ | apply Has.tail)) (by first | exact rd_num _ _ | exact rd_bits _ | exact rd_part _ _ | exact rd_minus _ _ | assumption) ?_) | (refine wpN_1 rfl rfl rfl ?_) | (refine wpN_0 rfl rfl ?_) | (refine wpN_2 rfl rfl rfl rfl ?_) | (refine wpL_st M0 rfl rfl rfl rfl (by repeat (first | exact Has.head _ _ _ _ | apply Has.tail)) (by first | exact wr_num _ (numC_len _ _) _ _ | exact wr_bits _ (bitsC_len _) _ | exact wr_part _ _ _ | exact wr_minus _ _ _ | assumption) (by repeat (first | exact Upd.head _ _ _ _ _ | apply Upd.tail)) ?_; clear M0; intro w' M0)))
  (refine (C1 _).mono ?_; rintro e w2 ⟨rfl, hBl⟩; replace M0 := M0.call hBl; clear hBl C1)
  go_wp2_with ((with_reducible refine (?_ : Go.wpList _ _ _ (_ :: _) _ _)); (first | go_skip | (refine wpL_bx M0 rfl rfl rfl rfl ?_; clear M0; intro g1 w1 M1) | (refine wpL_al M0 rfl rfl zero27 rfl ?_; clear M0; intro g1 w1 M1) | (refine wpL_al M0 rfl rfl zero29 rfl ?_; clear M0; intro g1 w1 M1) | (refine wpL_ld M0 rfl rfl rfl (by repeat (first | exact Has.head _ _ _ _ | apply Has.tail)) (by first | exact rd_num _ _ | exact rd_bits _ | exact rd_part _ _ | exact rd_minus _ _ | assumption) ?_) | (refine wpL_ldg M0 rfl rfl rfl (by repeat (first | exact Has.head _ _ _ _ | apply Has.tail)) (by first | exact rd_num _ _ | exact rd_bits _ | exact rd_part _ _ | exact rd_minus _ _ | assumption) ?_) | (refine wpN_1 rfl rfl rfl ?_) | (refine wpN_0 rfl rfl ?_) | (refine wpN_2 rfl rfl rfl rfl ?_) | (refine wpL_st M0 rfl rfl rfl rfl (by repeat (first | exact Has.head _ _ _ _ | apply Has.tail)) (by first | exact wr_num _ (numC_len _ _) _ _ | exact wr_bits _ (bitsC_len _) _ | exact wr_part _ _ _ | exact wr_minus _ _ _ | assumption) (by repeat (first | exact Upd.head _ _ _ _ _ | apply Upd.tail)) ?_; clear M0; intro w' M0) | (refine wpL_ld M1 rfl rfl rfl (by repeat (first | exact Has.head _ _ _ _ | apply Has.tail)) (by first | exact rd_num _ _ | exact rd_bits _ | exact rd_part _ _ | exact rd_minus _ _ | assumption) ?_) | (refine wpL_ldg M1 rfl rfl rfl (by repeat (first | exact Has.head _ _ _ _ | apply Has.tail)) (by first | exact rd_num _ _ | exact rd_bits _ | exact rd_part _ _ | exact rd_minus _ _ | assumption) ?_) | (refine wpN_1 rfl rfl rfl ?_) | (refine wpN_0 rfl rfl ?_) | (refine wpN_2 rfl rfl rfl rfl ?_) | (refine wpL_st M1 rfl rfl rfl rfl (by repeat (first | exact Has.head _ _ _ _ | apply Has.tail)) (by first | exact wr_num _ (numC_len _ _) _ _ | exact wr_bits _ (bitsC_len _) _ | exact wr_part _ _ _ | exact wr_minus _ _ _ | assumption) (by repeat (first | exact Upd.head _ _ _ _ _ | apply Upd.tail)) ?_; clear M1; intro w' M1)))
  (refine (C2 _).mono ?_; rintro e w2 ⟨rfl, hBl⟩; replace M1 := M1.call hBl; clear hBl C2)
  go_wp2_with ((with_reducible refine (?_ : Go.wpList _ _ _ (_ :: _) _ _)); (first | go_skip | (refine wpL_ld M1 rfl rfl rfl (by repeat (first | exact Has.head _ _ _ _ | apply Has.tail)) (by first | exact rd_num _ _ | exact rd_bits _ | exact rd_part _ _ | exact rd_minus _ _ | assumption) ?_) | (refine wpL_ldg M1 rfl rfl rfl (by repeat (first | exact Has.head _ _ _ _ | apply Has.tail)) (by first | exact rd_num _ _ | exact rd_bits _ | exact rd_part _ _ | exact rd_minus _ _ | assumption) ?_) | (refine wpN_1 rfl rfl rfl ?_) | (refine wpN_0 rfl rfl ?_) | (refine wpN_2 rfl rfl rfl rfl ?_) | (refine wpL_st M1 rfl rfl rfl rfl (by repeat (first | exact Has.head _ _ _ _ | apply Has.tail)) (by first | exact wr_num _ (numC_len _ _) _ _ | exact wr_bits _ (bitsC_len _) _ | exact wr_part _ _ _ | exact wr_minus _ _ _ | assumption) (by repeat (first | exact Upd.head _ _ _ _ _ | apply Upd.tail)) ?_; clear M1; intro w' M1)))
  go_ret
  exact ⟨rfl, M1.below⟩
theorem square6_any (m : Nat) (h1 : 4611686018427387904 ≤ m) (h2 : m < 9223372036854775808) : Ans 37 #[.int .u64 m] (.int .u64 ((m * m / 4611686018427387904 : Nat) : Int)) := by
  have C2 := shifted_any false (m * m)
  have e := (sqm_range h1 h2).2
  rw [show (2 : Nat) ^ 62 = 4611686018427387904 from rfl, show (2 : Nat) ^ 64 = 18446744073709551616 from rfl, Nat.mod_eq_of_lt e] at C2
  exact square_go m (m * m) _ (by omega) (mulN_any m m (by omega) (by omega)) C2

set_option maxRecDepth 20000 in
set_option maxHeartbeats 1600000 in
theorem times_go6 (a b h l P Q T N : Nat) (f1 f2 : Bool) (v : Int) (ha : a ≤ 9223372036854775807) (hb : b ≤ 9223372036854775807) (eh : (a : Int) / 2 = (h : Int)) (el : (a : Int) % 2 = (l : Int)) (hh : h ≤ 9223372036854775807) (hl : l ≤ 1)
    (C1 : Ans 48 #[.int .i64 h, .int .i64 b] (.agg (numC false P).toArray)) (C2 : Ans 48 #[.int .i64 l, .int .i64 b] (.agg (numC false Q).toArray))
    (C3 : Ans 50 #[.agg (numC false P).toArray, .agg (numC false P).toArray] (.tuple #[.agg (numC false T).toArray, .bool f1])) (C4 : Ans 50 #[.agg (numC false T).toArray, .agg (numC false Q).toArray] (.tuple #[.agg (numC false N).toArray, .bool f2]))
    (C5 : Ans 51 #[.agg (numC false N).toArray, .int .i64 62] (.int .u64 v)) :
    Ans 35 #[.int .u64 a, .int .u64 b] (.int .u64 v) := by
  intro w
  have M0 := Mem.start w
  go_enter Try.func35, Try.ntmps35
  go_wp2_with ((with_reducible refine (?_ : Go.wpList _ _ _ (_ :: _) _ _)); (first | go_skip | (refine wpL_ld M0 rfl rfl rfl (by repeat (first | exact Has.head _ _ _ _ | apply Has.tail)) (by first | exact rd_num _ _ | exact rd_bits _ | exact rd_part _ _ | exact rd_minus _ _ | assumption) ?_) | (refine wpL_ldg M0 rfl rfl rfl (by repeat (first | exact Has.head _ _ _ _ | apply Has.tail)) (by first | exact rd_num _ _ | exact rd_bits _ | exact rd_part _ _ | exact rd_minus _ _ | assumption) ?_) | (refine wpN_1 rfl rfl rfl ?_) | (refine wpN_0 rfl rfl ?_) | (refine wpN_2 rfl rfl rfl rfl ?_) | (refine wpL_st M0 rfl rfl rfl rfl (by repeat (first | exact Has.head _ _ _ _ | apply Has.tail)) (by first | exact wr_num _ (numC_len _ _) _ _ | exact wr_bits _ (bitsC_len _) _ | exact wr_part _ _ _ | exact wr_minus _ _ _ | assumption) (by repeat (first | exact Upd.head _ _ _ _ _ | apply Upd.tail)) ?_; clear M0; intro w' M0)))
  (refine (C1 _).mono ?_; rintro e w2 ⟨rfl, hBl⟩; replace M0 := M0.call hBl; clear hBl C1)
  go_wp2_with ((with_reducible refine (?_ : Go.wpList _ _ _ (_ :: _) _ _)); (first | go_skip | (refine wpL_bx M0 rfl rfl rfl rfl ?_; clear M0; intro g1 w1 M1) | (refine wpL_al M0 rfl rfl zero27 rfl ?_; clear M0; intro g1 w1 M1) | (refine wpL_al M0 rfl rfl zero29 rfl ?_; clear M0; intro g1 w1 M1) | (refine wpL_ld M0 rfl rfl rfl (by repeat (first | exact Has.head _ _ _ _ | apply Has.tail)) (by first | exact rd_num _ _ | exact rd_bits _ | exact rd_part _ _ | exact rd_minus _ _ | assumption) ?_) | (refine wpL_ldg M0 rfl rfl rfl (by repeat (first | exact Has.head _ _ _ _ | apply Has.tail)) (by first | exact rd_num _ _ | exact rd_bits _ | exact rd_part _ _ | exact rd_minus _ _ | assumption) ?_) | (refine wpN_1 rfl rfl rfl ?_) | (refine wpN_0 rfl rfl ?_) | (refine wpN_2 rfl rfl rfl rfl ?_) | (refine wpL_st M0 rfl rfl rfl rfl (by repeat (first | exact Has.head _ _ _ _ | apply Has.tail)) (by first | exact wr_num _ (numC_len _ _) _ _ | exact wr_bits _ (bitsC_len _) _ | exact wr_part _ _ _ | exact wr_minus _ _ _ | assumption) (by repeat (first | exact Upd.head _ _ _ _ _ | apply Upd.tail)) ?_; clear M0; intro w' M0) | (refine wpL_ld M1 rfl rfl rfl (by repeat (first | exact Has.head _ _ _ _ | apply Has.tail)) (by first | exact rd_num _ _ | exact rd_bits _ | exact rd_part _ _ | exact rd_minus _ _ | assumption) ?_) | (refine wpL_ldg M1 rfl rfl rfl (by repeat (first | exact Has.head _ _ _ _ | apply Has.tail)) (by first | exact rd_num _ _ | exact rd_bits _ | exact rd_part _ _ | exact rd_minus _ _ | assumption) ?_) | (refine wpN_1 rfl rfl rfl ?_) | (refine wpN_0 rfl rfl ?_) | (refine wpN_2 rfl rfl rfl rfl ?_) | (refine wpL_st M1 rfl rfl rfl rfl (by repeat (first | exact Has.head _ _ _ _ | apply Has.tail)) (by first | exact wr_num _ (numC_len _ _) _ _ | exact wr_bits _ (bitsC_len _) _ | exact wr_part _ _ _ | exact wr_minus _ _ _ | assumption) (by repeat (first | exact Upd.head _ _ _ _ _ | apply Upd.tail)) ?_; clear M1; intro w' M1)))
  (refine (C2 _).mono ?_; rintro e w2 ⟨rfl, hBl⟩; replace M1 := M1.call hBl; clear hBl C2)
  go_wp2_with ((with_reducible refine (?_ : Go.wpList _ _ _ (_ :: _) _ _)); (first | go_skip | (refine wpL_bx M1 rfl rfl rfl rfl ?_; clear M1; intro g2 w2 M2) | (refine wpL_al M1 rfl rfl zero27 rfl ?_; clear M1; intro g2 w2 M2) | (refine wpL_al M1 rfl rfl zero29 rfl ?_; clear M1; intro g2 w2 M2) | (refine wpL_ld M1 rfl rfl rfl (by repeat (first | exact Has.head _ _ _ _ | apply Has.tail)) (by first | exact rd_num _ _ | exact rd_bits _ | exact rd_part _ _ | exact rd_minus _ _ | assumption) ?_) | (refine wpL_ldg M1 rfl rfl rfl (by repeat (first | exact Has.head _ _ _ _ | apply Has.tail)) (by first | exact rd_num _ _ | exact rd_bits _ | exact rd_part _ _ | exact rd_minus _ _ | assumption) ?_) | (refine wpN_1 rfl rfl rfl ?_) | (refine wpN_0 rfl rfl ?_) | (refine wpN_2 rfl rfl rfl rfl ?_) | (refine wpL_st M1 rfl rfl rfl rfl (by repeat (first | exact Has.head _ _ _ _ | apply Has.tail)) (by first | exact wr_num _ (numC_len _ _) _ _ | exact wr_bits _ (bitsC_len _) _ | exact wr_part _ _ _ | exact wr_minus _ _ _ | assumption) (by repeat (first | exact Upd.head _ _ _ _ _ | apply Upd.tail)) ?_; clear M1; intro w' M1) | (refine wpL_ld M2 rfl rfl rfl (by repeat (first | exact Has.head _ _ _ _ | apply Has.tail)) (by first | exact rd_num _ _ | exact rd_bits _ | exact rd_part _ _ | exact rd_minus _ _ | assumption) ?_) | (refine wpL_ldg M2 rfl rfl rfl (by repeat (first | exact Has.head _ _ _ _ | apply Has.tail)) (by first | exact rd_num _ _ | exact rd_bits _ | exact rd_part _ _ | exact rd_minus _ _ | assumption) ?_) | (refine wpN_1 rfl rfl rfl ?_) | (refine wpN_0 rfl rfl ?_) | (refine wpN_2 rfl rfl rfl rfl ?_) | (refine wpL_st M2 rfl rfl rfl rfl (by repeat (first | exact Has.head _ _ _ _ | apply Has.tail)) (by first | exact wr_num _ (numC_len _ _) _ _ | exact wr_bits _ (bitsC_len _) _ | exact wr_part _ _ _ | exact wr_minus _ _ _ | assumption) (by repeat (first | exact Upd.head _ _ _ _ _ | apply Upd.tail)) ?_; clear M2; intro w' M2)))
  (refine (C3 _).mono ?_; rintro e w2 ⟨rfl, hBl⟩; replace M2 := M2.call hBl; clear hBl C3)
  go_wp2_with ((with_reducible refine (?_ : Go.wpList _ _ _ (_ :: _) _ _)); (first | go_skip | (refine wpL_bx M2 rfl rfl rfl rfl ?_; clear M2; intro g3 w3 M3) | (refine wpL_al M2 rfl rfl zero27 rfl ?_; clear M2; intro g3 w3 M3) | (refine wpL_al M2 rfl rfl zero29 rfl ?_; clear M2; intro g3 w3 M3) | (refine wpL_ld M2 rfl rfl rfl (by repeat (first | exact Has.head _ _ _ _ | apply Has.tail)) (by first | exact rd_num _ _ | exact rd_bits _ | exact rd_part _ _ | exact rd_minus _ _ | assumption) ?_) | (refine wpL_ldg M2 rfl rfl rfl (by repeat (first | exact Has.head _ _ _ _ | apply Has.tail)) (by first | exact rd_num _ _ | exact rd_bits _ | exact rd_part _ _ | exact rd_minus _ _ | assumption) ?_) | (refine wpN_1 rfl rfl rfl ?_) | (refine wpN_0 rfl rfl ?_) | (refine wpN_2 rfl rfl rfl rfl ?_) | (refine wpL_st M2 rfl rfl rfl rfl (by repeat (first | exact Has.head _ _ _ _ | apply Has.tail)) (by first | exact wr_num _ (numC_len _ _) _ _ | exact wr_bits _ (bitsC_len _) _ | exact wr_part _ _ _ | exact wr_minus _ _ _ | assumption) (by repeat (first | exact Upd.head _ _ _ _ _ | apply Upd.tail)) ?_; clear M2; intro w' M2) | (refine wpL_ld M3 rfl rfl rfl (by repeat (first | exact Has.head _ _ _ _ | apply Has.tail)) (by first | exact rd_num _ _ | exact rd_bits _ | exact rd_part _ _ | exact rd_minus _ _ | assumption) ?_) | (refine wpL_ldg M3 rfl rfl rfl (by repeat (first | exact Has.head _ _ _ _ | apply Has.tail)) (by first | exact rd_num _ _ | exact rd_bits _ | exact rd_part _ _ | exact rd_minus _ _ | assumption) ?_) | (refine wpN_1 rfl rfl rfl ?_) | (refine wpN_0 rfl rfl ?_) | (refine wpN_2 rfl rfl rfl rfl ?_) | (refine wpL_st M3 rfl rfl rfl rfl (by repeat (first | exact Has.head _ _ _ _ | apply Has.tail)) (by first | exact wr_num _ (numC_len _ _) _ _ | exact wr_bits _ (bitsC_len _) _ | exact wr_part _ _ _ | exact wr_minus _ _ _ | assumption) (by repeat (first | exact Upd.head _ _ _ _ _ | apply Upd.tail)) ?_; clear M3; intro w' M3)))
  (refine (C4 _).mono ?_; rintro e w2 ⟨rfl, hBl⟩; replace M3 := M3.call hBl; clear hBl C4)
  go_wp2_with ((with_reducible refine (?_ : Go.wpList _ _ _ (_ :: _) _ _)); (first | go_skip | (refine wpL_bx M3 rfl rfl rfl rfl ?_; clear M3; intro g4 w4 M4) | (refine wpL_al M3 rfl rfl zero27 rfl ?_; clear M3; intro g4 w4 M4) | (refine wpL_al M3 rfl rfl zero29 rfl ?_; clear M3; intro g4 w4 M4) | (refine wpL_ld M3 rfl rfl rfl (by repeat (first | exact Has.head _ _ _ _ | apply Has.tail)) (by first | exact rd_num _ _ | exact rd_bits _ | exact rd_part _ _ | exact rd_minus _ _ | assumption) ?_) | (refine wpL_ldg M3 rfl rfl rfl (by repeat (first | exact Has.head _ _ _ _ | apply Has.tail)) (by first | exact rd_num _ _ | exact rd_bits _ | exact rd_part _ _ | exact rd_minus _ _ | assumption) ?_) | (refine wpN_1 rfl rfl rfl ?_) | (refine wpN_0 rfl rfl ?_) | (refine wpN_2 rfl rfl rfl rfl ?_) | (refine wpL_st M3 rfl rfl rfl rfl (by repeat (first | exact Has.head _ _ _ _ | apply Has.tail)) (by first | exact wr_num _ (numC_len _ _) _ _ | exact wr_bits _ (bitsC_len _) _ | exact wr_part _ _ _ | exact wr_minus _ _ _ | assumption) (by repeat (first | exact Upd.head _ _ _ _ _ | apply Upd.tail)) ?_; clear M3; intro w' M3) | (refine wpL_ld M4 rfl rfl rfl (by repeat (first | exact Has.head _ _ _ _ | apply Has.tail)) (by first | exact rd_num _ _ | exact rd_bits _ | exact rd_part _ _ | exact rd_minus _ _ | assumption) ?_) | (refine wpL_ldg M4 rfl rfl rfl (by repeat (first | exact Has.head _ _ _ _ | apply Has.tail)) (by first | exact rd_num _ _ | exact rd_bits _ | exact rd_part _ _ | exact rd_minus _ _ | assumption) ?_) | (refine wpN_1 rfl rfl rfl ?_) | (refine wpN_0 rfl rfl ?_) | (refine wpN_2 rfl rfl rfl rfl ?_) | (refine wpL_st M4 rfl rfl rfl rfl (by repeat (first | exact Has.head _ _ _ _ | apply Has.tail)) (by first | exact wr_num _ (numC_len _ _) _ _ | exact wr_bits _ (bitsC_len _) _ | exact wr_part _ _ _ | exact wr_minus _ _ _ | assumption) (by repeat (first | exact Upd.head _ _ _ _ _ | apply Upd.tail)) ?_; clear M4; intro w' M4)))
  (refine (C5 _).mono ?_; rintro e w2 ⟨rfl, hBl⟩; replace M4 := M4.call hBl; clear hBl C5)
  go_wp2_with ((with_reducible refine (?_ : Go.wpList _ _ _ (_ :: _) _ _)); (first | go_skip | (refine wpL_ld M4 rfl rfl rfl (by repeat (first | exact Has.head _ _ _ _ | apply Has.tail)) (by first | exact rd_num _ _ | exact rd_bits _ | exact rd_part _ _ | exact rd_minus _ _ | assumption) ?_) | (refine wpL_ldg M4 rfl rfl rfl (by repeat (first | exact Has.head _ _ _ _ | apply Has.tail)) (by first | exact rd_num _ _ | exact rd_bits _ | exact rd_part _ _ | exact rd_minus _ _ | assumption) ?_) | (refine wpN_1 rfl rfl rfl ?_) | (refine wpN_0 rfl rfl ?_) | (refine wpN_2 rfl rfl rfl rfl ?_) | (refine wpL_st M4 rfl rfl rfl rfl (by repeat (first | exact Has.head _ _ _ _ | apply Has.tail)) (by first | exact wr_num _ (numC_len _ _) _ _ | exact wr_bits _ (bitsC_len _) _ | exact wr_part _ _ _ | exact wr_minus _ _ _ | assumption) (by repeat (first | exact Upd.head _ _ _ _ _ | apply Upd.tail)) ?_; clear M4; intro w' M4)))
  go_ret
  exact ⟨rfl, M4.below⟩
theorem halves (a b : Nat) : a / 2 * b + a / 2 * b + a % 2 * b = a * b := by
  rw [← Nat.add_mul, ← Nat.add_mul]
  congr 1
  omega
theorem times6_any (a b : Nat) (ha : a ≤ 4611686018427387904) (hb : b ≤ 4611686018427387904) : Ans 35 #[.int .u64 a, .int .u64 b] (.int .u64 ((a * b / 4611686018427387904 : Nat) : Int)) := by
  have b1 : a / 2 * b ≤ 4611686018427387904 * 4611686018427387904 := Nat.mul_le_mul (by omega) hb
  have b2 : a % 2 * b ≤ 4611686018427387904 * 4611686018427387904 := Nat.mul_le_mul (by omega) hb
  obtain ⟨f1, C3⟩ := addN_any (a / 2 * b) (a / 2 * b) (by omega) (by omega)
  obtain ⟨f2, C4⟩ := addN_any (a / 2 * b + a / 2 * b) (a % 2 * b) (by omega) (by omega)
  have C5 := shifted_any false (a / 2 * b + a / 2 * b + a % 2 * b)
  rw [halves] at C4 C5
  have e := prod_le ha hb
  rw [show (2 : Nat) ^ 62 = 4611686018427387904 from rfl, show (2 : Nat) ^ 64 = 18446744073709551616 from rfl, Nat.mod_eq_of_lt (by omega)] at C5
  exact times_go6 a b (a / 2) (a % 2) _ _ _ _ f1 f2 _ (by omega) (by omega) (by omega) (by omega) (by omega) (by omega) (mulN_any _ _ (by omega) (by omega)) (mulN_any _ _ (by omega) (by omega)) C3 C4 C5
end Go.Proofs.Ytolneillcdaibaa

/-
  Logarithms, roots of a half, powers, logarithms of sums: the reference's.
-/
namespace Go.Proofs.Ytolneillcdaibaa
open Go Go.RowKit Go.Th Go.Th.Root Go.Th.Wide Go.Th.Expo

set_option maxRecDepth 20000 in
set_option maxHeartbeats 3200000 in
theorem refLog_go (x N M R : Nat) (hx : 0 < x) (hx2 : x < 18446744073709551616) (hN : pl x = N) (hN2 : N ≤ 63) (hM : (N = 63 ∧ M = x / 2) ∨ (N ≤ 62 ∧ M = x * 2 ^ (62 - N))) (h1 : 4611686018427387904 ≤ M ∧ M < 9223372036854775808) (hR : lg 16 N M = R)
    (C2 : ∀ m : Nat, 4611686018427387904 ≤ m → m < 9223372036854775808 → Ans 37 #[.int .u64 m] (.int .u64 ((m * m / 4611686018427387904 : Nat) : Int))) :
    Ans 27 #[.int .u64 x] (.tuple #[.int .i64 R, .int .i64 0]) := by
  intro w
  have HR := Lib.hid hR
  have HC := Lib.hid C2
  have HP := Lib.hid hN
  have HM := Lib.hid hM
  have HN : Hid ((N + 1) * 2 ^ 16 ≤ 4194304) := Lib.hid (by omega)
  have H1 := Lib.hid h1
  clear hR C2 hN hM h1
  have bx : ((x : Int) == 0) = false := beq_eq_false_iff_ne.2 (by omega)
  have M0 := Mem.start w
  go_enter Try.func27, Try.ntmps27
  go_wp2_with fail
  go_loopw [4, 5] (fun s4 s5 wx => ∃ n y : Nat, s4 = .int .i64 n ∧ s5 = .int .u64 y ∧ 0 < y ∧ y < 18446744073709551616 ∧ n ≤ 63 ∧ Hid (y = x / 2 ^ n) ∧ Mem w wx []) (fun _ y _ => (intOf y).toNat)
  case atStart => exact ⟨0, x, rfl, rfl, hx, hx2, by omega, by show x = x / 2 ^ 0; rw [Nat.pow_zero, Nat.div_one], M0⟩
  case round =>
    clear M0
    obtain ⟨n, y, rfl, rfl, hy0, hy2, hn, HY, M0⟩ := hrel
    by_cases hl : 1 < y
    · have hd := div_succ x n
      rw [← HY.out] at hd
      have HD := Lib.hid hd
      have hn2 : n ≤ 62 := by
        have a := HY.out
        rcases Nat.lt_or_ge 62 n with b | b
        · have c : n = 63 := by omega
          subst c
          omega
        · exact b
      clear hd hn
      go_wp2_with fail
      go_roundw
      case rel => exact ⟨n + 1, y / 2, by go_num, by go_num, by omega, by omega, by omega, HD.out, M0⟩
      case measure => simp [intOf] <;> omega
    · have hn1 : n = N := by rw [← HP.out]; exact (pl_of_div (by rw [← HY.out]; omega)).symm
      subst hn1
      clear hy2 HY
      rcases HM.out with ⟨rfl, rfl⟩ | ⟨hs, hM⟩
      · go_wp2_with fail
        go_loopw [6, 7] (fun s6 s7 wx => s6 = .int .u64 ((x / 2 : Nat) : Int) ∧ s7 = .int .i64 63 ∧ Mem w wx []) (fun _ _ _ => 0)
        case atStart => exact ⟨congrArg (Value.int .u64) (by omega), rfl, M0⟩
        case round =>
          clear M0
          obtain ⟨rfl, rfl, M0⟩ := hrel
          go_wp2_with fail
          go_loopw [6, 8, 9] (fun s6 s8 i wx => ∃ k n m : Nat, k ≤ 16 ∧ i = .int .i64 ((16 - k : Nat) : Int) ∧ s8 = .int .i64 n ∧ s6 = .int .u64 m ∧ 4611686018427387904 ≤ m ∧ m < 9223372036854775808 ∧ Hid ((n + 1) * 2 ^ k ≤ 4194304) ∧ Hid (lg k n m = R) ∧ Mem w wx []) (fun _ _ i _ => 16 - (intOf i).toNat)
          case atStart => exact ⟨16, _, _, by omega, rfl, rfl, rfl, H1.out.1, H1.out.2, HN.out, HR.out, M0⟩
          case round =>
            clear M0 HR HN H1
            obtain ⟨k, n, m, hk, rfl, rfl, rfl, hm1, hm2, HN, HR, M0⟩ := hrel
            cases k with
            | zero =>
              go_wp2_with fail
              go_ret2
              exact ⟨ret_ii (by have := HR.out; rw [← this]; rfl) rfl, M0.below⟩
            | succ k =>
              obtain ⟨r1, r2, r3⟩ := room_up HN.out
              have R1 := Lib.hid r1
              have R2 := Lib.hid r2
              have C := HC.out m hm1 hm2
              obtain ⟨q1, q2⟩ := sqm_range hm1 hm2
              obtain ⟨q, hq⟩ : ∃ q, q = m * m / 4611686018427387904 := ⟨_, rfl⟩
              rw [← hq] at C q1 q2
              have e : ((16 - (k + 1) : Nat) : Int) = ((15 - k : Nat) : Int) := by omega
              have e2 : ((15 - k : Nat) : Int) + 1 = ((16 - k : Nat) : Int) := by omega
              obtain ⟨i, hi⟩ : ∃ i, i = 15 - k := ⟨_, rfl⟩
              rw [e]
              rw [← hi] at e2 ⊢
              have hi2 : i < 16 := by omega
              have E2 := Lib.hid e2
              have HI := Lib.hid hi
              clear hi
              by_cases hc : 9223372036854775808 ≤ q
              · have G := Lib.hid (HR.out ▸ (lg_hi hq hc).symm : lg k (2 * n + 1) (q / 2) = R)
                have HQ := Lib.hid (And.intro hc q2)
                obtain ⟨Q, hQ⟩ : ∃ Q : Int, Q = (q : Int) := ⟨_, rfl⟩
                rw [← hQ] at C
                have hcI : (9223372036854775808 : Int) ≤ Q := by omega
                have q2I : Q < 18446744073709551616 := by omega
                have HQ2 := Lib.hid hQ
                clear hq HR HN r1 r2 hm1 hm2 e e2 hc q1 q2 hQ
                go_wp2_with fail
                (refine (C _).mono ?_; rintro e w2 ⟨rfl, hBl⟩; replace M0 := M0.call hBl; clear hBl C)
                go_wp2_with fail
                go_roundw
                case rel => exact ⟨k, 2 * n + 1, q / 2, by omega, congrArg (Value.int .i64) E2.out, congrArg (Value.int .i64) (by omega), congrArg (Value.int .u64) (by rw [HQ2.out]; omega), by have := HQ.out; omega, by have := HQ.out; omega, R1.out, G.out, M0⟩
                case measure => simp [intOf] <;> omega
              · have G := Lib.hid (HR.out ▸ (lg_lo hq (by omega)).symm : lg k (2 * n) q = R)
                have HQ := Lib.hid (And.intro q1 hc)
                obtain ⟨Q, hQ⟩ : ∃ Q : Int, Q = (q : Int) := ⟨_, rfl⟩
                rw [← hQ] at C
                have hcI : ¬ (9223372036854775808 : Int) ≤ Q := by omega
                have q2I : 0 ≤ Q := by omega
                have HQ2 := Lib.hid hQ
                clear hq HR HN r1 r2 hm1 hm2 e e2 hc q1 q2 hQ
                go_wp2_with fail
                (refine (C _).mono ?_; rintro e w2 ⟨rfl, hBl⟩; replace M0 := M0.call hBl; clear hBl C)
                go_wp2_with fail
                go_roundw
                case rel => exact ⟨k, 2 * n, q, by omega, congrArg (Value.int .i64) E2.out, congrArg (Value.int .i64) (by omega), congrArg (Value.int .u64) HQ2.out, by have := HQ.out; omega, by have := HQ.out; omega, R2.out, G.out, M0⟩
                case measure => simp [intOf] <;> omega
      · have b63 : ((n : Int) == 63) = false := beq_eq_false_iff_ne.2 (by omega)
        go_wp2_with fail
        go_loopw [6, 7] (fun s6 s7 wx => ∃ m i : Nat, i ≤ 62 ∧ s6 = .int .u64 m ∧ s7 = .int .i64 i ∧ Hid (m * 2 ^ (62 - i) = M) ∧ Mem w wx []) (fun _ i _ => 62 - (intOf i).toNat)
        case atStart => exact ⟨x, n, hs, rfl, rfl, hM.symm, M0⟩
        case round =>
          clear M0 hM
          obtain ⟨m, i, hi, rfl, rfl, HX, M0⟩ := hrel
          by_cases hi2 : i < 62
          · have e := HX.out
            rw [show 62 - i = 62 - (i + 1) + 1 by omega, Nat.pow_succ, Nat.mul_comm (2 ^ _) 2, ← Nat.mul_assoc, Nat.mul_comm m 2] at e
            have c : 0 < 2 ^ (62 - (i + 1)) := Nat.two_pow_pos _
            have b := Nat.le_mul_of_pos_right (2 * m) c
            have h1' := H1.out
            have hm : 2 * m < 9223372036854775808 := by omega
            have HE := Lib.hid e
            clear e c b h1' HX
            go_wp2_with fail
            go_roundw
            case rel => exact ⟨2 * m, i + 1, by omega, by go_num, by go_num, HE.out, M0⟩
            case measure => simp [intOf] <;> omega
          · obtain rfl : m = M := by have := HX.out; rwa [show 62 - i = 0 by omega, Nat.pow_zero, Nat.mul_one] at this
            clear HX
            go_wp2_with fail
            go_loopw [6, 8, 9] (fun s6 s8 i wx => ∃ k n m : Nat, k ≤ 16 ∧ i = .int .i64 ((16 - k : Nat) : Int) ∧ s8 = .int .i64 n ∧ s6 = .int .u64 m ∧ 4611686018427387904 ≤ m ∧ m < 9223372036854775808 ∧ Hid ((n + 1) * 2 ^ k ≤ 4194304) ∧ Hid (lg k n m = R) ∧ Mem w wx []) (fun _ _ i _ => 16 - (intOf i).toNat)
            case atStart => exact ⟨16, _, _, by omega, rfl, rfl, rfl, H1.out.1, H1.out.2, HN.out, HR.out, M0⟩
            case round =>
              clear M0 HR HN H1
              obtain ⟨k, n, m, hk, rfl, rfl, rfl, hm1, hm2, HN, HR, M0⟩ := hrel
              cases k with
              | zero =>
                go_wp2_with fail
                go_ret2
                exact ⟨ret_ii (by have := HR.out; rw [← this]; rfl) rfl, M0.below⟩
              | succ k =>
                obtain ⟨r1, r2, r3⟩ := room_up HN.out
                have R1 := Lib.hid r1
                have R2 := Lib.hid r2
                have C := HC.out m hm1 hm2
                obtain ⟨q1, q2⟩ := sqm_range hm1 hm2
                obtain ⟨q, hq⟩ : ∃ q, q = m * m / 4611686018427387904 := ⟨_, rfl⟩
                rw [← hq] at C q1 q2
                have e : ((16 - (k + 1) : Nat) : Int) = ((15 - k : Nat) : Int) := by omega
                have e2 : ((15 - k : Nat) : Int) + 1 = ((16 - k : Nat) : Int) := by omega
                obtain ⟨i, hi⟩ : ∃ i, i = 15 - k := ⟨_, rfl⟩
                rw [e]
                rw [← hi] at e2 ⊢
                have hi2 : i < 16 := by omega
                have E2 := Lib.hid e2
                have HI := Lib.hid hi
                clear hi
                by_cases hc : 9223372036854775808 ≤ q
                · have G := Lib.hid (HR.out ▸ (lg_hi hq hc).symm : lg k (2 * n + 1) (q / 2) = R)
                  have HQ := Lib.hid (And.intro hc q2)
                  obtain ⟨Q, hQ⟩ : ∃ Q : Int, Q = (q : Int) := ⟨_, rfl⟩
                  rw [← hQ] at C
                  have hcI : (9223372036854775808 : Int) ≤ Q := by omega
                  have q2I : Q < 18446744073709551616 := by omega
                  have HQ2 := Lib.hid hQ
                  clear hq HR HN r1 r2 hm1 hm2 e e2 hc q1 q2 hQ
                  go_wp2_with fail
                  (refine (C _).mono ?_; rintro e w2 ⟨rfl, hBl⟩; replace M0 := M0.call hBl; clear hBl C)
                  go_wp2_with fail
                  go_roundw
                  case rel => exact ⟨k, 2 * n + 1, q / 2, by omega, congrArg (Value.int .i64) E2.out, congrArg (Value.int .i64) (by omega), congrArg (Value.int .u64) (by rw [HQ2.out]; omega), by have := HQ.out; omega, by have := HQ.out; omega, R1.out, G.out, M0⟩
                  case measure => simp [intOf] <;> omega
                · have G := Lib.hid (HR.out ▸ (lg_lo hq (by omega)).symm : lg k (2 * n) q = R)
                  have HQ := Lib.hid (And.intro q1 hc)
                  obtain ⟨Q, hQ⟩ : ∃ Q : Int, Q = (q : Int) := ⟨_, rfl⟩
                  rw [← hQ] at C
                  have hcI : ¬ (9223372036854775808 : Int) ≤ Q := by omega
                  have q2I : 0 ≤ Q := by omega
                  have HQ2 := Lib.hid hQ
                  clear hq HR HN r1 r2 hm1 hm2 e e2 hc q1 q2 hQ
                  go_wp2_with fail
                  (refine (C _).mono ?_; rintro e w2 ⟨rfl, hBl⟩; replace M0 := M0.call hBl; clear hBl C)
                  go_wp2_with fail
                  go_roundw
                  case rel => exact ⟨k, 2 * n, q, by omega, congrArg (Value.int .i64) E2.out, congrArg (Value.int .i64) (by omega), congrArg (Value.int .u64) HQ2.out, by have := HQ.out; omega, by have := HQ.out; omega, R2.out, G.out, M0⟩
                  case measure => simp [intOf] <;> omega
theorem refLog_any (x : Nat) (h0 : 0 < x) (hx : x < 18446744073709551616) : Ans 27 #[.int .u64 x] (.tuple #[.int .i64 ((logS x : Nat) : Int), .int .i64 0]) := by
  have a := pl_63 h0 hx
  refine refLog_go x (pl x) (mant x) _ h0 hx rfl a ?_ (mant_range h0 hx) rfl square6_any
  by_cases h : pl x = 63
  · exact .inl ⟨h, by unfold mant; rw [if_pos h]⟩
  · exact .inr ⟨by omega, by unfold mant; rw [if_neg h]⟩
set_option maxRecDepth 20000 in
set_option maxHeartbeats 3200000 in
theorem refLog_0 : Ans 27 #[.int .u64 0] (.tuple #[.int .i64 0, .int .i64 2]) := by
  intro w
  go_enter Try.func27, Try.ntmps27
  go_wp2_with fail
  go_ret2
  exact ⟨rfl, Below.refl _ _⟩
end Go.Proofs.Ytolneillcdaibaa

/-
  Roots of a half, powers, logarithms of sums: the reference's.
-/
namespace Go.Proofs.Ytolneillcdaibaa
open Go Go.RowKit Go.Th Go.Th.Root Go.Th.Wide Go.Th.Expo

theorem pow62_any : Ans 33 #[.int .i64 62] (.int .i64 4611686018427387904) := by
  have C := pow6_any 62 (by decide)
  rw [show (((2 : Nat) ^ 62 : Nat) : Int) = 4611686018427387904 by decide] at C
  exact C
theorem pow61_any : Ans 33 #[.int .i64 61] (.int .i64 2305843009213693952) := by
  have C := pow6_any 61 (by decide)
  rw [show (((2 : Nat) ^ 61 : Nat) : Int) = 2305843009213693952 by decide] at C
  exact C
theorem pow30_any : Ans 33 #[.int .i64 30] (.int .i64 1073741824) := by
  have C := pow6_any 30 (by decide)
  rw [show (((2 : Nat) ^ 30 : Nat) : Int) = 1073741824 by decide] at C
  exact C
theorem cmpN_any (a b : Nat) (ha : a < 2 ^ 129) (hb : b < 2 ^ 129) : Ans 49 #[.agg (numC false a).toArray, .agg (numC false b).toArray] (.int .i64 (cmpS (a : Int) (b : Int))) := fun w => refCmp_any false false a b ha hb w

set_option maxRecDepth 20000 in
set_option maxHeartbeats 3200000 in
theorem root6_go (h W R : Nat) (hh : h ≤ 4611686018427387904) (hR : R ≤ 4611686018427387904)
    (C0 : Ans 33 #[.int .i64 62] (.int .i64 4611686018427387904))
    (C1 : Ans 48 #[.int .i64 h, .int .i64 4611686018427387904] (.agg (numC false W).toArray))
    (C2 : ∀ m : Nat, m ≤ 4611686018427387904 → Ans 48 #[.int .i64 m, .int .i64 m] (.agg (numC false (m * m)).toArray))
    (C3 : ∀ m : Nat, m ≤ 4611686018427387904 → ∃ c : Int, (c ≤ 0 ↔ m ≤ R) ∧ Ans 49 #[.agg (numC false (m * m)).toArray, .agg (numC false W).toArray] (.int .i64 c)) :
    Ans 34 #[.int .u64 h] (.int .u64 R) := by
  intro w
  have H2 := Lib.hid C2
  have H3 := Lib.hid C3
  clear C2 C3
  have M0 := Mem.start w
  go_enter Try.func34, Try.ntmps34
  go_wp2_with ((with_reducible refine (?_ : Go.wpList _ _ _ (_ :: _) _ _)); (first | go_skip | (refine wpL_ld M0 rfl rfl rfl (by repeat (first | exact Has.head _ _ _ _ | apply Has.tail)) (by first | exact rd_num _ _ | exact rd_bits _ | exact rd_part _ _ | exact rd_minus _ _ | assumption) ?_) | (refine wpL_ldg M0 rfl rfl rfl (by repeat (first | exact Has.head _ _ _ _ | apply Has.tail)) (by first | exact rd_num _ _ | exact rd_bits _ | exact rd_part _ _ | exact rd_minus _ _ | assumption) ?_) | (refine wpN_1 rfl rfl rfl ?_) | (refine wpN_0 rfl rfl ?_) | (refine wpN_2 rfl rfl rfl rfl ?_) | (refine wpL_st M0 rfl rfl rfl rfl (by repeat (first | exact Has.head _ _ _ _ | apply Has.tail)) (by first | exact wr_num _ (numC_len _ _) _ _ | exact wr_bits _ (bitsC_len _) _ | exact wr_part _ _ _ | exact wr_minus _ _ _ | assumption) (by repeat (first | exact Upd.head _ _ _ _ _ | apply Upd.tail)) ?_; clear M0; intro w' M0)))
  (refine (C0 _).mono ?_; rintro e w2 ⟨rfl, hBl⟩; replace M0 := M0.call hBl; clear hBl)
  go_wp2_with ((with_reducible refine (?_ : Go.wpList _ _ _ (_ :: _) _ _)); (first | go_skip | (refine wpL_ld M0 rfl rfl rfl (by repeat (first | exact Has.head _ _ _ _ | apply Has.tail)) (by first | exact rd_num _ _ | exact rd_bits _ | exact rd_part _ _ | exact rd_minus _ _ | assumption) ?_) | (refine wpL_ldg M0 rfl rfl rfl (by repeat (first | exact Has.head _ _ _ _ | apply Has.tail)) (by first | exact rd_num _ _ | exact rd_bits _ | exact rd_part _ _ | exact rd_minus _ _ | assumption) ?_) | (refine wpN_1 rfl rfl rfl ?_) | (refine wpN_0 rfl rfl ?_) | (refine wpN_2 rfl rfl rfl rfl ?_) | (refine wpL_st M0 rfl rfl rfl rfl (by repeat (first | exact Has.head _ _ _ _ | apply Has.tail)) (by first | exact wr_num _ (numC_len _ _) _ _ | exact wr_bits _ (bitsC_len _) _ | exact wr_part _ _ _ | exact wr_minus _ _ _ | assumption) (by repeat (first | exact Upd.head _ _ _ _ _ | apply Upd.tail)) ?_; clear M0; intro w' M0)))
  (refine (C1 _).mono ?_; rintro e w2 ⟨rfl, hBl⟩; replace M0 := M0.call hBl; clear hBl C1)
  go_wp2_with ((with_reducible refine (?_ : Go.wpList _ _ _ (_ :: _) _ _)); (first | go_skip | (refine wpL_bx M0 rfl rfl rfl rfl ?_; clear M0; intro g1 w1 M1) | (refine wpL_al M0 rfl rfl zero27 rfl ?_; clear M0; intro g1 w1 M1) | (refine wpL_al M0 rfl rfl zero29 rfl ?_; clear M0; intro g1 w1 M1) | (refine wpL_ld M0 rfl rfl rfl (by repeat (first | exact Has.head _ _ _ _ | apply Has.tail)) (by first | exact rd_num _ _ | exact rd_bits _ | exact rd_part _ _ | exact rd_minus _ _ | assumption) ?_) | (refine wpL_ldg M0 rfl rfl rfl (by repeat (first | exact Has.head _ _ _ _ | apply Has.tail)) (by first | exact rd_num _ _ | exact rd_bits _ | exact rd_part _ _ | exact rd_minus _ _ | assumption) ?_) | (refine wpN_1 rfl rfl rfl ?_) | (refine wpN_0 rfl rfl ?_) | (refine wpN_2 rfl rfl rfl rfl ?_) | (refine wpL_st M0 rfl rfl rfl rfl (by repeat (first | exact Has.head _ _ _ _ | apply Has.tail)) (by first | exact wr_num _ (numC_len _ _) _ _ | exact wr_bits _ (bitsC_len _) _ | exact wr_part _ _ _ | exact wr_minus _ _ _ | assumption) (by repeat (first | exact Upd.head _ _ _ _ _ | apply Upd.tail)) ?_; clear M0; intro w' M0) | (refine wpL_ld M1 rfl rfl rfl (by repeat (first | exact Has.head _ _ _ _ | apply Has.tail)) (by first | exact rd_num _ _ | exact rd_bits _ | exact rd_part _ _ | exact rd_minus _ _ | assumption) ?_) | (refine wpL_ldg M1 rfl rfl rfl (by repeat (first | exact Has.head _ _ _ _ | apply Has.tail)) (by first | exact rd_num _ _ | exact rd_bits _ | exact rd_part _ _ | exact rd_minus _ _ | assumption) ?_) | (refine wpN_1 rfl rfl rfl ?_) | (refine wpN_0 rfl rfl ?_) | (refine wpN_2 rfl rfl rfl rfl ?_) | (refine wpL_st M1 rfl rfl rfl rfl (by repeat (first | exact Has.head _ _ _ _ | apply Has.tail)) (by first | exact wr_num _ (numC_len _ _) _ _ | exact wr_bits _ (bitsC_len _) _ | exact wr_part _ _ _ | exact wr_minus _ _ _ | assumption) (by repeat (first | exact Upd.head _ _ _ _ _ | apply Upd.tail)) ?_; clear M1; intro w' M1)))
  (refine (C0 _).mono ?_; rintro e w2 ⟨rfl, hBl⟩; replace M1 := M1.call hBl; clear hBl C0)
  go_wp2_with ((with_reducible refine (?_ : Go.wpList _ _ _ (_ :: _) _ _)); (first | go_skip | (refine wpL_ld M1 rfl rfl rfl (by repeat (first | exact Has.head _ _ _ _ | apply Has.tail)) (by first | exact rd_num _ _ | exact rd_bits _ | exact rd_part _ _ | exact rd_minus _ _ | assumption) ?_) | (refine wpL_ldg M1 rfl rfl rfl (by repeat (first | exact Has.head _ _ _ _ | apply Has.tail)) (by first | exact rd_num _ _ | exact rd_bits _ | exact rd_part _ _ | exact rd_minus _ _ | assumption) ?_) | (refine wpN_1 rfl rfl rfl ?_) | (refine wpN_0 rfl rfl ?_) | (refine wpN_2 rfl rfl rfl rfl ?_) | (refine wpL_st M1 rfl rfl rfl rfl (by repeat (first | exact Has.head _ _ _ _ | apply Has.tail)) (by first | exact wr_num _ (numC_len _ _) _ _ | exact wr_bits _ (bitsC_len _) _ | exact wr_part _ _ _ | exact wr_minus _ _ _ | assumption) (by repeat (first | exact Upd.head _ _ _ _ _ | apply Upd.tail)) ?_; clear M1; intro w' M1)))
  go_loopw [4, 5] (fun lo hi wx => ∃ l u : Nat, lo = .int .u64 l ∧ hi = .int .u64 u ∧ l ≤ R ∧ R < u ∧ u ≤ 4611686018427387905 ∧ Mem w wx [(g1, 71, numC false W)]) (fun lo hi _ => (intOf hi).toNat - (intOf lo).toNat)
  case atStart => exact ⟨0, 4611686018427387905, rfl, rfl, by omega, by omega, by omega, M1⟩
  case round =>
    clear M1
    obtain ⟨l, u, rfl, rfl, hl, hu, hu2, M1⟩ := hrel
    obtain ⟨d, hd⟩ : ∃ d : Nat, d = u - l := ⟨_, rfl⟩
    have ed : (u : Int) - (l : Int) = (d : Int) := by omega
    by_cases h1 : 1 < d
    · obtain ⟨m, hm⟩ : ∃ m, m = (l + u) / 2 := ⟨_, rfl⟩
      have em : ((l : Int) + (u : Int)) / 2 = (m : Int) := by omega
      have hm1 : l < m := by omega
      have hm2 : m < u := by omega
      have hm3 : m ≤ 4611686018427387904 := by omega
      have D2 := H2.out m hm3
      obtain ⟨c, hc, D3⟩ := H3.out m hm3
      obtain ⟨q, hq⟩ : ∃ q, q = m * m := ⟨_, rfl⟩
      rw [← hq] at D2 D3
      have EM := Lib.hid em
      have ew : IntKind.i64.wrap (((l : Int) + (u : Int)) / 2) = (m : Int) := by rw [em, IntKind.wrap_i64]; omega
      have HC := Lib.hid hc
      have HM := Lib.hid (And.intro hm1 hm2)
      have HL := Lib.hid (And.intro hl hu)
      have HU := Lib.hid (And.intro hd hm)
      have h1 : (1 : Int) < (d : Int) := by omega
      clear hq hc hm1 hm2 hd hm hl hu hR hh em
      by_cases hc0 : c ≤ 0
      · have HRR := Lib.hid ((HC.out).1 hc0)
        go_wp2_with ((with_reducible refine (?_ : Go.wpList _ _ _ (_ :: _) _ _)); (first | go_skip | (refine wpL_ld M1 rfl rfl rfl (by repeat (first | exact Has.head _ _ _ _ | apply Has.tail)) (by first | exact rd_num _ _ | exact rd_bits _ | exact rd_part _ _ | exact rd_minus _ _ | assumption) ?_) | (refine wpL_ldg M1 rfl rfl rfl (by repeat (first | exact Has.head _ _ _ _ | apply Has.tail)) (by first | exact rd_num _ _ | exact rd_bits _ | exact rd_part _ _ | exact rd_minus _ _ | assumption) ?_) | (refine wpN_1 rfl rfl rfl ?_) | (refine wpN_0 rfl rfl ?_) | (refine wpN_2 rfl rfl rfl rfl ?_) | (refine wpL_st M1 rfl rfl rfl rfl (by repeat (first | exact Has.head _ _ _ _ | apply Has.tail)) (by first | exact wr_num _ (numC_len _ _) _ _ | exact wr_bits _ (bitsC_len _) _ | exact wr_part _ _ _ | exact wr_minus _ _ _ | assumption) (by repeat (first | exact Upd.head _ _ _ _ _ | apply Upd.tail)) ?_; clear M1; intro w' M1)))
        replace M1 := M1.drew
        refine wp_region_held_drew (S := (fun w' : World => Mem w w' [(g1, 71, numC false W)])) (by kernel_rfl) ((M1)) (fun hHeld => ?_)
        refine wpAnyH_take (i := 0) (v := ?v1) rfl (by kernel_rfl) (by kernel_rfl) (by kernel_rfl) (fun _ _ _ h => h) (Or.inl ⟨by rfl, ?hy1⟩) hHeld ?rest1
        case hy1 => (intro w' hSw; (try dsimp only at hSw); go_simp; (try with_reducible rfl))
        try simp only [Act.put, List.setIfInBounds_toArray, List.set_cons_zero, List.set_cons_succ, List.getElem_toArray, List.getElem_cons_zero, List.getElem_cons_succ]
        refine wpAnyH_take (i := 1) (v := ?v2) rfl (by kernel_rfl) (by kernel_rfl) (by kernel_rfl) (fun _ _ _ h => h) (Or.inl ⟨by rfl, ?hy2⟩) hHeld ?rest2
        case hy2 => (intro w' hSw; (try dsimp only at hSw); go_simp; (try with_reducible rfl))
        try simp only [Act.put, List.setIfInBounds_toArray, List.set_cons_zero, List.set_cons_succ, List.getElem_toArray, List.getElem_cons_zero, List.getElem_cons_succ]
        refine wpAnyH_take (i := 2) (v := ?v3) rfl (by kernel_rfl) (by kernel_rfl) (by kernel_rfl) (fun _ _ _ h => h) (Or.inl ⟨by rfl, ?hy3⟩) hHeld ?rest3
        case hy3 => (intro w' hSw; (try dsimp only at hSw); go_simp; (try with_reducible rfl))
        try simp only [Act.put, List.setIfInBounds_toArray, List.set_cons_zero, List.set_cons_succ, List.getElem_toArray, List.getElem_cons_zero, List.getElem_cons_succ]
        refine wpAnyH_take (i := 3) (v := ?v4) rfl (by kernel_rfl) (by kernel_rfl) (by kernel_rfl) (fun _ _ _ h => h) (Or.inl ⟨by rfl, ?hy4⟩) hHeld ?rest4
        case hy4 => (intro w' hSw; (try dsimp only at hSw); go_simp; (try with_reducible rfl))
        try simp only [Act.put, List.setIfInBounds_toArray, List.set_cons_zero, List.set_cons_succ, List.getElem_toArray, List.getElem_cons_zero, List.getElem_cons_succ]
        refine wpAnyH_take (i := 5) rfl (by kernel_rfl) (by kernel_rfl) (by kernel_rfl) (fun _ _ _ h => h) (yi_ld (fun _ h => ⟨_, h⟩) (by rfl) rfl rfl (by repeat (first | exact Has.head _ _ _ _ | apply Has.tail)) (by first | exact rd_num _ _ | exact rd_bits _ | exact rd_part _ _ | exact rd_minus _ _ | assumption)) hHeld ?_
        try simp only [Act.put, List.setIfInBounds_toArray, List.set_cons_zero, List.set_cons_succ, List.getElem_toArray, List.getElem_cons_zero, List.getElem_cons_succ]
        refine wpAnyH_ready (rs := [4]) (by kernel_rfl) (by simp) ?_
        refine AllReadyH.cons rfl (fun K hK => ?_) AllReadyH.nil
        go_simp
        refine (D2 _).mono ?_
        rintro e w2 ⟨rfl, hBl⟩
        replace M1 := M1.call hBl
        clear hBl D2
        try go_wp2_with fail
        refine hK.out _ _ (M1) (fun hHeld => ?_)
        clear hK K
        try simp only [Act.put, List.setIfInBounds_toArray, List.set_cons_zero, List.set_cons_succ, List.getElem_toArray, List.getElem_cons_zero, List.getElem_cons_succ]
        refine wpAnyH_ready (rs := [6]) (by kernel_rfl) (by simp) ?_
        refine AllReadyH.cons rfl (fun K hK => ?_) AllReadyH.nil
        go_simp
        refine (D3 _).mono ?_
        rintro e w2 ⟨rfl, hBl⟩
        replace M1 := M1.call hBl
        clear hBl D3
        try go_wp2_with fail
        refine hK.out _ _ (M1) (fun hHeld => ?_)
        clear hK K
        try simp only [Act.put, List.setIfInBounds_toArray, List.set_cons_zero, List.set_cons_succ, List.getElem_toArray, List.getElem_cons_zero, List.getElem_cons_succ]
        refine wpAnyH_take (i := 7) (v := ?v8) rfl (by kernel_rfl) (by kernel_rfl) (by kernel_rfl) (fun _ _ _ h => h) (Or.inl ⟨by rfl, ?hy8⟩) hHeld ?rest8
        case hy8 => (intro w' hSw; (try dsimp only at hSw); go_simp; (try with_reducible rfl))
        try simp only [Act.put, List.setIfInBounds_toArray, List.set_cons_zero, List.set_cons_succ, List.getElem_toArray, List.getElem_cons_zero, List.getElem_cons_succ]
        refine wpAnyH_done (by kernel_rfl) ?_ _
        go_wp2_with ((with_reducible refine (?_ : Go.wpList _ _ _ (_ :: _) _ _)); (first | go_skip | (refine wpL_ld M1 rfl rfl rfl (by repeat (first | exact Has.head _ _ _ _ | apply Has.tail)) (by first | exact rd_num _ _ | exact rd_bits _ | exact rd_part _ _ | exact rd_minus _ _ | assumption) ?_) | (refine wpL_ldg M1 rfl rfl rfl (by repeat (first | exact Has.head _ _ _ _ | apply Has.tail)) (by first | exact rd_num _ _ | exact rd_bits _ | exact rd_part _ _ | exact rd_minus _ _ | assumption) ?_) | (refine wpN_1 rfl rfl rfl ?_) | (refine wpN_0 rfl rfl ?_) | (refine wpN_2 rfl rfl rfl rfl ?_) | (refine wpL_st M1 rfl rfl rfl rfl (by repeat (first | exact Has.head _ _ _ _ | apply Has.tail)) (by first | exact wr_num _ (numC_len _ _) _ _ | exact wr_bits _ (bitsC_len _) _ | exact wr_part _ _ _ | exact wr_minus _ _ _ | assumption) (by repeat (first | exact Upd.head _ _ _ _ _ | apply Upd.tail)) ?_; clear M1; intro w' M1)))
        go_roundw
        case rel => exact ⟨m, u, congrArg (Value.int .u64) EM.out, rfl, HRR.out, HL.out.2, hu2, M1⟩
        case measure =>
          have a := HM.out
          have b := EM.out
          simp only [intOf]
          omega
      · have HRR := Lib.hid (show R < m by have := HC.out; omega)
        go_wp2_with ((with_reducible refine (?_ : Go.wpList _ _ _ (_ :: _) _ _)); (first | go_skip | (refine wpL_ld M1 rfl rfl rfl (by repeat (first | exact Has.head _ _ _ _ | apply Has.tail)) (by first | exact rd_num _ _ | exact rd_bits _ | exact rd_part _ _ | exact rd_minus _ _ | assumption) ?_) | (refine wpL_ldg M1 rfl rfl rfl (by repeat (first | exact Has.head _ _ _ _ | apply Has.tail)) (by first | exact rd_num _ _ | exact rd_bits _ | exact rd_part _ _ | exact rd_minus _ _ | assumption) ?_) | (refine wpN_1 rfl rfl rfl ?_) | (refine wpN_0 rfl rfl ?_) | (refine wpN_2 rfl rfl rfl rfl ?_) | (refine wpL_st M1 rfl rfl rfl rfl (by repeat (first | exact Has.head _ _ _ _ | apply Has.tail)) (by first | exact wr_num _ (numC_len _ _) _ _ | exact wr_bits _ (bitsC_len _) _ | exact wr_part _ _ _ | exact wr_minus _ _ _ | assumption) (by repeat (first | exact Upd.head _ _ _ _ _ | apply Upd.tail)) ?_; clear M1; intro w' M1)))
        replace M1 := M1.drew
        refine wp_region_held_drew (S := (fun w' : World => Mem w w' [(g1, 71, numC false W)])) (by kernel_rfl) ((M1)) (fun hHeld => ?_)
        refine wpAnyH_take (i := 0) (v := ?v9) rfl (by kernel_rfl) (by kernel_rfl) (by kernel_rfl) (fun _ _ _ h => h) (Or.inl ⟨by rfl, ?hy9⟩) hHeld ?rest9
        case hy9 => (intro w' hSw; (try dsimp only at hSw); go_simp; (try with_reducible rfl))
        try simp only [Act.put, List.setIfInBounds_toArray, List.set_cons_zero, List.set_cons_succ, List.getElem_toArray, List.getElem_cons_zero, List.getElem_cons_succ]
        refine wpAnyH_take (i := 1) (v := ?v10) rfl (by kernel_rfl) (by kernel_rfl) (by kernel_rfl) (fun _ _ _ h => h) (Or.inl ⟨by rfl, ?hy10⟩) hHeld ?rest10
        case hy10 => (intro w' hSw; (try dsimp only at hSw); go_simp; (try with_reducible rfl))
        try simp only [Act.put, List.setIfInBounds_toArray, List.set_cons_zero, List.set_cons_succ, List.getElem_toArray, List.getElem_cons_zero, List.getElem_cons_succ]
        refine wpAnyH_take (i := 2) (v := ?v11) rfl (by kernel_rfl) (by kernel_rfl) (by kernel_rfl) (fun _ _ _ h => h) (Or.inl ⟨by rfl, ?hy11⟩) hHeld ?rest11
        case hy11 => (intro w' hSw; (try dsimp only at hSw); go_simp; (try with_reducible rfl))
        try simp only [Act.put, List.setIfInBounds_toArray, List.set_cons_zero, List.set_cons_succ, List.getElem_toArray, List.getElem_cons_zero, List.getElem_cons_succ]
        refine wpAnyH_take (i := 3) (v := ?v12) rfl (by kernel_rfl) (by kernel_rfl) (by kernel_rfl) (fun _ _ _ h => h) (Or.inl ⟨by rfl, ?hy12⟩) hHeld ?rest12
        case hy12 => (intro w' hSw; (try dsimp only at hSw); go_simp; (try with_reducible rfl))
        try simp only [Act.put, List.setIfInBounds_toArray, List.set_cons_zero, List.set_cons_succ, List.getElem_toArray, List.getElem_cons_zero, List.getElem_cons_succ]
        refine wpAnyH_take (i := 5) rfl (by kernel_rfl) (by kernel_rfl) (by kernel_rfl) (fun _ _ _ h => h) (yi_ld (fun _ h => ⟨_, h⟩) (by rfl) rfl rfl (by repeat (first | exact Has.head _ _ _ _ | apply Has.tail)) (by first | exact rd_num _ _ | exact rd_bits _ | exact rd_part _ _ | exact rd_minus _ _ | assumption)) hHeld ?_
        try simp only [Act.put, List.setIfInBounds_toArray, List.set_cons_zero, List.set_cons_succ, List.getElem_toArray, List.getElem_cons_zero, List.getElem_cons_succ]
        refine wpAnyH_ready (rs := [4]) (by kernel_rfl) (by simp) ?_
        refine AllReadyH.cons rfl (fun K hK => ?_) AllReadyH.nil
        go_simp
        refine (D2 _).mono ?_
        rintro e w2 ⟨rfl, hBl⟩
        replace M1 := M1.call hBl
        clear hBl D2
        try go_wp2_with fail
        refine hK.out _ _ (M1) (fun hHeld => ?_)
        clear hK K
        try simp only [Act.put, List.setIfInBounds_toArray, List.set_cons_zero, List.set_cons_succ, List.getElem_toArray, List.getElem_cons_zero, List.getElem_cons_succ]
        refine wpAnyH_ready (rs := [6]) (by kernel_rfl) (by simp) ?_
        refine AllReadyH.cons rfl (fun K hK => ?_) AllReadyH.nil
        go_simp
        refine (D3 _).mono ?_
        rintro e w2 ⟨rfl, hBl⟩
        replace M1 := M1.call hBl
        clear hBl D3
        try go_wp2_with fail
        refine hK.out _ _ (M1) (fun hHeld => ?_)
        clear hK K
        try simp only [Act.put, List.setIfInBounds_toArray, List.set_cons_zero, List.set_cons_succ, List.getElem_toArray, List.getElem_cons_zero, List.getElem_cons_succ]
        refine wpAnyH_take (i := 7) (v := ?v16) rfl (by kernel_rfl) (by kernel_rfl) (by kernel_rfl) (fun _ _ _ h => h) (Or.inl ⟨by rfl, ?hy16⟩) hHeld ?rest16
        case hy16 => (intro w' hSw; (try dsimp only at hSw); go_simp; (try with_reducible rfl))
        try simp only [Act.put, List.setIfInBounds_toArray, List.set_cons_zero, List.set_cons_succ, List.getElem_toArray, List.getElem_cons_zero, List.getElem_cons_succ]
        refine wpAnyH_done (by kernel_rfl) ?_ _
        go_wp2_with ((with_reducible refine (?_ : Go.wpList _ _ _ (_ :: _) _ _)); (first | go_skip | (refine wpL_ld M1 rfl rfl rfl (by repeat (first | exact Has.head _ _ _ _ | apply Has.tail)) (by first | exact rd_num _ _ | exact rd_bits _ | exact rd_part _ _ | exact rd_minus _ _ | assumption) ?_) | (refine wpL_ldg M1 rfl rfl rfl (by repeat (first | exact Has.head _ _ _ _ | apply Has.tail)) (by first | exact rd_num _ _ | exact rd_bits _ | exact rd_part _ _ | exact rd_minus _ _ | assumption) ?_) | (refine wpN_1 rfl rfl rfl ?_) | (refine wpN_0 rfl rfl ?_) | (refine wpN_2 rfl rfl rfl rfl ?_) | (refine wpL_st M1 rfl rfl rfl rfl (by repeat (first | exact Has.head _ _ _ _ | apply Has.tail)) (by first | exact wr_num _ (numC_len _ _) _ _ | exact wr_bits _ (bitsC_len _) _ | exact wr_part _ _ _ | exact wr_minus _ _ _ | assumption) (by repeat (first | exact Upd.head _ _ _ _ _ | apply Upd.tail)) ?_; clear M1; intro w' M1)))
        go_roundw
        case rel => exact ⟨l, m, rfl, congrArg (Value.int .u64) EM.out, HL.out.1, HRR.out, by omega, M1⟩
        case measure =>
          have a := HM.out
          have b := EM.out
          simp only [intOf]
          omega
    · obtain rfl : l = R := by omega
      go_wp2_with ((with_reducible refine (?_ : Go.wpList _ _ _ (_ :: _) _ _)); (first | go_skip | (refine wpL_ld M1 rfl rfl rfl (by repeat (first | exact Has.head _ _ _ _ | apply Has.tail)) (by first | exact rd_num _ _ | exact rd_bits _ | exact rd_part _ _ | exact rd_minus _ _ | assumption) ?_) | (refine wpL_ldg M1 rfl rfl rfl (by repeat (first | exact Has.head _ _ _ _ | apply Has.tail)) (by first | exact rd_num _ _ | exact rd_bits _ | exact rd_part _ _ | exact rd_minus _ _ | assumption) ?_) | (refine wpN_1 rfl rfl rfl ?_) | (refine wpN_0 rfl rfl ?_) | (refine wpN_2 rfl rfl rfl rfl ?_) | (refine wpL_st M1 rfl rfl rfl rfl (by repeat (first | exact Has.head _ _ _ _ | apply Has.tail)) (by first | exact wr_num _ (numC_len _ _) _ _ | exact wr_bits _ (bitsC_len _) _ | exact wr_part _ _ _ | exact wr_minus _ _ _ | assumption) (by repeat (first | exact Upd.head _ _ _ _ _ | apply Upd.tail)) ?_; clear M1; intro w' M1)))
      go_ret
      exact ⟨rfl, M1.below⟩
theorem root6_any (h : Nat) (hh : h ≤ 4611686018427387904) : Ans 34 #[.int .u64 h] (.int .u64 ((rt 2 (h * 4611686018427387904) : Nat) : Int)) := by
  have hW : h * 4611686018427387904 ≤ 4611686018427387904 * 4611686018427387904 := Nat.mul_le_mul_right _ hh
  refine root6_go h (h * 4611686018427387904) _ hh (root_le hh) pow62_any (mulN_any h 4611686018427387904 (by omega) (by omega)) (fun m hm => mulN_any m m (by omega) (by omega)) (fun m hm => ?_)
  have hm2 : m * m ≤ 4611686018427387904 * 4611686018427387904 := Nat.mul_le_mul hm hm
  refine ⟨_, ?_, cmpN_any (m * m) (h * 4611686018427387904) (by omega) (by omega)⟩
  rw [le_rt (by decide), Nat.pow_two]
  unfold cmpS
  generalize m * m = a
  generalize h * 4611686018427387904 = b
  split
  · omega
  · split <;> omega

set_option maxRecDepth 20000 in
set_option maxHeartbeats 3200000 in
theorem refExp_go (d c p R V : Nat) (hd : d < 9223372036854775808) (hc : c ≤ 40) (hp : p < 65536) (ec : (d : Int) / 65536 = (c : Int)) (ep : (d : Int) % 65536 = (p : Int)) (hR : exM p = R) (hV : R / 1073741824 / 2 ^ c = V)
    (C1 : ∀ a b : Nat, a ≤ 4611686018427387904 → b ≤ 4611686018427387904 → Ans 35 #[.int .u64 a, .int .u64 b] (.int .u64 ((a * b / 4611686018427387904 : Nat) : Int)))
    (C2 : ∀ h : Nat, h ≤ 4611686018427387904 → Ans 34 #[.int .u64 h] (.int .u64 ((rt 2 (h * 4611686018427387904) : Nat) : Int)))
    (C3 : Ans 33 #[.int .i64 62] (.int .i64 4611686018427387904)) (C4 : Ans 33 #[.int .i64 61] (.int .i64 2305843009213693952)) (C5 : Ans 33 #[.int .i64 30] (.int .i64 1073741824))
    (C6 : ∀ n : Nat, n ≤ 62 → Ans 33 #[.int .i64 n] (.int .i64 ((2 ^ n : Nat) : Int))) :
    Ans 25 #[.int .i64 d] (.tuple #[.int .u64 V, .int .i64 0]) := by
  intro w
  have HR := Lib.hid hR
  have HV := Lib.hid hV
  have H1 := Lib.hid C1
  have H2 := Lib.hid C2
  have H6 := Lib.hid C6
  clear hR hV C1 C2 C6
  have M0 := Mem.start w
  go_enter Try.func25, Try.ntmps25
  go_wp2_with fail
  (refine (C3 _).mono ?_; rintro e w2 ⟨rfl, hBl⟩; replace M0 := M0.call hBl; clear hBl C3)
  go_wp2_with fail
  (refine (C4 _).mono ?_; rintro e w2 ⟨rfl, hBl⟩; replace M0 := M0.call hBl; clear hBl C4)
  go_wp2_with fail
  clear ec ep
  go_loopw [6, 7, 8] (fun s6 s7 s8 wx => ∃ k h m : Nat, k ≤ 16 ∧ s6 = .int .u64 m ∧ s7 = .int .u64 h ∧ s8 = .int .i64 ((16 - k : Nat) : Int) ∧ h ≤ 4611686018427387904 ∧ m ≤ 4611686018427387904 ∧ Hid (ex k p h m = R) ∧ Mem w wx []) (fun _ _ i _ => 16 - (intOf i).toNat)
  case atStart => exact ⟨16, 2305843009213693952, 4611686018427387904, by omega, rfl, rfl, rfl, by decide, by decide, HR.out, M0⟩
  case round =>
    clear M0 HR
    obtain ⟨k, h, m, hk, rfl, rfl, rfl, hh, hm, HR, M0⟩ := hrel
    cases k with
    | zero =>
      have hmR : m = R := HR.out
      subst hmR
      clear HR
      go_wp2_with fail
      (refine (C5 _).mono ?_; rintro e w2 ⟨rfl, hBl⟩; replace M0 := M0.call hBl; clear hBl C5)
      go_wp2_with fail
      go_loopw [6, 9] (fun s6 s9 wx => ∃ j y : Nat, j ≤ c ∧ s9 = .int .i64 j ∧ s6 = .int .u64 y ∧ y ≤ 4611686018427387904 ∧ Hid (y = m / 1073741824 / 2 ^ j) ∧ Mem w wx []) (fun _ j _ => c - (intOf j).toNat)
      case atStart => exact ⟨0, m / 1073741824, by omega, rfl, congrArg (Value.int .u64) (by omega), by omega, by show _ = m / 1073741824 / 2 ^ 0; rw [Nat.pow_zero, Nat.div_one], M0⟩
      case round =>
        clear M0
        obtain ⟨j, y, hj, rfl, rfl, hy, HY, M0⟩ := hrel
        by_cases hl : j < c
        · have hn := div_succ (m / 1073741824) j
          rw [← HY.out] at hn
          have HN := Lib.hid hn
          clear hn
          go_wp2_with fail
          go_roundw
          case rel => exact ⟨j + 1, y / 2, by omega, by go_num, by go_num, by omega, HN.out, M0⟩
          case measure => simp [intOf] <;> omega
        · have hj2 : j = c := by omega
          subst hj2
          go_wp2_with fail
          go_ret2
          exact ⟨ret_ii (by rw [← HV.out, ← HY.out]) rfl, M0.below⟩
    | succ k =>
      have e : ((16 - (k + 1) : Nat) : Int) = ((15 - k : Nat) : Int) := by omega
      have e2 : ((15 - k : Nat) : Int) + 1 = ((16 - k : Nat) : Int) := by omega
      have e3 : (15 : Int) - ((15 - k : Nat) : Int) = (k : Int) := by omega
      obtain ⟨i, hi⟩ : ∃ i, i = 15 - k := ⟨_, rfl⟩
      rw [e]
      rw [← hi] at e2 e3 ⊢
      have hi2 : i < 16 := by omega
      have E2 := Lib.hid e2
      have HI := Lib.hid hi
      clear hi e e2
      have D2 := H2.out h hh
      have D6 := H6.out k (by omega)
      have hh2 := root_le hh
      have hs := ex_step k p h m
      have hb : p / 2 ^ k % 2 < 2 := Nat.mod_lt _ (by decide)
      have hP0 : 0 < 2 ^ k := Nat.two_pow_pos k
      have hP1 : 2 ^ k ≤ 32768 := (Nat.pow_le_pow_right (by decide) (by omega) : 2 ^ k ≤ 2 ^ 15)
      have hq2 : p / 2 ^ k ≤ p := Nat.div_le_self _ _
      obtain ⟨P, eP⟩ : ∃ P, P = 2 ^ k := ⟨_, rfl⟩
      rw [← eP] at D6 hs hb hP0 hP1 hq2
      obtain ⟨q, eq⟩ : ∃ q, q = p / P := ⟨_, rfl⟩
      have eqI : (p : Int) / (P : Int) = (q : Int) := by rw [eq]; rfl
      rw [← eq] at hs hb hq2
      obtain ⟨h2, eh⟩ : ∃ h2, h2 = rt 2 (h * 4611686018427387904) := ⟨_, rfl⟩
      rw [← eh] at D2 hs hh2
      have hPI : ¬ (P : Int) = 0 := by omega
      have HP := Lib.hid (And.intro eP (And.intro eq eh))
      clear eP eq eh hP0
      by_cases hbit : q % 2 = 1
      · rw [if_pos hbit] at hs
        have G := Lib.hid (HR.out ▸ hs.symm : ex k p h2 (m * h2 / 4611686018427387904) = R)
        have hm2 := prod_le hm hh2
        have D1 := H1.out m h2 hm hh2
        obtain ⟨v, hv⟩ : ∃ v, v = m * h2 / 4611686018427387904 := ⟨_, rfl⟩
        rw [← hv] at G hm2 D1
        have bq : ((q : Int) % 2 == 1) = true := by rw [beq_iff_eq]; omega
        clear hs HR hbit hv
        go_wp2_with fail
        (refine (D2 _).mono ?_; rintro e w2 ⟨rfl, hBl⟩; replace M0 := M0.call hBl; clear hBl D2)
        go_wp2_with fail
        (refine (D6 _).mono ?_; rintro e w2 ⟨rfl, hBl⟩; replace M0 := M0.call hBl; clear hBl D6)
        go_wp2_with fail
        (refine (D1 _).mono ?_; rintro e w2 ⟨rfl, hBl⟩; replace M0 := M0.call hBl; clear hBl D1)
        go_wp2_with fail
        go_roundw
        case rel => exact ⟨k, h2, v, by omega, rfl, rfl, congrArg (Value.int .i64) E2.out, hh2, hm2, G.out, M0⟩
        case measure => simp [intOf] <;> omega
      · rw [if_neg hbit] at hs
        have G := Lib.hid (HR.out ▸ hs.symm : ex k p h2 m = R)
        have bq : ((q : Int) % 2 == 1) = false := beq_eq_false_iff_ne.2 (by omega)
        clear hs HR hbit
        go_wp2_with fail
        (refine (D2 _).mono ?_; rintro e w2 ⟨rfl, hBl⟩; replace M0 := M0.call hBl; clear hBl D2)
        go_wp2_with fail
        (refine (D6 _).mono ?_; rintro e w2 ⟨rfl, hBl⟩; replace M0 := M0.call hBl; clear hBl D6)
        go_wp2_with fail
        go_roundw
        case rel => exact ⟨k, h2, m, by omega, rfl, rfl, congrArg (Value.int .i64) E2.out, hh2, hm, G.out, M0⟩
        case measure => simp [intOf] <;> omega
set_option maxRecDepth 20000 in
set_option maxHeartbeats 3200000 in
theorem refExp_far (d c : Nat) (hd : d < 9223372036854775808) (hc : 40 < c) (ec : (d : Int) / 65536 = (c : Int)) : Ans 25 #[.int .i64 d] (.tuple #[.int .u64 0, .int .i64 0]) := by
  intro w
  go_enter Try.func25, Try.ntmps25
  go_wp2_with fail
  go_ret2
  exact ⟨rfl, Below.refl _ _⟩
set_option maxRecDepth 20000 in
set_option maxHeartbeats 3200000 in
theorem refExp_neg (x : Int) (h : x < 0) : Ans 25 #[.int .i64 x] (.tuple #[.int .u64 0, .int .i64 2]) := by
  intro w
  go_enter Try.func25, Try.ntmps25
  go_wp2_with fail
  go_ret2
  exact ⟨rfl, Below.refl _ _⟩
theorem refExp_any (d : Nat) (hd : d < 9223372036854775808) : Ans 25 #[.int .i64 d] (.tuple #[.int .u64 ((expS d : Nat) : Int), .int .i64 0]) := by
  by_cases h : 40 < d / 65536
  · have e : expS d = 0 := by unfold expS; rw [if_pos h]
    rw [e]
    exact refExp_far d (d / 65536) hd h (by omega)
  · exact refExp_go d (d / 65536) (d % 65536) _ (expS d) hd (by omega) (by omega) (by omega) (by omega) rfl (by unfold expS; rw [if_neg h])
      times6_any root6_any pow62_any pow61_any pow30_any pow6_any

end Go.Proofs.Ytolneillcdaibaa
