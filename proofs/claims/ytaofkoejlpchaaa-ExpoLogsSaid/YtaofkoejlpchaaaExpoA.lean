/-
  Logarithms: the code's.
-/
import Derived.Test.YtaofkoejlpchaaaRootD
import Derived.Test.YtaofkoejlpchaaaExpoSpec
import Derived.Test.YtaofkoejlpchaaaRefE
import Derived.BigQuiet
set_option linter.unusedVariables false
set_option linter.unusedSimpArgs false
namespace Go.Proofs.Ytaofkoejlpchaaa
open Go Go.RowKit Go.Th Go.Th.Root Go.Th.Wide Go.Th.Expo

theorem bitLen_pl {x : Nat} (h0 : 0 < x) (h : x < 18446744073709551616) : Lib.bitLen x = pl x + 1 := by
  have a := Lib.bitLen_shift (pl x) x (pl_le h0) h
  rw [pl_div h0] at a
  rw [a]; rfl
theorem or_low (a b : Nat) (hb : b < 4) : 4 * a ||| b = 4 * a + b := by
  have := Nat.shiftLeft_add_eq_or_of_lt (i := 2) (b := b) hb a
  rw [Nat.shiftLeft_eq, show 2 ^ 2 = 4 from rfl, Nat.mul_comm a 4] at this
  exact this.symm

set_option maxRecDepth 20000 in
set_option maxHeartbeats 1600000 in
theorem split_go (x n m : Nat) (hx : x < 18446744073709551616) (hn : n ≤ 63) (C1 : Ans 24 #[.int .u64 x] (.int .i64 ((n + 1 : Nat) : Int))) (hm : (n = 63 ∧ m = x / 2) ∨ (n ≤ 62 ∧ m = x * 2 ^ (62 - n) ∧ m < 18446744073709551616)) :
    Ans 16 #[.int .u64 x] (.tuple #[.int .i64 n, .int .u64 m]) := by
  intro w
  have M0 := Mem.start w
  rcases hm with ⟨rfl, rfl⟩ | ⟨h1, h2, h3⟩
  · go_enter Try.func16, Try.ntmps16
    go_wp2_with fail
    (refine (C1 _).mono ?_; rintro e w2 ⟨rfl, hBl⟩; replace M0 := M0.call hBl; clear hBl C1)
    go_wp2_with fail
    go_quiet (fail)
    go_wp2_with fail
    go_ret2
    exact ⟨ret_ii rfl (Int.natCast_ediv x 2).symm, below_dN M0.below _⟩
  · obtain ⟨s, hs⟩ : ∃ s, s = 62 - n := ⟨_, rfl⟩
    rw [← hs] at h2
    have e : (62 : Int) - (n : Int) = (s : Int) := by omega
    have h4 : ¬ (62 : Int) < (n : Int) := by omega
    have H2 := Lib.hid h2
    clear hs h2
    go_enter Try.func16, Try.ntmps16
    go_wp2_with fail
    (refine (C1 _).mono ?_; rintro e w2 ⟨rfl, hBl⟩; replace M0 := M0.call hBl; clear hBl C1)
    go_wp2_with fail
    go_quiet (fail)
    go_wp2_with fail
    go_ret2
    refine ⟨ret_ii rfl ?_, below_dN M0.below _⟩
    rw [H2.out, IntKind.wrap_u64]
    have H3 := H2.out
    have e2 : (x : Int) * 2 ^ s = ((x * 2 ^ s : Nat) : Int) := by simp
    rw [e2, ← H3]
    omega
theorem split_any (x : Nat) (h0 : 0 < x) (hx : x < 18446744073709551616) : Ans 16 #[.int .u64 x] (.tuple #[.int .i64 ((pl x : Nat) : Int), .int .u64 ((mant x : Nat) : Int)]) := by
  have C := bits_any x hx
  rw [bitLen_pl h0 hx] at C
  have a := pl_63 h0 hx
  have b := mant_range h0 hx
  refine split_go x (pl x) (mant x) hx a C ?_
  by_cases h : pl x = 63
  · exact .inl ⟨h, by unfold mant; rw [if_pos h]⟩
  · exact .inr ⟨by omega, by unfold mant; rw [if_neg h], by omega⟩

/-- Two mantissas' product. -/
theorem parts_62 (p : Nat) : p / 18446744073709551616 * 4 + p % 18446744073709551616 / 4611686018427387904 = p / 4611686018427387904 := by omega
set_option maxRecDepth 20000 in
set_option maxHeartbeats 1600000 in
theorem times_go (a b h l c v : Nat) (ha : a ≤ 9223372036854775807) (hb : b ≤ 9223372036854775807) (hh : h < 4611686018427387904) (hl : l < 18446744073709551616) (ec : (l : Int) / 4611686018427387904 = (c : Int)) (hc : c < 4) (hv : bits .or .u64 ((h : Int) * 4) (c : Int) = (v : Int))
    (C1 : Ans 25 #[.int .i64 a, .int .i64 b] (wv h l)) : Ans 17 #[.int .u64 a, .int .u64 b] (.int .u64 v) := by
  intro w
  have M0 := Mem.start w
  go_enter Try.func17, Try.ntmps17
  go_wp2_with ((with_reducible refine (?_ : Go.wpList _ _ _ (_ :: _) _ _)); (first | go_skip | (refine wpL_ld M0 rfl rfl rfl (by repeat (first | exact Has.head _ _ _ _ | apply Has.tail)) (by first | exact rd_w _ _ | exact rd_hi _ _ | exact rd_lo _ _ | assumption) ?_) | (refine wpL_ldg M0 rfl rfl rfl (by repeat (first | exact Has.head _ _ _ _ | apply Has.tail)) (by first | exact rd_w _ _ | exact rd_hi _ _ | exact rd_lo _ _ | assumption) ?_) | (refine wpL_st M0 rfl rfl rfl rfl (by repeat (first | exact Has.head _ _ _ _ | apply Has.tail)) (by first | exact wr_w _ rfl _ _ | exact wr_hi _ _ _ | assumption) (by repeat (first | exact Upd.head _ _ _ _ _ | apply Upd.tail)) ?_; clear M0; intro w' M0)))
  (refine (C1 _).mono ?_; rintro e w2 ⟨rfl, hBl⟩; replace M0 := M0.call hBl; clear hBl C1)
  go_wp2_with ((with_reducible refine (?_ : Go.wpList _ _ _ (_ :: _) _ _)); (first | go_skip | (refine wpL_bx M0 rfl rfl rfl rfl ?_; clear M0; intro g1 w1 M1) | (refine wpL_al M0 rfl rfl zero25 rfl ?_; clear M0; intro g1 w1 M1) | (refine wpL_ld M0 rfl rfl rfl (by repeat (first | exact Has.head _ _ _ _ | apply Has.tail)) (by first | exact rd_w _ _ | exact rd_hi _ _ | exact rd_lo _ _ | assumption) ?_) | (refine wpL_ldg M0 rfl rfl rfl (by repeat (first | exact Has.head _ _ _ _ | apply Has.tail)) (by first | exact rd_w _ _ | exact rd_hi _ _ | exact rd_lo _ _ | assumption) ?_) | (refine wpL_st M0 rfl rfl rfl rfl (by repeat (first | exact Has.head _ _ _ _ | apply Has.tail)) (by first | exact wr_w _ rfl _ _ | exact wr_hi _ _ _ | assumption) (by repeat (first | exact Upd.head _ _ _ _ _ | apply Upd.tail)) ?_; clear M0; intro w' M0) | (refine wpL_ld M1 rfl rfl rfl (by repeat (first | exact Has.head _ _ _ _ | apply Has.tail)) (by first | exact rd_w _ _ | exact rd_hi _ _ | exact rd_lo _ _ | assumption) ?_) | (refine wpL_ldg M1 rfl rfl rfl (by repeat (first | exact Has.head _ _ _ _ | apply Has.tail)) (by first | exact rd_w _ _ | exact rd_hi _ _ | exact rd_lo _ _ | assumption) ?_) | (refine wpL_st M1 rfl rfl rfl rfl (by repeat (first | exact Has.head _ _ _ _ | apply Has.tail)) (by first | exact wr_w _ rfl _ _ | exact wr_hi _ _ _ | assumption) (by repeat (first | exact Upd.head _ _ _ _ _ | apply Upd.tail)) ?_; clear M1; intro w' M1)))
  go_ret
  exact ⟨rfl, M1.below⟩
theorem mulW_nat (a b : Nat) (ha : a ≤ 9223372036854775807) (hb : b ≤ 9223372036854775807) : Ans 25 #[.int .i64 a, .int .i64 b] (wv ((a * b / 18446744073709551616 : Nat) : Int) ((a * b % 18446744073709551616 : Nat) : Int)) := by
  have C := Mul_any (a : Int) (b : Int) (by omega) (by omega)
  rw [← Int.natCast_mul] at C
  exact C
theorem times_any (a b : Nat) (ha : a ≤ 9223372036854775807) (hb : b ≤ 9223372036854775807) (h : a * b / 4611686018427387904 < 18446744073709551616) : Ans 17 #[.int .u64 a, .int .u64 b] (.int .u64 ((a * b / 4611686018427387904 : Nat) : Int)) := by
  have C := mulW_nat a b ha hb
  obtain ⟨p, hp⟩ : ∃ p, p = a * b := ⟨_, rfl⟩
  rw [← hp] at C h ⊢
  have e := parts_62 p
  refine times_go a b (p / 18446744073709551616) (p % 18446744073709551616) (p % 18446744073709551616 / 4611686018427387904) _ ha hb (by omega) (by omega) (by omega) (by omega) ?_ C
  rw [show ((p / 18446744073709551616 : Nat) : Int) * 4 = ((4 * (p / 18446744073709551616) : Nat) : Int) by omega, or_u _ _ (by omega) (by omega), or_low _ _ (by omega)]
  omega
theorem sq_any (m : Nat) (h1 : 4611686018427387904 ≤ m) (h2 : m < 9223372036854775808) : Ans 17 #[.int .u64 m, .int .u64 m] (.int .u64 ((m * m / 4611686018427387904 : Nat) : Int)) :=
  times_any m m (by omega) (by omega) (sqm_range h1 h2).2
theorem lg_hi {k n m q : Nat} (hq : q = m * m / 4611686018427387904) (h : 9223372036854775808 ≤ q) : lg (k + 1) n m = lg k (2 * n + 1) (q / 2) := by
  rw [hq] at h ⊢
  conv => lhs; unfold lg
  rw [if_pos h]
theorem lg_lo {k n m q : Nat} (hq : q = m * m / 4611686018427387904) (h : q < 9223372036854775808) : lg (k + 1) n m = lg k (2 * n) q := by
  rw [hq] at h ⊢
  conv => lhs; unfold lg
  rw [if_neg (by omega)]
theorem room_up {n k : Nat} (h : (n + 1) * 2 ^ (k + 1) ≤ 4194304) : (2 * n + 1 + 1) * 2 ^ k ≤ 4194304 ∧ (2 * n + 1) * 2 ^ k ≤ 4194304 ∧ n ≤ 2097151 := by
  have c : 0 < 2 ^ k := Nat.two_pow_pos k
  have e : (n + 1) * 2 ^ (k + 1) = (2 * n + 1 + 1) * 2 ^ k := by
    rw [Nat.pow_succ, Nat.mul_comm (2 ^ k) 2, ← Nat.mul_assoc]
    congr 1
    omega
  rw [e] at h
  refine ⟨h, Nat.le_trans (Nat.mul_le_mul_right _ (by omega)) h, ?_⟩
  have := Nat.le_mul_of_pos_right (2 * n + 1 + 1) c
  omega

set_option maxRecDepth 20000 in
set_option maxHeartbeats 1600000 in
theorem Log_go (x n0 m0 R : Nat) (hx : 0 < x) (hx2 : x < 18446744073709551616) (hn0 : (n0 + 1) * 2 ^ 16 ≤ 4194304) (h1 : 4611686018427387904 ≤ m0) (h2 : m0 < 9223372036854775808) (hR : lg 16 n0 m0 = R)
    (C1 : Ans 16 #[.int .u64 x] (.tuple #[.int .i64 n0, .int .u64 m0]))
    (C2 : ∀ m : Nat, 4611686018427387904 ≤ m → m < 9223372036854775808 → Ans 17 #[.int .u64 m, .int .u64 m] (.int .u64 ((m * m / 4611686018427387904 : Nat) : Int))) :
    Ans 8 #[.int .u64 x] (.tuple #[.int .i64 R, .int .i64 0]) := by
  intro w
  have HR := Lib.hid hR
  have HN := Lib.hid hn0
  have HC := Lib.hid C2
  clear hR hn0 C2
  have bx : ((x : Int) == 0) = false := beq_eq_false_iff_ne.2 (by omega)
  have M0 := Mem.start w
  go_enter Try.func8, Try.ntmps8
  go_wp2_with fail
  (refine (C1 _).mono ?_; rintro e w2 ⟨rfl, hBl⟩; replace M0 := M0.call hBl; clear hBl C1)
  go_wp2_with fail
  clear hx hx2 bx
  go_loopw [4, 5, 13] (fun s4 s5 i wx => ∃ k n m : Nat, k ≤ 16 ∧ i = .int .i64 ((16 - k : Nat) : Int) ∧ s4 = .int .i64 n ∧ s5 = .int .u64 m ∧ 4611686018427387904 ≤ m ∧ m < 9223372036854775808 ∧ Hid ((n + 1) * 2 ^ k ≤ 4194304) ∧ Hid (lg k n m = R) ∧ Mem w wx []) (fun _ _ i _ => 16 - (intOf i).toNat)
  case atStart => exact ⟨16, n0, m0, by omega, rfl, rfl, rfl, h1, h2, HN.out, HR.out, M0⟩
  case round =>
    clear M0 HR HN h1 h2
    obtain ⟨k, n, m, hk, rfl, rfl, rfl, hm1, hm2, HN, HR, M0⟩ := hrel
    cases k with
    | zero =>
      go_wp2_with fail
      go_ret2
      exact ⟨ret_ii (by have := HR.out; rw [← this]; rfl) rfl, M0.below⟩
    | succ k =>
      obtain ⟨r1, r2, r3⟩ := room_up HN.out
      have R1 := Lib.hid r1
      have R2 := Lib.hid r2
      have C := HC.out m hm1 hm2
      obtain ⟨q1, q2⟩ := sqm_range hm1 hm2
      obtain ⟨q, hq⟩ : ∃ q, q = m * m / 4611686018427387904 := ⟨_, rfl⟩
      rw [← hq] at C q1 q2
      have e : ((16 - (k + 1) : Nat) : Int) = ((15 - k : Nat) : Int) := by omega
      have e2 : ((15 - k : Nat) : Int) + 1 = ((16 - k : Nat) : Int) := by omega
      obtain ⟨i, hi⟩ : ∃ i, i = 15 - k := ⟨_, rfl⟩
      rw [e]
      rw [← hi] at e2 ⊢
      have hi2 : i < 16 := by omega
      have E2 := Lib.hid e2
      have HI := Lib.hid hi
      clear hi
      by_cases hc : 9223372036854775808 ≤ q
      · have G := Lib.hid (HR.out ▸ (lg_hi hq hc).symm : lg k (2 * n + 1) (q / 2) = R)
        have HQ := Lib.hid (And.intro hc q2)
        obtain ⟨Q, hQ⟩ : ∃ Q : Int, Q = (q : Int) := ⟨_, rfl⟩
        rw [← hQ] at C
        have hcI : (9223372036854775808 : Int) ≤ Q := by omega
        have q2I : Q < 18446744073709551616 := by omega
        have HQ2 := Lib.hid hQ
        clear hq HR HN r1 r2 hm1 hm2 e e2 hc q1 q2 hQ
        go_wp2_with fail
        (refine (C _).mono ?_; rintro e w2 ⟨rfl, hBl⟩; replace M0 := M0.call hBl; clear hBl C)
        go_wp2_with fail
        go_roundw
        case rel => exact ⟨k, 2 * n + 1, q / 2, by omega, congrArg (Value.int .i64) E2.out, congrArg (Value.int .i64) (by omega), congrArg (Value.int .u64) (by rw [HQ2.out]; omega), by have := HQ.out; omega, by have := HQ.out; omega, R1.out, G.out, M0⟩
        case measure => simp [intOf] <;> omega
      · have G := Lib.hid (HR.out ▸ (lg_lo hq (by omega)).symm : lg k (2 * n) q = R)
        have HQ := Lib.hid (And.intro q1 hc)
        obtain ⟨Q, hQ⟩ : ∃ Q : Int, Q = (q : Int) := ⟨_, rfl⟩
        rw [← hQ] at C
        have hcI : ¬ (9223372036854775808 : Int) ≤ Q := by omega
        have q2I : 0 ≤ Q := by omega
        have HQ2 := Lib.hid hQ
        clear hq HR HN r1 r2 hm1 hm2 e e2 hc q1 q2 hQ
        go_wp2_with fail
        (refine (C _).mono ?_; rintro e w2 ⟨rfl, hBl⟩; replace M0 := M0.call hBl; clear hBl C)
        go_wp2_with fail
        go_roundw
        case rel => exact ⟨k, 2 * n, q, by omega, congrArg (Value.int .i64) E2.out, congrArg (Value.int .i64) (by omega), congrArg (Value.int .u64) HQ2.out, by have := HQ.out; omega, by have := HQ.out; omega, R2.out, G.out, M0⟩
        case measure => simp [intOf] <;> omega
theorem Log_any (x : Nat) (h0 : 0 < x) (hx : x < 18446744073709551616) : Ans 8 #[.int .u64 x] (.tuple #[.int .i64 ((logS x : Nat) : Int), .int .i64 0]) := by
  have a := pl_63 h0 hx
  have b := mant_range h0 hx
  exact Log_go x (pl x) (mant x) _ h0 hx (by omega) b.1 b.2 rfl (split_any x h0 hx) sq_any
set_option maxRecDepth 20000 in
set_option maxHeartbeats 1600000 in
theorem Log_0 : Ans 8 #[.int .u64 0] (.tuple #[.int .i64 0, .int .i64 2]) := by
  intro w
  go_enter Try.func8, Try.ntmps8
  go_wp2_with fail
  go_ret2
  exact ⟨rfl, Below.refl _ _⟩
end Go.Proofs.Ytaofkoejlpchaaa
