/-
  Logarithms, roots of a half, powers, logarithms of sums: the reference's.
-/
import Derived.Test.YtaofkoejlpchaaaExpoR
import Derived.Test.YtaofkoejlpchaaaExpoA
import Derived.Deep.RegionHeld3
set_option linter.unusedVariables false
set_option linter.unusedSimpArgs false
namespace Go.Proofs.Ytaofkoejlpchaaa
open Go Go.RowKit Go.Th Go.Th.Root Go.Th.Wide Go.Th.Expo

set_option maxRecDepth 20000 in
set_option maxHeartbeats 3200000 in
theorem refLog_go (x N M R : Nat) (hx : 0 < x) (hx2 : x < 18446744073709551616) (hN : pl x = N) (hN2 : N ≤ 63) (hM : (N = 63 ∧ M = x / 2) ∨ (N ≤ 62 ∧ M = x * 2 ^ (62 - N))) (h1 : 4611686018427387904 ≤ M ∧ M < 9223372036854775808) (hR : lg 16 N M = R)
    (C2 : ∀ m : Nat, 4611686018427387904 ≤ m → m < 9223372036854775808 → Ans 18 #[.int .u64 m] (.int .u64 ((m * m / 4611686018427387904 : Nat) : Int))) :
    Ans 9 #[.int .u64 x] (.tuple #[.int .i64 R, .int .i64 0]) := by
  intro w
  have HR := Lib.hid hR
  have HC := Lib.hid C2
  have HP := Lib.hid hN
  have HM := Lib.hid hM
  have HN : Hid ((N + 1) * 2 ^ 16 ≤ 4194304) := Lib.hid (by omega)
  have H1 := Lib.hid h1
  clear hR C2 hN hM h1
  have bx : ((x : Int) == 0) = false := beq_eq_false_iff_ne.2 (by omega)
  have M0 := Mem.start w
  go_enter Try.func9, Try.ntmps9
  go_wp2_with fail
  go_loopw [4, 5] (fun s4 s5 wx => ∃ n y : Nat, s4 = .int .i64 n ∧ s5 = .int .u64 y ∧ 0 < y ∧ y < 18446744073709551616 ∧ n ≤ 63 ∧ Hid (y = x / 2 ^ n) ∧ Mem w wx []) (fun _ y _ => (intOf y).toNat)
  case atStart => exact ⟨0, x, rfl, rfl, hx, hx2, by omega, by show x = x / 2 ^ 0; rw [Nat.pow_zero, Nat.div_one], M0⟩
  case round =>
    clear M0
    obtain ⟨n, y, rfl, rfl, hy0, hy2, hn, HY, M0⟩ := hrel
    by_cases hl : 1 < y
    · have hd := div_succ x n
      rw [← HY.out] at hd
      have HD := Lib.hid hd
      have hn2 : n ≤ 62 := by
        have a := HY.out
        rcases Nat.lt_or_ge 62 n with b | b
        · have c : n = 63 := by omega
          subst c
          omega
        · exact b
      clear hd hn
      go_wp2_with fail
      go_roundw
      case rel => exact ⟨n + 1, y / 2, by go_num, by go_num, by omega, by omega, by omega, HD.out, M0⟩
      case measure => simp [intOf] <;> omega
    · have hn1 : n = N := by rw [← HP.out]; exact (pl_of_div (by rw [← HY.out]; omega)).symm
      subst hn1
      clear hy2 HY
      rcases HM.out with ⟨rfl, rfl⟩ | ⟨hs, hM⟩
      · go_wp2_with fail
        go_loopw [6, 7] (fun s6 s7 wx => s6 = .int .u64 ((x / 2 : Nat) : Int) ∧ s7 = .int .i64 63 ∧ Mem w wx []) (fun _ _ _ => 0)
        case atStart => exact ⟨congrArg (Value.int .u64) (by omega), rfl, M0⟩
        case round =>
          clear M0
          obtain ⟨rfl, rfl, M0⟩ := hrel
          go_wp2_with fail
          go_loopw [6, 8, 9] (fun s6 s8 i wx => ∃ k n m : Nat, k ≤ 16 ∧ i = .int .i64 ((16 - k : Nat) : Int) ∧ s8 = .int .i64 n ∧ s6 = .int .u64 m ∧ 4611686018427387904 ≤ m ∧ m < 9223372036854775808 ∧ Hid ((n + 1) * 2 ^ k ≤ 4194304) ∧ Hid (lg k n m = R) ∧ Mem w wx []) (fun _ _ i _ => 16 - (intOf i).toNat)
          case atStart => exact ⟨16, _, _, by omega, rfl, rfl, rfl, H1.out.1, H1.out.2, HN.out, HR.out, M0⟩
          case round =>
            clear M0 HR HN H1
            obtain ⟨k, n, m, hk, rfl, rfl, rfl, hm1, hm2, HN, HR, M0⟩ := hrel
            cases k with
            | zero =>
              go_wp2_with fail
              go_ret2
              exact ⟨ret_ii (by have := HR.out; rw [← this]; rfl) rfl, M0.below⟩
            | succ k =>
              obtain ⟨r1, r2, r3⟩ := room_up HN.out
              have R1 := Lib.hid r1
              have R2 := Lib.hid r2
              have C := HC.out m hm1 hm2
              obtain ⟨q1, q2⟩ := sqm_range hm1 hm2
              obtain ⟨q, hq⟩ : ∃ q, q = m * m / 4611686018427387904 := ⟨_, rfl⟩
              rw [← hq] at C q1 q2
              have e : ((16 - (k + 1) : Nat) : Int) = ((15 - k : Nat) : Int) := by omega
              have e2 : ((15 - k : Nat) : Int) + 1 = ((16 - k : Nat) : Int) := by omega
              obtain ⟨i, hi⟩ : ∃ i, i = 15 - k := ⟨_, rfl⟩
              rw [e]
              rw [← hi] at e2 ⊢
              have hi2 : i < 16 := by omega
              have E2 := Lib.hid e2
              have HI := Lib.hid hi
              clear hi
              by_cases hc : 9223372036854775808 ≤ q
              · have G := Lib.hid (HR.out ▸ (lg_hi hq hc).symm : lg k (2 * n + 1) (q / 2) = R)
                have HQ := Lib.hid (And.intro hc q2)
                obtain ⟨Q, hQ⟩ : ∃ Q : Int, Q = (q : Int) := ⟨_, rfl⟩
                rw [← hQ] at C
                have hcI : (9223372036854775808 : Int) ≤ Q := by omega
                have q2I : Q < 18446744073709551616 := by omega
                have HQ2 := Lib.hid hQ
                clear hq HR HN r1 r2 hm1 hm2 e e2 hc q1 q2 hQ
                go_wp2_with fail
                (refine (C _).mono ?_; rintro e w2 ⟨rfl, hBl⟩; replace M0 := M0.call hBl; clear hBl C)
                go_wp2_with fail
                go_roundw
                case rel => exact ⟨k, 2 * n + 1, q / 2, by omega, congrArg (Value.int .i64) E2.out, congrArg (Value.int .i64) (by omega), congrArg (Value.int .u64) (by rw [HQ2.out]; omega), by have := HQ.out; omega, by have := HQ.out; omega, R1.out, G.out, M0⟩
                case measure => simp [intOf] <;> omega
              · have G := Lib.hid (HR.out ▸ (lg_lo hq (by omega)).symm : lg k (2 * n) q = R)
                have HQ := Lib.hid (And.intro q1 hc)
                obtain ⟨Q, hQ⟩ : ∃ Q : Int, Q = (q : Int) := ⟨_, rfl⟩
                rw [← hQ] at C
                have hcI : ¬ (9223372036854775808 : Int) ≤ Q := by omega
                have q2I : 0 ≤ Q := by omega
                have HQ2 := Lib.hid hQ
                clear hq HR HN r1 r2 hm1 hm2 e e2 hc q1 q2 hQ
                go_wp2_with fail
                (refine (C _).mono ?_; rintro e w2 ⟨rfl, hBl⟩; replace M0 := M0.call hBl; clear hBl C)
                go_wp2_with fail
                go_roundw
                case rel => exact ⟨k, 2 * n, q, by omega, congrArg (Value.int .i64) E2.out, congrArg (Value.int .i64) (by omega), congrArg (Value.int .u64) HQ2.out, by have := HQ.out; omega, by have := HQ.out; omega, R2.out, G.out, M0⟩
                case measure => simp [intOf] <;> omega
      · have b63 : ((n : Int) == 63) = false := beq_eq_false_iff_ne.2 (by omega)
        go_wp2_with fail
        go_loopw [6, 7] (fun s6 s7 wx => ∃ m i : Nat, i ≤ 62 ∧ s6 = .int .u64 m ∧ s7 = .int .i64 i ∧ Hid (m * 2 ^ (62 - i) = M) ∧ Mem w wx []) (fun _ i _ => 62 - (intOf i).toNat)
        case atStart => exact ⟨x, n, hs, rfl, rfl, hM.symm, M0⟩
        case round =>
          clear M0 hM
          obtain ⟨m, i, hi, rfl, rfl, HX, M0⟩ := hrel
          by_cases hi2 : i < 62
          · have e := HX.out
            rw [show 62 - i = 62 - (i + 1) + 1 by omega, Nat.pow_succ, Nat.mul_comm (2 ^ _) 2, ← Nat.mul_assoc, Nat.mul_comm m 2] at e
            have c : 0 < 2 ^ (62 - (i + 1)) := Nat.two_pow_pos _
            have b := Nat.le_mul_of_pos_right (2 * m) c
            have h1' := H1.out
            have hm : 2 * m < 9223372036854775808 := by omega
            have HE := Lib.hid e
            clear e c b h1' HX
            go_wp2_with fail
            go_roundw
            case rel => exact ⟨2 * m, i + 1, by omega, by go_num, by go_num, HE.out, M0⟩
            case measure => simp [intOf] <;> omega
          · obtain rfl : m = M := by have := HX.out; rwa [show 62 - i = 0 by omega, Nat.pow_zero, Nat.mul_one] at this
            clear HX
            go_wp2_with fail
            go_loopw [6, 8, 9] (fun s6 s8 i wx => ∃ k n m : Nat, k ≤ 16 ∧ i = .int .i64 ((16 - k : Nat) : Int) ∧ s8 = .int .i64 n ∧ s6 = .int .u64 m ∧ 4611686018427387904 ≤ m ∧ m < 9223372036854775808 ∧ Hid ((n + 1) * 2 ^ k ≤ 4194304) ∧ Hid (lg k n m = R) ∧ Mem w wx []) (fun _ _ i _ => 16 - (intOf i).toNat)
            case atStart => exact ⟨16, _, _, by omega, rfl, rfl, rfl, H1.out.1, H1.out.2, HN.out, HR.out, M0⟩
            case round =>
              clear M0 HR HN H1
              obtain ⟨k, n, m, hk, rfl, rfl, rfl, hm1, hm2, HN, HR, M0⟩ := hrel
              cases k with
              | zero =>
                go_wp2_with fail
                go_ret2
                exact ⟨ret_ii (by have := HR.out; rw [← this]; rfl) rfl, M0.below⟩
              | succ k =>
                obtain ⟨r1, r2, r3⟩ := room_up HN.out
                have R1 := Lib.hid r1
                have R2 := Lib.hid r2
                have C := HC.out m hm1 hm2
                obtain ⟨q1, q2⟩ := sqm_range hm1 hm2
                obtain ⟨q, hq⟩ : ∃ q, q = m * m / 4611686018427387904 := ⟨_, rfl⟩
                rw [← hq] at C q1 q2
                have e : ((16 - (k + 1) : Nat) : Int) = ((15 - k : Nat) : Int) := by omega
                have e2 : ((15 - k : Nat) : Int) + 1 = ((16 - k : Nat) : Int) := by omega
                obtain ⟨i, hi⟩ : ∃ i, i = 15 - k := ⟨_, rfl⟩
                rw [e]
                rw [← hi] at e2 ⊢
                have hi2 : i < 16 := by omega
                have E2 := Lib.hid e2
                have HI := Lib.hid hi
                clear hi
                by_cases hc : 9223372036854775808 ≤ q
                · have G := Lib.hid (HR.out ▸ (lg_hi hq hc).symm : lg k (2 * n + 1) (q / 2) = R)
                  have HQ := Lib.hid (And.intro hc q2)
                  obtain ⟨Q, hQ⟩ : ∃ Q : Int, Q = (q : Int) := ⟨_, rfl⟩
                  rw [← hQ] at C
                  have hcI : (9223372036854775808 : Int) ≤ Q := by omega
                  have q2I : Q < 18446744073709551616 := by omega
                  have HQ2 := Lib.hid hQ
                  clear hq HR HN r1 r2 hm1 hm2 e e2 hc q1 q2 hQ
                  go_wp2_with fail
                  (refine (C _).mono ?_; rintro e w2 ⟨rfl, hBl⟩; replace M0 := M0.call hBl; clear hBl C)
                  go_wp2_with fail
                  go_roundw
                  case rel => exact ⟨k, 2 * n + 1, q / 2, by omega, congrArg (Value.int .i64) E2.out, congrArg (Value.int .i64) (by omega), congrArg (Value.int .u64) (by rw [HQ2.out]; omega), by have := HQ.out; omega, by have := HQ.out; omega, R1.out, G.out, M0⟩
                  case measure => simp [intOf] <;> omega
                · have G := Lib.hid (HR.out ▸ (lg_lo hq (by omega)).symm : lg k (2 * n) q = R)
                  have HQ := Lib.hid (And.intro q1 hc)
                  obtain ⟨Q, hQ⟩ : ∃ Q : Int, Q = (q : Int) := ⟨_, rfl⟩
                  rw [← hQ] at C
                  have hcI : ¬ (9223372036854775808 : Int) ≤ Q := by omega
                  have q2I : 0 ≤ Q := by omega
                  have HQ2 := Lib.hid hQ
                  clear hq HR HN r1 r2 hm1 hm2 e e2 hc q1 q2 hQ
                  go_wp2_with fail
                  (refine (C _).mono ?_; rintro e w2 ⟨rfl, hBl⟩; replace M0 := M0.call hBl; clear hBl C)
                  go_wp2_with fail
                  go_roundw
                  case rel => exact ⟨k, 2 * n, q, by omega, congrArg (Value.int .i64) E2.out, congrArg (Value.int .i64) (by omega), congrArg (Value.int .u64) HQ2.out, by have := HQ.out; omega, by have := HQ.out; omega, R2.out, G.out, M0⟩
                  case measure => simp [intOf] <;> omega
theorem refLog_any (x : Nat) (h0 : 0 < x) (hx : x < 18446744073709551616) : Ans 9 #[.int .u64 x] (.tuple #[.int .i64 ((logS x : Nat) : Int), .int .i64 0]) := by
  have a := pl_63 h0 hx
  refine refLog_go x (pl x) (mant x) _ h0 hx rfl a ?_ (mant_range h0 hx) rfl square6_any
  by_cases h : pl x = 63
  · exact .inl ⟨h, by unfold mant; rw [if_pos h]⟩
  · exact .inr ⟨by omega, by unfold mant; rw [if_neg h]⟩
set_option maxRecDepth 20000 in
set_option maxHeartbeats 3200000 in
theorem refLog_0 : Ans 9 #[.int .u64 0] (.tuple #[.int .i64 0, .int .i64 2]) := by
  intro w
  go_enter Try.func9, Try.ntmps9
  go_wp2_with fail
  go_ret2
  exact ⟨rfl, Below.refl _ _⟩
end Go.Proofs.Ytaofkoejlpchaaa
