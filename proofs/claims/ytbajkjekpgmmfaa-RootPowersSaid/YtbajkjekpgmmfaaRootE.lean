/-
  Roots of any degree, from the highest bit down.
-/
import Derived.Test.YtbajkjekpgmmfaaRootD
import Derived.Test.YtbajkjekpgmmfaaRootB
import Derived.Deep.LoopGhost
import Derived.WalkMore
set_option linter.unusedVariables false
set_option linter.unusedSimpArgs false
namespace Go.Proofs.Ytbajkjekpgmmfaa
open Go Go.RowKit Go.Th Go.Th.Root Go.Th.Wide

set_option maxRecDepth 20000 in
set_option maxHeartbeats 1600000 in
theorem pw_low (x : Nat) (d : Int) (hd : d < 1) : Ans 26 #[.int .u64 x, .int .i64 d] (.int .u64 0) := by
  intro w
  go_enter Try.func26, Try.ntmps26
  go_wp2
  go_step3
  go_wp2
  try rw [Exit.noGoto_ret]
  go_ret
  exact ⟨rfl, Below.refl _ _⟩

set_option maxRecDepth 20000 in
set_option maxHeartbeats 1600000 in
theorem pw_go (x d n s R : Nat) (D : Int) (hD : min D 64 = (d : Int)) (hD1 : ¬ D < 1) (hd0 : 0 < d) (hd : d ≤ 64) (hn : n ≤ 64) (hs : s ≤ 64) (hx : x < 2 ^ 64) (hR : R / 2 ^ s = 0) (hR2 : R < 2 ^ 64) (hX : ∀ v, v ≤ R ↔ v ^ d ≤ x)
    (C1 : Ans 12 #[.int .u64 x] (.int .i64 n)) (C2 : Ans 33 #[.int .i64 n, .int .i64 d] (.int .i64 s)) :
    Ans 26 #[.int .u64 x, .int .i64 D] (.int .u64 R) := by
  intro w
  have HS := Lib.hid hR
  clear hR
  have HR := Lib.hid hR2
  clear hR2
  have HV := Lib.hid hX
  clear hX
  have M0 := Mem.start w
  go_enter Try.func26, Try.ntmps26
  go_wp2_with fail
  go_step3
  go_wp2_with fail
  go_step3
  go_wp2_with fail
  (refine (C1 _).mono ?_; rintro e w2 ⟨rfl, hBl⟩; replace M0 := M0.call hBl; clear hBl C1)
  go_wp2_with fail
  (refine (C2 _).mono ?_; rintro e w2 ⟨rfl, hBl⟩; replace M0 := M0.call hBl; clear hBl C2)
  go_wp2_with fail
  clear hD hD1 hn
  go_loopg [5, 6] s (fun g r i wx => ∃ q : Nat, g ≤ 64 ∧ r = .int .u64 q ∧ i = .int .i64 ((g : Int) - 1) ∧ Hid (q = 2 ^ g * (R / 2 ^ g)) ∧ Mem w wx [])
  case atStart => exact ⟨0, hs, rfl, rfl, by have := HS.out; show 0 = _; rw [this, Nat.mul_zero], M0⟩
  case round =>
    clear M0
    obtain ⟨q, hk, rfl, rfl, HQ, M0⟩ := hrel
    cases gk with
    | zero =>
      obtain rfl : q = R := by have := HQ.out; rwa [Nat.pow_zero, Nat.div_one, Nat.one_mul] at this
      go_wp2_with fail
      try rw [Exit.noGoto_ret]
      go_ret
      exact ⟨rfl, M0.below⟩
    | succ i =>
      have e : ((i + 1 : Nat) : Int) - 1 = (i : Int) := by omega
      rw [e]
      obtain ⟨t1, t2, t3, t4, t5⟩ := tried HQ.out HR.out (by omega)
      have eo := tried_u i q t1 t2
      have hi : i < 64 := by omega
      obtain ⟨v, hv⟩ : ∃ v, v = q ||| 2 ^ i := ⟨_, rfl⟩
      rw [← hv] at t3 t4 t5 eo
      have hv0 : v ≠ 0 := by
        rw [hv]; intro h
        have h2 := Nat.right_le_or (n := q) (m := 2 ^ i)
        have := Nat.two_pow_pos i
        omega
      have T4 := Lib.hid t4
      have T5 := Lib.hid t5
      clear hv t1 t2 e t4 t5
      go_wp2_with fail
      go_loopg [8, 29] d (fun g2 p j wy => ∃ P J : Nat, J + g2 = d ∧ P < 2 ^ 64 ∧ p = .int .u64 P ∧ j = .int .i64 J ∧ Hid (P = v ^ J) ∧ Hid (J = 0 ∨ P ≤ x) ∧ Mem w wy [])
      case atStart => exact ⟨1, 0, by omega, by decide, rfl, rfl, (Nat.pow_zero v).symm, .inl rfl, M0⟩
      case round =>
        clear M0
        obtain ⟨P, J, hJ, hP, rfl, rfl, HP, HX, M0⟩ := hrel
        cases gk with
        | zero =>
          have hle : v ^ d ≤ x := by
            rcases HX.out with h | h
            · omega
            · rw [← show J = d by omega, ← HP.out]; exact h
          have hle := Lib.hid hle
          go_wp2_with fail
          go_roundg i
          case measure => omega
          case rel => exact ⟨v, by omega, rfl, rfl, T4.out ((HV.out v).2 hle.out), M0⟩
        | succ g2 =>
          have C3 := Mul64_any P v hP t3
          have hv0 : 0 < v := by
            rcases Nat.eq_zero_or_pos v with h | h
            · exact absurd h hv0
            · exact h
          by_cases hc : P * v ≤ x
          · have eh : P * v / 18446744073709551616 = 0 := by omega
            have el : P * v % 18446744073709551616 = P * v := by omega
            rw [eh, el] at C3
            obtain ⟨Q, hQ⟩ : ∃ Q, Q = P * v := ⟨_, rfl⟩
            rw [← hQ] at C3 hc
            have HQ2 := Lib.hid hQ
            clear eh el hQ
            have d0 : ((((0 : Nat) : Int)) != 0) = false := by decide
            go_wp2_with fail
            refine (C3 _).mono ?_
            rintro e w2 ⟨rfl, rfl⟩
            clear C3
            go_wp2_with fail
            go_roundg g2
            case measure => omega
            case rel => exact ⟨Q, J + 1, by omega, by omega, rfl, by go_num, by rw [HQ2.out, HP.out]; exact (Nat.pow_succ v J).symm, .inr hc, M0⟩
          · have hno : ¬ v ≤ R := by rw [HV.out v]; exact pow_more (m := v) (i := J) hv0 (by omega) (by rw [← HP.out]; exact hc)
            have HN := Lib.hid hno
            clear hno
            obtain ⟨H, hH⟩ : ∃ H, H = P * v / 18446744073709551616 := ⟨_, rfl⟩
            obtain ⟨L, hL⟩ : ∃ L, L = P * v % 18446744073709551616 := ⟨_, rfl⟩
            rw [← hH, ← hL] at C3
            by_cases hz : H = 0
            · have hl : x < L := by omega
              subst hz
              have d0 : ((((0 : Nat) : Int)) != 0) = false := by decide
              clear hH hL hc
              go_wp2_with fail
              refine (C3 _).mono ?_
              rintro e w2 ⟨rfl, rfl⟩
              clear C3
              go_wp2_with fail
              go_roundg i
              case measure => omega
              case rel => exact ⟨q, by omega, rfl, rfl, T5.out HN.out, M0⟩
            · have d0 : ((H : Int) != 0) = true := by simpa using hz
              clear hH hL hc
              go_wp2_with fail
              refine (C3 _).mono ?_
              rintro e w2 ⟨rfl, rfl⟩
              clear C3
              go_wp2_with fail
              go_roundg i
              case measure => omega
              case rel => exact ⟨q, by omega, rfl, rfl, T5.out HN.out, M0⟩

/-- The root of a degree. -/
theorem pw_any (x : Nat) (D : Int) (hD : 1 ≤ D) (hx : x < 18446744073709551616) : Ans 26 #[.int .u64 x, .int .i64 D] (.int .u64 ((rt D.toNat x : Nat) : Int)) := by
  obtain ⟨d, hd⟩ : ∃ d : Nat, min D 64 = (d : Int) := ⟨(min D 64).toNat, by omega⟩
  have hd0 : 0 < d := by omega
  have hd64 : d ≤ 64 := by omega
  have e : rt D.toNat x = rt d x := by
    by_cases h : D ≤ 64
    · rw [show D.toNat = d by omega]
    · rw [show d = 64 by omega]; exact rt_far hx (by omega)
  rw [e]
  have b1 := bitLen_le64 x hx
  have hsh := share_le (Lib.bitLen x) d hd0
  have hs64 : shareS (Lib.bitLen x) d ≤ 64 := by
    unfold shareS
    rw [Nat.div_le_iff_le_mul hd0]
    have := Nat.mul_le_mul_left 64 hd0
    have := Nat.le_mul_of_pos_left 64 hd0
    omega
  have hN2 : x < 2 ^ (d * shareS (Lib.bitLen x) d) := Nat.lt_of_lt_of_le (lt_bitLen x hx) (Nat.pow_le_pow_right (by decide) hsh)
  have hR := rt_lt hd0 hN2
  exact pw_go x d _ _ _ D hd (by omega) hd0 hd64 b1 hs64 hx (Nat.div_eq_of_lt hR) (Nat.lt_of_le_of_lt (rt_le d x hd0) hx) (fun v => le_rt hd0) (bits_any x hx) (share_any _ d (by omega) hd0 (by omega))
end Go.Proofs.Ytbajkjekpgmmfaa
