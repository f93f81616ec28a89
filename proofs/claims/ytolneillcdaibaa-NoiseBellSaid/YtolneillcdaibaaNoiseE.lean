/-
  How much a difference is to be believed: the power, the weight, its logarithm: the code's.
-/
import Derived.Test.YtolneillcdaibaaNoiseD
set_option linter.unusedVariables false
set_option linter.unusedSimpArgs false
namespace Go.Proofs.Ytolneillcdaibaa
open Go Go.RowKit Go.Th Go.Th.Noise Go.Th.Expo Go.Th.Wide

theorem w64_rng (n : Int) : -9223372036854775808 ≤ wrap64 n ∧ wrap64 n ≤ 9223372036854775807 := by unfold wrap64; omega
theorem prod_rng {a b : Int} (ha : 0 ≤ a ∧ a ≤ 4294967296) (hb : -9223372036854775808 ≤ b ∧ b ≤ 9223372036854775807) : -170141183460469231731687303715884105728 ≤ a * b ∧ a * b < 170141183460469231731687303715884105728 := by
  have h1 := Int.mul_le_mul_of_nonneg_left hb.1 ha.1
  have h2 := Int.mul_le_mul_of_nonneg_left hb.2 ha.1
  omega
theorem npower_any (s f g d : Int) : Ans 8 #[nv s f g, .int .i64 d] (.int .i64 (powS s f g d : Nat)) := by
  have CW := isWithin_any s f g d 32 (fun _ => by omega)
  have hwd := w64_rng (d * d)
  have hws := w64_rng (s * s)
  have CM : Ans 22 #[.int .i64 (wrap64 (d * d)), .int .i64 47274, .int .i64 (wrap64 (s * s)), .int .i64 2] _ := fun w => MulDiv_any (wrap64 (d * d)) 47274 (wrap64 (s * s)) 2 hwd (by omega) hws (by omega) w
  have G := power_go s f g d _ _ _ _ _ rfl rfl CM (fun g0 g1 g2 u w0 w M => powerD_go s f g d _ g0 g1 g2 _ _ u w0 w rfl CW M)
  have e : (if (decide (2621440 < divV (wrap64 (d * d) * 47274) (wrap64 (s * s)) 2) || !inN s f g d 32) = true then (2621440 : Int) else divV (wrap64 (d * d) * 47274) (wrap64 (s * s)) 2) = (powS s f g d : Nat) := by
    unfold powS
    cases h : inN s f g d 32
    · rw [Bool.not_false, Bool.or_true, if_pos rfl, if_neg (by decide)]; rfl
    · have h0 := h
      unfold inN at h0
      rw [Bool.and_eq_true, decide_eq_true_eq] at h0
      have h1 := okN_iff.1 h0.1
      obtain ⟨n, rfl⟩ := Int.eq_ofNat_of_zero_le (show 0 ≤ s by omega)
      have hn : n ≤ 1048576 := by omega
      obtain ⟨D, hD⟩ : ∃ D, D = d.natAbs * d.natAbs := ⟨_, rfl⟩
      obtain ⟨S, hS⟩ : ∃ S, S = n * n := ⟨_, rfl⟩
      have hS2 := Nat.mul_le_mul hn hn
      have hS0 : 0 < n * n := Nat.mul_pos (by omega) (by omega)
      rw [← hS] at hS2 hS0
      have hdn : d.natAbs ≤ 32 * n := by omega
      have hDS : D ≤ 1024 * S := by
        have := Nat.mul_le_mul hdn hdn
        rw [← hD] at this
        have e : 32 * n * (32 * n) = 1024 * (n * n) := by rw [Nat.mul_mul_mul_comm]
        omega
      have eD : d * d = (D : Int) := by rw [hD]; simp
      have eS : (n : Int) * (n : Int) = (S : Int) := by rw [hS]; simp
      have hp : (2 * (D * 47274) + S) / (2 * S) ≤ 48408577 := by
        rw [← Nat.lt_succ_iff, Nat.div_lt_iff_lt_mul (by omega)]
        omega
      have eN : (2 * ((D : Int) * 47274) + (S : Int)) / (2 * (S : Int)) = ((2 * (D * 47274) + S) / (2 * S) : Nat) := by simp
      obtain ⟨Q, hQ⟩ : ∃ Q, Q = (2 * (D * 47274) + S) / (2 * S) := ⟨_, rfl⟩
      rw [← hQ] at hp eN
      have hv := (divV_near ((D : Int) * 47274) S (by omega) (by rw [eN]; clear hQ eN; omega)).1
      rw [eD, eS, IntWalk.wrap64_in (D : Int) (by clear hQ eN; omega), IntWalk.wrap64_in (S : Int) (by clear hQ eN; omega), hv, eN, Bool.not_true, Bool.or_false, if_pos rfl, Int.natAbs_natCast]
      unfold powQ
      rw [← hD, ← hS, ← hQ]
      clear hQ eN hv
      by_cases hc : (2621440 : Int) < (Q : Int)
      · rw [decide_eq_true hc, if_pos rfl]; omega
      · rw [decide_eq_false hc, if_neg (by decide)]; omega
  rw [e] at G
  exact G

set_option maxRecDepth 20000 in
set_option maxHeartbeats 3200000 in
theorem weight_go (s f g d B q c V R : Int) (P E : Nat) (hE : IntKind.i64.wrap (E : Int) = (E : Int)) (hE2 : wrap64 (E : Int) = (E : Int)) (hB : wrap64 (65536 - f) = B) (hV : wrap64 (q + f) = V)
    (C1 : Ans 8 #[nv s f g, .int .i64 d] (.int .i64 P)) (C2 : Ans 24 #[.int .i64 P] (.tuple #[.int .u64 E, .int .i64 0]))
    (C3 : Ans 22 #[.int .i64 E, .int .i64 B, .int .i64 4294967296, .int .i64 2] (.tuple #[.int .i64 q, .int .i64 c]))
    (C4 : ∀ (g0 : Nat) (u : FrameMode) (w0 w : World), Mem w0 w [(g0, 2, [.int .i64 V])] →
      CallsD Try.prog 23 #[nv s f g, .pointer (some ⟨g0, 0, none⟩), .int .i64 0] u w fun e u' w' => u' = u ∧ (e = .returned (.tuple #[]) ∧ Mem w0 w' [(g0, 2, [.int .i64 R])])) :
    Ans 10 #[nv s f g, .int .i64 d] (.int .i64 R) := by
  intro w
  obtain ⟨w1, hw1⟩ : ∃ w1, (w.alloc (.cells #[.int .i64 s, .int .i64 f, .int .i64 g] 23)).alloc (.cells #[.int .i64 0] 2) = w1 := ⟨_, rfl⟩
  have M1 : Mem w w1 [(w.heap.size + 1, 2, [.int .i64 0]), (w.heap.size, 23, nc s f g)] := by
    have := ((Mem.start w).alloc 23 (nc s f g)).alloc 2 [.int .i64 0]
    rw [World.size_alloc] at this
    rw [← hw1]
    exact this
  have a0 := M1.cell (Has.tail _ _ _ _ _ (Has.head _ _ _ _)) (i := 0) rfl
  have a1 := M1.cell (Has.tail _ _ _ _ _ (Has.head _ _ _ _)) (i := 1) rfl
  have a2 := M1.cell (Has.tail _ _ _ _ _ (Has.head _ _ _ _)) (i := 2) rfl
  have HW1 := Lib.hid hw1
  have HV := Lib.hid hV
  clear hw1 hV
  go_enter_defers Try.func10, Try.ntmps10
  go_upto_region 1 with fail
  rw [HW1.out]
  go_wp2_with fail
  refine (C1 w1).mono ?_
  rintro e w2 ⟨rfl, hA⟩
  have M2 := M1.call hA
  clear C1 hA a0 a1 a2 M1 HW1
  go_wp2_with fail
  refine (C2 w2).mono ?_
  rintro e w3 ⟨rfl, hA⟩
  have M3 := M2.call hA
  clear C2 hA M2
  have a1 := M3.cell (Has.tail _ _ _ _ _ (Has.head _ _ _ _)) (i := 1) rfl
  go_wp2_with fail
  refine (C3 w3).mono ?_
  rintro e w4 ⟨rfl, hA⟩
  have M4 := M3.call hA
  clear C3 hA M3 a1
  have a1 := M4.cell (Has.tail _ _ _ _ _ (Has.head _ _ _ _)) (i := 1) rfl
  have b0 := M4.cell (Has.head _ _ _ _) (i := 0) rfl
  have b1 := M4.free (Has.head _ _ _ _) 0
  have hV := HV.out
  have M5 := (M4.set 0 (.int .i64 V) (Upd.head _ _ _ _ _) (by simp)).pick (bs' := [(w.heap.size + 1, 2, [.int .i64 V])]) (by simp)
  clear M4
  go_wp2_with fail
  refine leaves_cons (f := 23) (args := #[nv s f g, .pointer (some ⟨w.heap.size + 1, 0, none⟩), .int .i64 0]) (by simp) (by simp [go_sem]) ?_
  refine (C4 _ _ _ _ M5).mono ?_
  rintro e u' w'' ⟨rfl, rfl, M6⟩
  exact ⟨_, res_cell rfl M6 rfl (Has.head _ _ _ _) (rd_i _), rfl, M6.below⟩
theorem expS_top : expS 2621440 = 0 := by
  unfold expS
  rw [if_neg (by decide), show 2621440 % 65536 = 0 from rfl, exM_0]
theorem nweight_any (s f g d : Int) : Ans 10 #[nv s f g, .int .i64 d] (.int .i64 (wgtS s f g d : Nat)) := by
  have hp := powS_le s f g d
  have C1 := npower_any s f g d
  have C2 := Exp_any (powS s f g d) (by omega)
  have he := expS_le (powS s f g d)
  have hB := w64_rng (65536 - f)
  have C3 : Ans 22 #[.int .i64 (expS (powS s f g d) : Nat), .int .i64 (wrap64 (65536 - f)), .int .i64 4294967296, .int .i64 2] _ := fun w => MulDiv_any (expS (powS s f g d) : Nat) (wrap64 (65536 - f)) 4294967296 2 (by omega) hB (by omega) (prod_rng (by omega) hB) w
  have G := weight_go s f g d _ _ _ _ _ _ _ (IntWalk.i64_in _ (by omega)) (IntWalk.wrap64_in _ (by omega)) rfl rfl C1 C2 C3 (fun g0 u w0 w M => amend_any s f g _ 0 g0 u w0 w M)
  have e : (if okN s f g = true then wrap64 (divV ((expS (powS s f g d) : Nat) * wrap64 (65536 - f)) 4294967296 2 + f) else 0) = (wgtS s f g d : Nat) := by
    unfold wgtS
    cases h : okN s f g
    · rw [if_neg (by decide), if_neg (by decide)]; rfl
    · have h1 := okN_iff.1 h
      rw [if_pos rfl, if_pos rfl]
      obtain ⟨E, hE⟩ : ∃ E, E = expS (powS s f g d) := ⟨_, rfl⟩
      rw [← hE] at he ⊢
      obtain ⟨n, rfl⟩ := Int.eq_ofNat_of_zero_le (show 0 ≤ f by omega)
      have hm := Nat.mul_le_mul he (show 65536 - n ≤ 65536 by omega)
      rw [IntWalk.wrap64_in (65536 - (n : Int)) (by omega), show (65536 : Int) - (n : Int) = ((65536 - n : Nat) : Int) by omega, show (E : Int) * ((65536 - n : Nat) : Int) = ((E * (65536 - n) : Nat) : Int) by simp]
      have hv := (divV_near ((E * (65536 - n) : Nat) : Int) 4294967296 (by omega) (by omega)).1
      rw [hv, Int.natAbs_natCast]
      unfold wgt
      rw [IntWalk.wrap64_in _ (by omega)]
      omega
  rw [e] at G
  exact G

set_option maxRecDepth 20000 in
set_option maxHeartbeats 3200000 in
theorem nlog_go (s f g d V R l c : Int) (X : Nat) (hX : IntKind.u64.wrap (X : Int) = (X : Int)) (hV : wrap64 (l - 1048576) = V)
    (C1 : Ans 10 #[nv s f g, .int .i64 d] (.int .i64 X)) (C2 : Ans 26 #[.int .u64 X] (.tuple #[.int .i64 l, .int .i64 c]))
    (C4 : ∀ (g0 : Nat) (u : FrameMode) (w0 w : World), Mem w0 w [(g0, 2, [.int .i64 V])] →
      CallsD Try.prog 23 #[nv s f g, .pointer (some ⟨g0, 0, none⟩), .int .i64 (-2621440)] u w fun e u' w' => u' = u ∧ (e = .returned (.tuple #[]) ∧ Mem w0 w' [(g0, 2, [.int .i64 R])])) :
    Ans 14 #[nv s f g, .int .i64 d] (.int .i64 R) := by
  intro w
  obtain ⟨w1, hw1⟩ : ∃ w1, (w.alloc (.cells #[.int .i64 s, .int .i64 f, .int .i64 g] 23)).alloc (.cells #[.int .i64 0] 2) = w1 := ⟨_, rfl⟩
  have M1 : Mem w w1 [(w.heap.size + 1, 2, [.int .i64 0]), (w.heap.size, 23, nc s f g)] := by
    have := ((Mem.start w).alloc 23 (nc s f g)).alloc 2 [.int .i64 0]
    rw [World.size_alloc] at this
    rw [← hw1]
    exact this
  have a0 := M1.cell (Has.tail _ _ _ _ _ (Has.head _ _ _ _)) (i := 0) rfl
  have a1 := M1.cell (Has.tail _ _ _ _ _ (Has.head _ _ _ _)) (i := 1) rfl
  have a2 := M1.cell (Has.tail _ _ _ _ _ (Has.head _ _ _ _)) (i := 2) rfl
  have HW1 := Lib.hid hw1
  have HV := Lib.hid hV
  clear hw1 hV
  go_enter_defers Try.func14, Try.ntmps14
  go_upto_region 1 with fail
  rw [HW1.out]
  go_wp2_with fail
  refine (C1 w1).mono ?_
  rintro e w2 ⟨rfl, hA⟩
  have M2 := M1.call hA
  clear C1 hA a0 a1 a2 M1 HW1
  go_wp2_with fail
  refine (C2 w2).mono ?_
  rintro e w3 ⟨rfl, hA⟩
  have M3 := M2.call hA
  clear C2 hA M2
  have b0 := M3.cell (Has.head _ _ _ _) (i := 0) rfl
  have b1 := M3.free (Has.head _ _ _ _) 0
  have hV := HV.out
  have M5 := ((M3.set 0 (.int .i64 l) (Upd.head _ _ _ _ _) (by simp)).set 0 (.int .i64 V) (Upd.head _ _ _ _ _) (by simp)).pick (bs' := [(w.heap.size + 1, 2, [.int .i64 V])]) (by simp)
  clear M3
  go_wp2_with fail
  refine leaves_cons (f := 23) (args := #[nv s f g, .pointer (some ⟨w.heap.size + 1, 0, none⟩), .int .i64 (-2621440)]) (by simp) (by simp [go_sem]) ?_
  refine (C4 _ _ _ _ M5).mono ?_
  rintro e u' w'' ⟨rfl, rfl, M6⟩
  exact ⟨_, res_cell rfl M6 rfl (Has.head _ _ _ _) (rd_i _), rfl, M6.below⟩
theorem nlog_any (s f g d : Int) : Ans 14 #[nv s f g, .int .i64 d] (.int .i64 (logN s f g d)) := by
  have C1 := nweight_any s f g d
  unfold logN
  cases h : okN s f g
  · have e : wgtS s f g d = 0 := by unfold wgtS; rw [h, if_neg (by decide)]
    rw [e] at C1
    have G := nlog_go s f g d _ _ _ _ 0 (IntWalk.u64_in _ (by omega)) rfl C1 Log_0 (fun g0 u w0 w M => amend_any s f g _ (-2621440) g0 u w0 w M)
    rw [h, if_neg (by decide)] at G
    rw [if_neg (by decide)]
    exact G
  · have h1 := okN_iff.1 h
    have hw := wgtS_le (d := d) h
    have hl := logS_lt (x := wgtS s f g d) (by omega) (by omega)
    have G := nlog_go s f g d _ _ _ _ _ (IntWalk.u64_in _ (by omega)) rfl C1 (Log_any (wgtS s f g d) (by omega) (by omega)) (fun g0 u w0 w M => amend_any s f g _ (-2621440) g0 u w0 w M)
    rw [h, if_pos rfl, IntWalk.wrap64_in _ (by omega)] at G
    rw [if_pos rfl]
    exact G
end Go.Proofs.Ytolneillcdaibaa
