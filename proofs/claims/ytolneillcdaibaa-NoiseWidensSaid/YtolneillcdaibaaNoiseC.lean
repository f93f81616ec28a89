/-
  How much a difference is to be believed, and its logarithm: the reference's.
-/
import Derived.Test.YtolneillcdaibaaNoiseB
set_option linter.unusedVariables false
set_option linter.unusedSimpArgs false
namespace Go.Proofs.Ytolneillcdaibaa
open Go Go.RowKit Go.Th Go.Th.Noise Go.Th.Expo

set_option maxRecDepth 20000 in
set_option maxHeartbeats 1600000 in
theorem ref13Weight_no (s f g d : Int) (C1 : Ans 7 #[nv s f g] (.int .i64 2)) : Ans 11 #[nv s f g, .int .i64 d] (.int .i64 0) := by
  intro w
  obtain ⟨w1, hw1⟩ : ∃ w1, (w.alloc (.cells #[.int .i64 s, .int .i64 f, .int .i64 g] 23)) = w1 := ⟨_, rfl⟩
  have hB1 : Below w.heap.size w w1 := by rw [← hw1]; exact (Below.refl _ _).alloc (Nat.le_refl _) _
  have K1 : Blk w1 w.heap.size 23 (nc s f g) := by rw [← hw1]; exact Blk.new w _ _
  have c0 := K1.cell (i := 0) rfl
  have c1 := K1.cell (i := 1) rfl
  have c2 := K1.cell (i := 2) rfl
  have HW1 := Lib.hid hw1
  clear hw1
  go_enter Try.func11, Try.ntmps11
  go_upto_region 1 with fail
  rw [HW1.out]
  go_wp2_with fail
  refine (C1 w1).mono ?_
  rintro e w2 ⟨rfl, hA⟩
  have hB2 := hB1.trans (hA.mono hB1.size)
  clear C1 hA K1 HW1 hB1 c0 c1 c2
  go_wp2_with fail
  go_ret
  exact ⟨rfl, hB2⟩
set_option maxRecDepth 20000 in
set_option maxHeartbeats 1600000 in
theorem ref13Weight_yes (s f g d : Int) (P E A B M D Q V : Nat) (hE : IntKind.i64.wrap (E : Int) = (E : Int)) (hE2 : wrap64 (E : Int) = (E : Int)) (hA : wrap64 (2 * (E : Int)) = (A : Int)) (hB : wrap64 (65536 - f) = (B : Int)) (hM : wrap64 ((A : Int) * (B : Int)) = (M : Int))
    (hD : wrap64 ((M : Int) + 4294967296) = (D : Int)) (hQ : (D : Int) / 8589934592 = (Q : Int)) (hQ2 : wrap64 (Q : Int) = (Q : Int)) (hV : wrap64 ((Q : Int) + f) = (V : Int))
    (C1 : Ans 7 #[nv s f g] (.int .i64 0)) (C2 : Ans 9 #[nv s f g, .int .i64 d] (.int .i64 P)) (C3 : Ans 25 #[.int .i64 P] (.tuple #[.int .u64 E, .int .i64 0])) :
    Ans 11 #[nv s f g, .int .i64 d] (.int .i64 V) := by
  intro w
  obtain ⟨w1, hw1⟩ : ∃ w1, (w.alloc (.cells #[.int .i64 s, .int .i64 f, .int .i64 g] 23)) = w1 := ⟨_, rfl⟩
  have hB1 : Below w.heap.size w w1 := by rw [← hw1]; exact (Below.refl _ _).alloc (Nat.le_refl _) _
  have K1 : Blk w1 w.heap.size 23 (nc s f g) := by rw [← hw1]; exact Blk.new w _ _
  have c0 := K1.cell (i := 0) rfl
  have c1 := K1.cell (i := 1) rfl
  have c2 := K1.cell (i := 2) rfl
  have HW1 := Lib.hid hw1
  have H := Lib.hid (And.intro hE (And.intro hE2 (And.intro hA (And.intro hB (And.intro hM (And.intro hD (And.intro hQ (And.intro hQ2 hV))))))))
  clear hw1 hE hE2 hA hB hM hD hQ hQ2 hV
  go_enter Try.func11, Try.ntmps11
  go_upto_region 1 with fail
  rw [HW1.out]
  go_wp2_with fail
  refine (C1 w1).mono ?_
  rintro e w2 ⟨rfl, hA⟩
  replace K1 := K1.below hA K1.lt
  have c0 := K1.cell (i := 0) rfl
  have c1 := K1.cell (i := 1) rfl
  have c2 := K1.cell (i := 2) rfl
  have hB2 := hB1.trans (hA.mono hB1.size)
  clear C1 hA HW1 hB1
  go_wp2_with fail
  refine (C2 w2).mono ?_
  rintro e w3 ⟨rfl, hA⟩
  replace K1 := K1.below hA K1.lt
  have hB3 := hB2.trans (hA.mono hB2.size)
  clear C2 hA hB2 c0 c1 c2
  go_wp2_with fail
  refine (C3 w3).mono ?_
  rintro e w4 ⟨rfl, hA⟩
  replace K1 := K1.below hA K1.lt
  have hB4 := hB3.trans (hA.mono hB3.size)
  clear C3 hA hB3
  have c1 := K1.cell (i := 1) rfl
  obtain ⟨hE, hE2, hA, hB, hM, hD, hQ, hQ2, hV⟩ := H.out
  clear H
  go_wp2_with fail
  go_ret
  exact ⟨ret_int hV, hB4⟩
theorem ref13Weight_any (s f g d : Int) : Ans 11 #[nv s f g, .int .i64 d] (.int .i64 (wgtS s f g d : Nat)) := by
  have C := ref13Check_any s f g
  unfold ncode at C
  unfold wgtS
  cases h : okN s f g
  · rw [h, if_neg (by decide)] at C
    exact ref13Weight_no s f g d C
  · rw [h, if_pos rfl] at C
    have h1 := okN_iff.1 h
    have hp := powS_le s f g d
    have C2 := ref13Power_any s f g d
    have C3 := refExp_any (powS s f g d) (by omega)
    have he := expS_le (powS s f g d)
    obtain ⟨E, hE⟩ : ∃ E, E = expS (powS s f g d) := ⟨_, rfl⟩
    obtain ⟨P, hP⟩ : ∃ P, P = powS s f g d := ⟨_, rfl⟩
    rw [← hE] at C3 he ⊢
    rw [← hP] at C2 C3
    obtain ⟨n, rfl⟩ := Int.eq_ofNat_of_zero_le (show 0 ≤ f by omega)
    have hm := Nat.mul_le_mul he (show 65536 - n ≤ 65536 by omega)
    have e1 : 2 * E * (65536 - n) = 2 * (E * (65536 - n)) := Nat.mul_assoc _ _ _
    have e2 : ((2 * E : Nat) : Int) * ((65536 - n : Nat) : Int) = ((2 * E * (65536 - n) : Nat) : Int) := by simp
    rw [if_pos rfl, Int.natAbs_natCast]
    unfold wgt
    exact ref13Weight_yes s n g d P E (2 * E) (65536 - n) (2 * (E * (65536 - n))) (2 * (E * (65536 - n)) + 4294967296) ((2 * (E * (65536 - n)) + 4294967296) / 8589934592) _ (IntWalk.i64_in _ (by omega)) (IntWalk.wrap64_in _ (by omega)) (by rw [IntWalk.wrap64_in _ (by omega)]; omega) (by rw [IntWalk.wrap64_in _ (by omega)]; omega)
      (by rw [e2, e1, IntWalk.wrap64_in _ (by omega)]) (by rw [IntWalk.wrap64_in _ (by omega)]; omega) (by omega) (IntWalk.wrap64_in _ (by omega)) (by rw [IntWalk.wrap64_in _ (by omega)]; omega) C C2 C3

set_option maxRecDepth 20000 in
set_option maxHeartbeats 1600000 in
theorem ref13Log_no (s f g d : Int) (C1 : Ans 7 #[nv s f g] (.int .i64 2)) : Ans 15 #[nv s f g, .int .i64 d] (.int .i64 (-2621440)) := by
  intro w
  obtain ⟨w1, hw1⟩ : ∃ w1, (w.alloc (.cells #[.int .i64 s, .int .i64 f, .int .i64 g] 23)) = w1 := ⟨_, rfl⟩
  have hB1 : Below w.heap.size w w1 := by rw [← hw1]; exact (Below.refl _ _).alloc (Nat.le_refl _) _
  have K1 : Blk w1 w.heap.size 23 (nc s f g) := by rw [← hw1]; exact Blk.new w _ _
  have c0 := K1.cell (i := 0) rfl
  have c1 := K1.cell (i := 1) rfl
  have c2 := K1.cell (i := 2) rfl
  have HW1 := Lib.hid hw1
  clear hw1
  go_enter Try.func15, Try.ntmps15
  go_upto_region 1 with fail
  rw [HW1.out]
  go_wp2_with fail
  refine (C1 w1).mono ?_
  rintro e w2 ⟨rfl, hA⟩
  have hB2 := hB1.trans (hA.mono hB1.size)
  clear C1 hA K1 HW1 hB1 c0 c1 c2
  go_wp2_with fail
  go_ret
  exact ⟨rfl, hB2⟩
set_option maxRecDepth 20000 in
set_option maxHeartbeats 1600000 in
theorem ref13Log_yes (s f g d : Int) (X L : Nat) (V : Int) (hE : IntKind.u64.wrap (X : Int) = (X : Int)) (hV : wrap64 ((L : Int) - 1048576) = V)
    (C1 : Ans 7 #[nv s f g] (.int .i64 0)) (C2 : Ans 11 #[nv s f g, .int .i64 d] (.int .i64 X)) (C3 : Ans 27 #[.int .u64 X] (.tuple #[.int .i64 L, .int .i64 0])) :
    Ans 15 #[nv s f g, .int .i64 d] (.int .i64 V) := by
  intro w
  obtain ⟨w1, hw1⟩ : ∃ w1, (w.alloc (.cells #[.int .i64 s, .int .i64 f, .int .i64 g] 23)) = w1 := ⟨_, rfl⟩
  have hB1 : Below w.heap.size w w1 := by rw [← hw1]; exact (Below.refl _ _).alloc (Nat.le_refl _) _
  have K1 : Blk w1 w.heap.size 23 (nc s f g) := by rw [← hw1]; exact Blk.new w _ _
  have c0 := K1.cell (i := 0) rfl
  have c1 := K1.cell (i := 1) rfl
  have c2 := K1.cell (i := 2) rfl
  have HW1 := Lib.hid hw1
  clear hw1
  go_enter Try.func15, Try.ntmps15
  go_upto_region 1 with fail
  rw [HW1.out]
  go_wp2_with fail
  refine (C1 w1).mono ?_
  rintro e w2 ⟨rfl, hA⟩
  replace K1 := K1.below hA K1.lt
  have c0 := K1.cell (i := 0) rfl
  have c1 := K1.cell (i := 1) rfl
  have c2 := K1.cell (i := 2) rfl
  have hB2 := hB1.trans (hA.mono hB1.size)
  clear C1 hA HW1 hB1
  go_wp2_with fail
  refine (C2 w2).mono ?_
  rintro e w3 ⟨rfl, hA⟩
  have hB3 := hB2.trans (hA.mono hB2.size)
  clear C2 hA hB2 c0 c1 c2
  go_wp2_with fail
  refine (C3 w3).mono ?_
  rintro e w4 ⟨rfl, hA⟩
  have hB4 := hB3.trans (hA.mono hB3.size)
  clear C3 hA hB3
  go_wp2_with fail
  go_ret
  exact ⟨ret_int hV, hB4⟩
theorem ref13Log_any (s f g d : Int) : Ans 15 #[nv s f g, .int .i64 d] (.int .i64 (logN s f g d)) := by
  have C := ref13Check_any s f g
  unfold ncode at C
  unfold logN
  cases h : okN s f g
  · rw [h, if_neg (by decide)] at C
    exact ref13Log_no s f g d C
  · rw [h, if_pos rfl] at C
    have h1 := okN_iff.1 h
    have hw := wgtS_le (d := d) h
    have C2 := ref13Weight_any s f g d
    have C3 := refLog_any (wgtS s f g d) (by omega) (by omega)
    have hl := logS_lt (x := wgtS s f g d) (by omega) (by omega)
    rw [if_pos rfl]
    exact ref13Log_yes s f g d _ _ _ (IntWalk.u64_in _ (by omega)) (IntWalk.wrap64_in _ (by omega)) C C2 C3
end Go.Proofs.Ytolneillcdaibaa
