/-
  MomentEven, walked.
-/
import Derived.Test.YtbjhbbiahmhdeaaLaw15c
set_option linter.unusedVariables false
set_option linter.unusedSimpArgs false
namespace Go.Proofs.Ytbjhbbiahmhdeaa
open Go Go.RowKit Go.Shelf Go.Th Go.Th.Grid Go.Th.Moment Go.Th.Wide

set_option maxRecDepth 20000 in
set_option maxHeartbeats 16000000 in
theorem evens_go (p q k capl n : Nat) (al : Option Addr) (z G : List Int) (x y S c1 c2 : Int) (V Q T AA : Nat) (hk : ¬ ((100 : Int) < (k : Int))) (hn : n ≤ 64) (hV : 1 ≤ V ∧ V ≤ n)
    (CM : MadeC p q 2 k capl al z x y S n G) (C1 : OfG 23 x y 1000 (-1000) S n G (fun g => #[g]) (.int .i64 V)) (C2 : OfG 24 x y 1000 (-1000) S n G (fun g => #[g]) (.agg (numC false Q).toArray))
    (CT : ∀ a cap w, Sl w 1 (.slice a n cap) n (i64s G) → Calls Try.prog 12 #[.slice a n cap] w fun e w' => e = .returned (.int .i64 T) ∧ w = w')
    (CA : ∀ i, i ≤ 64 → ∃ f, Ans 25 #[.agg (numC false (i * Q)).toArray, .agg (numC false Q).toArray] (.tuple #[.agg (numC false ((i + 1) * Q)).toArray, .bool f]))
    (CX : Ans 26 #[.int .i64 T, .int .i64 T] (.agg (numC false AA).toArray)) (K1 : Ans 27 #[.agg (numC false (V * Q)).toArray, .agg (numC false AA).toArray] (.int .i64 c1))
    (K2 : Ans 27 #[.agg (numC false AA).toArray, .agg (numC false ((V + 1) * Q)).toArray] (.int .i64 c2)) (h1 : c1 ≤ 0) (h2 : c2 < 0)
    (C0 : Ans 7 #[] (.bool true)) (w : World) (hT : Sl w 1 (.slice al k capl) k (u16s z)) :
    Calls Try.prog 6 #[.int .u8 p, .int .u8 q, .slice al k capl] w fun e w' => e = .returned (.bool true) ∧ Below w.heap.size w w' := by
  have hmy := hT.max
  obtain ⟨v1, v2⟩ := hV
  have CM := Lib.hid CM
  have C1 := Lib.hid C1
  have C2 := Lib.hid C2
  have CT := Lib.hid CT
  have CA := Lib.hid CA
  have CX := Lib.hid CX
  have K1 := Lib.hid K1
  have K2 := Lib.hid K2
  have C0 := Lib.hid C0
  have hT := Lib.hid hT
  have HQ0 : Hid (0 * Q = 0) := Lib.hid (Nat.zero_mul Q)
  have M0 := Mem.start w
  go_enter Try.func6, Try.ntmps6
  go_wp2_with ((with_reducible refine (?_ : Go.wpList _ _ _ (_ :: _) _ _)); (first | go_skip | (refine wpL_ldc M0 rfl rfl rfl ?_) | (refine wpL_lgc M0 rfl rfl rfl ?_) | (refine wpL_stc M0 rfl rfl rfl rfl ?_; clear M0; intro w' M0) | (refine wpL_sti M0 rfl rfl rfl rfl ?_; clear M0; intro w' M0) | (refine wpL_sth M0 rfl rfl rfl rfl (wr_minus _ _ _) ?_; clear M0; intro w' M0)))
  refine (CM.out _ hT.out).mono ?_
  rintro e wG ⟨a, cap, rfl, s1, hB⟩
  have HB := Lib.hid hB
  have HS := Lib.hid s1
  clear hB CM hT s1 M0
  have M0 := Mem.start wG
  go_wp2_with ((with_reducible refine (?_ : Go.wpList _ _ _ (_ :: _) _ _)); (first | go_skip | (refine wpL_bx M0 rfl rfl rfl rfl ?_; clear M0; intro g1 w1 M1) | (refine wpL_alc M0 rfl rfl ?_; clear M0; intro g1 w1 M1) | (refine wpL_ldc M0 rfl rfl rfl ?_) | (refine wpL_lgc M0 rfl rfl rfl ?_) | (refine wpL_stc M0 rfl rfl rfl rfl ?_; clear M0; intro w' M0) | (refine wpL_sti M0 rfl rfl rfl rfl ?_; clear M0; intro w' M0) | (refine wpL_sth M0 rfl rfl rfl rfl (wr_minus _ _ _) ?_; clear M0; intro w' M0) | (refine wpL_ldc M1 rfl rfl rfl ?_) | (refine wpL_lgc M1 rfl rfl rfl ?_) | (refine wpL_stc M1 rfl rfl rfl rfl ?_; clear M1; intro w' M1) | (refine wpL_sti M1 rfl rfl rfl rfl ?_; clear M1; intro w' M1) | (refine wpL_sth M1 rfl rfl rfl rfl (wr_minus _ _ _) ?_; clear M1; intro w' M1)))
  refine (C1.out _ _ _ (HS.out.below M1.below)).mono ?_
  rintro e wx ⟨rfl, hA⟩
  replace M1 := M1.call hA
  clear hA C1
  go_wp2_with ((with_reducible refine (?_ : Go.wpList _ _ _ (_ :: _) _ _)); (first | go_skip | (refine wpL_ldc M1 rfl rfl rfl ?_) | (refine wpL_lgc M1 rfl rfl rfl ?_) | (refine wpL_stc M1 rfl rfl rfl rfl ?_; clear M1; intro w' M1) | (refine wpL_sti M1 rfl rfl rfl rfl ?_; clear M1; intro w' M1) | (refine wpL_sth M1 rfl rfl rfl rfl (wr_minus _ _ _) ?_; clear M1; intro w' M1)))
  refine (C2.out _ _ _ (HS.out.below M1.below)).mono ?_
  rintro e wx ⟨rfl, hA⟩
  replace M1 := M1.call hA
  clear hA C2
  go_wp2_with ((with_reducible refine (?_ : Go.wpList _ _ _ (_ :: _) _ _)); (first | go_skip | (refine wpL_bx M1 rfl rfl rfl rfl ?_; clear M1; intro g2 w2 M2) | (refine wpL_alc M1 rfl rfl ?_; clear M1; intro g2 w2 M2) | (refine wpL_ldc M1 rfl rfl rfl ?_) | (refine wpL_lgc M1 rfl rfl rfl ?_) | (refine wpL_stc M1 rfl rfl rfl rfl ?_; clear M1; intro w' M1) | (refine wpL_sti M1 rfl rfl rfl rfl ?_; clear M1; intro w' M1) | (refine wpL_sth M1 rfl rfl rfl rfl (wr_minus _ _ _) ?_; clear M1; intro w' M1) | (refine wpL_ldc M2 rfl rfl rfl ?_) | (refine wpL_lgc M2 rfl rfl rfl ?_) | (refine wpL_stc M2 rfl rfl rfl rfl ?_; clear M2; intro w' M2) | (refine wpL_sti M2 rfl rfl rfl rfl ?_; clear M2; intro w' M2) | (refine wpL_sth M2 rfl rfl rfl rfl (wr_minus _ _ _) ?_; clear M2; intro w' M2)))
  refine (CT.out _ _ _ (HS.out.below M2.below)).mono ?_
  rintro e wx ⟨rfl, rfl⟩
  clear CT
  go_upto_region 8 with (((with_reducible refine (?_ : Go.wpList _ _ _ (_ :: _) _ _)); (first | go_skip | (refine wpL_bx M2 rfl rfl rfl rfl ?_; clear M2; intro g3 w3 M3) | (refine wpL_alc M2 rfl rfl ?_; clear M2; intro g3 w3 M3) | (refine wpL_ldc M2 rfl rfl rfl ?_) | (refine wpL_lgc M2 rfl rfl rfl ?_) | (refine wpL_stc M2 rfl rfl rfl rfl ?_; clear M2; intro w' M2) | (refine wpL_sti M2 rfl rfl rfl rfl ?_; clear M2; intro w' M2) | (refine wpL_sth M2 rfl rfl rfl rfl (wr_minus _ _ _) ?_; clear M2; intro w' M2) | (refine wpL_ldc M3 rfl rfl rfl ?_) | (refine wpL_lgc M3 rfl rfl rfl ?_) | (refine wpL_stc M3 rfl rfl rfl rfl ?_; clear M3; intro w' M3) | (refine wpL_sti M3 rfl rfl rfl rfl ?_; clear M3; intro w' M3) | (refine wpL_sth M3 rfl rfl rfl rfl (wr_minus _ _ _) ?_; clear M3; intro w' M3))))
  try simp only [Act.put, List.setIfInBounds_toArray, List.set_cons_zero, List.set_cons_succ]
  rw [← HQ0.out] at M3
  go_wp2_with fail
  go_loopw [12] (fun c wx => ∃ i : Nat, i ≤ V ∧ c = .int .i64 i ∧ Mem wG wx [(g3, 47, numC false (i * Q)), (g2, 47, numC false Q), (g1, 26, gc x y 1000 (-1000) S (.slice a n cap))]) (fun c _ => V - (intOf c).toNat)
  case atStart => exact ⟨0, Nat.zero_le _, rfl, M3⟩
  case round =>
    clear M3
    obtain ⟨i, hi, rfl, M3⟩ := hrel
    by_cases hlt : i < V
    · obtain ⟨f, CI⟩ := CA.out i (by omega)
      obtain ⟨Z1, hZ1⟩ : ∃ Z1, Z1 = i * Q := ⟨_, rfl⟩
      obtain ⟨Z2, hZ2⟩ : ∃ Z2, Z2 = (i + 1) * Q := ⟨_, rfl⟩
      rw [← hZ1, ← hZ2] at CI
      rw [← hZ1] at M3
      have CI := Lib.hid CI
      have HZ2 := Lib.hid hZ2
      have hi100 : (i : Int) < 100 := by omega
      have hiV : (i : Int) < (V : Int) := by omega
      clear hZ1 hZ2
      go_wp2_with ((with_reducible refine (?_ : Go.wpList _ _ _ (_ :: _) _ _)); (first | go_skip | (refine wpL_ldc M3 rfl rfl rfl ?_) | (refine wpL_lgc M3 rfl rfl rfl ?_) | (refine wpL_stc M3 rfl rfl rfl rfl ?_; clear M3; intro w' M3) | (refine wpL_sti M3 rfl rfl rfl rfl ?_; clear M3; intro w' M3) | (refine wpL_sth M3 rfl rfl rfl rfl (wr_minus _ _ _) ?_; clear M3; intro w' M3)))
      refine (CI.out _).mono ?_
      rintro e wx ⟨rfl, hA⟩
      replace M3 := M3.call hA
      clear hA CI
      go_wp2_with ((with_reducible refine (?_ : Go.wpList _ _ _ (_ :: _) _ _)); (first | go_skip | (refine wpL_ldc M3 rfl rfl rfl ?_) | (refine wpL_lgc M3 rfl rfl rfl ?_) | (refine wpL_stc M3 rfl rfl rfl rfl ?_; clear M3; intro w' M3) | (refine wpL_sti M3 rfl rfl rfl rfl ?_; clear M3; intro w' M3) | (refine wpL_sth M3 rfl rfl rfl rfl (wr_minus _ _ _) ?_; clear M3; intro w' M3)))
      go_roundw
      case rel => exact ⟨i + 1, by omega, by go_num, by rw [← HZ2.out]; exact M3⟩
      case measure => simp [intOf]; omega
    · obtain rfl : i = V := by omega
      obtain ⟨f, CI⟩ := CA.out i (by omega)
      obtain ⟨Z1, hZ1⟩ : ∃ Z1, Z1 = i * Q := ⟨_, rfl⟩
      obtain ⟨Z2, hZ2⟩ : ∃ Z2, Z2 = (i + 1) * Q := ⟨_, rfl⟩
      rw [← hZ1, ← hZ2] at CI
      rw [← hZ1] at M3 K1
      rw [← hZ2] at K2
      have CI := Lib.hid CI
      have hiV : ¬ (i : Int) < (i : Int) := by omega
      have hin : (i : Int) ≤ (n : Int) := by omega
      have hi1 : (1 : Int) ≤ (i : Int) := by omega
      clear hZ1 hZ2 CA
      go_wp2_with ((with_reducible refine (?_ : Go.wpList _ _ _ (_ :: _) _ _)); (first | go_skip | (refine wpL_ldc M3 rfl rfl rfl ?_) | (refine wpL_lgc M3 rfl rfl rfl ?_) | (refine wpL_stc M3 rfl rfl rfl rfl ?_; clear M3; intro w' M3) | (refine wpL_sti M3 rfl rfl rfl rfl ?_; clear M3; intro w' M3) | (refine wpL_sth M3 rfl rfl rfl rfl (wr_minus _ _ _) ?_; clear M3; intro w' M3)))
      refine (CI.out _).mono ?_
      rintro e wx ⟨rfl, hA⟩
      replace M3 := M3.call hA
      clear hA CI
      go_wp2_with ((with_reducible refine (?_ : Go.wpList _ _ _ (_ :: _) _ _)); (first | go_skip | (refine wpL_bx M3 rfl rfl rfl rfl ?_; clear M3; intro g4 w4 M4) | (refine wpL_alc M3 rfl rfl ?_; clear M3; intro g4 w4 M4) | (refine wpL_ldc M3 rfl rfl rfl ?_) | (refine wpL_lgc M3 rfl rfl rfl ?_) | (refine wpL_stc M3 rfl rfl rfl rfl ?_; clear M3; intro w' M3) | (refine wpL_sti M3 rfl rfl rfl rfl ?_; clear M3; intro w' M3) | (refine wpL_sth M3 rfl rfl rfl rfl (wr_minus _ _ _) ?_; clear M3; intro w' M3) | (refine wpL_ldc M4 rfl rfl rfl ?_) | (refine wpL_lgc M4 rfl rfl rfl ?_) | (refine wpL_stc M4 rfl rfl rfl rfl ?_; clear M4; intro w' M4) | (refine wpL_sti M4 rfl rfl rfl rfl ?_; clear M4; intro w' M4) | (refine wpL_sth M4 rfl rfl rfl rfl (wr_minus _ _ _) ?_; clear M4; intro w' M4)))
      refine (CX.out _).mono ?_
      rintro e wx ⟨rfl, hA⟩
      replace M4 := M4.call hA
      clear hA CX
      go_wp2_with ((with_reducible refine (?_ : Go.wpList _ _ _ (_ :: _) _ _)); (first | go_skip | (refine wpL_bx M4 rfl rfl rfl rfl ?_; clear M4; intro g5 w5 M5) | (refine wpL_alc M4 rfl rfl ?_; clear M4; intro g5 w5 M5) | (refine wpL_ldc M4 rfl rfl rfl ?_) | (refine wpL_lgc M4 rfl rfl rfl ?_) | (refine wpL_stc M4 rfl rfl rfl rfl ?_; clear M4; intro w' M4) | (refine wpL_sti M4 rfl rfl rfl rfl ?_; clear M4; intro w' M4) | (refine wpL_sth M4 rfl rfl rfl rfl (wr_minus _ _ _) ?_; clear M4; intro w' M4) | (refine wpL_ldc M5 rfl rfl rfl ?_) | (refine wpL_lgc M5 rfl rfl rfl ?_) | (refine wpL_stc M5 rfl rfl rfl rfl ?_; clear M5; intro w' M5) | (refine wpL_sti M5 rfl rfl rfl rfl ?_; clear M5; intro w' M5) | (refine wpL_sth M5 rfl rfl rfl rfl (wr_minus _ _ _) ?_; clear M5; intro w' M5)))
      refine (K1.out _).mono ?_
      rintro e wx ⟨rfl, hA⟩
      replace M5 := M5.call hA
      clear hA K1
      go_wp2_with ((with_reducible refine (?_ : Go.wpList _ _ _ (_ :: _) _ _)); (first | go_skip | (refine wpL_ldc M5 rfl rfl rfl ?_) | (refine wpL_lgc M5 rfl rfl rfl ?_) | (refine wpL_stc M5 rfl rfl rfl rfl ?_; clear M5; intro w' M5) | (refine wpL_sti M5 rfl rfl rfl rfl ?_; clear M5; intro w' M5) | (refine wpL_sth M5 rfl rfl rfl rfl (wr_minus _ _ _) ?_; clear M5; intro w' M5)))
      refine (K2.out _).mono ?_
      rintro e wx ⟨rfl, hA⟩
      replace M5 := M5.call hA
      clear hA K2
      go_wp2_with ((with_reducible refine (?_ : Go.wpList _ _ _ (_ :: _) _ _)); (first | go_skip | (refine wpL_ldc M5 rfl rfl rfl ?_) | (refine wpL_lgc M5 rfl rfl rfl ?_) | (refine wpL_stc M5 rfl rfl rfl rfl ?_; clear M5; intro w' M5) | (refine wpL_sti M5 rfl rfl rfl rfl ?_; clear M5; intro w' M5) | (refine wpL_sth M5 rfl rfl rfl rfl (wr_minus _ _ _) ?_; clear M5; intro w' M5)))
      refine (C0.out _).mono ?_
      rintro e wx ⟨rfl, hA⟩
      replace M5 := M5.call hA
      clear hA C0
      go_wp2_with ((with_reducible refine (?_ : Go.wpList _ _ _ (_ :: _) _ _)); (first | go_skip | (refine wpL_ldc M5 rfl rfl rfl ?_) | (refine wpL_lgc M5 rfl rfl rfl ?_) | (refine wpL_stc M5 rfl rfl rfl rfl ?_; clear M5; intro w' M5) | (refine wpL_sti M5 rfl rfl rfl rfl ?_; clear M5; intro w' M5) | (refine wpL_sth M5 rfl rfl rfl rfl (wr_minus _ _ _) ?_; clear M5; intro w' M5)))
      go_ret
      exact ⟨rfl, HB.out.trans (M5.below.mono HB.out.size)⟩
end Go.Proofs.Ytbjhbbiahmhdeaa
