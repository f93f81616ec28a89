/-
  Sums of places times columns and rows: the reference's.
-/
import Derived.Test.YtbjhbbiahmhdeaaMomentK
import Derived.Test.YtbjhbbiahmhdeaaPackGridR
set_option linter.unusedVariables false
set_option linter.unusedSimpArgs false
namespace Go.Proofs.Ytbjhbbiahmhdeaa
open Go Go.RowKit Go.Th Go.Th.Grid Go.Th.Moment Go.Th.Wide

theorem pw_rng {u a b : Int} (hu : 0 ≤ u ∧ u ≤ 1073741824) (ha : 0 ≤ a ∧ a ≤ 63) (hb : 0 ≤ b ∧ b ≤ 63) (i j : Nat) (h : i + j ≤ 2) : 0 ≤ u * a ^ i * b ^ j ∧ u * a ^ i * b ^ j ≤ 4261681299456 := by
  have h1 := prod_rng hu ha
  have h2 := prod_rng hu hb
  have h3 := prod_rng h1 ha
  have h4 := prod_rng h1 hb
  have h5 := prod_rng h2 hb
  have e1 : ∀ z : Int, z ^ 1 = z := fun z => by rw [Int.pow_succ, Int.pow_zero, Int.one_mul]
  have e2 : ∀ z : Int, z ^ 2 = z * z := fun z => by rw [Int.pow_succ, e1]
  rcases (by omega : (i = 0 ∧ j = 0) ∨ (i = 0 ∧ j = 1) ∨ (i = 0 ∧ j = 2) ∨ (i = 1 ∧ j = 0) ∨ (i = 1 ∧ j = 1) ∨ (i = 2 ∧ j = 0)) with ⟨rfl, rfl⟩ | ⟨rfl, rfl⟩ | ⟨rfl, rfl⟩ | ⟨rfl, rfl⟩ | ⟨rfl, rfl⟩ | ⟨rfl, rfl⟩
  · rw [Int.pow_zero, Int.pow_zero, Int.mul_one, Int.mul_one]; omega
  · rw [Int.pow_zero, e1, Int.mul_one]; omega
  · rw [Int.pow_zero, e2, Int.mul_one, ← Int.mul_assoc]; omega
  · rw [Int.pow_zero, e1, Int.mul_one]; omega
  · rw [e1, e1]; omega
  · rw [Int.pow_zero, e2, Int.mul_one, ← Int.mul_assoc]; omega

/-- Columns and rows, to powers. -/
def fp (x A B i : Nat) : Int := fx x i ^ A * fy x i ^ B
theorem pow_1 (z : Int) : z ^ 1 = z := by rw [Int.pow_succ, Int.pow_zero, Int.one_mul]
theorem pow_2 (z : Int) : z ^ 2 = z * z := by rw [Int.pow_succ, pow_1]
theorem fp_10 (x : Nat) : fp x 1 0 = fx x := by funext i; unfold fp; rw [pow_1, Int.pow_zero, Int.mul_one]
theorem fp_01 (x : Nat) : fp x 0 1 = fy x := by funext i; unfold fp; rw [pow_1, Int.pow_zero, Int.one_mul]
theorem fp_20 (x : Nat) : fp x 2 0 = fxx x := by funext i; unfold fp fxx; rw [pow_2, Int.pow_zero, Int.mul_one]
theorem fp_11 (x : Nat) : fp x 1 1 = fxy x := by funext i; unfold fp fxy; rw [pow_1, pow_1]
theorem fp_02 (x : Nat) : fp x 0 2 = fyy x := by funext i; unfold fp fyy; rw [pow_2, Int.pow_zero, Int.one_mul]
theorem fp_rng {x y n i : Nat} (hx : 1 ≤ x ∧ x ≤ 64) (hy : 1 ≤ y ∧ y ≤ 64) (hn : n = x * y) (hi : i < n) (A B : Nat) (h : A + B ≤ 2) : 0 ≤ fp x A B i ∧ fp x A B i ≤ 3969 := by
  obtain ⟨_, _, r2, r3, r4, r5, r6⟩ := cols_rng hx hy hn hi
  rcases (by omega : (A = 0 ∧ B = 0) ∨ (A = 0 ∧ B = 1) ∨ (A = 0 ∧ B = 2) ∨ (A = 1 ∧ B = 0) ∨ (A = 1 ∧ B = 1) ∨ (A = 2 ∧ B = 0)) with ⟨rfl, rfl⟩ | ⟨rfl, rfl⟩ | ⟨rfl, rfl⟩ | ⟨rfl, rfl⟩ | ⟨rfl, rfl⟩ | ⟨rfl, rfl⟩
  · unfold fp; rw [Int.pow_zero, Int.pow_zero]; omega
  · rw [fp_01]; omega
  · rw [fp_02]; omega
  · rw [fp_10]; omega
  · rw [fp_11]; omega
  · rw [fp_20]; omega
set_option maxRecDepth 20000 in
set_option maxHeartbeats 6400000 in
theorem refSums_any (x y n : Nat) (X Y s : Int) (a : Option Addr) (cap : Nat) (p : List Int) (G : GOk x y n p) (A B : Nat) (hAB : A + B ≤ 2) (w : World) (hS : Sl w 1 (.slice a n cap) n (i64s p)) :
    Calls Try.prog 13 #[gv x y X Y s (.slice a n cap), .int .i64 A, .int .i64 B] w fun e w' => e = .returned (.int .i64 (mo (fp x A B) (en p n))) ∧ Below w.heap.size w w' := by
  obtain ⟨⟨q1, q2⟩, q3, q4⟩ := sdG_t G.sd
  have hle : x * y ≤ 64 * 64 := Nat.mul_le_mul (by omega) (by omega)
  have hn4 : n ≤ 4096 := by rw [G.side]; omega
  have HRNG := Lib.hid (fun i hi => cols_rng (x := x) (y := y) (n := n) (i := i) (by omega) (by omega) G.side hi)
  have HCELL := Lib.hid (fun (W : World) (h : Sl W 1 (.slice a n cap) n (i64s p)) k hk => cell64 h k (by rw [G.len]; exact hk : k < p.length))
  have HPR := Lib.hid (fun i hi => getD_mem (P := fun u => 0 ≤ u ∧ u ≤ 1073741824) G.rng (by rw [G.len]; exact hi : i < p.length))
  have HSUM : Hid (∀ k, k ≤ n → 0 ≤ mo (fp x A B) (en p k) ∧ mo (fp x A B) (en p k) ≤ 4261681299456 * 4096) := Lib.hid (fun k hk => by
    have h := mo_rng (F := 3969) (f := fp x A B) (en_ok (k := k) (by rw [G.len]; exact hk) G.rng) (fun i hi => fp_rng (x := x) (y := y) (n := n) (by omega) (by omega) G.side (by omega) A B hAB)
    rw [en_length] at h
    omega)
  (obtain ⟨w1, hw1⟩ : ∃ w1, w.alloc (.cells #[.int .i64 x, .int .i64 y, .int .i64 X, .int .i64 Y, .int .i64 s, .slice a n cap] 26) = w1 := ⟨_, rfl⟩; have M1 := (Mem.start w).alloc 26 (gc x y X Y s (.slice a n cap)); rw [show w.alloc (.cells (gc x y X Y s (.slice a n cap)).toArray 26) = w1 from hw1] at M1; have HW1 := Lib.hid hw1; clear hw1)
  have HS1 := Lib.hid (hS.below M1.below)
  have hx0 : ¬ (x = 0) := by omega
  clear hS G hle q1 q3 q4
  go_enter Try.func13, Try.ntmps13
  ((go_upto_region 1 with fail); rw [HW1.out]; clear HW1; obtain ⟨gA, hgA⟩ : ∃ gA, gA = w.heap.size := ⟨_, rfl⟩; rw [← hgA] at M1 ⊢; clear hgA)
  obtain ⟨c0, c1, c2, c3, c4, c5⟩ := gcells (M1.has (Has.head _ _ _ _))
  have HB1 := Lib.hid M1.below
  clear M1
  go_wp2_with fail
  go_loopw [7, 8] (fun t c wx => ∃ k : Nat, k ≤ n ∧ c = .int .i64 k ∧ t = .int .i64 (mo (fp x A B) (en p k)) ∧ wx = w1) (fun _ c _ => n - (intOf c).toNat)
  case atStart => exact ⟨0, Nat.zero_le _, rfl, rfl, rfl⟩
  case round =>
    obtain ⟨k, hk, rfl, rfl, rfl⟩ := hrel
    obtain ⟨r1, r2⟩ := HSUM.out k hk
    by_cases hlt : k < n
    · obtain ⟨b, o, rfl, _, cu⟩ := HCELL.out _ HS1.out k hlt
      have hu := HPR.out k hlt
      have hnx := mo_snoc (fp x A B) (en p k) (k, p.getD k 0)
      rw [← en_next] at hnx
      have hr3 := HSUM.out (k + 1) (by omega)
      obtain ⟨⟨b1, b2⟩, _⟩ := HRNG.out k hlt
      obtain ⟨u, huu⟩ : ∃ u, u = p.getD k 0 := ⟨_, rfl⟩
      rw [← huu] at cu hu hnx
      have hfp : fp x A B k = ((k % x : Nat) : Int) ^ A * ((k / x : Nat) : Int) ^ B := rfl
      have e1t : (k : Int).tmod (x : Int) = ((k % x : Nat) : Int) := by rw [Int.tmod_eq_emod_of_nonneg (by omega)]; simp
      have e2t : (k : Int).tdiv (x : Int) = ((k / x : Nat) : Int) := by rw [Int.tdiv_eq_ediv_of_nonneg (by omega)]; simp
      have e1' : (k : Int) % (x : Int) = ((k % x : Nat) : Int) := by simp
      have e2' : (k : Int) / (x : Int) = ((k / x : Nat) : Int) := by simp
      obtain ⟨km, hkm⟩ : ∃ km, km = k % x := ⟨_, rfl⟩
      obtain ⟨kd, hkd⟩ : ∃ kd, kd = k / x := ⟨_, rfl⟩
      rw [← hkm] at e1t e1' b1 hfp
      rw [← hkd] at e2t e2' b2 hfp
      have k63 : ∀ z : Nat, z ≤ 63 → 0 ≤ (z : Int) ∧ (z : Int) ≤ 63 := fun z hz => by omega
      have HPW := Lib.hid (fun i j hij => pw_rng hu (k63 km b1) (k63 kd b2) i j hij)
      have HNX : Hid (mo (fp x A B) (en p (k + 1)) = mo (fp x A B) (en p k) + u * (km : Int) ^ A * (kd : Int) ^ B) := Lib.hid (by rw [hnx]; show _ + u * fp x A B k = _; rw [hfp, Int.mul_assoc])
      have wkm : IntKind.i64.wrap (km : Int) = (km : Int) := IntWalk.i64_in _ (by omega)
      have wkd : IntKind.i64.wrap (kd : Int) = (kd : Int) := IntWalk.i64_in _ (by omega)
      have wkd2 : wrap64 (kd : Int) = (kd : Int) := IntWalk.wrap64_in _ (by omega)
      obtain ⟨T0, hT0⟩ : ∃ T0, T0 = mo (fp x A B) (en p k) := ⟨_, rfl⟩
      rw [← hT0] at r1 r2 HNX ⊢
      have HU0 : Hid (u = u * (km : Int) ^ 0) := Lib.hid (by rw [Int.pow_zero, Int.mul_one])
      clear hkm hkd hfp hnx huu hT0 k63 hr3
      go_wp2_with fail
      go_loopw [9, 10] (fun t c wx => ∃ (j : Nat) (T : Int), j ≤ A ∧ c = .int .i64 j ∧ t = .int .i64 T ∧ Hid (T = u * (km : Int) ^ j) ∧ wx = wr) (fun _ c _ => A - (intOf c).toNat)
      case atStart => exact ⟨0, u, Nat.zero_le _, rfl, rfl, HU0, rfl⟩
      case round =>
        obtain ⟨j, T, hj, rfl, rfl, HT, rfl⟩ := hrel
        by_cases hja : j < A
        · have hn1 : T * (km : Int) = u * (km : Int) ^ (j + 1) := by rw [HT.out, Int.pow_succ, Int.mul_assoc]
          have hb1 := HPW.out (j + 1) 0 (by omega)
          rw [Int.pow_zero, Int.mul_one, ← hn1] at hb1
          obtain ⟨T', hT'⟩ : ∃ T', T * (km : Int) = T' := ⟨_, rfl⟩
          rw [hT'] at hn1 hb1
          have wT : IntKind.i64.wrap T' = T' := IntWalk.i64_in _ (by omega)
          have HN1 := Lib.hid hn1
          clear hn1 hb1
          go_wp2_with fail
          go_roundw
          case rel => exact ⟨j + 1, T', by omega, by go_num, rfl, HN1, trivial⟩
          case measure => simp [intOf]; omega
        · obtain rfl : j = A := by omega
          have HU1 : Hid (T = u * (km : Int) ^ j * (kd : Int) ^ 0) := Lib.hid (by rw [Int.pow_zero, Int.mul_one]; exact HT.out)
          go_wp2_with fail
          go_loopw [9, 11] (fun t c wx => ∃ (i : Nat) (T : Int), i ≤ B ∧ c = .int .i64 i ∧ t = .int .i64 T ∧ Hid (T = u * (km : Int) ^ j * (kd : Int) ^ i) ∧ wx = wr) (fun _ c _ => B - (intOf c).toNat)
          case atStart => exact ⟨0, T, Nat.zero_le _, rfl, rfl, HU1, rfl⟩
          case round =>
            obtain ⟨i, V, hi, rfl, rfl, HV, rfl⟩ := hrel
            by_cases hib : i < B
            · have hn1 : V * (kd : Int) = u * (km : Int) ^ j * (kd : Int) ^ (i + 1) := by rw [HV.out, Int.pow_succ, Int.mul_assoc]
              have hb1 := HPW.out j (i + 1) (by omega)
              rw [← hn1] at hb1
              obtain ⟨V', hV'⟩ : ∃ V', V * (kd : Int) = V' := ⟨_, rfl⟩
              rw [hV'] at hn1 hb1
              have wV : IntKind.i64.wrap V' = V' := IntWalk.i64_in _ (by omega)
              have HN1 := Lib.hid hn1
              clear hn1 hb1
              go_wp2_with fail
              go_roundw
              case rel => exact ⟨i + 1, V', by omega, by go_num, rfl, HN1, trivial⟩
              case measure => simp [intOf]; omega
            · obtain rfl : i = B := by omega
              have hb1 := HPW.out j i (by omega)
              rw [← HV.out] at hb1
              have hsum : mo (fp x j i) (en p (k + 1)) = T0 + V := by rw [HNX.out, HV.out]
              have HNN := Lib.hid hsum
              have wS : IntKind.i64.wrap (T0 + V) = T0 + V := IntWalk.i64_in _ (by omega)
              clear hsum hb1
              go_wp2_with fail
              go_roundw
              case rel => exact ⟨k + 1, by omega, by go_num, by rw [HNN.out], trivial⟩
              case measure => simp [intOf]; omega
    · obtain rfl : k = n := by omega
      go_wp2_with fail
      go_ret
      exact ⟨rfl, HB1.out⟩
end Go.Proofs.Ytbjhbbiahmhdeaa
