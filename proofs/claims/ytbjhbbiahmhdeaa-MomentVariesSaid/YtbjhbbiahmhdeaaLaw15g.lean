/-
  Layer 15's laws, put together.
-/
import Derived.Test.YtbjhbbiahmhdeaaLaw15b
import Derived.Test.YtbjhbbiahmhdeaaLaw15c
import Derived.Test.YtbjhbbiahmhdeaaLaw15d
import Derived.Test.YtbjhbbiahmhdeaaLaw15e
import Derived.Test.YtbjhbbiahmhdeaaLaw15f
set_option linter.unusedVariables false
set_option linter.unusedSimpArgs false
namespace Go.Proofs.Ytbjhbbiahmhdeaa
open Go Go.RowKit Go.Shelf Go.Th Go.Th.Grid Go.Th.Moment Go.Th.Wide

theorem gok_made {z : List Int} (hz : ∀ u ∈ z, 0 ≤ u ∧ u ≤ 65535) {x y n : Nat} (hx : 1 ≤ x ∧ x ≤ 8) (hy : 1 ≤ y ∧ y ≤ 8) (hn : n = x * y) : GOk x y n (norm (madeL z n)) ∧ 0 < sm (norm (madeL z n)) ∧ sm (norm (madeL z n)) ≤ 1073741824 := by
  have hpos : 0 < x * y := Nat.mul_pos (by omega) (by omega)
  have hle : x * y ≤ 8 * 8 := Nat.mul_le_mul hx.2 hy.2
  have hl : (norm (madeL z n)).length = n := by rw [norm_length, madeL_length]
  have hs := madeL_sm hz (n := n) (by omega)
  have hc : chk x y 64 (norm (madeL z n)) = 0 := chk_norm (sidesG_iff.2 ⟨by omega, by omega, by omega⟩) (by rw [madeL_length, hn]; simp) (fun u hu => (madeL_rng hz n u hu).1) (by omega)
  obtain ⟨_, _, h3, h4, h5⟩ := chk_ok hc
  rw [hl] at h4
  exact ⟨⟨hl, h3, sdG_of ⟨⟨by omega, by omega⟩, by omega, by omega⟩, hn⟩, by omega, h5⟩
theorem step_rng15 (st : Nat) : 16 ≤ stepN st ∧ stepN st ≤ 4096 := by
  unfold stepN
  have h9 : st % 9 < 9 := Nat.mod_lt _ (by omega)
  obtain ⟨r, hr⟩ : ∃ r, r = st % 9 := ⟨_, rfl⟩
  rw [← hr] at h9 ⊢
  match r, h9 with
  | 0, _ => decide
  | 1, _ => decide
  | 2, _ => decide
  | 3, _ => decide
  | 4, _ => decide
  | 5, _ => decide
  | 6, _ => decide
  | 7, _ => decide
  | 8, _ => decide

section
variable (C0 : Ans 7 #[] (.bool true))
include C0
theorem means_big (p q st k capl : Nat) (al : Option Addr) (hk : (100 : Int) < (k : Int)) (hk2 : k ≤ 9223372036854775807) (w : World) :
    Calls Try.prog 3 #[.int .u8 p, .int .u8 q, .slice al k capl, .int .u8 st] w fun e w' => e = .returned (.bool true) ∧ Below w.heap.size w w' := by
  go_enter Try.func3, Try.ntmps3
  go_wp2_with fail
  refine (C0 _).mono ?_
  rintro e w1 ⟨rfl, hB⟩
  go_wp2_with fail
  go_ret
  exact ⟨rfl, hB⟩
theorem varies_big (p q k capl : Nat) (al : Option Addr) (hk : (100 : Int) < (k : Int)) (hk2 : k ≤ 9223372036854775807) (w : World) :
    Calls Try.prog 4 #[.int .u8 p, .int .u8 q, .slice al k capl] w fun e w' => e = .returned (.bool true) ∧ Below w.heap.size w w' := by
  go_enter Try.func4, Try.ntmps4
  go_wp2_with fail
  refine (C0 _).mono ?_
  rintro e w1 ⟨rfl, hB⟩
  go_wp2_with fail
  go_ret
  exact ⟨rfl, hB⟩
theorem peaks_big (p q k capl : Nat) (al : Option Addr) (at_ far : Int) (hk : (100 : Int) < (k : Int)) (hk2 : k ≤ 9223372036854775807) (w : World) :
    Calls Try.prog 5 #[.int .u8 p, .int .u8 q, .slice al k capl, .int .i64 at_, .int .i64 far] w fun e w' => e = .returned (.bool true) ∧ Below w.heap.size w w' := by
  go_enter Try.func5, Try.ntmps5
  go_wp2_with fail
  refine (C0 _).mono ?_
  rintro e w1 ⟨rfl, hB⟩
  go_wp2_with fail
  go_ret
  exact ⟨rfl, hB⟩
theorem evens_big (p q k capl : Nat) (al : Option Addr) (hk : (100 : Int) < (k : Int)) (hk2 : k ≤ 9223372036854775807) (w : World) :
    Calls Try.prog 6 #[.int .u8 p, .int .u8 q, .slice al k capl] w fun e w' => e = .returned (.bool true) ∧ Below w.heap.size w w' := by
  go_enter Try.func6, Try.ntmps6
  go_wp2_with fail
  refine (C0 _).mono ?_
  rintro e w1 ⟨rfl, hB⟩
  go_wp2_with fail
  go_ret
  exact ⟨rfl, hB⟩

theorem means_any (p q st k capl : Nat) (al : Option Addr) (z : List Int) (hp : p < 256) (hq : q < 256) (hst : st < 256) (hz : z.length = k) (hz0 : ∀ u ∈ z, 0 ≤ u ∧ u ≤ 65535) (w : World) (hT : Sl w 1 (.slice al k capl) k (u16s z)) :
    Calls Try.prog 3 #[.int .u8 p, .int .u8 q, .slice al k capl, .int .u8 st] w fun e w' => e = .returned (.bool true) ∧ Below w.heap.size w w' := by
  have hmy := hT.max
  by_cases hk : (100 : Int) < (k : Int)
  · exact means_big C0 p q st k capl al hk (by omega) w
  obtain ⟨x, hx⟩ : ∃ x, x = 1 + p % 8 := ⟨_, rfl⟩
  obtain ⟨y, hy⟩ : ∃ y, y = 1 + q % 8 := ⟨_, rfl⟩
  obtain ⟨n, hn⟩ : ∃ n, n = x * y := ⟨_, rfl⟩
  have hx8 : 1 ≤ x ∧ x ≤ 8 := by omega
  have hy8 : 1 ≤ y ∧ y ≤ 8 := by omega
  obtain ⟨R, hs1, hs2⟩ := gok_made hz0 hx8 hy8 hn
  obtain ⟨s1, s2⟩ := step_rng15 st
  obtain ⟨S, hS⟩ : ∃ S, S = stepN st := ⟨_, rfl⟩
  have CM := fun w hT => made14_any p q st x y n S k capl al z hp hq hst hx hy hn hS hz (by omega) hz0 w hT
  rw [← hS] at s1 s2
  obtain ⟨G, hG⟩ : ∃ G, G = norm (madeL z n) := ⟨_, rfl⟩
  rw [← hG] at CM R hs1 hs2
  have r1 := nr_rng (s := (S : Int)) hs1 (by omega) R.mx
  have r2 := nr_rng (s := (S : Int)) hs1 (by omega) R.my
  have k1 : ((x : Int) - 1) * (S : Int) ≤ 7 * 4096 := Int.mul_le_mul (by omega) (by omega) (by omega) (by omega)
  have k2 : ((y : Int) - 1) * (S : Int) ≤ 7 * 4096 := Int.mul_le_mul (by omega) (by omega) (by omega) (by omega)
  have j1 : 0 ≤ ((x : Int) - 1) * (S : Int) := Int.mul_nonneg (by omega) (by omega)
  have j2 : 0 ≤ ((y : Int) - 1) * (S : Int) := Int.mul_nonneg (by omega) (by omega)
  exact means_go p q st k capl n al z G x y S _ _ ((x : Int) - 1) ((y : Int) - 1) (((x : Int) - 1) * (S : Int)) (((y : Int) - 1) * (S : Int)) (1000 + ((x : Int) - 1) * (S : Int)) (-1000 + ((y : Int) - 1) * (S : Int)) hk CM
    (fun a cap w hS => Mean_any R ⟨hs1, hs2⟩ S 1000 (-1000) a cap s2 (by omega) (by omega) w hS) (fun a cap w hS => refMean_any R ⟨hs1, hs2⟩ S 1000 (-1000) a cap s2 (by omega) (by omega) w hS) C0
    (IntWalk.i64_in _ (by omega)) (IntWalk.i64_in _ (by omega)) (IntWalk.i64_in _ (by omega)) (IntWalk.i64_in _ (by omega)) (IntWalk.i64_in _ (by omega)) (IntWalk.i64_in _ (by omega)) (by omega) (by omega) (by omega) (by omega) (IntWalk.wrap64_in _ (by omega)) (IntWalk.wrap64_in _ (by omega)) w hT

theorem varies_any (p q k capl : Nat) (al : Option Addr) (z : List Int) (hp : p < 256) (hq : q < 256) (hz : z.length = k) (hz0 : ∀ u ∈ z, 0 ≤ u ∧ u ≤ 65535) (w : World) (hT : Sl w 1 (.slice al k capl) k (u16s z)) :
    Calls Try.prog 4 #[.int .u8 p, .int .u8 q, .slice al k capl] w fun e w' => e = .returned (.bool true) ∧ Below w.heap.size w w' := by
  have hmy := hT.max
  by_cases hk : (100 : Int) < (k : Int)
  · exact varies_big C0 p q k capl al hk (by omega) w
  obtain ⟨x, hx⟩ : ∃ x, x = 1 + p % 8 := ⟨_, rfl⟩
  obtain ⟨y, hy⟩ : ∃ y, y = 1 + q % 8 := ⟨_, rfl⟩
  obtain ⟨n, hn⟩ : ∃ n, n = x * y := ⟨_, rfl⟩
  have hx8 : 1 ≤ x ∧ x ≤ 8 := by omega
  have hy8 : 1 ≤ y ∧ y ≤ 8 := by omega
  obtain ⟨R, hs1, hs2⟩ := gok_made hz0 hx8 hy8 hn
  have CM := fun w hT => made14_any p q 2 x y n 64 k capl al z hp hq (by omega) hx hy hn rfl hz (by omega) hz0 w hT
  obtain ⟨G, hG⟩ : ∃ G, G = norm (madeL z n) := ⟨_, rfl⟩
  rw [← hG] at CM R hs1 hs2
  have ha := R.mx
  have hb := R.my
  have k3 : ((x : Int) - 1) * sm G ≤ 63 * sm G := Int.mul_le_mul_of_nonneg_right (by omega) (by omega)
  have k4 : ((y : Int) - 1) * sm G ≤ 63 * sm G := Int.mul_le_mul_of_nonneg_right (by omega) (by omega)
  have hxx : 0 ≤ mo (fxx x) (en G n) ∧ mo (fxx x) (en G n) ≤ 3969 * sm G := ⟨mo_pos R.pos fun i hi => (R.rr i hi).1.1, mo_le R.len R.pos fun i hi => (R.rr i hi).1.2⟩
  have hxy : 0 ≤ mo (fxy x) (en G n) ∧ mo (fxy x) (en G n) ≤ 3969 * sm G := ⟨mo_pos R.pos fun i hi => (R.rr i hi).2.1.1, mo_le R.len R.pos fun i hi => (R.rr i hi).2.1.2⟩
  have hyy : 0 ≤ mo (fyy x) (en G n) ∧ mo (fyy x) (en G n) ≤ 3969 * sm G := ⟨mo_pos R.pos fun i hi => (R.rr i hi).2.2.1, mo_le R.len R.pos fun i hi => (R.rr i hi).2.2.2⟩
  have hs : 0 < sm G ∧ sm G ≤ 1073741824 := ⟨hs1, hs2⟩
  have I1 := is_any (sm G) (mo (fxx x) (en G n)) (mo (fx x) (en G n)) (mo (fx x) (en G n)) (by omega) (by omega) (by omega) (by omega) (vr_rng hs hxx (by omega) (by omega))
  have I2 := is_any (sm G) (mo (fxy x) (en G n)) (mo (fx x) (en G n)) (mo (fy x) (en G n)) (by omega) (by omega) (by omega) (by omega) (vr_rng hs hxy (by omega) (by omega))
  have I3 := is_any (sm G) (mo (fyy x) (en G n)) (mo (fy x) (en G n)) (mo (fy x) (en G n)) (by omega) (by omega) (by omega) (by omega) (vr_rng hs hyy (by omega) (by omega))
  have e1 : sm G = su (fun i => G.getD i 0) n := by rw [sm_su, R.len]
  have c1 : mo (fx x) (en G n) * mo (fx x) (en G n) ≤ sm G * mo (fxx x) (en G n) := by
    have := cauchy (p := fun i => G.getD i 0) (f := fx x) n R.pos
    rw [mo_en, mo_en, e1]
    rw [show (fun i => G.getD i 0 * fxx x i) = fun i => G.getD i 0 * fx x i * fx x i by funext i; unfold fxx; rw [Int.mul_assoc]]
    exact this
  have c2 : mo (fy x) (en G n) * mo (fy x) (en G n) ≤ sm G * mo (fyy x) (en G n) := by
    have := cauchy (p := fun i => G.getD i 0) (f := fy x) n R.pos
    rw [mo_en, mo_en, e1]
    rw [show (fun i => G.getD i 0 * fyy x i) = fun i => G.getD i 0 * fy x i * fy x i by funext i; unfold fyy; rw [Int.mul_assoc]]
    exact this
  have S1 := fun a cap w hS => refSums_any x y n 1000 (-1000) 64 a cap G R 1 0 (by omega) w hS
  have S2 := fun a cap w hS => refSums_any x y n 1000 (-1000) 64 a cap G R 0 1 (by omega) w hS
  have S3 := fun a cap w hS => refSums_any x y n 1000 (-1000) 64 a cap G R 2 0 (by omega) w hS
  have S4 := fun a cap w hS => refSums_any x y n 1000 (-1000) 64 a cap G R 1 1 (by omega) w hS
  have S5 := fun a cap w hS => refSums_any x y n 1000 (-1000) 64 a cap G R 0 2 (by omega) w hS
  rw [fp_10] at S1
  rw [fp_01] at S2
  rw [fp_20] at S3
  rw [fp_11] at S4
  rw [fp_02] at S5
  exact varies_go p q k capl n al z G x y 64 (sm G) _ _ _ _ _ _ _ _ hk CM (fun a cap w hS => Vary_any R hs 1000 (-1000) 64 a cap w hS) (fun a cap w hS => refSum_G R hs a cap w hS) S1 S2 S3 S4 S5 I1 I2 I3 C0
    (decide_eq_true (vr_pos hs1 c1)) (decide_eq_true (vr_pos hs1 c2)) w hT

theorem peaks_any (p q k capl : Nat) (al : Option Addr) (z : List Int) (at_ far : Int) (hp : p < 256) (hq : q < 256) (hz : z.length = k) (hz0 : ∀ u ∈ z, 0 ≤ u ∧ u ≤ 65535) (w : World) (hT : Sl w 1 (.slice al k capl) k (u16s z)) :
    Calls Try.prog 5 #[.int .u8 p, .int .u8 q, .slice al k capl, .int .i64 at_, .int .i64 far] w fun e w' => e = .returned (.bool true) ∧ Below w.heap.size w w' := by
  have hmy := hT.max
  by_cases hk : (100 : Int) < (k : Int)
  · exact peaks_big C0 p q k capl al at_ far hk (by omega) w
  obtain ⟨x, hx⟩ : ∃ x, x = 1 + p % 8 := ⟨_, rfl⟩
  obtain ⟨y, hy⟩ : ∃ y, y = 1 + q % 8 := ⟨_, rfl⟩
  obtain ⟨n, hn⟩ : ∃ n, n = x * y := ⟨_, rfl⟩
  have hx8 : 1 ≤ x ∧ x ≤ 8 := by omega
  have hy8 : 1 ≤ y ∧ y ≤ 8 := by omega
  have hle : x * y ≤ 8 * 8 := Nat.mul_le_mul (by omega) (by omega)
  have hn64 : n ≤ 64 := by omega
  obtain ⟨R, hs1, hs2⟩ := gok_made hz0 hx8 hy8 hn
  have CM := fun w hT => made14_any p q 2 x y n 64 k capl al z hp hq (by omega) hx hy hn rfl hz (by omega) hz0 w hT
  obtain ⟨G, hG⟩ : ∃ G, G = norm (madeL z n) := ⟨_, rfl⟩
  rw [← hG] at CM R
  have hb : ix (sec x far G n) < 0 ∨ ∃ i j : Nat, ix (pk G n) = (i : Nat) ∧ ix (sec x far G n) = (j : Nat) ∧ i < n ∧ j < n ∧ G.getD j 0 ≤ G.getD i 0 := by
    cases hb : sec x far G n with
    | none => exact .inl (by decide)
    | some v =>
      cases ha : pk G n with
      | none => unfold sec at hb; rw [ha] at hb; cases hb
      | some t =>
        unfold sec at hb
        rw [ha] at hb
        obtain ⟨m1, _, _, _⟩ := tp_mem _ v hb
        obtain ⟨m2, _, _, m3⟩ := tp_mem _ t ha
        obtain ⟨a1, a2⟩ := en_mem m1
        obtain ⟨b1, b2⟩ := en_mem m2
        have := tp_max (c := fun _ => true) (en G n) v m1 rfl
        have hm : most (tp (fun _ => true) (en G n)) = t.2 := m3.symm
        rw [hm, a2, b2] at this
        exact .inr ⟨t.1, v.1, rfl, rfl, b1, a1, this⟩
  exact peaks_go p q k capl n al z G x y 64 _ _ _ _ at_ far hk R.len CM (fun a cap w hS => Peak_any x y n 1000 (-1000) 64 a cap G R w hS) (fun a cap w hS => Second_any x y n 1000 (-1000) 64 a cap G R far w hS)
    (fun a cap w hS => refPeak_any x y n 1000 (-1000) 64 a cap G R w hS) (fun a cap w hS => refSecond_any x y n 1000 (-1000) 64 far a cap G R w hS)
    (fun a cap w hS => Around_any x y n 64 1000 (-1000) at_ far a cap G R (by omega) (by omega) (by omega) w hS) (fun a cap w hS => refAround_any x y n 1000 (-1000) 64 at_ far a cap G R w hS)
    (fun a cap w hS => Edge_any x y n 1000 (-1000) 64 a cap G R w hS) (fun a cap w hS => refEdge_any x y n 1000 (-1000) 64 a cap G R w hS) C0 hb hn64 w hT

theorem evens_any (p q k capl : Nat) (al : Option Addr) (z : List Int) (hp : p < 256) (hq : q < 256) (hz : z.length = k) (hz0 : ∀ u ∈ z, 0 ≤ u ∧ u ≤ 65535) (w : World) (hT : Sl w 1 (.slice al k capl) k (u16s z)) :
    Calls Try.prog 6 #[.int .u8 p, .int .u8 q, .slice al k capl] w fun e w' => e = .returned (.bool true) ∧ Below w.heap.size w w' := by
  have hmy := hT.max
  by_cases hk : (100 : Int) < (k : Int)
  · exact evens_big C0 p q k capl al hk (by omega) w
  obtain ⟨x, hx⟩ : ∃ x, x = 1 + p % 8 := ⟨_, rfl⟩
  obtain ⟨y, hy⟩ : ∃ y, y = 1 + q % 8 := ⟨_, rfl⟩
  obtain ⟨n, hn⟩ : ∃ n, n = x * y := ⟨_, rfl⟩
  have hx8 : 1 ≤ x ∧ x ≤ 8 := by omega
  have hy8 : 1 ≤ y ∧ y ≤ 8 := by omega
  have hle : x * y ≤ 8 * 8 := Nat.mul_le_mul (by omega) (by omega)
  have hpos : 0 < x * y := Nat.mul_pos (by omega) (by omega)
  have hn64 : n ≤ 64 := by omega
  obtain ⟨R, hs1, hs2⟩ := gok_made hz0 hx8 hy8 hn
  have CM := fun w hT => made14_any p q 2 x y n 64 k capl al z hp hq (by omega) hx hy hn rfl hz (by omega) hz0 w hT
  obtain ⟨G, hG⟩ : ∃ G, G = norm (madeL z n) := ⟨_, rfl⟩
  rw [← hG] at CM R hs1 hs2
  have hs : 0 < sm G ∧ sm G ≤ 1073741824 := ⟨hs1, hs2⟩
  obtain ⟨g1, g2, g3, g4⟩ := squares_rng R hs
  obtain ⟨Q, hQ⟩ := Int.eq_ofNat_of_zero_le (by omega : 0 ≤ sqs (en G n))
  obtain ⟨T, hT0⟩ := Int.eq_ofNat_of_zero_le (by omega : 0 ≤ sm G)
  have CE := fun a cap w hS => Even_any R hs 1000 (-1000) 64 a cap w hS
  have CQ := fun (a : Option Addr) (cap : Nat) (w : World) (hS : Sl w 1 (.slice a n cap) n (i64s G)) => (show Calls Try.prog 24 #[gv x y 1000 (-1000) 64 (.slice a n cap)] w fun e w' => e = .returned (.agg (numC false (sqs (en G n)).toNat).toArray) ∧ Below w.heap.size w w' from by
    obtain ⟨b, o, rfl, _, _⟩ := cell64 hS 0 (by rw [R.len]; omega)
    exact refSquares_any x y n 1000 (-1000) 64 b o cap G R w hS)
  have CT := fun a cap w hS => refSum_G R hs a cap w hS
  rw [hQ, hT0] at CE
  rw [hQ, Int.toNat_natCast] at CQ
  rw [hT0] at CT
  rw [hQ, hT0] at g2 g3
  rw [hQ] at g1
  rw [hT0] at g4
  have f1 : Q ≤ T * T := by exact_mod_cast g2
  have f2 : T * T ≤ n * Q := by exact_mod_cast g3
  have f3 : T * T ≤ 1152921504606846976 := by
    have g5 : ((T * T : Nat) : Int) ≤ 1152921504606846976 := by rw [Int.natCast_mul]; exact g4
    omega
  have f0 : 0 < Q := by omega
  obtain ⟨V, hV⟩ : ∃ V, V = T * T / Q := ⟨_, rfl⟩
  have eV : (T : Int) * (T : Int) / (Q : Int) = (V : Int) := by rw [hV]; push_cast; rfl
  rw [eV] at CE
  have v1 : 1 ≤ V := by rw [hV]; exact (Nat.le_div_iff_mul_le f0).2 (by omega)
  have v2 : V ≤ n := by rw [hV]; exact Nat.div_le_of_le_mul (by rw [Nat.mul_comm Q n]; exact f2)
  have v3 : V * Q ≤ T * T := by rw [hV]; exact Nat.div_mul_le_self _ _
  have v4 : T * T < (V + 1) * Q := by rw [hV]; exact (Nat.lt_mul_of_div_lt (Nat.lt_succ_self _) f0)
  have hQ60 : Q ≤ 1152921504606846976 := by omega
  have hT30 : T ≤ 1073741824 := by omega
  have CA : ∀ i, i ≤ 64 → ∃ f, Ans 25 #[.agg (numC false (i * Q)).toArray, .agg (numC false Q).toArray] (.tuple #[.agg (numC false ((i + 1) * Q)).toArray, .bool f]) := fun i hi => by
    have h1 : i * Q ≤ 64 * 1152921504606846976 := Nat.mul_le_mul hi hQ60
    obtain ⟨f, C⟩ := madd_any (i * Q) Q (by omega) (by omega)
    rw [show i * Q + Q = (i + 1) * Q by rw [Nat.add_mul, Nat.one_mul]] at C
    exact ⟨f, C⟩
  have hV64 : V * Q ≤ 64 * 1152921504606846976 := Nat.mul_le_mul (by omega) hQ60
  have hV65 : (V + 1) * Q ≤ 65 * 1152921504606846976 := Nat.mul_le_mul (by omega) hQ60
  have K1 := fun w => refCmp_any false false (V * Q) (T * T) (by omega) (by omega) w
  have K2 := fun w => refCmp_any false false (T * T) ((V + 1) * Q) (by omega) (by omega) w
  exact evens_go p q k capl n al z G x y 64 _ _ V Q T (T * T) hk hn64 ⟨v1, v2⟩ CM CE CQ CT CA (mmul_any T T (by omega) (by omega)) K1 K2 (cmp_le (by rw [msigned_f, msigned_f]; exact_mod_cast v3)) (cmp_lt (by rw [msigned_f, msigned_f]; exact_mod_cast v4)) C0 w hT
end
end Go.Proofs.Ytbjhbbiahmhdeaa
