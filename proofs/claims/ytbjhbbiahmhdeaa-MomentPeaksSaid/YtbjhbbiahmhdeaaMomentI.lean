/-
  How far about a grid is believed, and the mean, of any right grid: the code's.
-/
import Derived.Test.YtbjhbbiahmhdeaaMomentH
set_option linter.unusedVariables false
set_option linter.unusedSimpArgs false
namespace Go.Proofs.Ytbjhbbiahmhdeaa
open Go Go.RowKit Go.Shelf Go.Th Go.Th.Grid Go.Th.Moment Go.Th.Wide

set_option maxRecDepth 20000 in
set_option maxHeartbeats 3200000 in
theorem vary_go (x y n : Nat) (X Y s : Int) (a : Option Addr) (cap : Nat) (p : List Int) (S A B D E F u v z : Int) (CS : SumsAt x y n X Y s a cap p (suv S A B D E F)) (h0 : (S == 0) = false)
    (C1 : Ans 31 #[.int .i64 S, .int .i64 D, .int .i64 A, .int .i64 A] (.int .i64 u)) (C2 : Ans 31 #[.int .i64 S, .int .i64 E, .int .i64 A, .int .i64 B] (.int .i64 v))
    (C3 : Ans 31 #[.int .i64 S, .int .i64 F, .int .i64 B, .int .i64 B] (.int .i64 z)) (w : World) (hS : Sl w 1 (.slice a n cap) n (i64s p)) :
    Calls Try.prog 11 #[gv x y X Y s (.slice a n cap)] w fun e w' => e = .returned (.tuple #[srv u v z, .bool true]) ∧ Below w.heap.size w w' := by
  have HC := Lib.hid CS
  have HC1 := Lib.hid C1
  have HC2 := Lib.hid C2
  have HC3 := Lib.hid C3
  have HS := Lib.hid hS
  clear CS C1 C2 C3 hS
  have M0 := Mem.start w
  go_enter Try.func11, Try.ntmps11
  go_wp2_with ((with_reducible refine (?_ : Go.wpList _ _ _ (_ :: _) _ _)); (first | go_skip | (refine wpL_bx M0 rfl rfl rfl rfl ?_; clear M0; intro g1 w1 M1) | (refine wpL_alc M0 rfl rfl ?_; clear M0; intro g1 w1 M1) | (refine wpL_ldc M0 rfl rfl rfl ?_) | (refine wpL_lgc M0 rfl rfl rfl ?_) | (refine wpL_stc M0 rfl rfl rfl rfl ?_; clear M0; intro w' M0) | (refine wpL_sti M0 rfl rfl rfl rfl ?_; clear M0; intro w' M0) | (refine wpL_sth M0 rfl rfl rfl rfl (wr_minus _ _ _) ?_; clear M0; intro w' M0) | (refine wpL_bx M1 rfl rfl rfl rfl ?_; clear M1; intro g2 w2 M2) | (refine wpL_alc M1 rfl rfl ?_; clear M1; intro g2 w2 M2) | (refine wpL_ldc M1 rfl rfl rfl ?_) | (refine wpL_lgc M1 rfl rfl rfl ?_) | (refine wpL_stc M1 rfl rfl rfl rfl ?_; clear M1; intro w' M1) | (refine wpL_sti M1 rfl rfl rfl rfl ?_; clear M1; intro w' M1) | (refine wpL_sth M1 rfl rfl rfl rfl (wr_minus _ _ _) ?_; clear M1; intro w' M1) | (refine wpL_ldc M2 rfl rfl rfl ?_) | (refine wpL_lgc M2 rfl rfl rfl ?_) | (refine wpL_stc M2 rfl rfl rfl rfl ?_; clear M2; intro w' M2) | (refine wpL_sti M2 rfl rfl rfl rfl ?_; clear M2; intro w' M2) | (refine wpL_sth M2 rfl rfl rfl rfl (wr_minus _ _ _) ?_; clear M2; intro w' M2)))
  refine (HC.out _ (HS.out.below M2.below)).mono ?_
  rintro e w3 ⟨rfl, hB⟩
  replace M2 := M2.call hB
  clear HC hB
  go_wp2_with ((with_reducible refine (?_ : Go.wpList _ _ _ (_ :: _) _ _)); (first | go_skip | (refine wpL_bx M2 rfl rfl rfl rfl ?_; clear M2; intro g3 w3 M3) | (refine wpL_alc M2 rfl rfl ?_; clear M2; intro g3 w3 M3) | (refine wpL_ldc M2 rfl rfl rfl ?_) | (refine wpL_lgc M2 rfl rfl rfl ?_) | (refine wpL_stc M2 rfl rfl rfl rfl ?_; clear M2; intro w' M2) | (refine wpL_sti M2 rfl rfl rfl rfl ?_; clear M2; intro w' M2) | (refine wpL_sth M2 rfl rfl rfl rfl (wr_minus _ _ _) ?_; clear M2; intro w' M2) | (refine wpL_ldc M3 rfl rfl rfl ?_) | (refine wpL_lgc M3 rfl rfl rfl ?_) | (refine wpL_stc M3 rfl rfl rfl rfl ?_; clear M3; intro w' M3) | (refine wpL_sti M3 rfl rfl rfl rfl ?_; clear M3; intro w' M3) | (refine wpL_sth M3 rfl rfl rfl rfl (wr_minus _ _ _) ?_; clear M3; intro w' M3)))
  obtain ⟨c0, c1, c2, c3, c4, c5⟩ := sucells (M3.has (Has.head _ _ _ _))
  refine wp_region_held_drew (S := (fun w' : World => w'.cell? ⟨g3, 0, none⟩ = some (.int .i64 S) ∧ w'.cell? ⟨g3, 1, none⟩ = some (.int .i64 A) ∧ w'.cell? ⟨g3, 2, none⟩ = some (.int .i64 B) ∧ w'.cell? ⟨g3, 3, none⟩ = some (.int .i64 D) ∧ w'.cell? ⟨g3, 4, none⟩ = some (.int .i64 E) ∧ w'.cell? ⟨g3, 5, none⟩ = some (.int .i64 F))) (by kernel_rfl) (⟨c0, c1, c2, c3, c4, c5⟩) (fun hHeld => ?_)
  refine tkT 0 ?v7 ?hy7 hHeld ?rest7
  case hy7 => (intro w' hSw; (try dsimp only at hSw); go_simp; (try with_reducible rfl))
  try simp only [Act.put, puts]
  refine tkT 1 ?v8 ?hy8 hHeld ?rest8
  case hy8 => (intro w' hSw; (try dsimp only at hSw); go_simp; (try with_reducible rfl))
  try simp only [Act.put, puts]
  refine tkT 2 ?v9 ?hy9 hHeld ?rest9
  case hy9 => (intro w' hSw; (try dsimp only at hSw); go_simp; (try with_reducible rfl))
  try simp only [Act.put, puts]
  refine tkT 3 ?v10 ?hy10 hHeld ?rest10
  case hy10 => (intro w' hSw; (try dsimp only at hSw); go_simp; (try with_reducible rfl))
  try simp only [Act.put, puts]
  refine tkT 4 ?v11 ?hy11 hHeld ?rest11
  case hy11 => (intro w' hSw; (try dsimp only at hSw); go_simp; (try with_reducible rfl))
  try simp only [Act.put, puts]
  refine tkT 5 ?v12 ?hy12 hHeld ?rest12
  case hy12 => (intro w' hSw; (try dsimp only at hSw); go_simp; (try with_reducible rfl))
  try simp only [Act.put, puts]
  refine tkT 6 ?v13 ?hy13 hHeld ?rest13
  case hy13 => (intro w' hSw; (try dsimp only at hSw); go_simp; (try with_reducible rfl))
  try simp only [Act.put, puts]
  refine tkT 7 ?v14 ?hy14 hHeld ?rest14
  case hy14 => (intro w' hSw; (try dsimp only at hSw); go_simp; (try with_reducible rfl))
  try simp only [Act.put, puts]
  refine tkT 9 ?v15 ?hy15 hHeld ?rest15
  case hy15 => (intro w' hSw; (try dsimp only at hSw); go_simp; (try with_reducible rfl))
  try simp only [Act.put, puts]
  refine tkT 10 ?v16 ?hy16 hHeld ?rest16
  case hy16 => (intro w' hSw; (try dsimp only at hSw); go_simp; (try with_reducible rfl))
  try simp only [Act.put, puts]
  refine tkT 11 ?v17 ?hy17 hHeld ?rest17
  case hy17 => (intro w' hSw; (try dsimp only at hSw); go_simp; (try with_reducible rfl))
  try simp only [Act.put, puts]
  refine tkT 12 ?v18 ?hy18 hHeld ?rest18
  case hy18 => (intro w' hSw; (try dsimp only at hSw); go_simp; (try with_reducible rfl))
  try simp only [Act.put, puts]
  refine tkT 13 ?v19 ?hy19 hHeld ?rest19
  case hy19 => (intro w' hSw; (try dsimp only at hSw); go_simp; (try with_reducible rfl))
  try simp only [Act.put, puts]
  refine tkT 14 ?v20 ?hy20 hHeld ?rest20
  case hy20 => (intro w' hSw; (try dsimp only at hSw); go_simp; (try with_reducible rfl))
  try simp only [Act.put, puts]
  refine tkT 15 ?v21 ?hy21 hHeld ?rest21
  case hy21 => (intro w' hSw; (try dsimp only at hSw); go_simp; (try with_reducible rfl))
  try simp only [Act.put, puts]
  refine tkT 16 ?v22 ?hy22 hHeld ?rest22
  case hy22 => (intro w' hSw; (try dsimp only at hSw); go_simp; (try with_reducible rfl))
  try simp only [Act.put, puts]
  refine tkT 18 ?v23 ?hy23 hHeld ?rest23
  case hy23 => (intro w' hSw; (try dsimp only at hSw); go_simp; (try with_reducible rfl))
  try simp only [Act.put, puts]
  refine tkT 19 ?v24 ?hy24 hHeld ?rest24
  case hy24 => (intro w' hSw; (try dsimp only at hSw); go_simp; (try with_reducible rfl))
  try simp only [Act.put, puts]
  refine tkT 20 ?v25 ?hy25 hHeld ?rest25
  case hy25 => (intro w' hSw; (try dsimp only at hSw); go_simp; (try with_reducible rfl))
  try simp only [Act.put, puts]
  refine tkT 21 ?v26 ?hy26 hHeld ?rest26
  case hy26 => (intro w' hSw; (try dsimp only at hSw); go_simp; (try with_reducible rfl))
  try simp only [Act.put, puts]
  refine tkT 22 ?v27 ?hy27 hHeld ?rest27
  case hy27 => (intro w' hSw; (try dsimp only at hSw); go_simp; (try with_reducible rfl))
  try simp only [Act.put, puts]
  refine tkT 23 ?v28 ?hy28 hHeld ?rest28
  case hy28 => (intro w' hSw; (try dsimp only at hSw); go_simp; (try with_reducible rfl))
  try simp only [Act.put, puts]
  refine tkT 24 ?v29 ?hy29 hHeld ?rest29
  case hy29 => (intro w' hSw; (try dsimp only at hSw); go_simp; (try with_reducible rfl))
  try simp only [Act.put, puts]
  refine tkT 25 ?v30 ?hy30 hHeld ?rest30
  case hy30 => (intro w' hSw; (try dsimp only at hSw); go_simp; (try with_reducible rfl))
  try simp only [Act.put, puts]
  refine wpAnyH_ready (rs := [8]) (by kernel_rfl) (by simp) ?_
  refine AllReadyH.cons rfl (fun K hK => ?_) AllReadyH.nil
  go_simp
  refine (HC1.out _).mono ?_
  rintro e w4 ⟨rfl, hA⟩
  have M4 := M3.drew.call hA
  try go_wp2_with fail
  refine hK.out _ _ (sucells (M4.has (Has.head _ _ _ _))) (fun hHeld => ?_)
  clear hK K
  try simp only [Act.put, puts]
  refine wpAnyH_ready (rs := [17]) (by kernel_rfl) (by simp) ?_
  refine AllReadyH.cons rfl (fun K hK => ?_) AllReadyH.nil
  go_simp
  refine (HC2.out _).mono ?_
  rintro e w5 ⟨rfl, hA5⟩
  have M5 := M4.call hA5
  try go_wp2_with fail
  refine hK.out _ _ (sucells (M5.has (Has.head _ _ _ _))) (fun hHeld => ?_)
  clear hK K
  try simp only [Act.put, puts]
  refine wpAnyH_ready (rs := [26]) (by kernel_rfl) (by simp) ?_
  refine AllReadyH.cons rfl (fun K hK => ?_) AllReadyH.nil
  go_simp
  refine (HC3.out _).mono ?_
  rintro e w6 ⟨rfl, hA6⟩
  have M6 := M5.call hA6
  try go_wp2_with fail
  refine hK.out _ _ (sucells (M6.has (Has.head _ _ _ _))) (fun hHeld => ?_)
  clear hK K
  try simp only [Act.put, puts]
  refine tkT 27 ?v34 ?hy34 hHeld ?rest34
  case hy34 => (intro w' hSw; (try dsimp only at hSw); go_simp; (try with_reducible rfl))
  try simp only [Act.put, puts]
  refine wpAnyH_ready (rs := [28]) (by kernel_rfl) (by simp) ?_
  refine AllReadyH.cons rfl (fun K hK => ?_) AllReadyH.nil
  rw [if_pos (by rfl)]
  refine wp_stM (v := srv u v z) M6 rfl rfl rfl (wr_spread _ _ _ _ _ _) (.tail _ _ _ _ _ _ _ (Upd.head _ _ _ _ _)) ?_
  intro w7 M7 hT7
  refine hK.out _ _ (sucells (M7.has (Has.head _ _ _ _))) (fun hHeld => ?_)
  clear hK K
  try simp only [Act.put, puts]
  refine tkT 29 ?v36 ?hy36 hHeld ?rest36
  case hy36 => (intro w' hSw; (try dsimp only at hSw); go_simp; (try with_reducible rfl))
  try simp only [Act.put, puts]
  refine wpAnyH_done (by kernel_rfl) ?_ _
  go_wp2_with fail
  ((try simp only [Exit.inBlock, Exit.then]); refine bodyPost_ret (res_cell_tmp rfl M7 rfl (.tail _ _ _ _ _ (Has.head _ _ _ _)) (rd_spread _ _ _) rfl) rfl ?_)
  exact ⟨rfl, M7.below⟩

/-- The middle of products, less the product of both middles. -/
def vr (s p a b : Int) : Int := (65536 * s * p + -(65536 * a * b)) / (s * s)
theorem varied_any (s p a b : Int) (hs : 1 ≤ s ∧ s ≤ 1073741824) (hp : 0 ≤ p ∧ p ≤ 4611686018427387904) (ha : 0 ≤ a ∧ a ≤ 68719476736) (hb : 0 ≤ b ∧ b ≤ 68719476736) (hv : -9223372036854775808 ≤ vr s p a b ∧ vr s p a b ≤ 9223372036854775807) :
    Ans 31 #[.int .i64 s, .int .i64 p, .int .i64 a, .int .i64 b] (.int .i64 (vr s p a b)) := by
  have hq : 0 < s * s ∧ s * s ≤ 1073741824 * 1073741824 := ⟨Int.mul_pos (by omega) (by omega), Int.mul_le_mul hs.2 hs.2 (by omega) (by omega)⟩
  have e1 : 0 ≤ 65536 * s * p ∧ 65536 * s * p ≤ 70368744177664 * 4611686018427387904 := ⟨Int.mul_nonneg (by omega) hp.1, Int.mul_le_mul (by omega) hp.2 hp.1 (by omega)⟩
  have e2 : 0 ≤ 65536 * a * b ∧ 65536 * a * b ≤ 4503599627370496 * 68719476736 := ⟨Int.mul_nonneg (by omega) hb.1, Int.mul_le_mul (by omega) hb.2 hb.1 (by omega)⟩
  have C1 := fun w => Mul_any (65536 * s) p (by omega) (by omega) w
  have C2 := fun w => Mul_any (65536 * a) b (by omega) (by omega) w
  obtain ⟨z1, h1⟩ : ∃ z1, z1 = 65536 * s * p := ⟨_, rfl⟩
  obtain ⟨z2, h2⟩ : ∃ z2, z2 = 65536 * a * b := ⟨_, rfl⟩
  obtain ⟨q, hqq⟩ : ∃ q, q = s * s := ⟨_, rfl⟩
  have hvr : vr s p a b = (z1 + -z2) / q := by rw [h1, h2, hqq]; rfl
  rw [hvr] at hv ⊢
  rw [← h1] at C1 e1
  rw [← h2] at C2 e2
  rw [← hqq] at hq
  have C3 := fun w => Neg_z z2 (by omega) w
  have C4 := Add_z z1 (-z2) (by omega) (by omega) (by omega)
  have C5 := fun w => Div_any (z1 + -z2) q 0 (by omega) (by omega) w
  rw [divV_down _ _ hq.1 hv] at C5
  exact varied_go s p a b (65536 * s) (65536 * a) q _ _ _ _ _ _ _ _ _ _ _ (IntWalk.i64_in _ (by omega)) (IntWalk.i64_in _ (by omega)) (by rw [← hqq]; exact IntWalk.i64_in _ (by omega)) C1 C2 C3 C4 C5

/-- The numbers that a grid's sums are. -/
theorem mo_pos {p : List Int} {n : Nat} {f : Nat → Int} (h0 : ∀ i, i < n → 0 ≤ p.getD i 0) (hf : ∀ i, i < n → 0 ≤ f i) : 0 ≤ mo f (en p n) := by
  rw [mo_en]
  have := su_le (f := fun _ => 0) (g := fun i => p.getD i 0 * f i) n (fun i hi => Int.mul_nonneg (h0 i hi) (hf i hi))
  rwa [su_zero] at this
theorem mo_le {p : List Int} {n : Nat} {f : Nat → Int} {K : Int} (hp : p.length = n) (h0 : ∀ i, i < n → 0 ≤ p.getD i 0) (hf : ∀ i, i < n → f i ≤ K) : mo f (en p n) ≤ K * sm p := by
  rw [mo_en, sm_su, hp, ← su_mul]
  refine su_le n fun i hi => ?_
  rw [Int.mul_comm K]
  exact Int.mul_le_mul_of_nonneg_left (hf i hi) (h0 i hi)
theorem mo_f1 {p : List Int} {n : Nat} (hp : p.length = n) : mo f1 (en p n) = sm p := by
  rw [mo_en, sm_su, hp]
  exact su_congr n fun i hi => by unfold f1; rw [Int.mul_one]
section
variable {x y n : Nat} {p : List Int} (G : GOk x y n p)
include G
theorem GOk.pos : ∀ i, i < n → 0 ≤ p.getD i 0 := fun i hi => (getD_mem (P := fun u => 0 ≤ u ∧ u ≤ 1073741824) G.rng (by rw [G.len]; exact hi)).1
theorem GOk.cols : ∀ i, i < n → (0 ≤ fx x i ∧ fx x i ≤ (x : Int) - 1) ∧ 0 ≤ fy x i ∧ fy x i ≤ (y : Int) - 1 := by
  intro i hi
  obtain ⟨⟨q1, q2⟩, q3, q4⟩ := sdG_t G.sd
  have h1 : i % x < x := Nat.mod_lt _ (by omega)
  have h2 : i / x < y := Nat.div_lt_of_lt_mul (by rw [← G.side]; exact hi)
  have k0 : ∀ k z : Nat, k < z → 0 ≤ (k : Int) ∧ (k : Int) ≤ (z : Int) - 1 := fun k z hk => by omega
  exact ⟨k0 _ _ h1, k0 _ _ h2⟩
theorem GOk.mx : 0 ≤ mo (fx x) (en p n) ∧ mo (fx x) (en p n) ≤ ((x : Int) - 1) * sm p := ⟨mo_pos G.pos fun i hi => (G.cols i hi).1.1, mo_le G.len G.pos fun i hi => (G.cols i hi).1.2⟩
theorem GOk.my : 0 ≤ mo (fy x) (en p n) ∧ mo (fy x) (en p n) ≤ ((y : Int) - 1) * sm p := ⟨mo_pos G.pos fun i hi => (G.cols i hi).2.1, mo_le G.len G.pos fun i hi => (G.cols i hi).2.2⟩
theorem GOk.rr : ∀ i, i < n → (0 ≤ fxx x i ∧ fxx x i ≤ 3969) ∧ (0 ≤ fxy x i ∧ fxy x i ≤ 3969) ∧ (0 ≤ fyy x i ∧ fyy x i ≤ 3969) := by
  intro i hi
  obtain ⟨⟨q1, q2⟩, q3, q4⟩ := sdG_t G.sd
  obtain ⟨_, _, _, _, h⟩ := cols_rng (x := x) (y := y) (by omega) (by omega) G.side hi
  exact h
end
end Go.Proofs.Ytbjhbbiahmhdeaa
