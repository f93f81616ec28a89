/-
  Where a grid is believed on the whole: the reference's; the quotient that is asked for.
-/
import Derived.Test.YtbjhbbiahmhdeaaMomentN
set_option linter.unusedVariables false
set_option linter.unusedSimpArgs false
namespace Go.Proofs.Ytbjhbbiahmhdeaa
open Go Go.RowKit Go.Th Go.Th.Grid Go.Th.Moment Go.Th.Wide

set_option maxRecDepth 20000 in
set_option maxHeartbeats 3200000 in
theorem rmean_go (x y n : Nat) (X Y s : Int) (a : Option Addr) (cap : Nat) (p : List Int) (S A B s2 D mA mB NA NB u v U V : Int)
    (CS : ∀ w, Sl w 1 (.slice a n cap) n (i64s p) → Calls Try.prog 12 #[.slice a n cap] w fun e w' => e = .returned (.int .i64 S) ∧ w = w')
    (C1 : ∀ w, Sl w 1 (.slice a n cap) n (i64s p) → Calls Try.prog 13 #[gv x y X Y s (.slice a n cap), .int .i64 1, .int .i64 0] w fun e w' => e = .returned (.int .i64 A) ∧ Below w.heap.size w w')
    (C2 : ∀ w, Sl w 1 (.slice a n cap) n (i64s p) → Calls Try.prog 13 #[gv x y X Y s (.slice a n cap), .int .i64 0, .int .i64 1] w fun e w' => e = .returned (.int .i64 B) ∧ Below w.heap.size w w')
    (h0 : (S == 0) = false) (w1 : IntKind.i64.wrap (2 * s) = s2) (w2 : IntKind.i64.wrap (s2 * A) = mA) (w3 : IntKind.i64.wrap (s2 * B) = mB) (w4 : IntKind.i64.wrap (mA + S) = NA) (w5 : IntKind.i64.wrap (mB + S) = NB) (w6 : IntKind.i64.wrap (2 * S) = D)
    (hD : ¬ D = 0) (e1 : NA.tdiv D = u) (e2 : NB.tdiv D = v) (k1 : wrap64 u = u) (k2 : wrap64 v = v) (k3 : IntKind.i64.wrap u = u) (k4 : IntKind.i64.wrap v = v) (hU : IntKind.i64.wrap (X + u) = U) (hV : IntKind.i64.wrap (Y + v) = V) (w : World) (hS : Sl w 1 (.slice a n cap) n (i64s p)) :
    Calls Try.prog 10 #[gv x y X Y s (.slice a n cap)] w fun e w' => e = .returned (.tuple #[spv U V, .bool true]) ∧ Below w.heap.size w w' := by
  have HC := Lib.hid CS
  have HC1 := Lib.hid C1
  have HC2 := Lib.hid C2
  have HS := Lib.hid hS
  clear CS C1 C2 hS
  have M0 := Mem.start w
  go_enter Try.func10, Try.ntmps10
  go_wp2_with ((with_reducible refine (?_ : Go.wpList _ _ _ (_ :: _) _ _)); (first | go_skip | (refine wpL_bx M0 rfl rfl rfl rfl ?_; clear M0; intro g1 w1 M1) | (refine wpL_alc M0 rfl rfl ?_; clear M0; intro g1 w1 M1) | (refine wpL_ldc M0 rfl rfl rfl ?_) | (refine wpL_lgc M0 rfl rfl rfl ?_) | (refine wpL_stc M0 rfl rfl rfl rfl ?_; clear M0; intro w' M0) | (refine wpL_sti M0 rfl rfl rfl rfl ?_; clear M0; intro w' M0) | (refine wpL_sth M0 rfl rfl rfl rfl (wr_minus _ _ _) ?_; clear M0; intro w' M0) | (refine wpL_bx M1 rfl rfl rfl rfl ?_; clear M1; intro g2 w2 M2) | (refine wpL_alc M1 rfl rfl ?_; clear M1; intro g2 w2 M2) | (refine wpL_ldc M1 rfl rfl rfl ?_) | (refine wpL_lgc M1 rfl rfl rfl ?_) | (refine wpL_stc M1 rfl rfl rfl rfl ?_; clear M1; intro w' M1) | (refine wpL_sti M1 rfl rfl rfl rfl ?_; clear M1; intro w' M1) | (refine wpL_sth M1 rfl rfl rfl rfl (wr_minus _ _ _) ?_; clear M1; intro w' M1) | (refine wpL_ldc M2 rfl rfl rfl ?_) | (refine wpL_lgc M2 rfl rfl rfl ?_) | (refine wpL_stc M2 rfl rfl rfl rfl ?_; clear M2; intro w' M2) | (refine wpL_sti M2 rfl rfl rfl rfl ?_; clear M2; intro w' M2) | (refine wpL_sth M2 rfl rfl rfl rfl (wr_minus _ _ _) ?_; clear M2; intro w' M2)))
  refine (HC.out _ (HS.out.below M2.below)).mono ?_
  rintro e wx ⟨rfl, rfl⟩
  clear HC
  go_wp2_with ((with_reducible refine (?_ : Go.wpList _ _ _ (_ :: _) _ _)); (first | go_skip | (refine wpL_ldc M2 rfl rfl rfl ?_) | (refine wpL_lgc M2 rfl rfl rfl ?_) | (refine wpL_stc M2 rfl rfl rfl rfl ?_; clear M2; intro w' M2) | (refine wpL_sti M2 rfl rfl rfl rfl ?_; clear M2; intro w' M2) | (refine wpL_sth M2 rfl rfl rfl rfl (wr_minus _ _ _) ?_; clear M2; intro w' M2)))
  obtain ⟨c0, c1, c2, c3, c4, c5⟩ := gcells (M2.has (.tail _ _ _ _ _ (Has.head _ _ _ _)))
  obtain ⟨gA, hgA⟩ : ∃ gA, gA = g1 := ⟨_, rfl⟩
  rw [← hgA] at c0 c1 c2 c3 c4 c5 M2 ⊢
  clear hgA
  refine wp_region_held_drew (S := (fun w' : World => w'.cell? ⟨gA, 0, none⟩ = some (.int .i64 x) ∧ w'.cell? ⟨gA, 1, none⟩ = some (.int .i64 y) ∧ w'.cell? ⟨gA, 2, none⟩ = some (.int .i64 X) ∧ w'.cell? ⟨gA, 3, none⟩ = some (.int .i64 Y) ∧ w'.cell? ⟨gA, 4, none⟩ = some (.int .i64 s) ∧ w'.cell? ⟨gA, 5, none⟩ = some (.slice a n cap))) (by kernel_rfl) (⟨c0, c1, c2, c3, c4, c5⟩) (fun hHeld => ?_)
  refine tkT 0 ?v156 ?hy156 hHeld ?rest156
  case hy156 => (intro w' hSw; (try dsimp only at hSw); go_simp; (try with_reducible rfl))
  try simp only [Act.put, puts]
  refine tkT 1 ?v157 ?hy157 hHeld ?rest157
  case hy157 => (intro w' hSw; (try dsimp only at hSw); go_simp; (try with_reducible rfl))
  try simp only [Act.put, puts]
  refine tkT 2 ?v158 ?hy158 hHeld ?rest158
  case hy158 => (intro w' hSw; (try dsimp only at hSw); go_simp; (try with_reducible rfl))
  try simp only [Act.put, puts]
  refine tkT 3 ?v159 ?hy159 hHeld ?rest159
  case hy159 => (intro w' hSw; (try dsimp only at hSw); go_simp; (try with_reducible rfl))
  try simp only [Act.put, puts]
  refine tkT 6 ?v160 ?hy160 hHeld ?rest160
  case hy160 => (intro w' hSw; (try dsimp only at hSw); go_simp; (try with_reducible rfl))
  try simp only [Act.put, puts]
  refine tkT 8 ?v161 ?hy161 hHeld ?rest161
  case hy161 => (intro w' hSw; (try dsimp only at hSw); go_simp; (try with_reducible rfl))
  try simp only [Act.put, puts]
  refine tkT 9 ?v162 ?hy162 hHeld ?rest162
  case hy162 => (intro w' hSw; (try dsimp only at hSw); go_simp; (try with_reducible rfl))
  try simp only [Act.put, puts]
  refine wpAnyH_ready (rs := [4]) (by kernel_rfl) (by simp) ?_
  refine AllReadyH.cons rfl (fun K hK => ?_) AllReadyH.nil
  go_simp
  refine (HC1.out _ (HS.out.below M2.drew.below)).mono ?_
  rintro e w3 ⟨rfl, hA⟩
  have M3 := M2.drew.call hA
  try go_wp2_with fail
  refine hK.out _ _ (gcells (M3.has (.tail _ _ _ _ _ (Has.head _ _ _ _)))) (fun hHeld => ?_)
  clear hK K
  try simp only [Act.put, puts]
  refine tkT 5 ?v164 ?hy164 hHeld ?rest164
  case hy164 => (intro w' hSw; (try dsimp only at hSw); go_simp; (try with_reducible rfl))
  try simp only [Act.put, puts]
  refine tkT 7 ?v165 ?hy165 hHeld ?rest165
  case hy165 => (intro w' hSw; (try dsimp only at hSw); go_simp; (try with_reducible rfl))
  try simp only [Act.put, puts]
  refine tkT 10 ?v166 ?hy166 hHeld ?rest166
  case hy166 => (intro w' hSw; (try dsimp only at hSw); go_simp; (try with_reducible rfl))
  try simp only [Act.put, puts]
  refine tkT 11 ?v167 ?hy167 hHeld ?rest167
  case hy167 => (intro w' hSw; (try dsimp only at hSw); go_simp; (try with_reducible rfl))
  try simp only [Act.put, puts]
  refine wpAnyH_done (by kernel_rfl) ?_ _
  clear c0 c1 c2 c3 c4 c5 M2 HC1
  go_wp2_with fail
  obtain ⟨c0, c1, c2, c3, c4, c5⟩ := gcells (M3.has (.tail _ _ _ _ _ (Has.head _ _ _ _)))
  refine wp_region_held_drew (S := (fun w' : World => w'.cell? ⟨gA, 0, none⟩ = some (.int .i64 x) ∧ w'.cell? ⟨gA, 1, none⟩ = some (.int .i64 y) ∧ w'.cell? ⟨gA, 2, none⟩ = some (.int .i64 X) ∧ w'.cell? ⟨gA, 3, none⟩ = some (.int .i64 Y) ∧ w'.cell? ⟨gA, 4, none⟩ = some (.int .i64 s) ∧ w'.cell? ⟨gA, 5, none⟩ = some (.slice a n cap))) (by kernel_rfl) (⟨c0, c1, c2, c3, c4, c5⟩) (fun hHeld => ?_)
  refine tkT 0 ?v168 ?hy168 hHeld ?rest168
  case hy168 => (intro w' hSw; (try dsimp only at hSw); go_simp; (try with_reducible rfl))
  try simp only [Act.put, puts]
  refine tkT 1 ?v169 ?hy169 hHeld ?rest169
  case hy169 => (intro w' hSw; (try dsimp only at hSw); go_simp; (try with_reducible rfl))
  try simp only [Act.put, puts]
  refine tkT 2 ?v170 ?hy170 hHeld ?rest170
  case hy170 => (intro w' hSw; (try dsimp only at hSw); go_simp; (try with_reducible rfl))
  try simp only [Act.put, puts]
  refine tkT 3 ?v171 ?hy171 hHeld ?rest171
  case hy171 => (intro w' hSw; (try dsimp only at hSw); go_simp; (try with_reducible rfl))
  try simp only [Act.put, puts]
  refine tkT 6 ?v172 ?hy172 hHeld ?rest172
  case hy172 => (intro w' hSw; (try dsimp only at hSw); go_simp; (try with_reducible rfl))
  try simp only [Act.put, puts]
  refine tkT 8 ?v173 ?hy173 hHeld ?rest173
  case hy173 => (intro w' hSw; (try dsimp only at hSw); go_simp; (try with_reducible rfl))
  try simp only [Act.put, puts]
  refine tkT 9 ?v174 ?hy174 hHeld ?rest174
  case hy174 => (intro w' hSw; (try dsimp only at hSw); go_simp; (try with_reducible rfl))
  try simp only [Act.put, puts]
  refine wpAnyH_ready (rs := [4]) (by kernel_rfl) (by simp) ?_
  refine AllReadyH.cons rfl (fun K hK => ?_) AllReadyH.nil
  go_simp
  refine (HC2.out _ (HS.out.below M3.drew.below)).mono ?_
  rintro e w4 ⟨rfl, hA⟩
  have M4 := M3.drew.call hA
  try go_wp2_with fail
  refine hK.out _ _ (gcells (M4.has (.tail _ _ _ _ _ (Has.head _ _ _ _)))) (fun hHeld => ?_)
  clear hK K
  try simp only [Act.put, puts]
  refine tkT 5 ?v176 ?hy176 hHeld ?rest176
  case hy176 => (intro w' hSw; (try dsimp only at hSw); go_simp; (try with_reducible rfl))
  try simp only [Act.put, puts]
  refine tkT 7 ?v177 ?hy177 hHeld ?rest177
  case hy177 => (intro w' hSw; (try dsimp only at hSw); go_simp; (try with_reducible rfl))
  try simp only [Act.put, puts]
  refine tkT 10 ?v178 ?hy178 hHeld ?rest178
  case hy178 => (intro w' hSw; (try dsimp only at hSw); go_simp; (try with_reducible rfl))
  try simp only [Act.put, puts]
  refine tkT 11 ?v179 ?hy179 hHeld ?rest179
  case hy179 => (intro w' hSw; (try dsimp only at hSw); go_simp; (try with_reducible rfl))
  try simp only [Act.put, puts]
  refine wpAnyH_done (by kernel_rfl) ?_ _
  clear c0 c1 c2 c3 c4 c5 M3 HC2
  go_wp2_with ((with_reducible refine (?_ : Go.wpList _ _ _ (_ :: _) _ _)); (first | go_skip | (refine wpL_ldc M4 rfl rfl rfl ?_) | (refine wpL_lgc M4 rfl rfl rfl ?_) | (refine wpL_stc M4 rfl rfl rfl rfl ?_; clear M4; intro w' M4) | (refine wpL_sti M4 rfl rfl rfl rfl ?_; clear M4; intro w' M4) | (refine wpL_sth M4 rfl rfl rfl rfl (wr_minus _ _ _) ?_; clear M4; intro w' M4)))
  ((try simp only [Exit.inBlock, Exit.then]); refine bodyPost_ret (res_cell_tmp rfl M4 rfl (Has.head _ _ _ _) (rd_sp _ _) rfl) rfl ?_)
  exact ⟨rfl, M4.below⟩

section
variable {x y n : Nat} {p : List Int} (G : GOk x y n p) (hs : 0 < sm p ∧ sm p ≤ 1073741824)
include G hs
theorem GOk.fits : ∀ i, -9223372036854775808 ≤ sm (p.take i) ∧ sm (p.take i) ≤ 9223372036854775807 := sm_fits (fun u hu => (G.rng u hu).1) (by omega)
theorem refSum_G (a : Option Addr) (cap : Nat) (w : World) (hS : Sl w 1 (.slice a n cap) n (i64s p)) : Calls Try.prog 12 #[.slice a n cap] w fun e w' => e = .returned (.int .i64 (sm p)) ∧ w = w' :=
  refSumG_any a n cap p G.len (G.fits hs) w hS
theorem refMean_any (s : Nat) (X Y : Int) (a : Option Addr) (cap : Nat) (h16 : s ≤ 4096) (hX : -1000000000000 ≤ X ∧ X ≤ 1000000000000) (hY : -1000000000000 ≤ Y ∧ Y ≤ 1000000000000) (w : World) (hS : Sl w 1 (.slice a n cap) n (i64s p)) :
    Calls Try.prog 10 #[gv x y X Y s (.slice a n cap)] w fun e w' => e = .returned (.tuple #[spv (X + nr ((s : Int) * mo (fx x) (en p n)) (sm p)) (Y + nr ((s : Int) * mo (fy x) (en p n)) (sm p)), .bool true]) ∧ Below w.heap.size w w' := by
  obtain ⟨⟨q1, q2⟩, q3, q4⟩ := sdG_t G.sd
  have C1 := fun w hS => refSums_any x y n X Y s a cap p G 1 0 (by omega) w hS
  have C2 := fun w hS => refSums_any x y n X Y s a cap p G 0 1 (by omega) w hS
  rw [fp_10] at C1
  rw [fp_01] at C2
  have ha := G.mx
  have hb := G.my
  have r1 := nr_rng (s := (s : Int)) hs.1 (by omega) ha
  have r2 := nr_rng (s := (s : Int)) hs.1 (by omega) hb
  have k1 : ((x : Int) - 1) * (s : Int) ≤ 63 * 4096 := Int.mul_le_mul (by omega) (by omega) (by omega) (by omega)
  have k2 : ((y : Int) - 1) * (s : Int) ≤ 63 * 4096 := Int.mul_le_mul (by omega) (by omega) (by omega) (by omega)
  have k3 : ((x : Int) - 1) * sm p ≤ 63 * 1073741824 := Int.mul_le_mul (by omega) (by omega) (by omega) (by omega)
  have k4 : ((y : Int) - 1) * sm p ≤ 63 * 1073741824 := Int.mul_le_mul (by omega) (by omega) (by omega) (by omega)
  have m1 : 0 ≤ (s : Int) * mo (fx x) (en p n) ∧ (s : Int) * mo (fx x) (en p n) ≤ 4096 * 67645734912 := prod_rng (by omega) (by omega)
  have m2 : 0 ≤ (s : Int) * mo (fy x) (en p n) ∧ (s : Int) * mo (fy x) (en p n) ≤ 4096 * 67645734912 := prod_rng (by omega) (by omega)
  obtain ⟨A, hA⟩ : ∃ A, A = mo (fx x) (en p n) := ⟨_, rfl⟩
  obtain ⟨B, hB⟩ : ∃ B, B = mo (fy x) (en p n) := ⟨_, rfl⟩
  obtain ⟨S, hSS⟩ : ∃ S, S = sm p := ⟨_, rfl⟩
  have CS := fun w hS => refSum_G G hs a cap w hS
  rw [← hA, ← hSS] at r1
  rw [← hB, ← hSS] at r2
  rw [← hA] at m1 C1
  rw [← hB] at m2 C2
  rw [← hSS] at CS hs
  rw [← hA, ← hB, ← hSS]
  have g1 : 2 * (s : Int) * A = 2 * ((s : Int) * A) := Int.mul_assoc _ _ _
  have g2 : 2 * (s : Int) * B = 2 * ((s : Int) * B) := Int.mul_assoc _ _ _
  have e1 : (2 * (s : Int) * A + S).tdiv (2 * S) = nr ((s : Int) * A) S := by rw [g1, Int.tdiv_eq_ediv_of_nonneg (by omega)]; rfl
  have e2 : (2 * (s : Int) * B + S).tdiv (2 * S) = nr ((s : Int) * B) S := by rw [g2, Int.tdiv_eq_ediv_of_nonneg (by omega)]; rfl
  exact rmean_go x y n X Y s a cap p S A B (2 * (s : Int)) (2 * S) (2 * (s : Int) * A) (2 * (s : Int) * B) (2 * (s : Int) * A + S) (2 * (s : Int) * B + S) _ _ _ _ CS C1 C2 (by rw [beq_eq_false_iff_ne]; omega) (IntWalk.i64_in _ (by omega)) (IntWalk.i64_in _ (by omega)) (IntWalk.i64_in _ (by omega)) (IntWalk.i64_in _ (by omega)) (IntWalk.i64_in _ (by omega)) (IntWalk.i64_in _ (by omega)) (by omega) e1 e2
    (IntWalk.wrap64_in _ (by omega)) (IntWalk.wrap64_in _ (by omega)) (IntWalk.i64_in _ (by omega)) (IntWalk.i64_in _ (by omega)) (IntWalk.i64_in _ (by omega)) (IntWalk.i64_in _ (by omega)) w hS
end

theorem cmp_le {a b : Int} (h : a ≤ b) : cmpS a b ≤ 0 := by unfold cmpS; split <;> first | decide | (split <;> first | decide | omega)
theorem cmp_lt {a b : Int} (h : a < b) : cmpS a b < 0 := by unfold cmpS; rw [if_pos h]; decide
theorem is_any (n p a b : Int) (hn : 1 ≤ n ∧ n ≤ 1073741824) (hp : 0 ≤ p ∧ p ≤ 4398046511104) (ha : 0 ≤ a ∧ a ≤ 68719476736) (hb : 0 ≤ b ∧ b ≤ 68719476736) (hv : -9223372036854775808 ≤ vr n p a b ∧ vr n p a b ≤ 9223372036854775807) :
    Ans 14 #[.int .i64 (vr n p a b), .int .i64 n, .int .i64 p, .int .i64 a, .int .i64 b] (.bool true) := by
  have hq : 0 < n * n ∧ n * n ≤ 1073741824 * 1073741824 := ⟨Int.mul_pos (by omega) (by omega), Int.mul_le_mul hn.2 hn.2 (by omega) (by omega)⟩
  have e1 : 0 ≤ n * p ∧ n * p ≤ 1073741824 * 4398046511104 := prod_rng (by omega) hp
  have e2 : 0 ≤ a * b ∧ a * b ≤ 68719476736 * 68719476736 := prod_rng ha hb
  have hz1 : n * n * vr n p a b ≤ 65536 * (n * p - a * b) := by
    have := Int.mul_ediv_self_le (x := 65536 * n * p + -(65536 * a * b)) (k := n * n) (by omega)
    unfold vr
    rw [Int.mul_assoc 65536 n p, Int.mul_assoc 65536 a b] at this ⊢
    omega
  have hz2 : 65536 * (n * p - a * b) < n * n * vr n p a b + n * n := by
    have := Int.lt_mul_ediv_self_add (x := 65536 * n * p + -(65536 * a * b)) (k := n * n) hq.1
    unfold vr
    rw [Int.mul_assoc 65536 n p, Int.mul_assoc 65536 a b] at this ⊢
    omega
  obtain ⟨v, hvv⟩ : ∃ v, v = vr n p a b := ⟨_, rfl⟩
  rw [← hvv] at hv hz1 hz2 ⊢
  obtain ⟨mA, nA, C1, s1⟩ := mul_s a b (by omega) (by omega)
  obtain ⟨mP, nP, C2, s2⟩ := mul_s n p (by omega) (by omega)
  have b1 := signed_abs s1
  have b2 := signed_abs s2
  obtain ⟨m0, n0, f0, C3, s3⟩ := add_s mP (!mA) nP nA (by omega) (by omega)
  rw [signed_not, s1, s2] at s3
  obtain ⟨q, hqq⟩ : ∃ q, q = n * n := ⟨_, rfl⟩
  rw [← hqq] at hq hz1 hz2
  obtain ⟨mL, nL, C5, s5⟩ := mul_s q v (by omega) hv
  obtain ⟨mO, nO, C6, s6⟩ := of_s q (by omega)
  have b5 := signed_abs s5
  have b6 := signed_abs s6
  obtain ⟨z, hz⟩ : ∃ z, z = q * v := ⟨_, rfl⟩
  rw [← hz] at s5 b5 hz1 hz2
  have hzr : -1267650600228229401496703205376 ≤ z ∧ z ≤ 1267650600228229401496703205376 := by omega
  obtain ⟨mH, nH, fH, C7, s7⟩ := add_s mL mO nL nO (by omega) (by omega)
  rw [s5, s6] at s7
  have b7 := signed_abs s7
  refine is_go v n p a b q (n * p + -(a * b)) mA mP m0 mL mO mH nA nP n0 nL nO nH f0 fH (cmpS z (65536 * (n * p + -(a * b)))) (cmpS (65536 * (n * p + -(a * b))) (z + q)) C1 C2 C3 s3 (by omega) (by rw [hqq]; exact IntWalk.i64_in _ (by rw [← hqq]; omega)) C5 C6 C7 ?_ (cmp_le (by omega)) (cmp_lt (by omega))
  intro m k hk
  have bk := signed_abs hk
  have D1 := fun w => refCmp_any mL m nL k (by omega) (by omega) w
  have D2 := fun w => refCmp_any m mH k nH (by omega) (by omega) w
  rw [s5, hk] at D1
  rw [s7, hk] at D2
  exact ⟨D1, D2⟩
end Go.Proofs.Ytbjhbbiahmhdeaa
