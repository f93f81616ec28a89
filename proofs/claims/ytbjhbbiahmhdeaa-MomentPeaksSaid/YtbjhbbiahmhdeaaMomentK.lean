/-
  Mean, spread and evenness of any right grid of which anything is believed: the code's.
-/
import Derived.Test.YtbjhbbiahmhdeaaMomentJ
set_option linter.unusedVariables false
set_option linter.unusedSimpArgs false
namespace Go.Proofs.Ytbjhbbiahmhdeaa
open Go Go.RowKit Go.Shelf Go.Th Go.Th.Grid Go.Th.Moment Go.Th.Wide

/-- A quotient, to the nearer one. -/
def nr (A S : Int) : Int := (2 * A + S) / (2 * S)
theorem nr_rng {s A S K : Int} (hS : 0 < S) (hs : 0 ≤ s) (hA : 0 ≤ A ∧ A ≤ K * S) : 0 ≤ nr (s * A) S ∧ nr (s * A) S ≤ K * s := by
  unfold nr
  have h1 : 0 ≤ s * A := Int.mul_nonneg hs hA.1
  have h2 : s * A ≤ s * (K * S) := Int.mul_le_mul_of_nonneg_left hA.2 hs
  refine ⟨Int.ediv_nonneg (by omega) (by omega), ?_⟩
  have h3 : s * (K * S) = (K * s) * S := by ac_rfl
  have h4 : (2 * (s * A) + S) / (2 * S) < K * s + 1 := by
    refine Int.ediv_lt_of_lt_mul (by omega) ?_
    have h5 : (K * s + 1) * (2 * S) = 2 * ((K * s) * S) + 2 * S := by
      rw [Int.add_mul, Int.one_mul]
      have : K * s * (2 * S) = 2 * (K * s * S) := by ac_rfl
      rw [this]
    omega
  omega

/-- The variance that is reckoned. -/
theorem vr_pos {s p a : Int} (hs : 0 < s) (h : a * a ≤ s * p) : 0 ≤ vr s p a a := by
  unfold vr
  refine Int.ediv_nonneg ?_ (Int.le_of_lt (Int.mul_pos hs hs))
  rw [Int.mul_assoc, Int.mul_assoc]
  omega
/-- Between so many times the square. -/
theorem vr_rng {s p a b : Int} (hs : 0 < s ∧ s ≤ 1073741824) (hp : 0 ≤ p ∧ p ≤ 3969 * s) (ha : 0 ≤ a ∧ a ≤ 63 * s) (hb : 0 ≤ b ∧ b ≤ 63 * s) : -9223372036854775808 ≤ vr s p a b ∧ vr s p a b ≤ 9223372036854775807 := by
  unfold vr
  have hq : 0 < s * s := Int.mul_pos hs.1 hs.1
  have e1 : 0 ≤ 65536 * s * p ∧ 65536 * s * p ≤ 65536 * s * (3969 * s) := ⟨Int.mul_nonneg (by omega) hp.1, Int.mul_le_mul_of_nonneg_left hp.2 (by omega)⟩
  have e2 : 0 ≤ 65536 * a * b ∧ 65536 * a * b ≤ 65536 * (63 * s) * (63 * s) := ⟨Int.mul_nonneg (by omega) hb.1, Int.mul_le_mul (by omega) hb.2 hb.1 (by omega)⟩
  have e3 : 65536 * s * (3969 * s) = 260112384 * (s * s) := by
    rw [show 65536 * s * (3969 * s) = (65536 * 3969) * (s * s) by ac_rfl]
    omega
  have e4 : 65536 * (63 * s) * (63 * s) = 260112384 * (s * s) := by
    rw [show 65536 * (63 * s) * (63 * s) = (65536 * 63 * 63) * (s * s) by ac_rfl]
    omega
  rw [e3] at e1
  rw [e4] at e2
  have h1 : -260112384 ≤ (65536 * s * p + -(65536 * a * b)) / (s * s) := Int.le_ediv_of_mul_le hq (by omega)
  have h2 : (65536 * s * p + -(65536 * a * b)) / (s * s) < 260112385 := Int.ediv_lt_of_lt_mul hq (by omega)
  omega

section
variable {x y n : Nat} {p : List Int} (G : GOk x y n p) (hs : 0 < sm p ∧ sm p ≤ 1073741824)
include G hs

theorem Mean_any (s : Nat) (X Y : Int) (a : Option Addr) (cap : Nat) (h16 : s ≤ 4096) (hX : -1000000000000 ≤ X ∧ X ≤ 1000000000000) (hY : -1000000000000 ≤ Y ∧ Y ≤ 1000000000000) (w : World) (hS : Sl w 1 (.slice a n cap) n (i64s p)) :
    Calls Try.prog 9 #[gv x y X Y s (.slice a n cap)] w fun e w' => e = .returned (.tuple #[spv (X + nr ((s : Int) * mo (fx x) (en p n)) (sm p)) (Y + nr ((s : Int) * mo (fy x) (en p n)) (sm p)), .bool true]) ∧ Below w.heap.size w w' := by
  obtain ⟨⟨q1, q2⟩, q3, q4⟩ := sdG_t G.sd
  have CS : SumsAt x y n X Y s a cap p (sumV x (en p n)) := fun w hS => summed_any x y n X Y s a cap p G.len G.rng G.sd G.side w hS
  have e1 := mo_f1 (p := p) G.len
  have ha := G.mx
  have hb := G.my
  have r1 := nr_rng (s := (s : Int)) hs.1 (by omega) ha
  have r2 := nr_rng (s := (s : Int)) hs.1 (by omega) hb
  have k1 : ((x : Int) - 1) * (s : Int) ≤ 63 * 4096 := Int.mul_le_mul (by omega) (by omega) (by omega) (by omega)
  have k2 : ((y : Int) - 1) * (s : Int) ≤ 63 * 4096 := Int.mul_le_mul (by omega) (by omega) (by omega) (by omega)
  have k3 : ((x : Int) - 1) * sm p ≤ 63 * 1073741824 := Int.mul_le_mul (by omega) (by omega) (by omega) (by omega)
  have k4 : ((y : Int) - 1) * sm p ≤ 63 * 1073741824 := Int.mul_le_mul (by omega) (by omega) (by omega) (by omega)
  have m1 : 0 ≤ (s : Int) * mo (fx x) (en p n) ∧ (s : Int) * mo (fx x) (en p n) ≤ 4096 * 67645734912 := prod_rng (by omega) (by omega)
  have m2 : 0 ≤ (s : Int) * mo (fy x) (en p n) ∧ (s : Int) * mo (fy x) (en p n) ≤ 4096 * 67645734912 := prod_rng (by omega) (by omega)
  have C1 := fun w => MulDiv_any (s : Int) (mo (fx x) (en p n)) (sm p) 2 (by omega) (by omega) (by omega) (by omega) w
  have C2 := fun w => MulDiv_any (s : Int) (mo (fy x) (en p n)) (sm p) 2 (by omega) (by omega) (by omega) (by omega) w
  have d1 := (divV_near ((s : Int) * mo (fx x) (en p n)) (sm p) hs.1 (by have := r1; unfold nr at this; omega)).1
  have d2 := (divV_near ((s : Int) * mo (fy x) (en p n)) (sm p) hs.1 (by have := r2; unfold nr at this; omega)).1
  rw [d1] at C1
  rw [d2] at C2
  unfold sumV sumC at CS
  rw [e1] at CS
  exact mean_go x y n X Y s a cap p (sm p) _ _ _ _ _ _ _ _ _ _ _ CS (by rw [beq_eq_false_iff_ne]; omega) C1 C2 rfl rfl (IntWalk.i64_in _ (by show _ ≤ X + nr _ _ ∧ X + nr _ _ ≤ _; omega)) (IntWalk.i64_in _ (by show _ ≤ Y + nr _ _ ∧ Y + nr _ _ ≤ _; omega)) w hS

theorem Vary_any (X Y s : Int) (a : Option Addr) (cap : Nat) (w : World) (hS : Sl w 1 (.slice a n cap) n (i64s p)) :
    Calls Try.prog 11 #[gv x y X Y s (.slice a n cap)] w fun e w' => e = .returned (.tuple #[srv (vr (sm p) (mo (fxx x) (en p n)) (mo (fx x) (en p n)) (mo (fx x) (en p n))) (vr (sm p) (mo (fxy x) (en p n)) (mo (fx x) (en p n)) (mo (fy x) (en p n))) (vr (sm p) (mo (fyy x) (en p n)) (mo (fy x) (en p n)) (mo (fy x) (en p n))), .bool true]) ∧ Below w.heap.size w w' := by
  obtain ⟨⟨q1, q2⟩, q3, q4⟩ := sdG_t G.sd
  have CS : SumsAt x y n X Y s a cap p (sumV x (en p n)) := fun w hS => summed_any x y n X Y s a cap p G.len G.rng G.sd G.side w hS
  have e1 := mo_f1 (p := p) G.len
  have ha := G.mx
  have hb := G.my
  have k3 : ((x : Int) - 1) * sm p ≤ 63 * sm p := Int.mul_le_mul_of_nonneg_right (by omega) (by omega)
  have k4 : ((y : Int) - 1) * sm p ≤ 63 * sm p := Int.mul_le_mul_of_nonneg_right (by omega) (by omega)
  have hxx : 0 ≤ mo (fxx x) (en p n) ∧ mo (fxx x) (en p n) ≤ 3969 * sm p := ⟨mo_pos G.pos fun i hi => (G.rr i hi).1.1, mo_le G.len G.pos fun i hi => (G.rr i hi).1.2⟩
  have hxy : 0 ≤ mo (fxy x) (en p n) ∧ mo (fxy x) (en p n) ≤ 3969 * sm p := ⟨mo_pos G.pos fun i hi => (G.rr i hi).2.1.1, mo_le G.len G.pos fun i hi => (G.rr i hi).2.1.2⟩
  have hyy : 0 ≤ mo (fyy x) (en p n) ∧ mo (fyy x) (en p n) ≤ 3969 * sm p := ⟨mo_pos G.pos fun i hi => (G.rr i hi).2.2.1, mo_le G.len G.pos fun i hi => (G.rr i hi).2.2.2⟩
  unfold sumV sumC at CS
  rw [e1] at CS
  have V1 := varied_any (sm p) (mo (fxx x) (en p n)) (mo (fx x) (en p n)) (mo (fx x) (en p n)) (by omega) (by omega) (by omega) (by omega) (vr_rng hs hxx (by omega) (by omega))
  have V2 := varied_any (sm p) (mo (fxy x) (en p n)) (mo (fx x) (en p n)) (mo (fy x) (en p n)) (by omega) (by omega) (by omega) (by omega) (vr_rng hs hxy (by omega) (by omega))
  have V3 := varied_any (sm p) (mo (fyy x) (en p n)) (mo (fy x) (en p n)) (mo (fy x) (en p n)) (by omega) (by omega) (by omega) (by omega) (vr_rng hs hyy (by omega) (by omega))
  exact vary_go x y n X Y s a cap p (sm p) _ _ _ _ _ _ _ _ CS (by rw [beq_eq_false_iff_ne]; omega) V1 V2 V3 w hS

/-- The squares together, and all, squared. -/
theorem squares_rng : 0 < sqs (en p n) ∧ sqs (en p n) ≤ sm p * sm p ∧ sm p * sm p ≤ (n : Int) * sqs (en p n) ∧ sm p * sm p ≤ 1152921504606846976 := by
  have e1 : sm p = su (fun i => p.getD i 0) n := by rw [sm_su, G.len]
  have h1 := (sq_le (p := fun i => p.getD i 0) n G.pos).2
  have h2 := all_le (p := fun i => p.getD i 0) n
  rw [← e1, ← sqs_en] at h1 h2
  have h3 : 0 < sm p * sm p := Int.mul_pos hs.1 hs.1
  have h4 : sm p * sm p ≤ 1073741824 * 1073741824 := Int.mul_le_mul hs.2 hs.2 (by omega) (by omega)
  refine ⟨?_, h1, h2, by omega⟩
  rcases Int.lt_or_le 0 (sqs (en p n)) with h | h
  · exact h
  · have : (n : Int) * sqs (en p n) ≤ 0 := Int.mul_nonpos_of_nonneg_of_nonpos (Int.natCast_nonneg _) h
    omega
theorem Even_any (X Y s : Int) (a : Option Addr) (cap : Nat) (w : World) (hS : Sl w 1 (.slice a n cap) n (i64s p)) :
    Calls Try.prog 23 #[gv x y X Y s (.slice a n cap)] w fun e w' => e = .returned (.int .i64 (sm p * sm p / sqs (en p n))) ∧ Below w.heap.size w w' := by
  obtain ⟨h1, h2, h3, h4⟩ := squares_rng G hs
  have e1 := mo_f1 (p := p) G.len
  have e2 : IntKind.i64.wrap (sqs (en p n)) = sqs (en p n) := IntWalk.i64_in _ (by omega)
  have C := fun w => MulDiv_any (sm p) (sm p) (sqs (en p n)) 0 (by omega) (by omega) (by omega) (by omega) w
  have h5 : 0 ≤ sm p * sm p / sqs (en p n) := Int.ediv_nonneg (by omega) (by omega)
  have h6 : sm p * sm p / sqs (en p n) ≤ sm p * sm p := Int.ediv_le_self _ (by omega)
  rw [divV_down _ _ h1 (by omega)] at C
  refine even_go x y n X Y s a cap p G _ (divE (sm p * sm p) (sqs (en p n)) 0) ?_ w hS
  rw [e1, e2]
  exact C
end
end Go.Proofs.Ytbjhbbiahmhdeaa
