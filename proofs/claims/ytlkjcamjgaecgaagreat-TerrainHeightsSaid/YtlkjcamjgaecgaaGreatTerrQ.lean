/-
  How rough the ground is around a cell: the code's.
-/
import Derived.Test.YtlkjcamjgaecgaaGreatTerrR
import Derived.Test.YtlkjcamjgaecgaaGreatPackRoot
set_option linter.unusedVariables false
set_option linter.unusedSimpArgs false
namespace Go.Proofs.YtlkjcamjgaecgaaGreat
open Go Go.RowKit Go.Th Go.Th.Crc

set_option maxRecDepth 20000 in
set_option maxHeartbeats 3200000 in
theorem trough_go (w : World) (base g : Nat) (F : List Int) (W H cell : Nat) (ox oy : Int) (room k fr M : Nat) (x y far N S Q p1 p2 p3 p4 p5 mid R : Int) (J : CN w base g F W H cell ox oy room k) (hM : min (max far 0) 8 = (fr : Int))
    (a1 : wrap64 (N * Q) = p1) (a2 : wrap64 (S * S) = p2) (a3 : wrap64 (p1 - p2) = p3) (a4 : wrap64 (256 * p3) = p4) (a5 : wrap64 (N * N) = p5) (a6 : wrap64 (p4.tdiv p5) = mid) (a7 : IntKind.u64.wrap mid = (M : Int)) (a8 : IntKind.i64.wrap R = R) (h5 : ¬ N = 0 → ¬ p5 = 0)
    (CF : Ans 37 #[.int .u64 M] (.int .u64 R))
    (CE : ∀ (wx : World) (g1 g2 g3 : Nat), RgI w wx base g F W H cell ox oy room k g1 g2 g3 0 0 0 → Calls Tryz.prog 35 #[.pointer (some ⟨g, 0, none⟩), .int .i64 x, .int .i64 y, .int .i64 fr, tellV g1 g2 g3] wx fun e w' => e = .returned (.tuple #[]) ∧ RgI w w' base g F W H cell ox oy room (k + 289) g1 g2 g3 N S Q) :
    Calls Tryz.prog 20 #[.pointer (some ⟨g, 0, none⟩), .int .i64 x, .int .i64 y, .int .i64 far] w fun e w' => e = .returned (.tuple #[.int .i64 (if N = 0 then 0 else R), .int .i64 N]) ∧ CN w' base g F W H cell ox oy room (k + 289) ∧ Turned (fun b => b = g) w w' := by
  have hmf : ∀ (fn : Fn) (first cap : Array Value) (w : World), (Instr.makeFunc fn first cap).run Tryz.prog w = .ok (.func fn first cap) w := fun _ _ _ _ => rfl
  obtain ⟨w1, hw1⟩ : ∃ w1, ((w.alloc (.cells #[.int .i64 0] 2)).alloc (.cells #[.int .i64 0] 2)).alloc (.cells #[.int .i64 0] 2) = w1 := ⟨_, rfl⟩
  have hB1 : Below w.heap.size w w1 := by rw [← hw1]; exact (((Below.refl _ _).alloc (Nat.le_refl _) _).alloc (by simp) _).alloc (by simp; omega) _
  have K1 : Blk w1 w.heap.size 2 [.int .i64 0] := by rw [← hw1]; exact ((Blk.new w _ _).alloc _).alloc _
  have K2 : Blk w1 (w.heap.size + 1) 2 [.int .i64 0] := by
    rw [← hw1]
    have := (Blk.new (w.alloc (.cells #[.int .i64 0] 2)) 2 [.int .i64 0]).alloc (.cells #[.int .i64 0] 2)
    rw [World.size_alloc] at this
    exact this
  have K3 : Blk w1 (w.heap.size + 2) 2 [.int .i64 0] := by
    rw [← hw1]
    have := Blk.new ((w.alloc (.cells #[.int .i64 0] 2)).alloc (.cells #[.int .i64 0] 2)) 2 [.int .i64 0]
    rw [World.size_alloc, World.size_alloc] at this
    exact this
  have D := Lib.hid (CE w1 w.heap.size (w.heap.size + 1) (w.heap.size + 2) ⟨J.below hB1, K1, K2, K3, by omega, Turned.below hB1⟩)
  have HW1 := Lib.hid hw1
  have CF' := Lib.hid CF
  clear hw1 hB1 K1 K2 K3 J CE CF
  go_enter Tryz.func20, Tryz.ntmps20
  go_upto_region 2 with fail
  rw [HW1.out]
  clear HW1
  go_wp2_with fail
  refine D.out.mono ?_
  rintro e w2 ⟨rfl, R2⟩
  have HR2 := Lib.hid R2
  have c1 := R2.k1.cell (i := 0) rfl
  have c2 := R2.k2.cell (i := 0) rfl
  have c3 := R2.k3.cell (i := 0) rfl
  have hg1 := R2.k1.lt
  clear D R2
  by_cases hN : N = 0
  · subst hN
    clear a1 a2 a3 a4 a5 a6 a7 a8 h5 CF' hM
    go_wp2_with fail
    go_ret2
    exact ⟨rfl, HR2.out.J, HR2.out.T⟩
  · have h5' := h5 hN
    have HN := Lib.hid hN
    clear h5 hM
    go_wp2_with fail
    refine wp_region_held_drew (S := (fun w' : World => w'.cell? ⟨w.heap.size, 0, none⟩ = some (.int .i64 N))) (by kernel_rfl) (c1) (fun hHeld => ?_)
    refine wpAnyH_take (i := 0) (v := ?v1) rfl (by kernel_rfl) (by kernel_rfl) (by kernel_rfl) (fun _ _ _ h => h) (Or.inl ⟨by rfl, ?hy1⟩) hHeld ?rest1
    case hy1 => (intro w' hSw; (try dsimp only at hSw); go_simp; (try with_reducible rfl))
    try simp only [Act.put, List.setIfInBounds_toArray, List.set_cons_zero, List.set_cons_succ, List.getElem_toArray, List.getElem_cons_zero, List.getElem_cons_succ]
    refine wpAnyH_take (i := 1) (v := ?v2) rfl (by kernel_rfl) (by kernel_rfl) (by kernel_rfl) (fun _ _ _ h => h) (Or.inl ⟨by rfl, ?hy2⟩) hHeld ?rest2
    case hy2 => (intro w' hSw; (try dsimp only at hSw); go_simp; (try with_reducible rfl))
    try simp only [Act.put, List.setIfInBounds_toArray, List.set_cons_zero, List.set_cons_succ, List.getElem_toArray, List.getElem_cons_zero, List.getElem_cons_succ]
    refine wpAnyH_take (i := 4) (v := ?v3) rfl (by kernel_rfl) (by kernel_rfl) (by kernel_rfl) (fun _ _ _ h => h) (Or.inl ⟨by rfl, ?hy3⟩) hHeld ?rest3
    case hy3 => (intro w' hSw; (try dsimp only at hSw); go_simp; (try with_reducible rfl))
    try simp only [Act.put, List.setIfInBounds_toArray, List.set_cons_zero, List.set_cons_succ, List.getElem_toArray, List.getElem_cons_zero, List.getElem_cons_succ]
    refine wpAnyH_ready (rs := [2]) (by kernel_rfl) (by simp) ?_
    refine AllReadyH.cons rfl (fun K hK => ?_) AllReadyH.nil
    go_simp
    refine (CF'.out _).mono ?_
    rintro e w3 ⟨rfl, hA⟩
    clear CF'
    try go_wp2_with fail
    refine hK.out _ _ ((hA.cell (p := ⟨w.heap.size, 0, none⟩) hg1).trans c1) (fun hHeld => ?_)
    clear hK K
    try simp only [Act.put, List.setIfInBounds_toArray, List.set_cons_zero, List.set_cons_succ, List.getElem_toArray, List.getElem_cons_zero, List.getElem_cons_succ]
    refine wpAnyH_take (i := 3) (v := ?v5) rfl (by kernel_rfl) (by kernel_rfl) (by kernel_rfl) (fun _ _ _ h => h) (Or.inl ⟨by rfl, ?hy5⟩) hHeld ?rest5
    case hy5 => (intro w' hSw; (try dsimp only at hSw); go_simp; (try with_reducible rfl))
    try simp only [Act.put, List.setIfInBounds_toArray, List.set_cons_zero, List.set_cons_succ, List.getElem_toArray, List.getElem_cons_zero, List.getElem_cons_succ]
    refine wpAnyH_take (i := 5) (v := ?v6) rfl (by kernel_rfl) (by kernel_rfl) (by kernel_rfl) (fun _ _ _ h => h) (Or.inl ⟨by rfl, ?hy6⟩) hHeld ?rest6
    case hy6 => (intro w' hSw; (try dsimp only at hSw); go_simp; (try with_reducible rfl))
    try simp only [Act.put, List.setIfInBounds_toArray, List.set_cons_zero, List.set_cons_succ, List.getElem_toArray, List.getElem_cons_zero, List.getElem_cons_succ]
    refine wpAnyH_take (i := 6) (v := ?v7) rfl (by kernel_rfl) (by kernel_rfl) (by kernel_rfl) (fun _ _ _ h => h) (Or.inl ⟨by rfl, ?hy7⟩) hHeld ?rest7
    case hy7 => (intro w' hSw; (try dsimp only at hSw); go_simp; (try with_reducible rfl))
    try simp only [Act.put, List.setIfInBounds_toArray, List.set_cons_zero, List.set_cons_succ, List.getElem_toArray, List.getElem_cons_zero, List.getElem_cons_succ]
    refine wpAnyH_done (by kernel_rfl) ?_ _
    go_wp2_with fail
    go_ret2
    exact ⟨by first | rw [if_neg HN.out] | rfl, HR2.out.J.drew.below hA, HR2.out.T.drew.trans (Turned.below (S := fun b => b = g) hA) (fun _ _ h => h)⟩

/-- How many to each side: no less than none, no more than eight. -/
def farT (far : Int) : Nat := (min (max far 0) 8).toNat
theorem farT_eq (far : Int) : min (max far 0) 8 = (farT far : Int) := by unfold farT; omega
theorem farT_le (far : Int) : farT far ≤ 8 := by unfold farT; omega
/-- What is told of a square. -/
def rgh (F : List Int) (W H : Nat) (x y far : Int) : Int × Int :=
  if (-1000 ≤ x ∧ x ≤ 1000) ∧ -1000 ≤ y ∧ y ≤ 1000 then
    rough (rect (wN F W H) (x - farT far) (y - farT far) (2 * farT far + 1) (2 * farT far + 1)) (rect (wS F W H) (x - farT far) (y - farT far) (2 * farT far + 1) (2 * farT far + 1)) (rect (wQ F W H) (x - farT far) (y - farT far) (2 * farT far + 1) (2 * farT far + 1))
  else (0, 0)
theorem rt_int (M : Nat) (h : M < 18446744073709551616) : IntKind.i64.wrap ((Go.Th.Root.rt 2 M : Nat) : Int) = ((Go.Th.Root.rt 2 M : Nat) : Int) := by
  have := rt_32 M h
  exact IntWalk.i64_in _ (by omega)
/-- What the sums make, in numbers of 64 bits. -/
structure Sums (N S Q p1 p2 p3 p4 p5 mid : Int) (M : Nat) : Prop where
  a1 : wrap64 (N * Q) = p1
  a2 : wrap64 (S * S) = p2
  a3 : wrap64 (p1 - p2) = p3
  a4 : wrap64 (256 * p3) = p4
  a5 : wrap64 (N * N) = p5
  a6 : wrap64 (p4.tdiv p5) = mid
  a7 : IntKind.u64.wrap mid = (M : Int)
  h5 : ¬ N = 0 → ¬ p5 = 0
  m64 : M < 18446744073709551616
  R : rough N S Q = if N = 0 then (0, 0) else (((Go.Th.Root.rt 2 M : Nat) : Int), N)
theorem sq_abs {z B : Int} (h : -B ≤ z ∧ z ≤ B) (hB : 0 ≤ B) : 0 ≤ z * z ∧ z * z ≤ B * B := by
  constructor
  · rcases Int.le_total 0 z with a | a
    · exact Int.mul_nonneg a a
    · exact Int.mul_nonneg_of_nonpos_of_nonpos a a
  · rcases Int.le_total 0 z with a | a
    · exact Int.mul_le_mul (by omega) (by omega) a (by omega)
    · have : -z * -z ≤ B * B := Int.mul_le_mul (by omega) (by omega) (by omega) (by omega)
      rwa [Int.neg_mul_neg] at this
theorem prod_abs {a p A B : Int} (ha : -A ≤ a ∧ a ≤ A) (hp : -B ≤ p ∧ p ≤ B) (hA : 0 ≤ A) (hB : 0 ≤ B) : -(A * B) ≤ a * p ∧ a * p ≤ A * B := by
  rcases Int.le_total 0 p with h | h
  · exact mul_range ha ⟨h, hp.2⟩ hA
  · have := mul_range (p := -p) ha ⟨by omega, by omega⟩ hA (B := B)
    rw [Int.mul_neg] at this
    omega
theorem sums_any (N S Q : Int) (hN : -289 ≤ N ∧ N ≤ 289) (hS : -9469952 ≤ S ∧ S ≤ 9469952) (hQ : -310311387136 ≤ Q ∧ Q ≤ 310311387136) :
    Sums N S Q (N * Q) (S * S) (N * Q - S * S) (256 * (N * Q - S * S)) (N * N) ((256 * (N * Q - S * S)).tdiv (N * N)) (((256 * (N * Q - S * S)).tdiv (N * N)) % 18446744073709551616).toNat := by
  have r1 := prod_abs hN hQ (by omega) (by omega)
  have r2 := sq_abs hS (by omega)
  have r3 := sq_abs hN (by omega)
  have h := Int.natAbs_tdiv_le_natAbs (256 * (N * Q - S * S)) (N * N)
  have hm : 0 ≤ ((256 * (N * Q - S * S)).tdiv (N * N)) % 18446744073709551616 ∧ ((256 * (N * Q - S * S)).tdiv (N * N)) % 18446744073709551616 < 18446744073709551616 := by omega
  refine ⟨IntWalk.wrap64_in _ (by omega), IntWalk.wrap64_in _ (by omega), IntWalk.wrap64_in _ (by omega), IntWalk.wrap64_in _ (by omega), IntWalk.wrap64_in _ (by omega), IntWalk.wrap64_in _ (by omega), ?_, ?_, by omega, rfl⟩
  · rw [IntKind.wrap_u64, Int.toNat_of_nonneg hm.1]
  · intro h0 h1
    rcases Int.mul_eq_zero.1 h1 with h | h <;> exact h0 h
theorem trough_any {F : List Int} {W H cell : Nat} {ox oy : Int} (O : MapOk F W H cell ox oy) (g base room k : Nat) (hk : k ≤ 900000) (x y far : Int) (w : World) (J : CN w base g F W H cell ox oy room k) :
    Calls Tryz.prog 20 #[.pointer (some ⟨g, 0, none⟩), .int .i64 x, .int .i64 y, .int .i64 far] w fun e w' => e = .returned (.tuple #[.int .i64 (rgh F W H x y far).1, .int .i64 (rgh F W H x y far).2]) ∧ CN w' base g F W H cell ox oy room (k + 289) ∧ Turned (fun b => b = g) w w' := by
  have hf := farT_le far
  have C1 := isLine_any x
  have C2 := isLine_any y
  by_cases hin : (-1000 ≤ x ∧ x ≤ 1000) ∧ -1000 ≤ y ∧ y ≤ 1000
  · rw [decide_eq_true hin.1] at C1
    rw [decide_eq_true hin.2] at C2
    have rN := rect_rng (w := wN F W H) (B := 1) (by omega) (wN_rng F W H) (x - farT far) (y - farT far) (m := 2 * farT far + 1) (k := 2 * farT far + 1) (by omega) (by omega)
    have rS := rect_rng (w := wS F W H) (B := 32768) (by omega) (wS_rng O.h16 W H) (x - farT far) (y - farT far) (m := 2 * farT far + 1) (k := 2 * farT far + 1) (by omega) (by omega)
    have rQ := rect_rng (w := wQ F W H) (B := 1073741824) (by omega) (wQ_rng O.h16 W H) (x - farT far) (y - farT far) (m := 2 * farT far + 1) (k := 2 * farT far + 1) (by omega) (by omega)
    have s := sums_any (rect (wN F W H) (x - farT far) (y - farT far) (2 * farT far + 1) (2 * farT far + 1)) (rect (wS F W H) (x - farT far) (y - farT far) (2 * farT far + 1) (2 * farT far + 1)) (rect (wQ F W H) (x - farT far) (y - farT far) (2 * farT far + 1) (2 * farT far + 1)) (by omega) (by omega) (by omega)
    have := trough_go w base g F W H cell ox oy room k (farT far) _ x y far _ _ _ _ _ _ _ _ _ _ J (farT_eq far) s.a1 s.a2 s.a3 s.a4 s.a5 s.a6 s.a7 (rt_int _ s.m64) s.h5 (floor_any _ s.m64)
      (fun wx g1 g2 g3 h => each_go w wx base g F W H cell ox oy room k g1 g2 g3 (farT far) (2 * farT far + 1) x y (x - farT far) (y - farT far) O hk hin.1 hin.2 hf rfl rfl rfl h C1 C2)
    have e : rgh F W H x y far = _ := (show rgh F W H x y far = rough _ _ _ from if_pos hin).trans s.R
    rw [e]
    refine this.mono ?_
    rintro e w' ⟨he, hJ, hT⟩
    refine ⟨?_, hJ, hT⟩
    rw [he]
    split
    · rename_i h0; rw [h0]
    · rfl
  · have e : rgh F W H x y far = (0, 0) := if_neg hin
    have s := sums_any 0 0 0 (by omega) (by omega) (by omega)
    have := trough_go w base g F W H cell ox oy room k (farT far) _ x y far 0 0 0 _ _ _ _ _ _ _ J (farT_eq far) s.a1 s.a2 s.a3 s.a4 s.a5 s.a6 s.a7 (rt_int _ s.m64) s.h5 (floor_any _ s.m64)
      (fun wx g1 g2 g3 h => eachOff_go w wx base g F W H cell ox oy room k g1 g2 g3 (farT far) x y _ _ (by rw [← Bool.decide_and]; exact decide_eq_false hin) h C1 C2)
    rw [e]
    exact this
end Go.Proofs.YtlkjcamjgaecgaaGreat
