/-
  A cut's sides; acts as variables.
-/
import Derived.Test.YtallbegibdlpaaaGreatExactN
set_option linter.unusedVariables false
set_option linter.unusedSimpArgs false
namespace Go.Proofs.YtallbegibdlpaaaGreat
open Go Go.RowKit Go.Th Go.Th.Dig Go.Th.Ex Go.Th.Grid

theorem sizeOp : (Tryz.prog.info? 42).map (·.size) = some 7 := by kernel_rfl
theorem rd_op (o : OpV) : Rd Tryz.prog 42 0 (opc o) (opv o) :=
  Rd.agg (ds := opc o) Tryz.underlying42 rfl sizeOp (fun j u hj => by rw [Nat.zero_add]; exact hj)
instance rOp17 (o : OpV) : RdI Tryz.prog 42 0 (opc o) (opv o) := ⟨rd_op o⟩
instance kOp17 : SzI Tryz.prog 42 7 := ⟨sizeOp⟩

set_option maxRecDepth 20000 in
set_option maxHeartbeats 1600000 in
theorem sides17_any (o : OpV) (hW : 0 ≤ o.W ∧ o.W < 256) (hH : 0 ≤ o.H ∧ o.H < 256) (w : World) :
    Calls Tryz.prog 29 #[opv o] w fun e w' => e = .returned (.tuple #[.int .i64 (side17 o.W : Nat), .int .i64 (side17 o.H : Nat)]) ∧ Below w.heap.size w w' := by
  obtain ⟨k, q, a, n, c, zs, X, Y, W, H⟩ := o
  simp only at hW hH
  obtain ⟨m1, hm1⟩ : ∃ m1 : Int, m1 = W % 8 := ⟨_, rfl⟩
  obtain ⟨m2, hm2⟩ : ∃ m2 : Int, m2 = H % 8 := ⟨_, rfl⟩
  obtain ⟨s1, hs1⟩ : ∃ s1, s1 = side17 W := ⟨_, rfl⟩
  obtain ⟨s2, hs2⟩ : ∃ s2, s2 = side17 H := ⟨_, rfl⟩
  show Calls Tryz.prog 29 #[opv ⟨k, q, a, n, c, zs, X, Y, W, H⟩] w fun e w' => e = .returned (.tuple #[.int .i64 (side17 W : Nat), .int .i64 (side17 H : Nat)]) ∧ Below w.heap.size w w'
  rw [← hs1, ← hs2]
  have e1 : W % 8 = m1 := hm1.symm
  have e1t : W.tmod 8 = m1 := by rw [Int.tmod_eq_emod_of_nonneg hW.1]; exact e1
  have e2 : H % 8 = m2 := hm2.symm
  have e2t : H.tmod 8 = m2 := by rw [Int.tmod_eq_emod_of_nonneg hH.1]; exact e2
  have r1 : 0 ≤ m1 ∧ m1 < 8 := by omega
  have r2 : 0 ≤ m2 ∧ m2 < 8 := by omega
  have p1 : 1 + m1 = (s1 : Int) := by rw [hs1]; unfold side17; omega
  have p2 : 1 + m2 = (s2 : Int) := by rw [hs2]; unfold side17; omega
  have q1 : IntKind.i64.wrap W = W := IntWalk.i64_in _ (by omega)
  have q2 : IntKind.i64.wrap H = H := IntWalk.i64_in _ (by omega)
  have q3 : IntKind.i64.wrap m1 = m1 := IntWalk.i64_in _ (by omega)
  have q4 : IntKind.i64.wrap m2 = m2 := IntWalk.i64_in _ (by omega)
  have q5 : IntKind.i64.wrap (s1 : Int) = (s1 : Int) := IntWalk.i64_in _ (by omega)
  have q6 : IntKind.i64.wrap (s2 : Int) = (s2 : Int) := IntWalk.i64_in _ (by omega)
  have HE := Lib.hid (And.intro e1 (And.intro e1t (And.intro e2 (And.intro e2t (And.intro p1 (And.intro p2 (And.intro q1 (And.intro q2 (And.intro q3 (And.intro q4 (And.intro q5 q6)))))))))))
  clear e1 e1t e2 e2t p1 p2 q1 q2 q3 q4 q5 q6 hm1 hm2 hs1 hs2 r1 r2 hW hH
  have M0 := Mem.start w
  go_enter Tryz.func29, Tryz.ntmps29
  go_upto_region 1 with (((with_reducible refine (?_ : Go.wpList _ _ _ (_ :: _) _ _)); (first | go_skip | (refine wpL_bx M0 rfl rfl rfl rfl ?_; clear M0; intro g1 w1 M1) | (refine wpL_alc M0 rfl rfl ?_; clear M0; intro g1 w1 M1) | (refine wpL_ldc M0 rfl rfl rfl ?_) | (refine wpL_lgc M0 rfl rfl rfl ?_) | (refine wpL_stc M0 rfl rfl rfl rfl ?_; clear M0; intro w' M0) | (refine wpL_sti M0 rfl rfl rfl rfl ?_; clear M0; intro w' M0) | (refine wpL_sth M0 rfl rfl rfl rfl (wr_minus _ _ _) ?_; clear M0; intro w' M0) | (refine wpL_ldc M1 rfl rfl rfl ?_) | (refine wpL_lgc M1 rfl rfl rfl ?_) | (refine wpL_stc M1 rfl rfl rfl rfl ?_; clear M1; intro w' M1) | (refine wpL_sti M1 rfl rfl rfl rfl ?_; clear M1; intro w' M1) | (refine wpL_sth M1 rfl rfl rfl rfl (wr_minus _ _ _) ?_; clear M1; intro w' M1))))
  have c5 : w1.cell? ⟨g1, 5, none⟩ = some (.int .u8 W) := M1.cell (Has.head _ _ _ _) (i := 5) rfl
  have c6 : w1.cell? ⟨g1, 6, none⟩ = some (.int .u8 H) := M1.cell (Has.head _ _ _ _) (i := 6) rfl
  go_wp2_with fail
  obtain ⟨e1, e1t, e2, e2t, p1, p2, q1, q2, q3, q4, q5, q6⟩ := HE.out
  refine wp_region_held_drew (S := (fun w' : World => w'.cell? ⟨g1, 5, none⟩ = some (.int .u8 W) ∧ w'.cell? ⟨g1, 6, none⟩ = some (.int .u8 H))) (by kernel_rfl) (⟨c5, c6⟩) (fun hHeld => ?_)
  refine tkT 0 ?v1 ?hy1 hHeld ?rest1
  case hy1 => (intro w' hSw; (try dsimp only at hSw); go_simp; (try with_reducible rfl))
  try simp only [Act.put, puts]
  refine tkT 1 ?v2 ?hy2 hHeld ?rest2
  case hy2 => (intro w' hSw; (try dsimp only at hSw); go_simp; (try with_reducible rfl))
  try simp only [Act.put, puts]
  refine tkT 2 ?v3 ?hy3 hHeld ?rest3
  case hy3 => (intro w' hSw; (try dsimp only at hSw); go_simp; (try with_reducible rfl))
  try simp only [Act.put, puts]
  refine tkT 3 ?v4 ?hy4 hHeld ?rest4
  case hy4 => (intro w' hSw; (try dsimp only at hSw); go_simp; (try with_reducible rfl))
  try simp only [Act.put, puts]
  refine tkT 4 ?v5 ?hy5 hHeld ?rest5
  case hy5 => (intro w' hSw; (try dsimp only at hSw); go_simp; (try with_reducible rfl))
  try simp only [Act.put, puts]
  refine tkT 5 ?v6 ?hy6 hHeld ?rest6
  case hy6 => (intro w' hSw; (try dsimp only at hSw); go_simp; (try with_reducible rfl))
  try simp only [Act.put, puts]
  refine tkT 6 ?v7 ?hy7 hHeld ?rest7
  case hy7 => (intro w' hSw; (try dsimp only at hSw); go_simp; (try with_reducible rfl))
  try simp only [Act.put, puts]
  refine tkT 7 ?v8 ?hy8 hHeld ?rest8
  case hy8 => (intro w' hSw; (try dsimp only at hSw); go_simp; (try with_reducible rfl))
  try simp only [Act.put, puts]
  refine tkT 8 ?v9 ?hy9 hHeld ?rest9
  case hy9 => (intro w' hSw; (try dsimp only at hSw); go_simp; (try with_reducible rfl))
  try simp only [Act.put, puts]
  refine tkT 9 ?v10 ?hy10 hHeld ?rest10
  case hy10 => (intro w' hSw; (try dsimp only at hSw); go_simp; (try with_reducible rfl))
  try simp only [Act.put, puts]
  refine tkT 10 ?v11 ?hy11 hHeld ?rest11
  case hy11 => (intro w' hSw; (try dsimp only at hSw); go_simp; (try with_reducible rfl))
  try simp only [Act.put, puts]
  refine tkT 11 ?v12 ?hy12 hHeld ?rest12
  case hy12 => (intro w' hSw; (try dsimp only at hSw); go_simp; (try with_reducible rfl))
  try simp only [Act.put, puts]
  refine wpAnyH_done (by kernel_rfl) ?_ _
  clear e1 e1t e2 e2t p1 p2 q1 q2 q3 q4 q5 q6
  go_wp2_with fail
  go_ret2
  exact ⟨rfl, M1.below.drew⟩
end Go.Proofs.YtallbegibdlpaaaGreat
