/-
  A grid's places: one of them, whether a grid has them, all of them gone through: the code's.
-/
import Derived.Shelf.Abstract
import Derived.Shelf.RegionOpen
import Derived.WalkKit
import Derived.OwnWalkIn
import Derived.TacticsInMore
import Derived.LoopNIn
import Derived.LoopIn
import Derived.Test.YtbjhbbiahmhdeaaKeptF
import Derived.Test.YtbjhbbiahmhdeaaMomentSpec
import Derived.Test.YtbjhbbiahmhdeaaPackGridB
set_option linter.unusedVariables false
set_option linter.unusedSimpArgs false
namespace Go.Proofs.Ytbjhbbiahmhdeaa
open Go Go.RowKit Go.Shelf Go.Th Go.Th.Grid Go.Th.Moment
attribute [local go_sem] Oper.semAt_some

/-- A place as a value, its cells. -/
abbrev plv (a x y : Int) : Value := .agg #[.int .i64 a, .int .i64 x, .int .i64 y]
abbrev plc (a x y : Int) : List Value := [.int .i64 a, .int .i64 x, .int .i64 y]
theorem sizePl : (Try.prog.info? 65).map (·.size) = some 3 := by kernel_rfl
theorem rd_pl (a x y : Int) : Rd Try.prog 65 0 (plc a x y) (plv a x y) :=
  Rd.agg (ds := plc a x y) Try.underlying65 rfl sizePl (fun j u hj => by rw [Nat.zero_add]; exact hj)
theorem wr_pl (a x y a' x' y' : Int) : Wr Try.prog 65 0 (plc a' x' y') (plv a x y) (plc a x y) :=
  Wr.whole (ds := plc a x y) sizePl rfl (by intro u hu; simp at hu; rcases hu with rfl | rfl | rfl <;> rfl)

set_option maxRecDepth 20000 in
set_option maxHeartbeats 3200000 in
theorem placeAt_any (x i : Nat) (y X Y s : Int) (a : Option Addr) (n cap : Nat) (hx : 1 ≤ x ∧ x ≤ 64) (hi : i ≤ 1000000) :
    Ans 39 #[gv x y X Y s (.slice a n cap), .int .i64 i] (plv (i : Nat) (i % x : Nat) (i / x : Nat)) := by
  intro w
  have hm1 : i % x < x := Nat.mod_lt _ (by omega)
  have hd1 : i / x ≤ i := Nat.div_le_self _ _
  have e1 : (i : Int).tmod (x : Int) = ((i % x : Nat) : Int) := by rw [Int.tmod_eq_emod_of_nonneg (by omega)]; simp
  have e2 : (i : Int).tdiv (x : Int) = ((i / x : Nat) : Int) := by rw [Int.tdiv_eq_ediv_of_nonneg (by omega)]; simp
  have e1' : (i : Int) % (x : Int) = ((i % x : Nat) : Int) := by simp
  have e2' : (i : Int) / (x : Int) = ((i / x : Nat) : Int) := by simp
  obtain ⟨km, hkm⟩ : ∃ km, km = i % x := ⟨_, rfl⟩
  obtain ⟨kd, hkd⟩ : ∃ kd, kd = i / x := ⟨_, rfl⟩
  rw [← hkm] at e1 e1' hm1 ⊢
  rw [← hkd] at e2 e2' hd1 ⊢
  have wkm : IntKind.i64.wrap (km : Int) = (km : Int) := IntWalk.i64_in _ (by omega)
  have wkd : IntKind.i64.wrap (kd : Int) = (kd : Int) := IntWalk.i64_in _ (by omega)
  have wkd2 : wrap64 (kd : Int) = (kd : Int) := IntWalk.wrap64_in _ (by omega)
  have hx0 : ¬ (x = 0) := by omega
  clear hkm hkd
  obtain ⟨w1, hw1⟩ : ∃ w1, w.alloc (.cells #[.int .i64 x, .int .i64 y, .int .i64 X, .int .i64 Y, .int .i64 s, .slice a n cap] 26) = w1 := ⟨_, rfl⟩
  have M1 := (Mem.start w).alloc 26 (gc x y X Y s (.slice a n cap))
  rw [show w.alloc (.cells (gc x y X Y s (.slice a n cap)).toArray 26) = w1 from hw1] at M1
  obtain ⟨w2, hw2⟩ : ∃ w2, w1.alloc (.cells #[.int .i64 0, .int .i64 0, .int .i64 0] 65) = w2 := ⟨_, rfl⟩
  have M2 := M1.alloc 65 (plc 0 0 0)
  rw [show w1.alloc (.cells (plc 0 0 0).toArray 65) = w2 from hw2] at M2
  have hsz : w1.heap.size = w.heap.size + 1 := by rw [← hw1]; simp
  have HW1 := Lib.hid hw1
  have HW2 := Lib.hid hw2
  clear hw1 hw2 M1
  go_enter Try.func39, Try.ntmps39
  ((go_upto_region 1 with fail); rw [HW1.out, HW2.out, ← hsz]; clear HW1 HW2; obtain ⟨gB, hgB⟩ : ∃ gB, gB = w1.heap.size := ⟨_, rfl⟩; obtain ⟨gA, hgA⟩ : ∃ gA, gA = w.heap.size := ⟨_, rfl⟩; rw [← hgB] at M2 ⊢; rw [← hgA] at M2 ⊢; have hne : gA ≠ gB := (by omega); clear hgA hgB hsz)
  obtain ⟨c0, c1, c2, c3, c4, c5⟩ := gcells (M2.has (.tail _ _ _ _ _ (Has.head _ _ _ _)))
  go_wp2_with fail
  refine wp_region_held_drew (S := (fun w' : World => w'.cell? ⟨gA, 0, none⟩ = some (.int .i64 x) ∧ w'.cell? ⟨gA, 1, none⟩ = some (.int .i64 y) ∧ w'.cell? ⟨gA, 2, none⟩ = some (.int .i64 X) ∧ w'.cell? ⟨gA, 3, none⟩ = some (.int .i64 Y) ∧ w'.cell? ⟨gA, 4, none⟩ = some (.int .i64 s) ∧ w'.cell? ⟨gA, 5, none⟩ = some (.slice a n cap))) (by kernel_rfl) (⟨c0, c1, c2, c3, c4, c5⟩) (fun hHeld => ?_)
  refine tkT 0 ?v24 ?hy24 hHeld ?rest24
  case hy24 => (intro w' hSw; (try dsimp only at hSw); go_simp; (try with_reducible rfl))
  try simp only [Act.put, puts]
  refine tkT 1 ?v25 ?hy25 hHeld ?rest25
  case hy25 => (intro w' hSw; (try dsimp only at hSw); go_simp; (try with_reducible rfl))
  try simp only [Act.put, puts]
  refine tkT 2 ?v26 ?hy26 hHeld ?rest26
  case hy26 => (intro w' hSw; (try dsimp only at hSw); go_simp; (try with_reducible rfl))
  try simp only [Act.put, puts]
  refine tkT 3 ?v27 ?hy27 hHeld ?rest27
  case hy27 => (intro w' hSw; (try dsimp only at hSw); go_simp; (try with_reducible rfl))
  try simp only [Act.put, puts]
  refine tkT 4 ?v28 ?hy28 hHeld ?rest28
  case hy28 => (intro w' hSw; (try dsimp only at hSw); go_simp; (try with_reducible rfl))
  try simp only [Act.put, puts]
  refine tkT 5 ?v29 ?hy29 hHeld ?rest29
  case hy29 => (intro w' hSw; (try dsimp only at hSw); go_simp; (try with_reducible rfl))
  try simp only [Act.put, puts]
  refine tkT 6 ?v30 ?hy30 hHeld ?rest30
  case hy30 => (intro w' hSw; (try dsimp only at hSw); go_simp; (try with_reducible rfl))
  try simp only [Act.put, puts]
  refine tkT 7 ?v31 ?hy31 hHeld ?rest31
  case hy31 => (intro w' hSw; (try dsimp only at hSw); go_simp; (try with_reducible rfl))
  try simp only [Act.put, puts]
  refine tkT 8 ?v32 ?hy32 hHeld ?rest32
  case hy32 => (intro w' hSw; (try dsimp only at hSw); go_simp; (try with_reducible rfl))
  try simp only [Act.put, puts]
  refine tkT 9 ?v33 ?hy33 hHeld ?rest33
  case hy33 => (intro w' hSw; (try dsimp only at hSw); go_simp; (try with_reducible rfl))
  try simp only [Act.put, puts]
  refine wpAnyH_ready (rs := [10]) (by kernel_rfl) (by simp) ?_
  refine AllReadyH.cons rfl (fun K hK => ?_) AllReadyH.nil
  rw [if_pos (by rfl)]
  refine wp_stM (v := plv i km kd) M2.drew rfl rfl rfl (wr_pl _ _ _ _ _ _) (Upd.head _ _ _ _ _) ?_
  intro w3 M3 hT3
  refine hK.out _ _ (gcells (M3.has (.tail _ _ _ _ _ (Has.head _ _ _ _)))) (fun hHeld => ?_)
  clear hK K
  try simp only [Act.put, puts]
  refine wpAnyH_done (by kernel_rfl) ?_ _
  go_wp2_with fail
  ((try simp only [Exit.inBlock, Exit.then]); refine bodyPost_ret (res_cell rfl M3 rfl (Has.head _ _ _ _) (rd_pl _ _ _)) rfl ?_)
  exact ⟨rfl, M3.below⟩

set_option maxRecDepth 20000 in
set_option maxHeartbeats 3200000 in
theorem shaped_any (x y n : Nat) (X Y s : Int) (a : Option Addr) (cap : Nat) (hsd : sdG x y = true) (hn : n = x * y) :
    Ans 61 #[gv x y X Y s (.slice a n cap)] (.bool true) := by
  intro w
  obtain ⟨⟨q1, q2⟩, q3, q4⟩ := sdG_t hsd
  have hle : x * y ≤ 64 * 64 := Nat.mul_le_mul (by omega) (by omega)
  have hmul : (x : Int) * (y : Int) = (n : Int) := by rw [hn]; simp
  have hn4 : n ≤ 4096 := by omega
  have C1 := Lib.hid (glen_any x y X Y s (n : Int) a n cap (by rw [hmul]; exact IntWalk.wrap64_in _ (by omega)))
  have hmin : (1 : Int) ≤ min (x : Int) (y : Int) := by omega
  have hmax : max (x : Int) (y : Int) ≤ 64 := by omega
  clear hle hmul hn hsd
  obtain ⟨w1, hw1⟩ : ∃ w1, w.alloc (.cells #[.int .i64 x, .int .i64 y, .int .i64 X, .int .i64 Y, .int .i64 s, .slice a n cap] 26) = w1 := ⟨_, rfl⟩
  have M1 := (Mem.start w).alloc 26 (gc x y X Y s (.slice a n cap))
  rw [show w.alloc (.cells (gc x y X Y s (.slice a n cap)).toArray 26) = w1 from hw1] at M1
  have HW1 := Lib.hid hw1
  clear hw1
  go_enter Try.func61, Try.ntmps61
  ((go_upto_region 1 with fail); rw [HW1.out]; clear HW1; obtain ⟨gA, hgA⟩ : ∃ gA, gA = w.heap.size := ⟨_, rfl⟩; rw [← hgA] at M1 ⊢; clear hgA)
  obtain ⟨c0, c1, c2, c3, c4, c5⟩ := gcells (M1.has (Has.head _ _ _ _))
  go_wp2_with fail
  refine wp_region_held_drew (S := (fun w' : World => w'.cell? ⟨gA, 0, none⟩ = some (.int .i64 x) ∧ w'.cell? ⟨gA, 1, none⟩ = some (.int .i64 y) ∧ w'.cell? ⟨gA, 2, none⟩ = some (.int .i64 X) ∧ w'.cell? ⟨gA, 3, none⟩ = some (.int .i64 Y) ∧ w'.cell? ⟨gA, 4, none⟩ = some (.int .i64 s) ∧ w'.cell? ⟨gA, 5, none⟩ = some (.slice a n cap))) (by kernel_rfl) (⟨c0, c1, c2, c3, c4, c5⟩) (fun hHeld => ?_)
  refine tkT 0 ?v35 ?hy35 hHeld ?rest35
  case hy35 => (intro w' hSw; (try dsimp only at hSw); go_simp; (try with_reducible rfl))
  try simp only [Act.put, puts]
  refine tkT 1 ?v36 ?hy36 hHeld ?rest36
  case hy36 => (intro w' hSw; (try dsimp only at hSw); go_simp; (try with_reducible rfl))
  try simp only [Act.put, puts]
  refine tkT 2 ?v37 ?hy37 hHeld ?rest37
  case hy37 => (intro w' hSw; (try dsimp only at hSw); go_simp; (try with_reducible rfl))
  try simp only [Act.put, puts]
  refine tkT 3 ?v38 ?hy38 hHeld ?rest38
  case hy38 => (intro w' hSw; (try dsimp only at hSw); go_simp; (try with_reducible rfl))
  try simp only [Act.put, puts]
  refine tkT 4 ?v39 ?hy39 hHeld ?rest39
  case hy39 => (intro w' hSw; (try dsimp only at hSw); go_simp; (try with_reducible rfl))
  try simp only [Act.put, puts]
  refine tkT 5 ?v40 ?hy40 hHeld ?rest40
  case hy40 => (intro w' hSw; (try dsimp only at hSw); go_simp; (try with_reducible rfl))
  try simp only [Act.put, puts]
  refine tkT 6 ?v41 ?hy41 hHeld ?rest41
  case hy41 => (intro w' hSw; (try dsimp only at hSw); go_simp; (try with_reducible rfl))
  try simp only [Act.put, puts]
  refine tkT 7 ?v42 ?hy42 hHeld ?rest42
  case hy42 => (intro w' hSw; (try dsimp only at hSw); go_simp; (try with_reducible rfl))
  try simp only [Act.put, puts]
  refine tkT 8 ?v43 ?hy43 hHeld ?rest43
  case hy43 => (intro w' hSw; (try dsimp only at hSw); go_simp; (try with_reducible rfl))
  try simp only [Act.put, puts]
  refine tkT 9 ?v44 ?hy44 hHeld ?rest44
  case hy44 => (intro w' hSw; (try dsimp only at hSw); go_simp; (try with_reducible rfl))
  try simp only [Act.put, puts]
  refine tkT 10 ?v45 ?hy45 hHeld ?rest45
  case hy45 => (intro w' hSw; (try dsimp only at hSw); go_simp; (try with_reducible rfl))
  try simp only [Act.put, puts]
  refine tkT 11 ?v46 ?hy46 hHeld ?rest46
  case hy46 => (intro w' hSw; (try dsimp only at hSw); go_simp; (try with_reducible rfl))
  try simp only [Act.put, puts]
  refine tkT 12 ?v47 ?hy47 hHeld ?rest47
  case hy47 => (intro w' hSw; (try dsimp only at hSw); go_simp; (try with_reducible rfl))
  try simp only [Act.put, puts]
  refine tkT 13 ?v48 ?hy48 hHeld ?rest48
  case hy48 => (intro w' hSw; (try dsimp only at hSw); go_simp; (try with_reducible rfl))
  try simp only [Act.put, puts]
  refine tkT 14 ?v49 ?hy49 hHeld ?rest49
  case hy49 => (intro w' hSw; (try dsimp only at hSw); go_simp; (try with_reducible rfl))
  try simp only [Act.put, puts]
  refine tkT 15 ?v50 ?hy50 hHeld ?rest50
  case hy50 => (intro w' hSw; (try dsimp only at hSw); go_simp; (try with_reducible rfl))
  try simp only [Act.put, puts]
  refine tkT 16 ?v51 ?hy51 hHeld ?rest51
  case hy51 => (intro w' hSw; (try dsimp only at hSw); go_simp; (try with_reducible rfl))
  try simp only [Act.put, puts]
  refine tkT 17 ?v52 ?hy52 hHeld ?rest52
  case hy52 => (intro w' hSw; (try dsimp only at hSw); go_simp; (try with_reducible rfl))
  try simp only [Act.put, puts]
  refine tkT 18 ?v53 ?hy53 hHeld ?rest53
  case hy53 => (intro w' hSw; (try dsimp only at hSw); go_simp; (try with_reducible rfl))
  try simp only [Act.put, puts]
  refine wpAnyH_ready (rs := [19]) (by kernel_rfl) (by simp) ?_
  refine AllReadyH.cons rfl (fun K hK => ?_) AllReadyH.nil
  go_simp
  refine (C1.out _).mono ?_
  rintro e w2 ⟨rfl, hA⟩
  have M2 := M1.drew.call hA
  try go_wp2_with fail
  refine hK.out _ _ (gcells (M2.has (Has.head _ _ _ _))) (fun hHeld => ?_)
  clear hK K
  try simp only [Act.put, puts]
  refine tkT 20 ?v55 ?hy55 hHeld ?rest55
  case hy55 => (intro w' hSw; (try dsimp only at hSw); go_simp; (try with_reducible rfl))
  try simp only [Act.put, puts]
  refine tkT 21 ?v56 ?hy56 hHeld ?rest56
  case hy56 => (intro w' hSw; (try dsimp only at hSw); go_simp; (try with_reducible rfl))
  try simp only [Act.put, puts]
  refine tkT 22 ?v57 ?hy57 hHeld ?rest57
  case hy57 => (intro w' hSw; (try dsimp only at hSw); go_simp; (try with_reducible rfl))
  try simp only [Act.put, puts]
  refine wpAnyH_done (by kernel_rfl) ?_ _
  go_wp2_with fail
  go_ret
  exact ⟨rfl, M2.below⟩
end Go.Proofs.Ytbjhbbiahmhdeaa
