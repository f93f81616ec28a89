/-
  Terrain: whether a place lies on the map; the place of metres, and the metres of a place.
-/
import Derived.Test.YtlkjcamjgaecgaaGreatTerrW
import Derived.Test.YtlkjcamjgaecgaaGreatPackChartA
set_option linter.unusedVariables false
set_option linter.unusedSimpArgs false
namespace Go.Proofs.YtlkjcamjgaecgaaGreat
open Go Go.RowKit Go.Th Go.Th.Wide

set_option maxRecDepth 20000 in
set_option maxHeartbeats 1600000 in
theorem inside_go (W H : Int) (a : Option Addr) (n cap : Nat) (c ox oy x y : Int) (b1 b2 : Bool) (C1 : Ans 33 #[.int .i64 x, .int .i64 W] (.bool b1)) (C2 : Ans 33 #[.int .i64 y, .int .i64 H] (.bool b2)) :
    Ans 13 #[cv W H (.slice a n cap) c ox oy, sv x y] (.bool (b1 && b2)) := by
  intro w
  obtain ⟨w1, hw1⟩ : ∃ w1, (w.alloc (.cells #[.int .i64 W, .int .i64 H, .slice a n cap, .int .i64 c, .int .i32 ox, .int .i32 oy] 28)).alloc (.cells #[.int .i64 x, .int .i64 y] 37) = w1 := ⟨_, rfl⟩
  have hB1 : Below w.heap.size w w1 := by rw [← hw1]; exact ((Below.refl _ _).alloc (Nat.le_refl _) _).alloc (by simp) _
  have K1 : Blk w1 w.heap.size 28 [.int .i64 W, .int .i64 H, .slice a n cap, .int .i64 c, .int .i32 ox, .int .i32 oy] := by rw [← hw1]; exact (Blk.new w _ _).alloc _
  have K2 : Blk w1 (w.heap.size + 1) 37 [.int .i64 x, .int .i64 y] := by
    rw [← hw1]
    have := Blk.new (w.alloc (.cells #[.int .i64 W, .int .i64 H, .slice a n cap, .int .i64 c, .int .i32 ox, .int .i32 oy] 28)) 37 [.int .i64 x, .int .i64 y]
    rw [World.size_alloc] at this
    exact this
  have c0 := K1.cell (i := 0) rfl
  have c1 := K1.cell (i := 1) rfl
  have d0 := K2.cell (i := 0) rfl
  have d1 := K2.cell (i := 1) rfl
  have HW1 := Lib.hid hw1
  clear hw1
  go_enter Tryz.func13, Tryz.ntmps13
  go_upto_region 1 with fail
  rw [HW1.out]
  go_wp2_with fail
  refine (C1 w1).mono ?_
  rintro e w2 ⟨rfl, hA⟩
  have c1 := (K1.below hA K1.lt).cell (i := 1) rfl
  have d1 := (K2.below hA K2.lt).cell (i := 1) rfl
  have hB2 := hB1.trans (hA.mono hB1.size)
  clear C1 hA K1 K2 HW1 hB1
  cases b1
  · go_wp2_with fail
    go_ret
    exact ⟨rfl, hB2⟩
  · go_wp2_with fail
    refine (C2 w2).mono ?_
    rintro e w3 ⟨rfl, hA⟩
    go_wp2_with fail
    go_ret
    exact ⟨rfl, hB2.trans (hA.mono hB2.size)⟩
theorem inside_any (W H : Nat) (a : Option Addr) (n cap : Nat) (c ox oy x y : Int) (hW : 1 ≤ W ∧ W ≤ 1000) (hH : 1 ≤ H ∧ H ≤ 1000) (hx : -9223372036854775808 ≤ x ∧ x ≤ 9223372036854775807) (hy : -9223372036854775808 ≤ y ∧ y ≤ 9223372036854775807) :
    Ans 13 #[cv W H (.slice a n cap) c ox oy, sv x y] (.bool (decide (inS W H x y))) := by
  have h := inside_go W H a n cap c ox oy x y _ _ (isAlong_any x hx W hW.1 hW.2) (isAlong_any y hy H hH.1 hH.2)
  rw [← Bool.decide_and] at h
  have e : decide ((0 ≤ x ∧ x ≤ 256 * ((W : Int) - 1)) ∧ 0 ≤ y ∧ y ≤ 256 * ((H : Int) - 1)) = decide (inS W H x y) := by
    rw [decide_eq_decide]
    unfold inS
    omega
  rw [e] at h
  exact h

/-- Two cells stored, one behind the other. -/
abbrev set2 (w : World) (g : Nat) (v0 v1 : Value) : World := (w.setCell ⟨g, 0, none⟩ v0).setCell ⟨g, 1, none⟩ v1
theorem blk_set2 {w : World} {g : Nat} {t : TypeId} {c0 c1 : Value} (K : Blk w g t [c0, c1]) (v0 v1 : Value) : Blk (set2 w g v0 v1) g t [v0, v1] := (K.set 0 v0 (by simp)).set 1 v1 (by simp)
theorem turned_set2 (w : World) (g : Nat) (v0 v1 : Value) : Turned (fun k => k = g) w (set2 w g v0 v1) := ((Turned.refl (fun k => k = g) w).setCell (.inl rfl) v0).setCell (.inl rfl) v1

/-- The place of metres. -/
def spotV (c ox oy e n : Int) : Value := if (-1099511627776 ≤ e ∧ e ≤ 1099511627776) ∧ -1099511627776 ≤ n ∧ n ≤ 1099511627776 then .tuple #[sv (256 * (e - ox) / c) (256 * (n - oy) / c), .bool true] else .tuple #[sv 0 0, .bool false]
set_option maxRecDepth 20000 in
set_option maxHeartbeats 1600000 in
theorem spotNo_go (W H : Int) (a : Option Addr) (m cap : Nat) (c ox oy e n : Int) (hc : 1 ≤ c ∧ c ≤ 1000) (b1 b2 : Bool) (hb : (b1 && b2) = false) (C1 : Ans 39 #[.int .i64 e] (.bool b1)) (C2 : Ans 39 #[.int .i64 n] (.bool b2)) :
    Ans 22 #[cv W H (.slice a m cap) c ox oy, .int .i64 e, .int .i64 n] (.tuple #[sv 0 0, .bool false]) := by
  intro w
  have h1 : ¬ c < 1 := by omega
  have h2 : ¬ 1000 < c := by omega
  obtain ⟨w1, hw1⟩ : ∃ w1, (w.alloc (.cells #[.int .i64 W, .int .i64 H, .slice a m cap, .int .i64 c, .int .i32 ox, .int .i32 oy] 28)).alloc (.cells #[.int .i64 0, .int .i64 0] 37) = w1 := ⟨_, rfl⟩
  have hB1 : Below w.heap.size w w1 := by rw [← hw1]; exact ((Below.refl _ _).alloc (Nat.le_refl _) _).alloc (by simp) _
  have K1 : Blk w1 w.heap.size 28 [.int .i64 W, .int .i64 H, .slice a m cap, .int .i64 c, .int .i32 ox, .int .i32 oy] := by rw [← hw1]; exact (Blk.new w _ _).alloc _
  have K2 : Blk w1 (w.heap.size + 1) 37 [.int .i64 0, .int .i64 0] := by
    rw [← hw1]
    have := Blk.new (w.alloc (.cells #[.int .i64 W, .int .i64 H, .slice a m cap, .int .i64 c, .int .i32 ox, .int .i32 oy] 28)) 37 [.int .i64 0, .int .i64 0]
    rw [World.size_alloc] at this
    exact this
  have c3 := K1.cell (i := 3) rfl
  have HW1 := Lib.hid hw1
  clear hw1 hc
  go_enter Tryz.func22, Tryz.ntmps22
  go_upto_region 1 with fail
  rw [HW1.out]
  go_wp2_with fail
  refine (C1 w1).mono ?_
  rintro q w2 ⟨rfl, hA⟩
  replace K2 := K2.below hA K2.lt
  have hB2 := hB1.trans (hA.mono hB1.size)
  clear C1 hA K1 HW1 hB1 c3
  cases b1
  · have d0 := K2.cell (i := 0) rfl
    have d1 := K2.cell (i := 1) rfl
    have f0 := K2.free 0
    have f1 := K2.free 1
    go_wp2_with fail
    refine bodyPost_ret (v := .tuple #[sv 0 0, .bool false]) (res_blk_tmp rfl rfl (blk_set2 K2 _ _) Tryz.underlying37 rfl (by kernel_rfl) rfl) rfl ?_
    exact ⟨rfl, (turned_set2 w2 (w.heap.size + 1) (.int .i64 0) (.int .i64 0)).old hB2 hB2.size (by rintro j hj rfl; omega)⟩
  · cases b2
    · go_wp2_with fail
      refine (C2 w2).mono ?_
      rintro q w3 ⟨rfl, hA⟩
      replace K2 := K2.below hA K2.lt
      have hB3 := hB2.trans (hA.mono hB2.size)
      have d0 := K2.cell (i := 0) rfl
      have d1 := K2.cell (i := 1) rfl
      have f0 := K2.free 0
      have f1 := K2.free 1
      clear C2 hA
      go_wp2_with fail
      refine bodyPost_ret (v := .tuple #[sv 0 0, .bool false]) (res_blk_tmp rfl rfl (blk_set2 K2 _ _) Tryz.underlying37 rfl (by kernel_rfl) rfl) rfl ?_
      exact ⟨rfl, (turned_set2 w3 (w.heap.size + 1) (.int .i64 0) (.int .i64 0)).old hB3 hB3.size (by rintro j hj rfl; omega)⟩
    · cases hb
set_option maxRecDepth 20000 in
set_option maxHeartbeats 1600000 in
theorem spotOk_go (W H : Int) (a : Option Addr) (m cap : Nat) (c ox oy e n p q : Int) (hc : 1 ≤ c ∧ c ≤ 1000) (C1 : Ans 39 #[.int .i64 e] (.bool true)) (C2 : Ans 39 #[.int .i64 n] (.bool true))
    (C3 : Ans 40 #[.int .i64 e, .int .i32 ox, .int .i64 c] (.int .i64 p)) (C4 : Ans 40 #[.int .i64 n, .int .i32 oy, .int .i64 c] (.int .i64 q)) :
    Ans 22 #[cv W H (.slice a m cap) c ox oy, .int .i64 e, .int .i64 n] (.tuple #[sv p q, .bool true]) := by
  intro w
  have h1 : ¬ c < 1 := by omega
  have h2 : ¬ 1000 < c := by omega
  obtain ⟨w1, hw1⟩ : ∃ w1, (w.alloc (.cells #[.int .i64 W, .int .i64 H, .slice a m cap, .int .i64 c, .int .i32 ox, .int .i32 oy] 28)).alloc (.cells #[.int .i64 0, .int .i64 0] 37) = w1 := ⟨_, rfl⟩
  have hB1 : Below w.heap.size w w1 := by rw [← hw1]; exact ((Below.refl _ _).alloc (Nat.le_refl _) _).alloc (by simp) _
  have K1 : Blk w1 w.heap.size 28 [.int .i64 W, .int .i64 H, .slice a m cap, .int .i64 c, .int .i32 ox, .int .i32 oy] := by rw [← hw1]; exact (Blk.new w _ _).alloc _
  have K2 : Blk w1 (w.heap.size + 1) 37 [.int .i64 0, .int .i64 0] := by
    rw [← hw1]
    have := Blk.new (w.alloc (.cells #[.int .i64 W, .int .i64 H, .slice a m cap, .int .i64 c, .int .i32 ox, .int .i32 oy] 28)) 37 [.int .i64 0, .int .i64 0]
    rw [World.size_alloc] at this
    exact this
  have c3 := K1.cell (i := 3) rfl
  have HW1 := Lib.hid hw1
  clear hw1 hc
  go_enter Tryz.func22, Tryz.ntmps22
  go_upto_region 1 with fail
  rw [HW1.out]
  go_wp2_with fail
  refine (C1 w1).mono ?_
  rintro z w2 ⟨rfl, hA⟩
  replace K1 := K1.below hA K1.lt
  replace K2 := K2.below hA K2.lt
  have hB2 := hB1.trans (hA.mono hB1.size)
  clear C1 hA HW1 hB1 c3
  go_wp2_with fail
  refine (C2 w2).mono ?_
  rintro z w3 ⟨rfl, hA⟩
  replace K1 := K1.below hA K1.lt
  replace K2 := K2.below hA K2.lt
  have hB3 := hB2.trans (hA.mono hB2.size)
  have c3 := K1.cell (i := 3) rfl
  have c4 := K1.cell (i := 4) rfl
  have c5 := K1.cell (i := 5) rfl
  clear C2 hA hB2
  go_wp2_with fail
  refine wp_region_held_drew (S := (fun w' : World => w'.cell? ⟨w.heap.size, 3, none⟩ = some (.int .i64 c) ∧ w'.cell? ⟨w.heap.size, 4, none⟩ = some (.int .i32 ox) ∧ w'.cell? ⟨w.heap.size, 5, none⟩ = some (.int .i32 oy))) (by kernel_rfl) (⟨c3, c4, c5⟩) (fun hHeld => ?_)
  refine wpAnyH_take (i := 0) (v := ?v1) rfl (by kernel_rfl) (by kernel_rfl) (by kernel_rfl) (fun _ _ _ h => h) (Or.inl ⟨by rfl, ?hy1⟩) hHeld ?rest1
  case hy1 => (intro w' hSw; (try dsimp only at hSw); go_simp; (try with_reducible rfl))
  try simp only [Act.put, List.setIfInBounds_toArray, List.set_cons_zero, List.set_cons_succ, List.getElem_toArray, List.getElem_cons_zero, List.getElem_cons_succ]
  refine wpAnyH_take (i := 1) (v := ?v2) rfl (by kernel_rfl) (by kernel_rfl) (by kernel_rfl) (fun _ _ _ h => h) (Or.inl ⟨by rfl, ?hy2⟩) hHeld ?rest2
  case hy2 => (intro w' hSw; (try dsimp only at hSw); go_simp; (try with_reducible rfl))
  try simp only [Act.put, List.setIfInBounds_toArray, List.set_cons_zero, List.set_cons_succ, List.getElem_toArray, List.getElem_cons_zero, List.getElem_cons_succ]
  refine wpAnyH_take (i := 2) (v := ?v3) rfl (by kernel_rfl) (by kernel_rfl) (by kernel_rfl) (fun _ _ _ h => h) (Or.inl ⟨by rfl, ?hy3⟩) hHeld ?rest3
  case hy3 => (intro w' hSw; (try dsimp only at hSw); go_simp; (try with_reducible rfl))
  try simp only [Act.put, List.setIfInBounds_toArray, List.set_cons_zero, List.set_cons_succ, List.getElem_toArray, List.getElem_cons_zero, List.getElem_cons_succ]
  refine wpAnyH_take (i := 3) (v := ?v4) rfl (by kernel_rfl) (by kernel_rfl) (by kernel_rfl) (fun _ _ _ h => h) (Or.inl ⟨by rfl, ?hy4⟩) hHeld ?rest4
  case hy4 => (intro w' hSw; (try dsimp only at hSw); go_simp; (try with_reducible rfl))
  try simp only [Act.put, List.setIfInBounds_toArray, List.set_cons_zero, List.set_cons_succ, List.getElem_toArray, List.getElem_cons_zero, List.getElem_cons_succ]
  refine wpAnyH_take (i := 4) (v := ?v5) rfl (by kernel_rfl) (by kernel_rfl) (by kernel_rfl) (fun _ _ _ h => h) (Or.inl ⟨by rfl, ?hy5⟩) hHeld ?rest5
  case hy5 => (intro w' hSw; (try dsimp only at hSw); go_simp; (try with_reducible rfl))
  try simp only [Act.put, List.setIfInBounds_toArray, List.set_cons_zero, List.set_cons_succ, List.getElem_toArray, List.getElem_cons_zero, List.getElem_cons_succ]
  refine wpAnyH_take (i := 6) (v := ?v6) rfl (by kernel_rfl) (by kernel_rfl) (by kernel_rfl) (fun _ _ _ h => h) (Or.inl ⟨by rfl, ?hy6⟩) hHeld ?rest6
  case hy6 => (intro w' hSw; (try dsimp only at hSw); go_simp; (try with_reducible rfl))
  try simp only [Act.put, List.setIfInBounds_toArray, List.set_cons_zero, List.set_cons_succ, List.getElem_toArray, List.getElem_cons_zero, List.getElem_cons_succ]
  refine wpAnyH_take (i := 7) (v := ?v7) rfl (by kernel_rfl) (by kernel_rfl) (by kernel_rfl) (fun _ _ _ h => h) (Or.inl ⟨by rfl, ?hy7⟩) hHeld ?rest7
  case hy7 => (intro w' hSw; (try dsimp only at hSw); go_simp; (try with_reducible rfl))
  try simp only [Act.put, List.setIfInBounds_toArray, List.set_cons_zero, List.set_cons_succ, List.getElem_toArray, List.getElem_cons_zero, List.getElem_cons_succ]
  refine wpAnyH_take (i := 8) (v := ?v8) rfl (by kernel_rfl) (by kernel_rfl) (by kernel_rfl) (fun _ _ _ h => h) (Or.inl ⟨by rfl, ?hy8⟩) hHeld ?rest8
  case hy8 => (intro w' hSw; (try dsimp only at hSw); go_simp; (try with_reducible rfl))
  try simp only [Act.put, List.setIfInBounds_toArray, List.set_cons_zero, List.set_cons_succ, List.getElem_toArray, List.getElem_cons_zero, List.getElem_cons_succ]
  refine wpAnyH_take (i := 9) (v := ?v9) rfl (by kernel_rfl) (by kernel_rfl) (by kernel_rfl) (fun _ _ _ h => h) (Or.inl ⟨by rfl, ?hy9⟩) hHeld ?rest9
  case hy9 => (intro w' hSw; (try dsimp only at hSw); go_simp; (try with_reducible rfl))
  try simp only [Act.put, List.setIfInBounds_toArray, List.set_cons_zero, List.set_cons_succ, List.getElem_toArray, List.getElem_cons_zero, List.getElem_cons_succ]
  refine wpAnyH_take (i := 10) (v := ?v10) rfl (by kernel_rfl) (by kernel_rfl) (by kernel_rfl) (fun _ _ _ h => h) (Or.inl ⟨by rfl, ?hy10⟩) hHeld ?rest10
  case hy10 => (intro w' hSw; (try dsimp only at hSw); go_simp; (try with_reducible rfl))
  try simp only [Act.put, List.setIfInBounds_toArray, List.set_cons_zero, List.set_cons_succ, List.getElem_toArray, List.getElem_cons_zero, List.getElem_cons_succ]
  refine wpAnyH_ready (rs := [5]) (by kernel_rfl) (by simp) ?_
  refine AllReadyH.cons rfl (fun K hK => ?_) AllReadyH.nil
  go_simp
  refine (C3 _).mono ?_
  rintro z w4 ⟨rfl, hA⟩
  replace K1 := K1.drew.below hA K1.lt
  replace K2 := K2.drew.below hA K2.lt
  have hB4 := hB3.drew.trans (hA.mono hB3.size)
  clear C3 hA
  try go_wp2_with fail
  refine hK.out _ _ (⟨K1.cell (i := 3) rfl, K1.cell (i := 4) rfl, K1.cell (i := 5) rfl⟩) (fun hHeld => ?_)
  clear hK K
  try simp only [Act.put, List.setIfInBounds_toArray, List.set_cons_zero, List.set_cons_succ, List.getElem_toArray, List.getElem_cons_zero, List.getElem_cons_succ]
  refine wpAnyH_ready (rs := [11]) (by kernel_rfl) (by simp) ?_
  refine AllReadyH.cons rfl (fun K hK => ?_) AllReadyH.nil
  go_simp
  refine (C4 _).mono ?_
  rintro z w5 ⟨rfl, hA⟩
  replace K1 := K1.below hA K1.lt
  replace K2 := K2.below hA K2.lt
  have hB5 := hB4.trans (hA.mono hB4.size)
  have d0 := K2.cell (i := 0) rfl
  have d1 := K2.cell (i := 1) rfl
  have f0 := K2.free 0
  have f1 := K2.free 1
  clear C4 hA
  try go_wp2_with fail
  refine hK.out _ _ (⟨K1.cell (i := 3) rfl, K1.cell (i := 4) rfl, K1.cell (i := 5) rfl⟩) (fun hHeld => ?_)
  clear hK K
  try simp only [Act.put, List.setIfInBounds_toArray, List.set_cons_zero, List.set_cons_succ, List.getElem_toArray, List.getElem_cons_zero, List.getElem_cons_succ]
  refine wpAnyH_take (i := 12) (v := ?v13) rfl (by kernel_rfl) (by kernel_rfl) (by kernel_rfl) (fun _ _ _ h => h) (Or.inl ⟨by rfl, ?hy13⟩) hHeld ?rest13
  case hy13 => (intro w' hSw; (try dsimp only at hSw); go_simp; (try with_reducible rfl))
  try simp only [Act.put, List.setIfInBounds_toArray, List.set_cons_zero, List.set_cons_succ, List.getElem_toArray, List.getElem_cons_zero, List.getElem_cons_succ]
  refine wpAnyH_ready (rs := [13]) (by kernel_rfl) (by simp) ?_
  refine AllReadyH.cons rfl (fun K hK => ?_) AllReadyH.nil
  go_simp
  try go_wp2_with fail
  refine hK.out _ _ (⟨(K1.turned (turned_set2 w5 (w.heap.size + 1) (.int .i64 p) (.int .i64 q)) (by omega)).cell (i := 3) rfl, (K1.turned (turned_set2 w5 (w.heap.size + 1) (.int .i64 p) (.int .i64 q)) (by omega)).cell (i := 4) rfl, (K1.turned (turned_set2 w5 (w.heap.size + 1) (.int .i64 p) (.int .i64 q)) (by omega)).cell (i := 5) rfl⟩) (fun hHeld => ?_)
  clear hK K
  try simp only [Act.put, List.setIfInBounds_toArray, List.set_cons_zero, List.set_cons_succ, List.getElem_toArray, List.getElem_cons_zero, List.getElem_cons_succ]
  refine wpAnyH_take (i := 14) (v := ?v15) rfl (by kernel_rfl) (by kernel_rfl) (by kernel_rfl) (fun _ _ _ h => h) (Or.inl ⟨by rfl, ?hy15⟩) hHeld ?rest15
  case hy15 => (intro w' hSw; (try dsimp only at hSw); go_simp; (try with_reducible rfl))
  try simp only [Act.put, List.setIfInBounds_toArray, List.set_cons_zero, List.set_cons_succ, List.getElem_toArray, List.getElem_cons_zero, List.getElem_cons_succ]
  refine wpAnyH_done (by kernel_rfl) ?_ _
  go_wp2_with fail
  refine bodyPost_ret (v := .tuple #[sv p q, .bool true]) (res_blk_tmp rfl rfl (blk_set2 K2 _ _) Tryz.underlying37 rfl (by kernel_rfl) rfl) rfl ?_
  exact ⟨rfl, (turned_set2 w5 (w.heap.size + 1) (.int .i64 p) (.int .i64 q)).old hB5 hB5.size (by rintro j hj rfl; omega)⟩
theorem spot_any (W H : Int) (a : Option Addr) (m cap : Nat) (c ox oy e n : Int) (hc : 1 ≤ c ∧ c ≤ 1000) (hx : -2147483648 ≤ ox ∧ ox ≤ 2147483647) (hy : -2147483648 ≤ oy ∧ oy ≤ 2147483647) :
    Ans 22 #[cv W H (.slice a m cap) c ox oy, .int .i64 e, .int .i64 n] (spotV c ox oy e n) := by
  have C1 := isNear_any e
  have C2 := isNear_any n
  by_cases h : (-1099511627776 ≤ e ∧ e ≤ 1099511627776) ∧ -1099511627776 ≤ n ∧ n ≤ 1099511627776
  · unfold spotV
    rw [if_pos h]
    rw [decide_eq_true h.1] at C1
    rw [decide_eq_true h.2] at C2
    exact spotOk_go W H a m cap c ox oy e n _ _ hc C1 C2 (parts_any e ox c h.1 hx hc) (parts_any n oy c h.2 hy hc)
  · unfold spotV
    rw [if_neg h]
    exact spotNo_go W H a m cap c ox oy e n hc _ _ (by rw [← Bool.decide_and]; exact decide_eq_false h) C1 C2
end Go.Proofs.YtlkjcamjgaecgaaGreat
