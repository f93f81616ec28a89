/-
  Which places are near, which are outermost: the code's, and what it hands on as functions.
-/
import Derived.Test.YtbjhbbiahmhdeaaMomentB
set_option linter.unusedVariables false
set_option linter.unusedSimpArgs false
namespace Go.Proofs.Ytbjhbbiahmhdeaa
open Go Go.RowKit Go.Shelf Go.Th Go.Th.Grid Go.Th.Moment

theorem apart_any (x y : Int) (hx : 0 ≤ x ∧ x ≤ 1000000) (hy : 0 ≤ y ∧ y ≤ 1000000) : PureG 56 #[.int .i64 x, .int .i64 y] (.int .i64 (Moment.apart x y)) := by
  intro w
  have w1 : IntKind.i64.wrap (x - y) = x - y := IntWalk.i64_in _ (by omega)
  have w2 : IntKind.i64.wrap (y - x) = y - x := IntWalk.i64_in _ (by omega)
  have w3 : wrap64 (x - y) = x - y := IntWalk.wrap64_in _ (by omega)
  have w4 : wrap64 (y - x) = y - x := IntWalk.wrap64_in _ (by omega)
  go_enter Try.func56, Try.ntmps56
  go_wp2_with fail
  go_ret
  exact ⟨by first | rfl | (unfold Moment.apart; rfl), rfl⟩

theorem plcells {w : World} {g : Nat} {a x y : Int} (K : Blk w g 65 (plc a x y)) :
    w.cell? ⟨g, 0, none⟩ = some (.int .i64 a) ∧ w.cell? ⟨g, 1, none⟩ = some (.int .i64 x) ∧ w.cell? ⟨g, 2, none⟩ = some (.int .i64 y) :=
  ⟨K.cell (i := 0) rfl, K.cell (i := 1) rfl, K.cell (i := 2) rfl⟩

set_option maxRecDepth 20000 in
theorem isNear_go (a b x y u v far d1 d2 : Int) (k1 k2 : Bool) (C1 : PureG 56 #[.int .i64 x, .int .i64 u] (.int .i64 d1)) (C2 : PureG 56 #[.int .i64 y, .int .i64 v] (.int .i64 d2))
    (h1 : decide (d1 ≤ far) = k1) (h2 : decide (d2 ≤ far) = k2) : Ans 36 #[plv a x y, plv b u v, .int .i64 far] (.bool (k1 && k2)) := by
  intro w
  obtain ⟨w1, hw1⟩ : ∃ w1, w.alloc (.cells #[.int .i64 a, .int .i64 x, .int .i64 y] 65) = w1 := ⟨_, rfl⟩
  have M1 := (Mem.start w).alloc 65 (plc a x y)
  rw [show w.alloc (.cells (plc a x y).toArray 65) = w1 from hw1] at M1
  obtain ⟨w2, hw2⟩ : ∃ w2, w1.alloc (.cells #[.int .i64 b, .int .i64 u, .int .i64 v] 65) = w2 := ⟨_, rfl⟩
  have M2 := M1.alloc 65 (plc b u v)
  rw [show w1.alloc (.cells (plc b u v).toArray 65) = w2 from hw2] at M2
  have hsz : w1.heap.size = w.heap.size + 1 := by rw [← hw1]; simp
  have HW1 := Lib.hid hw1
  have HW2 := Lib.hid hw2
  have HC1 := Lib.hid C1
  have HC2 := Lib.hid C2
  clear hw1 hw2 M1 C1 C2
  go_enter Try.func36, Try.ntmps36
  ((go_upto_region 1 with fail); rw [HW1.out, HW2.out, ← hsz]; clear HW1 HW2; obtain ⟨gB, hgB⟩ : ∃ gB, gB = w1.heap.size := ⟨_, rfl⟩; obtain ⟨gA, hgA⟩ : ∃ gA, gA = w.heap.size := ⟨_, rfl⟩; rw [← hgB] at M2 ⊢; rw [← hgA] at M2 ⊢; have hne : gA ≠ gB := (by omega); clear hgA hgB hsz)
  obtain ⟨c0, c1, c2⟩ := plcells (M2.has (.tail _ _ _ _ _ (Has.head _ _ _ _)))
  obtain ⟨e0, e1, e2⟩ := plcells (M2.has (Has.head _ _ _ _))
  cases k1
  · have h1' : ¬ d1 ≤ far := of_decide_eq_false h1
    go_wp2_with fail
    refine (HC1.out _).mono ?_
    rintro e wx ⟨rfl, rfl⟩
    go_wp2_with fail
    go_ret
    exact ⟨rfl, M2.below⟩
  · have h1' : d1 ≤ far := of_decide_eq_true h1
    go_wp2_with fail
    refine (HC1.out _).mono ?_
    rintro e wx ⟨rfl, rfl⟩
    go_wp2_with fail
    refine (HC2.out _).mono ?_
    rintro e wx ⟨rfl, rfl⟩
    go_wp2_with fail
    go_ret
    exact ⟨by simp [h2], M2.below⟩

theorem isNear_any (a b far : Int) (x i j : Nat) (hx : 1 ≤ x) (hi : i ≤ 1000000) (hj : j ≤ 1000000) :
    Ans 36 #[plv a (i % x : Nat) (i / x : Nat), plv b (j % x : Nat) (j / x : Nat), .int .i64 far] (.bool (near x far i j)) := by
  have h1 := Nat.mod_le i x
  have h2 := Nat.mod_le j x
  have h3 := Nat.div_le_self i x
  have h4 := Nat.div_le_self j x
  have g1 : ∀ k : Nat, k ≤ 1000000 → 0 ≤ (k : Int) ∧ (k : Int) ≤ 1000000 := fun k hk => by omega
  exact isNear_go a b _ _ _ _ far _ _ _ _ (apart_any _ _ (g1 _ (by omega)) (g1 _ (by omega))) (apart_any _ _ (g1 _ (by omega)) (g1 _ (by omega))) rfl rfl

/-! ### What is handed on as functions -/
/-- A function that tells which places count, behind this world. -/
structure CntF (f : Nat) (caps : Array Value) (x : Nat) (c : Nat → Bool) (W : World) : Prop where
  enter : ∀ args w, (callFunc f args).run Try.prog w = .ok (.enter f args) w
  tells : ∀ W', Below W.heap.size W W' → ∀ k : Nat, k < 4096 → Calls Try.prog f (#[plv (k : Nat) (k % x : Nat) (k / x : Nat)] ++ caps) W' fun e w' => e = .returned (.bool (c k)) ∧ Below W'.heap.size W' w'
theorem CntF.below {f : Nat} {caps : Array Value} {x : Nat} {c : Nat → Bool} {W V : World} (h : CntF f caps x c W) (hB : Below W.heap.size W V) : CntF f caps x c V :=
  ⟨h.enter, fun W' hW k hk => h.tells W' (hB.trans (hW.mono hB.size)) k hk⟩

theorem all_go (a u v : Int) : Ans 55 #[plv a u v] (.bool true) := by
  intro w
  go_enter Try.func55, Try.ntmps55
  go_wp2_with fail
  go_ret
  exact ⟨rfl, (Below.refl _ _).alloc (Nat.le_refl _) _⟩
theorem all_cnt (x : Nat) (W : World) : CntF 55 #[] x (fun _ => true) W :=
  ⟨enters_of Try.func55 (by kernel_rfl) rfl, fun W' _ k _ => all_go _ _ _ W'⟩

set_option maxRecDepth 20000 in
theorem far_go (a u v b p q far : Int) (g gf : Nat) (k : Bool) (C : Ans 36 #[plv a u v, plv b p q, .int .i64 far] (.bool k)) (w : World)
    (K : Blk w g 65 (plc b p q)) (KF : Blk w gf 3 [.int .i64 far]) :
    Calls Try.prog 35 #[plv a u v, .pointer (some ⟨g, 0, none⟩), .pointer (some ⟨gf, 0, none⟩)] w fun e w' => e = .returned (.bool (!k)) ∧ Below w.heap.size w w' := by
  obtain ⟨w1, hw1⟩ : ∃ w1, w.alloc (.cells #[.int .i64 a, .int .i64 u, .int .i64 v] 65) = w1 := ⟨_, rfl⟩
  have M1 := (Mem.start w).alloc 65 (plc a u v)
  rw [show w.alloc (.cells (plc a u v).toArray 65) = w1 from hw1] at M1
  have K1 := K.below M1.below K.lt
  have KF1 := KF.below M1.below KF.lt
  have HW1 := Lib.hid hw1
  have HC := Lib.hid C
  clear hw1 C K KF
  go_enter Try.func35, Try.ntmps35
  (go_upto_region 1 with fail); rw [HW1.out]; clear HW1
  obtain ⟨gA, hgA⟩ : ∃ gA, gA = w.heap.size := ⟨_, rfl⟩
  rw [← hgA] at M1 ⊢
  clear hgA
  obtain ⟨c0, c1, c2⟩ := plcells (M1.has (Has.head _ _ _ _))
  obtain ⟨e0, e1, e2⟩ := plcells K1
  have f0 := KF1.cell (i := 0) rfl
  go_wp2_with fail
  refine (HC.out _).mono ?_
  rintro e wx ⟨rfl, hB⟩
  go_wp2_with fail
  go_ret
  exact ⟨rfl, (M1.call hB).below⟩
theorem far_cnt (x j g gf : Nat) (far b : Int) (hx : 1 ≤ x) (hj : j ≤ 1000000) (W : World) (K : Blk W g 65 (plc b (j % x : Nat) (j / x : Nat))) (KF : Blk W gf 3 [.int .i64 far]) :
    CntF 35 #[.pointer (some ⟨g, 0, none⟩), .pointer (some ⟨gf, 0, none⟩)] x (fun i => !near x far i j) W :=
  ⟨enters_of Try.func35 (by kernel_rfl) rfl, fun W' hW k hk => far_go _ _ _ _ _ _ far g gf _ (isNear_any _ _ far x k j hx (by omega) hj) W' (K.below hW K.lt) (KF.below hW KF.lt)⟩

set_option maxRecDepth 20000 in
theorem nearby_go (a u v b p q far : Int) (g gf : Nat) (k : Bool) (C : Ans 36 #[plv a u v, plv b p q, .int .i64 far] (.bool k)) (w : World)
    (K : Blk w g 65 (plc b p q)) (KF : Blk w gf 3 [.int .i64 far]) :
    Calls Try.prog 41 #[plv a u v, .pointer (some ⟨g, 0, none⟩), .pointer (some ⟨gf, 0, none⟩)] w fun e w' => e = .returned (.bool k) ∧ Below w.heap.size w w' := by
  obtain ⟨w1, hw1⟩ : ∃ w1, w.alloc (.cells #[.int .i64 a, .int .i64 u, .int .i64 v] 65) = w1 := ⟨_, rfl⟩
  have M1 := (Mem.start w).alloc 65 (plc a u v)
  rw [show w.alloc (.cells (plc a u v).toArray 65) = w1 from hw1] at M1
  have K1 := K.below M1.below K.lt
  have KF1 := KF.below M1.below KF.lt
  have HW1 := Lib.hid hw1
  have HC := Lib.hid C
  clear hw1 C K KF
  go_enter Try.func41, Try.ntmps41
  (go_upto_region 1 with fail); rw [HW1.out]; clear HW1
  obtain ⟨gA, hgA⟩ : ∃ gA, gA = w.heap.size := ⟨_, rfl⟩
  rw [← hgA] at M1 ⊢
  clear hgA
  obtain ⟨c0, c1, c2⟩ := plcells (M1.has (Has.head _ _ _ _))
  obtain ⟨e0, e1, e2⟩ := plcells K1
  have f0 := KF1.cell (i := 0) rfl
  go_wp2_with fail
  refine (HC.out _).mono ?_
  rintro e wx ⟨rfl, hB⟩
  go_wp2_with fail
  go_ret
  exact ⟨rfl, (M1.call hB).below⟩
theorem nearby_cnt (x j g gf : Nat) (far b : Int) (hx : 1 ≤ x) (hj : j ≤ 1000000) (W : World) (K : Blk W g 65 (plc b (j % x : Nat) (j / x : Nat))) (KF : Blk W gf 3 [.int .i64 far]) :
    CntF 41 #[.pointer (some ⟨g, 0, none⟩), .pointer (some ⟨gf, 0, none⟩)] x (fun i => near x far i j) W :=
  ⟨enters_of Try.func41 (by kernel_rfl) rfl, fun W' hW k hk => nearby_go _ _ _ _ _ _ far g gf _ (isNear_any _ _ far x k j hx (by omega) hj) W' (K.below hW K.lt) (KF.below hW KF.lt)⟩

set_option maxRecDepth 20000 in
set_option maxHeartbeats 1600000 in
theorem edge_go (a u v x y X Y s : Int) (ar : Option Addr) (n cap : Nat) (g : Nat) (hx : 1 ≤ x ∧ x ≤ 64) (hy : 1 ≤ y ∧ y ≤ 64) (k1 k2 k3 k4 : Bool) (h1 : decide (u = 0) = k1) (h2 : decide (u = x - 1) = k2) (h3 : decide (v = 0) = k3) (h4 : decide (v = y - 1) = k4) (w : World)
    (K : Blk w g 26 (gc x y X Y s (.slice ar n cap))) :
    Calls Try.prog 42 #[plv a u v, .pointer (some ⟨g, 0, none⟩)] w fun e w' => e = .returned (.bool (k1 || k2 || k3 || k4)) ∧ Below w.heap.size w w' := by
  have wx1 : IntKind.i64.wrap (x - 1) = x - 1 := IntWalk.i64_in _ (by omega)
  have wy1 : IntKind.i64.wrap (y - 1) = y - 1 := IntWalk.i64_in _ (by omega)
  obtain ⟨w1, hw1⟩ : ∃ w1, w.alloc (.cells #[.int .i64 a, .int .i64 u, .int .i64 v] 65) = w1 := ⟨_, rfl⟩
  have M1 := (Mem.start w).alloc 65 (plc a u v)
  rw [show w.alloc (.cells (plc a u v).toArray 65) = w1 from hw1] at M1
  have K1 := K.below M1.below K.lt
  have HW1 := Lib.hid hw1
  clear hw1 K
  go_enter Try.func42, Try.ntmps42
  (go_upto_region 1 with fail); rw [HW1.out]; clear HW1
  obtain ⟨gA, hgA⟩ : ∃ gA, gA = w.heap.size := ⟨_, rfl⟩
  rw [← hgA] at M1 ⊢
  clear hgA
  obtain ⟨c0, c1, c2⟩ := plcells (M1.has (Has.head _ _ _ _))
  obtain ⟨g0, g1, g2, g3, g4, g5⟩ := gcells K1
  have hb1 : (u == 0) = k1 := by rw [← h1]; rfl
  have hb2 : (u == x - 1) = k2 := by rw [← h2]; rfl
  have hb3 : (v == 0) = k3 := by rw [← h3]; rfl
  have hb4 : (v == y - 1) = k4 := by rw [← h4]; rfl
  clear h1 h2 h3 h4
  cases k1
  · cases k2
    · cases k3
      · go_wp2_with fail
        go_ret
        exact ⟨by simp [hb4], M1.below⟩
      · go_wp2_with fail
        go_ret
        exact ⟨rfl, M1.below⟩
    · go_wp2_with fail
      go_ret
      exact ⟨rfl, M1.below⟩
  · go_wp2_with fail
    go_ret
    exact ⟨rfl, M1.below⟩
theorem edge_cnt (x y n cap g : Nat) (X Y s : Int) (ar : Option Addr) (hx : 1 ≤ x ∧ x ≤ 64) (hy : 1 ≤ y ∧ y ≤ 64) (W : World) (K : Blk W g 26 (gc x y X Y s (.slice ar n cap))) :
    CntF 42 #[.pointer (some ⟨g, 0, none⟩)] x (edge x y) W :=
  ⟨enters_of Try.func42 (by kernel_rfl) rfl, fun W' hW k hk => edge_go _ _ _ x y X Y s ar n cap g (by omega) (by omega) _ _ _ _ (by rw [decide_eq_decide]; omega) (by rw [decide_eq_decide]; omega) (by rw [decide_eq_decide]; omega) (by rw [decide_eq_decide]; omega) W' (K.below hW K.lt)⟩
end Go.Proofs.Ytbjhbbiahmhdeaa
