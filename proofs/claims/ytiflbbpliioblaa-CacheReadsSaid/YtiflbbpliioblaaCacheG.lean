/-
  The height of a column and a row: the code's.
-/
import Derived.Test.YtiflbbpliioblaaCacheE
set_option linter.unusedVariables false
set_option linter.unusedSimpArgs false
namespace Go.Proofs.Ytiflbbpliioblaa
open Go Go.RowKit Go.Th Go.Th.Crc

/-- What is told of a height. -/
def hgt (z : Int) : Value := if z = -32768 then .tuple #[.int .i16 0, .int .i64 8] else .tuple #[.int .i16 z, .int .i64 0]

set_option maxRecDepth 20000 in
theorem heightOff_go (g : Nat) (h : List Value) (T : List (Nat × Value)) (c m s W H : Nat) (x y : Int) (h1 : h[1]? = some (.int .i64 (W : Int))) (h2 : h[2]? = some (.int .i64 (H : Int))) (h3 : h[3]? = some (.slice none 0 0)) (hoff : ¬ (0 ≤ x ∧ 0 ≤ y ∧ x < (W : Int) ∧ y < (H : Int))) (w : World) (K : CK w g h T c m s) :
    Calls Try.prog 10 #[.pointer (some ⟨g, 0, none⟩), .int .i64 x, .int .i64 y] w fun e w' => e = .returned (.tuple #[.int .i16 0, .int .i64 9]) ∧ Below w.heap.size w w' := by
  have c1 := K.head h1
  have c2 := K.head h2
  have c3 := K.head h3
  have hg := K.lt
  clear K h1 h2 h3
  by_cases a : x < 0
  · clear hoff
    go_enter Try.func10, Try.ntmps10
    go_wp2_with fail
    go_ret2
    exact ⟨rfl, (Below.refl _ _).alloc (Nat.le_refl _) _⟩
  · by_cases b : y < 0
    · clear hoff
      go_enter Try.func10, Try.ntmps10
      go_wp2_with fail
      go_ret2
      exact ⟨rfl, (Below.refl _ _).alloc (Nat.le_refl _) _⟩
    · by_cases d : (W : Int) ≤ x
      · clear hoff
        go_enter Try.func10, Try.ntmps10
        go_wp2_with fail
        go_ret2
        exact ⟨rfl, (Below.refl _ _).alloc (Nat.le_refl _) _⟩
      · have d' : (H : Int) ≤ y := by omega
        clear hoff
        go_enter Try.func10, Try.ntmps10
        go_wp2_with fail
        go_ret2
        exact ⟨rfl, (Below.refl _ _).alloc (Nat.le_refl _) _⟩

set_option maxRecDepth 20000 in
set_option maxHeartbeats 3200000 in
theorem heightIn_go (base g : Nat) (h : List Value) (T : List (Nat × Value)) (c m s W H x y X Y left top sw sh cw q n dy e1 f1 idx sz : Nat) (Z : List Int) (z : Int) (Post : World → World → Prop) (h1 : h[1]? = some (.int .i64 (W : Int))) (h2 : h[2]? = some (.int .i64 (H : Int))) (h3 : h[3]? = some (.slice none 0 0)) (hx : x < W) (hy : y < H) (hW : W ≤ 256) (hH : H ≤ 256) (w : World) (K : CK w g h T c m s)
    (hX : (x : Int) / 16 = (X : Int)) (hY : (y : Int) / 16 = (Y : Int)) (t1 : IntKind.i64.wrap ((Y : Int) * (cw : Int)) = (q : Int)) (t2 : IntKind.i64.wrap ((q : Int) + (X : Int)) = (n : Int)) (t3 : IntKind.i64.wrap ((y : Int) - (top : Int)) = (dy : Int)) (t4 : IntKind.i64.wrap ((dy : Int) * (sw : Int)) = (e1 : Int)) (t5 : IntKind.i64.wrap ((e1 : Int) + (x : Int)) = (f1 : Int)) (t6 : IntKind.i64.wrap ((f1 : Int) - (left : Int)) = (idx : Int))
    (hi : idx < sz) (hsz : sz ≤ 256) (hz : (i16s Z)[idx]? = some (.int .i16 z))
    (CB : Hid (Ans 21 #[.int .i64 W, .int .i64 H, pv X Y] (.tuple #[.int .i64 left, .int .i64 top, .int .i64 sw, .int .i64 sh])))
    (CC : Hid (Ans 23 #[.int .i64 W] (.int .i64 cw)))
    (CU : Hid (∀ wx, Below w.heap.size w wx → Calls Try.prog 22 #[.pointer (some ⟨g, 0, none⟩), .int .i64 n] wx fun e w' => ∃ v, e = .returned v ∧ w'.ownsRow base 34 1 v sz (i16s Z) ∧ Post wx w' ∧ Turned (fun k => k = g) wx w')) :
    Calls Try.prog 10 #[.pointer (some ⟨g, 0, none⟩), .int .i64 x, .int .i64 y] w fun e w' => e = .returned (hgt z) ∧ ∃ w1 w2, Below w.heap.size w w1 ∧ Post w1 w2 ∧ Turned (fun k => k = g) w1 w2 ∧ w' = w2 := by
  have c1 := K.head h1
  have c2 := K.head h2
  have c3 := K.head h3
  have hg := K.lt
  have hx0 : ¬ ((x : Int) < 0) := by omega
  have hy0 : ¬ ((y : Int) < 0) := by omega
  have hxW : ¬ ((W : Int) ≤ (x : Int)) := by omega
  have hyH : ¬ ((H : Int) ≤ (y : Int)) := by omega
  have HZ := Lib.hid hz
  have hii : (idx : Int) < (sz : Int) := by omega
  clear K h1 h2 h3 hz hx hy
  go_enter Try.func10, Try.ntmps10
  go_wp2_with fail
  obtain ⟨w2, hw2⟩ : ∃ w2, (w.alloc (.cells #[.int .i64 W, .int .i64 H, .slice none 0 0] 26)).alloc (.cells #[.int .i64 X, .int .i64 Y] 68) = w2 := ⟨_, rfl⟩
  have hB2 : Below w.heap.size w w2 := by rw [← hw2]; exact ((Below.refl _ _).alloc (Nat.le_refl _) _).alloc (by simp) _
  have K1 : Blk w2 w.heap.size 26 [.int .i64 W, .int .i64 H, .slice none 0 0] := by rw [← hw2]; exact (Blk.new w _ _).alloc _
  have K2 : Blk w2 (w.heap.size + 1) 68 [.int .i64 X, .int .i64 Y] := by
    rw [← hw2]
    have := Blk.new (w.alloc (.cells #[.int .i64 W, .int .i64 H, .slice none 0 0] 26)) 68 [.int .i64 X, .int .i64 Y]
    rw [World.size_alloc] at this
    exact this
  rw [hw2]
  clear hw2 c1 c2 c3
  refine (CB.out w2).mono ?_
  rintro e w3 ⟨rfl, hA3⟩
  clear CB
  have hB3 := hB2.trans (hA3.mono hB2.size)
  replace K1 := K1.below hA3 K1.lt
  replace K2 := K2.below hA3 K2.lt
  clear hB2 hA3
  have a0 := K1.cell (i := 0) rfl
  have d0 := K2.cell (i := 0) rfl
  have d1 := K2.cell (i := 1) rfl
  have k1lt := K1.lt
  have k2lt := K2.lt
  go_wp2_with fail
  refine wp_region_held_drew (S := (fun w' : World => w'.cell? ⟨w.heap.size, 0, none⟩ = some (.int .i64 W) ∧ w'.cell? ⟨w.heap.size + 1, 0, none⟩ = some (.int .i64 X) ∧ w'.cell? ⟨w.heap.size + 1, 1, none⟩ = some (.int .i64 Y))) (by kernel_rfl) (⟨a0, d0, d1⟩) (fun hHeld => ?_)
  refine wpAnyH_take (i := 0) (v := ?v27) rfl (by kernel_rfl) (by kernel_rfl) (by kernel_rfl) (fun _ _ _ h => h) (Or.inl ⟨by rfl, ?hy27⟩) hHeld ?rest27
  case hy27 => (intro w' hSw; (try dsimp only at hSw); go_simp; (try with_reducible rfl))
  try simp only [Act.put, List.setIfInBounds_toArray, List.set_cons_zero, List.set_cons_succ, List.getElem_toArray, List.getElem_cons_zero, List.getElem_cons_succ]
  refine wpAnyH_take (i := 1) (v := ?v28) rfl (by kernel_rfl) (by kernel_rfl) (by kernel_rfl) (fun _ _ _ h => h) (Or.inl ⟨by rfl, ?hy28⟩) hHeld ?rest28
  case hy28 => (intro w' hSw; (try dsimp only at hSw); go_simp; (try with_reducible rfl))
  try simp only [Act.put, List.setIfInBounds_toArray, List.set_cons_zero, List.set_cons_succ, List.getElem_toArray, List.getElem_cons_zero, List.getElem_cons_succ]
  refine wpAnyH_take (i := 2) (v := ?v29) rfl (by kernel_rfl) (by kernel_rfl) (by kernel_rfl) (fun _ _ _ h => h) (Or.inl ⟨by rfl, ?hy29⟩) hHeld ?rest29
  case hy29 => (intro w' hSw; (try dsimp only at hSw); go_simp; (try with_reducible rfl))
  try simp only [Act.put, List.setIfInBounds_toArray, List.set_cons_zero, List.set_cons_succ, List.getElem_toArray, List.getElem_cons_zero, List.getElem_cons_succ]
  refine wpAnyH_take (i := 3) (v := ?v30) rfl (by kernel_rfl) (by kernel_rfl) (by kernel_rfl) (fun _ _ _ h => h) (Or.inl ⟨by rfl, ?hy30⟩) hHeld ?rest30
  case hy30 => (intro w' hSw; (try dsimp only at hSw); go_simp; (try with_reducible rfl))
  try simp only [Act.put, List.setIfInBounds_toArray, List.set_cons_zero, List.set_cons_succ, List.getElem_toArray, List.getElem_cons_zero, List.getElem_cons_succ]
  refine wpAnyH_take (i := 4) (v := ?v31) rfl (by kernel_rfl) (by kernel_rfl) (by kernel_rfl) (fun _ _ _ h => h) (Or.inl ⟨by rfl, ?hy31⟩) hHeld ?rest31
  case hy31 => (intro w' hSw; (try dsimp only at hSw); go_simp; (try with_reducible rfl))
  try simp only [Act.put, List.setIfInBounds_toArray, List.set_cons_zero, List.set_cons_succ, List.getElem_toArray, List.getElem_cons_zero, List.getElem_cons_succ]
  refine wpAnyH_take (i := 7) (v := ?v32) rfl (by kernel_rfl) (by kernel_rfl) (by kernel_rfl) (fun _ _ _ h => h) (Or.inl ⟨by rfl, ?hy32⟩) hHeld ?rest32
  case hy32 => (intro w' hSw; (try dsimp only at hSw); go_simp; (try with_reducible rfl))
  try simp only [Act.put, List.setIfInBounds_toArray, List.set_cons_zero, List.set_cons_succ, List.getElem_toArray, List.getElem_cons_zero, List.getElem_cons_succ]
  refine wpAnyH_take (i := 8) (v := ?v33) rfl (by kernel_rfl) (by kernel_rfl) (by kernel_rfl) (fun _ _ _ h => h) (Or.inl ⟨by rfl, ?hy33⟩) hHeld ?rest33
  case hy33 => (intro w' hSw; (try dsimp only at hSw); go_simp; (try with_reducible rfl))
  try simp only [Act.put, List.setIfInBounds_toArray, List.set_cons_zero, List.set_cons_succ, List.getElem_toArray, List.getElem_cons_zero, List.getElem_cons_succ]
  refine wpAnyH_take (i := 11) (v := ?v34) rfl (by kernel_rfl) (by kernel_rfl) (by kernel_rfl) (fun _ _ _ h => h) (Or.inl ⟨by rfl, ?hy34⟩) hHeld ?rest34
  case hy34 => (intro w' hSw; (try dsimp only at hSw); go_simp; (try with_reducible rfl))
  try simp only [Act.put, List.setIfInBounds_toArray, List.set_cons_zero, List.set_cons_succ, List.getElem_toArray, List.getElem_cons_zero, List.getElem_cons_succ]
  refine wpAnyH_take (i := 12) (v := ?v35) rfl (by kernel_rfl) (by kernel_rfl) (by kernel_rfl) (fun _ _ _ h => h) (Or.inl ⟨by rfl, ?hy35⟩) hHeld ?rest35
  case hy35 => (intro w' hSw; (try dsimp only at hSw); go_simp; (try with_reducible rfl))
  try simp only [Act.put, List.setIfInBounds_toArray, List.set_cons_zero, List.set_cons_succ, List.getElem_toArray, List.getElem_cons_zero, List.getElem_cons_succ]
  refine wpAnyH_take (i := 13) (v := ?v36) rfl (by kernel_rfl) (by kernel_rfl) (by kernel_rfl) (fun _ _ _ h => h) (Or.inl ⟨by rfl, ?hy36⟩) hHeld ?rest36
  case hy36 => (intro w' hSw; (try dsimp only at hSw); go_simp; (try with_reducible rfl))
  try simp only [Act.put, List.setIfInBounds_toArray, List.set_cons_zero, List.set_cons_succ, List.getElem_toArray, List.getElem_cons_zero, List.getElem_cons_succ]
  refine wpAnyH_take (i := 14) (v := ?v37) rfl (by kernel_rfl) (by kernel_rfl) (by kernel_rfl) (fun _ _ _ h => h) (Or.inl ⟨by rfl, ?hy37⟩) hHeld ?rest37
  case hy37 => (intro w' hSw; (try dsimp only at hSw); go_simp; (try with_reducible rfl))
  try simp only [Act.put, List.setIfInBounds_toArray, List.set_cons_zero, List.set_cons_succ, List.getElem_toArray, List.getElem_cons_zero, List.getElem_cons_succ]
  refine wpAnyH_take (i := 15) (v := ?v38) rfl (by kernel_rfl) (by kernel_rfl) (by kernel_rfl) (fun _ _ _ h => h) (Or.inl ⟨by rfl, ?hy38⟩) hHeld ?rest38
  case hy38 => (intro w' hSw; (try dsimp only at hSw); go_simp; (try with_reducible rfl))
  try simp only [Act.put, List.setIfInBounds_toArray, List.set_cons_zero, List.set_cons_succ, List.getElem_toArray, List.getElem_cons_zero, List.getElem_cons_succ]
  refine wpAnyH_take (i := 16) (v := ?v39) rfl (by kernel_rfl) (by kernel_rfl) (by kernel_rfl) (fun _ _ _ h => h) (Or.inl ⟨by rfl, ?hy39⟩) hHeld ?rest39
  case hy39 => (intro w' hSw; (try dsimp only at hSw); go_simp; (try with_reducible rfl))
  try simp only [Act.put, List.setIfInBounds_toArray, List.set_cons_zero, List.set_cons_succ, List.getElem_toArray, List.getElem_cons_zero, List.getElem_cons_succ]
  refine wpAnyH_take (i := 17) (v := ?v40) rfl (by kernel_rfl) (by kernel_rfl) (by kernel_rfl) (fun _ _ _ h => h) (Or.inl ⟨by rfl, ?hy40⟩) hHeld ?rest40
  case hy40 => (intro w' hSw; (try dsimp only at hSw); go_simp; (try with_reducible rfl))
  try simp only [Act.put, List.setIfInBounds_toArray, List.set_cons_zero, List.set_cons_succ, List.getElem_toArray, List.getElem_cons_zero, List.getElem_cons_succ]
  refine wpAnyH_take (i := 18) (v := ?v41) rfl (by kernel_rfl) (by kernel_rfl) (by kernel_rfl) (fun _ _ _ h => h) (Or.inl ⟨by rfl, ?hy41⟩) hHeld ?rest41
  case hy41 => (intro w' hSw; (try dsimp only at hSw); go_simp; (try with_reducible rfl))
  try simp only [Act.put, List.setIfInBounds_toArray, List.set_cons_zero, List.set_cons_succ, List.getElem_toArray, List.getElem_cons_zero, List.getElem_cons_succ]
  refine wpAnyH_take (i := 19) (v := ?v42) rfl (by kernel_rfl) (by kernel_rfl) (by kernel_rfl) (fun _ _ _ h => h) (Or.inl ⟨by rfl, ?hy42⟩) hHeld ?rest42
  case hy42 => (intro w' hSw; (try dsimp only at hSw); go_simp; (try with_reducible rfl))
  try simp only [Act.put, List.setIfInBounds_toArray, List.set_cons_zero, List.set_cons_succ, List.getElem_toArray, List.getElem_cons_zero, List.getElem_cons_succ]
  refine wpAnyH_ready (rs := [5]) (by kernel_rfl) (by simp) ?_
  refine AllReadyH.cons rfl (fun K hK => ?_) AllReadyH.nil
  go_simp
  refine (CC.out _).mono ?_
  rintro e w4 ⟨rfl, hA⟩
  replace K1 := K1.drew.below hA K1.lt
  replace K2 := K2.drew.below hA K2.lt
  have hB4 := hB3.drew.trans (hA.mono hB3.size)
  clear CC hA
  try go_wp2_with fail
  refine hK.out _ _ (⟨K1.cell (i := 0) rfl, K2.cell (i := 0) rfl, K2.cell (i := 1) rfl⟩) (fun hHeld => ?_)
  clear hK K
  try simp only [Act.put, List.setIfInBounds_toArray, List.set_cons_zero, List.set_cons_succ, List.getElem_toArray, List.getElem_cons_zero, List.getElem_cons_succ]
  refine wpAnyH_take (i := 6) (v := ?v44) rfl (by kernel_rfl) (by kernel_rfl) (by kernel_rfl) (fun _ _ _ h => h) (Or.inl ⟨by rfl, ?hy44⟩) hHeld ?rest44
  case hy44 => (intro w' hSw; (try dsimp only at hSw); go_simp; (try with_reducible rfl))
  try simp only [Act.put, List.setIfInBounds_toArray, List.set_cons_zero, List.set_cons_succ, List.getElem_toArray, List.getElem_cons_zero, List.getElem_cons_succ]
  refine wpAnyH_take (i := 9) (v := ?v45) rfl (by kernel_rfl) (by kernel_rfl) (by kernel_rfl) (fun _ _ _ h => h) (Or.inl ⟨by rfl, ?hy45⟩) hHeld ?rest45
  case hy45 => (intro w' hSw; (try dsimp only at hSw); go_simp; (try with_reducible rfl))
  try simp only [Act.put, List.setIfInBounds_toArray, List.set_cons_zero, List.set_cons_succ, List.getElem_toArray, List.getElem_cons_zero, List.getElem_cons_succ]
  refine wpAnyH_ready (rs := [10]) (by kernel_rfl) (by simp) ?_
  refine AllReadyH.cons rfl (fun K hK => ?_) AllReadyH.nil
  go_simp
  refine (CU.out w4 hB4).mono ?_
  rintro e w5 ⟨v, rfl, ho, hP, hT⟩
  obtain ⟨gz, cz, rfl, hgz1, hgz2, hcz1, hcz2⟩ := ownsRow_val ho (by omega)
  have hcell := ownsRow_cell ho HZ.out
  replace K1 := K1.turned hT (by omega)
  replace K2 := K2.turned hT (by omega)
  have HP := Lib.hid hP
  have HT := Lib.hid hT
  clear CU hP hT
  try go_wp2_with fail
  refine hK.out _ _ (⟨K1.cell (i := 0) rfl, K2.cell (i := 0) rfl, K2.cell (i := 1) rfl⟩) (fun hHeld => ?_)
  clear hK K
  try simp only [Act.put, List.setIfInBounds_toArray, List.set_cons_zero, List.set_cons_succ, List.getElem_toArray, List.getElem_cons_zero, List.getElem_cons_succ]
  refine wpAnyH_take (i := 20) (v := ?v47) rfl (by kernel_rfl) (by kernel_rfl) (by kernel_rfl) (fun _ _ _ h => h) (Or.inl ⟨by rfl, ?hy47⟩) hHeld ?rest47
  case hy47 => (intro w' hSw; (try dsimp only at hSw); go_simp; (try with_reducible rfl))
  try simp only [Act.put, List.setIfInBounds_toArray, List.set_cons_zero, List.set_cons_succ, List.getElem_toArray, List.getElem_cons_zero, List.getElem_cons_succ]
  refine wpAnyH_ready (rs := [21]) (by kernel_rfl) (by simp) ?_
  refine AllReadyH.cons rfl (fun K hK => ?_) AllReadyH.nil
  go_simp
  try go_wp2_with fail
  refine hK.out _ _ (⟨K1.cell (i := 0) rfl, K2.cell (i := 0) rfl, K2.cell (i := 1) rfl⟩) (fun hHeld => ?_)
  clear hK K
  try simp only [Act.put, List.setIfInBounds_toArray, List.set_cons_zero, List.set_cons_succ, List.getElem_toArray, List.getElem_cons_zero, List.getElem_cons_succ]
  refine wpAnyH_take (i := 22) (v := ?v49) rfl (by kernel_rfl) (by kernel_rfl) (by kernel_rfl) (fun _ _ _ h => h) (Or.inl ⟨by rfl, ?hy49⟩) hHeld ?rest49
  case hy49 => (intro w' hSw; (try dsimp only at hSw); go_simp; (try with_reducible rfl))
  try simp only [Act.put, List.setIfInBounds_toArray, List.set_cons_zero, List.set_cons_succ, List.getElem_toArray, List.getElem_cons_zero, List.getElem_cons_succ]
  refine wpAnyH_done (by kernel_rfl) ?_ _
  have HB := Lib.hid hB4
  clear ho hcell a0 d0 d1 K1 K2 hB3 hB4 HZ hi t1 t2 t3 t4 t5 t6 hX hY hx0 hy0 hxW hyH hii
  by_cases hv : z = -32768
  · subst hv
    go_wp2_with fail
    go_ret2
    exact ⟨rfl, w4, w5, HB.out, HP.out, HT.out, by trivial⟩
  · have hg2 : hgt z = .tuple #[.int .i16 z, .int .i64 0] := by unfold hgt; rw [if_neg hv]
    have HG := Lib.hid hg2
    clear hg2
    go_wp2_with fail
    go_ret2
    exact ⟨by rw [HG.out]; rfl, w4, w5, HB.out, HP.out, HT.out, by trivial⟩

/-- The height of a column and a row, of which a tile is used. -/
theorem height_in (base g : Nat) (F : List Int) (W H cell : Nat) (ox oy : Int) (room : Nat) (L : List Nat) (m s x y : Nat) (O : MapOk F W H cell ox oy) (hx : x < W) (hy : y < H) (hm : m ≤ 1000000) (hs : s ≤ 1000000) (w : World) (J : CacheI w base g F W H cell ox oy room L m s) :
    Calls Try.prog 10 #[.pointer (some ⟨g, 0, none⟩), .int .i64 x, .int .i64 y] w fun e w' => e = .returned (hgt (F.getD (y * W + x) 0)) ∧
      CacheI w' base g F W H cell ox oy room (useL room L (y / 16 * cnt W + x / 16)) (if (y / 16 * cnt W + x / 16) ∈ L then m + 1 else m) (if (y / 16 * cnt W + x / 16) ∈ L then s else s + 1) ∧ Turned (fun k => k = g) w w' := by
  obtain ⟨i1, i2, i3, i4⟩ := isF_yes O.hF
  obtain ⟨hn, hv⟩ := tile_height F W H x y O.hl hx hy
  obtain ⟨X, hX⟩ : ∃ X, X = x / 16 := ⟨_, rfl⟩
  obtain ⟨Y, hY⟩ : ∃ Y, Y = y / 16 := ⟨_, rfl⟩
  rw [← hX, ← hY] at hn hv ⊢
  have hXc : X < cnt W := by have := cnt_ge W; omega
  have hYc : Y < cnt H := by have := cnt_ge H; omega
  have CB := box_yes W H X Y O.hF hXc hYc
  have f1 := side_fits W X hXc
  have f2 := side_fits H Y hYc
  have g1 := side_min W X hXc
  have g2 := side_min H Y hYc
  have s1 := side_le W X
  have s2 := side_le H Y
  have e1 : (Y * cnt W + X) % cnt W = X := by rw [Nat.mul_comm, Nat.mul_add_mod]; exact Nat.mod_eq_of_lt hXc
  have e2 : (Y * cnt W + X) / cnt W = Y := by rw [Nat.mul_comm, Nat.mul_add_div (by omega), Nat.div_eq_of_lt hXc]; rfl
  have hsz : szT W H (Y * cnt W + X) = side W X * side H Y := by unfold szT; rw [e1, e2]
  have hZl := tileAt_length F W H (Y * cnt W + X) O.hl hn
  rw [e1, e2] at hZl
  have hc : x % 16 < side W X := by omega
  have hr : y % 16 < side H Y := by omega
  have hidx : y % 16 * side W X + x % 16 < side W X * side H Y := by
    have := Nat.mul_le_mul_right (side W X) (Nat.succ_le_of_lt hr)
    rw [Nat.succ_mul, Nat.mul_comm (side H Y)] at this
    omega
  have hle : side W X * side H Y ≤ 16 * 16 := Nat.mul_le_mul s1 s2
  have hcw : cnt W ≤ 16 := by unfold cnt; omega
  have hq : Y * cnt W ≤ 15 * 16 := Nat.mul_le_mul (by omega) hcw
  have hd : y % 16 * side W X ≤ 15 * 16 := Nat.mul_le_mul (by omega) s1
  have HU := fun wx (hb : Below w.heap.size w wx) => (use10_any O (J.below hb) (Y * cnt W + X) hn hm hs).mono (fun e w' (h : ∃ v, e = .returned v ∧ _ ∧ _ ∧ _) => h)
  obtain ⟨ab, cb, aA, cA, aS, cS, T, c, J'⟩ := J
  obtain ⟨n, hne⟩ : ∃ n, n = Y * cnt W + X := ⟨_, rfl⟩
  obtain ⟨q, hqe⟩ : ∃ q, q = Y * cnt W := ⟨_, rfl⟩
  obtain ⟨d1, hde⟩ : ∃ d, d = y % 16 * side W X := ⟨_, rfl⟩
  obtain ⟨i, hie⟩ : ∃ i, i = y % 16 * side W X + x % 16 := ⟨_, rfl⟩
  rw [← hne] at hn hv hsz hZl HU ⊢
  rw [← hie] at hv hidx
  rw [hsz] at HU
  rw [Nat.mul_comm] at hZl
  have hz : (i16s (tileAt F W H n))[i]? = some (.int .i16 (F.getD (y * W + x) 0)) := by
    rw [i16s_at _ i (by rw [hZl]; exact hidx), ← hv, List.getD, List.getElem?_eq_getElem (by rw [hZl]; exact hidx)]; rfl
  have t0 : ((Y : Int) * ((cnt W : Nat) : Int)) = (q : Int) := by rw [hqe]; simp
  have t4 : (((y % 16 : Nat) : Int) * ((side W X : Nat) : Int)) = (d1 : Int) := by rw [hde]; simp
  refine (heightIn_go base g _ T c m s W H x y X Y (16 * X) (16 * Y) (side W X) (side H Y) (cnt W) q n (y % 16) d1 (d1 + x) i (side W X * side H Y) (tileAt F W H n) (F.getD (y * W + x) 0)
    (fun wx w' => CacheI w' base g F W H cell ox oy room (useL room L n) (if n ∈ L then m + 1 else m) (if n ∈ L then s else s + 1)) rfl rfl rfl hx hy (by omega) (by omega) w J'.ck
    (by omega) (by omega) (by rw [t0]; exact i64_nat q (by omega)) (by rw [← i64_nat n (by omega)]; congr 1; omega) (by rw [← i64_nat (y % 16) (by omega)]; congr 1; omega) (by rw [t4]; exact i64_nat d1 (by omega))
    (by rw [← i64_nat (d1 + x) (by omega)]; congr 1) (by rw [← i64_nat i (by omega)]; congr 1; omega) hidx (by omega) hz (Lib.hid CB) (Lib.hid (fun wx => ((count_go W (by omega) (by omega)) wx).mono (fun e w' ⟨a, b⟩ => ⟨a, by rw [← b]; exact Below.refl _ _⟩)))
    (Lib.hid HU)).mono ?_
  rintro e w' ⟨he, w1, w2, hB, hP, hT, rfl⟩
  exact ⟨he, hP, (Turned.below hB).trans hT (fun _ _ h => h)⟩
theorem height_off (base g : Nat) (F : List Int) (W H cell : Nat) (ox oy : Int) (room : Nat) (L : List Nat) (m s : Nat) (x y : Int) (hoff : ¬ (0 ≤ x ∧ 0 ≤ y ∧ x < (W : Int) ∧ y < (H : Int))) (w : World) (J : CacheI w base g F W H cell ox oy room L m s) :
    Calls Try.prog 10 #[.pointer (some ⟨g, 0, none⟩), .int .i64 x, .int .i64 y] w fun e w' => e = .returned (.tuple #[.int .i16 0, .int .i64 9]) ∧ Below w.heap.size w w' := by
  obtain ⟨ab, cb, aA, cA, aS, cS, T, c, J'⟩ := J
  exact heightOff_go g _ T c m s W H x y rfl rfl rfl hoff w J'.ck
end Go.Proofs.Ytiflbbpliioblaa
