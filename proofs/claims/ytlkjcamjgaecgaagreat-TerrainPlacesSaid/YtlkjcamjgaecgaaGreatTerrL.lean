/-
  The four heights around a place: the code's.
-/
import Derived.Test.YtlkjcamjgaecgaaGreatTerrB
import Derived.Test.YtlkjcamjgaecgaaGreatPackCacheB
import Derived.Test.YtlkjcamjgaecgaaGreatRef11B
set_option linter.unusedVariables false
set_option linter.unusedSimpArgs false
namespace Go.Proofs.YtlkjcamjgaecgaaGreat
open Go Go.RowKit Go.Th Go.Th.Crc

theorem CacheI.keepB {w w' : World} {base g : Nat} {F : List Int} {W H cell : Nat} {ox oy : Int} {room : Nat} {L : List Nat} {m s : Nat} (J : CacheI w base g F W H cell ox oy room L m s) {b : Nat} {t : TypeId} {cs : List Value} (ht : Turned (fun k => k = b) w w') (K : Blk w b t cs)
    (hne : t ≠ 108 ∧ t ≠ 5 ∧ t ≠ 3 ∧ t ≠ 51) : CacheI w' base g F W H cell ox oy room L m s := by
  obtain ⟨ab, cb, aA, cA, aS, cS, T, c, J⟩ := J
  have hg : g ≠ b := by
    rintro rfl
    have h1 := J.ck.blk
    have h2 := K
    unfold Blk at h1 h2
    rw [h1] at h2
    simp at h2
    exact hne.1 h2.2.symm
  exact ⟨ab, cb, aA, cA, aS, cS, T, c, J.ck.turned ht hg, J.le, ht.own J.ob (own_ne K J.ob hne.2.1), ht.own J.oA (own_ne K J.oA hne.2.2.1), ht.own J.oS (own_ne K J.oS hne.2.2.1),
    J.hand.turned ht (fun p hp k hk => own_ne K (J.hand.own p hp).2 hne.2.2.2 k hk), J.nd, J.cr, J.lo, J.hi⟩

/-- A cache of a map, of which so many heights were asked at most. -/
def CN (w : World) (base g : Nat) (F : List Int) (W H cell : Nat) (ox oy : Int) (room k : Nat) : Prop := ∃ L m s, m ≤ k ∧ s ≤ k ∧ CacheI w base g F W H cell ox oy room L m s
section
variable {w w' : World} {base g : Nat} {F : List Int} {W H cell : Nat} {ox oy : Int} {room k : Nat}
theorem CN.below (J : CN w base g F W H cell ox oy room k) (hb : Below w.heap.size w w') : CN w' base g F W H cell ox oy room k := by
  obtain ⟨L, m, s, h1, h2, J⟩ := J
  exact ⟨L, m, s, h1, h2, J.below hb⟩
theorem CN.drew (J : CN w base g F W H cell ox oy room k) : CN w.drew base g F W H cell ox oy room k := by
  obtain ⟨L, m, s, h1, h2, J⟩ := J
  exact ⟨L, m, s, h1, h2, J.drew⟩
theorem CN.mono (J : CN w base g F W H cell ox oy room k) {k' : Nat} (h : k ≤ k') : CN w base g F W H cell ox oy room k' := by
  obtain ⟨L, m, s, h1, h2, J⟩ := J
  exact ⟨L, m, s, by omega, by omega, J⟩
theorem CN.lower (J : CN w base g F W H cell ox oy room k) {b' : Nat} (h : b' ≤ base) : CN w b' g F W H cell ox oy room k := by
  obtain ⟨L, m, s, h1, h2, J⟩ := J
  exact ⟨L, m, s, h1, h2, J.base h⟩
theorem CN.lt (J : CN w base g F W H cell ox oy room k) : g < w.heap.size := by
  obtain ⟨L, m, s, h1, h2, J⟩ := J
  exact J.lt
theorem CN.le (J : CN w base g F W H cell ox oy room k) : base ≤ g := by
  obtain ⟨L, m, s, h1, h2, J⟩ := J
  exact J.le
theorem CN.keep (J : CN w base g F W H cell ox oy room k) {b : Nat} {t : TypeId} {cs : List Value} (ht : Turned (fun k => k = b) w w') (K : Blk w b t cs) (hne : t ≠ 108 ∧ t ≠ 5 ∧ t ≠ 3 ∧ t ≠ 51) : CN w' base g F W H cell ox oy room k := by
  obtain ⟨L, m, s, h1, h2, J⟩ := J
  exact ⟨L, m, s, h1, h2, J.keepB ht K hne⟩
theorem CN.blk (J : CN w base g F W H cell ox oy room k) (ht : Turned (fun k => k = g) w w') {b : Nat} {t : TypeId} {cs : List Value} (K : Blk w b t cs) (hne : t ≠ 108) : Blk w' b t cs := by
  obtain ⟨L, m, s, h1, h2, J⟩ := J
  exact J.blk ht K hne
theorem CN.own (J : CN w base g F W H cell ox oy room k) (ht : Turned (fun k => k = g) w w') {b : Nat} {e : TypeId} {size n : Nat} {v : Value} {xs : List Value} (ho : w.ownsRow b e size v n xs) (hne : 108 ≠ e) : w'.ownsRow b e size v n xs := by
  obtain ⟨L, m, s, h1, h2, J⟩ := J
  exact J.own ht ho hne
theorem CN.height (J : CN w base g F W H cell ox oy room k) (O : MapOk F W H cell ox oy) (hk : k < 1000000) (x y : Int) :
    Calls Tryz.prog 56 #[.pointer (some ⟨g, 0, none⟩), .int .i64 x, .int .i64 y] w fun e w' => e = .returned (told F W H x y) ∧ CN w' base g F W H cell ox oy room (k + 1) ∧ Turned (fun k => k = g) w w' := by
  obtain ⟨L, m, s, h1, h2, J⟩ := J
  refine (height_told base g F W H cell ox oy room L m s x y O (by omega) (by omega) w J).mono ?_
  rintro e w' ⟨he, hJ, hT⟩
  exact ⟨he, ⟨_, _, _, by split <;> omega, by split <;> omega, hJ⟩, hT⟩
theorem CN.chart (J : CN w base g F W H cell ox oy room k) : Calls Tryz.prog 54 #[.pointer (some ⟨g, 0, none⟩)] w fun e w' => e = .returned (cv W H (.slice none 0 0) cell ox oy) ∧ Below w.heap.size w w' := by
  obtain ⟨L, m, s, h1, h2, J⟩ := J
  exact chart10_of base g F W H cell ox oy room L m s w J
end

/-- The heights that are known, and how far the place is behind the first. -/
def arL (z : Nat → Int) (i : Nat) (fx fy : Int) : List Value := [.int .i64 (if 0 < i then z 0 else 0), .int .i64 (if 1 < i then z 1 else 0), .int .i64 (if 2 < i then z 2 else 0), .int .i64 (if 3 < i then z 3 else 0), .int .i64 fx, .int .i64 fy]
theorem arL_cell (z : Nat → Int) (i : Nat) (hi : i < 4) (fx fy : Int) : (arL z i fx fy)[i]? = some (.int .i64 0) := by
  rcases (by omega : i = 0 ∨ i = 1 ∨ i = 2 ∨ i = 3) with rfl | rfl | rfl | rfl <;> rfl
theorem arL_set (z : Nat → Int) (i : Nat) (hi : i < 4) (fx fy : Int) : (arL z i fx fy).set i (.int .i64 (z i)) = arL z (i + 1) fx fy := by
  rcases (by omega : i = 0 ∨ i = 1 ∨ i = 2 ∨ i = 3) with rfl | rfl | rfl | rfl <;> rfl
abbrev zero6 : List Value := [.int .i64 0, .int .i64 0, .int .i64 0, .int .i64 0, .int .i64 0, .int .i64 0]

set_option maxRecDepth 20000 in
set_option maxHeartbeats 3200000 in
theorem lookOff_go (base g : Nat) (F : List Int) (W H cell : Nat) (ox oy : Int) (room k : Nat) (x y : Int) (w : World) (J : CN w base g F W H cell ox oy room k)
    (C1 : Ans 13 #[cv W H (.slice none 0 0) cell ox oy, sv x y] (.bool false)) :
    Calls Tryz.prog 29 #[.pointer (some ⟨g, 0, none⟩), sv x y] w fun e w' => e = .returned (.tuple #[.agg zero6.toArray, .int .i64 9]) ∧ Below w.heap.size w w' := by
  obtain ⟨w1, hw1⟩ : ∃ w1, (w.alloc (.cells #[.int .i64 x, .int .i64 y] 37)).alloc (.cells #[.int .i64 0, .int .i64 0, .int .i64 0, .int .i64 0, .int .i64 0, .int .i64 0] 70) = w1 := ⟨_, rfl⟩
  have hB1 : Below w.heap.size w w1 := by rw [← hw1]; exact ((Below.refl _ _).alloc (Nat.le_refl _) _).alloc (by simp) _
  have K1 : Blk w1 w.heap.size 37 [.int .i64 x, .int .i64 y] := by rw [← hw1]; exact (Blk.new w _ _).alloc _
  have K2 : Blk w1 (w.heap.size + 1) 70 zero6 := by
    rw [← hw1]
    have := Blk.new (w.alloc (.cells #[.int .i64 x, .int .i64 y] 37)) 70 zero6
    rw [World.size_alloc] at this
    exact this
  have J1 := J.below hB1
  have D := Lib.hid (J1.drew.chart)
  have d0 := K1.cell (i := 0) rfl
  have d1 := K1.cell (i := 1) rfl
  have HW1 := Lib.hid hw1
  have HB1 := Lib.hid hB1
  clear hw1 J J1 hB1
  go_enter Tryz.func29, Tryz.ntmps29
  go_upto_region 1 with fail
  rw [HW1.out]
  clear HW1
  refine wp_region_held_drew (S := (fun w' : World => w'.cell? ⟨w.heap.size, 0, none⟩ = some (.int .i64 x) ∧ w'.cell? ⟨w.heap.size, 1, none⟩ = some (.int .i64 y))) (by kernel_rfl) (⟨d0, d1⟩) (fun hHeld => ?_)
  refine wpAnyH_take (i := 0) (v := ?v1) rfl (by kernel_rfl) (by kernel_rfl) (by kernel_rfl) (fun _ _ _ h => h) (Or.inl ⟨by rfl, ?hy1⟩) hHeld ?rest1
  case hy1 => (intro w' hSw; (try dsimp only at hSw); go_simp; (try with_reducible rfl))
  try simp only [Act.put, List.setIfInBounds_toArray, List.set_cons_zero, List.set_cons_succ, List.getElem_toArray, List.getElem_cons_zero, List.getElem_cons_succ]
  refine wpAnyH_take (i := 2) (v := ?v2) rfl (by kernel_rfl) (by kernel_rfl) (by kernel_rfl) (fun _ _ _ h => h) (Or.inl ⟨by rfl, ?hy2⟩) hHeld ?rest2
  case hy2 => (intro w' hSw; (try dsimp only at hSw); go_simp; (try with_reducible rfl))
  try simp only [Act.put, List.setIfInBounds_toArray, List.set_cons_zero, List.set_cons_succ, List.getElem_toArray, List.getElem_cons_zero, List.getElem_cons_succ]
  refine wpAnyH_ready (rs := [1]) (by kernel_rfl) (by simp) ?_
  refine AllReadyH.cons rfl (fun K hK => ?_) AllReadyH.nil
  go_simp
  refine D.out.mono ?_
  rintro e w2 ⟨rfl, hA⟩
  replace K1 := K1.drew.below hA K1.lt
  replace K2 := K2.drew.below hA K2.lt
  have hB2 := HB1.out.drew.trans (hA.mono HB1.out.size)
  clear D hA
  try go_wp2_with fail
  refine hK.out _ _ (⟨K1.cell (i := 0) rfl, K1.cell (i := 1) rfl⟩) (fun hHeld => ?_)
  clear hK K
  try simp only [Act.put, List.setIfInBounds_toArray, List.set_cons_zero, List.set_cons_succ, List.getElem_toArray, List.getElem_cons_zero, List.getElem_cons_succ]
  refine wpAnyH_ready (rs := [3]) (by kernel_rfl) (by simp) ?_
  refine AllReadyH.cons rfl (fun K hK => ?_) AllReadyH.nil
  go_simp
  refine (C1 _).mono ?_
  rintro e w3 ⟨rfl, hA⟩
  replace K1 := K1.below hA K1.lt
  replace K2 := K2.below hA K2.lt
  have hB3 := hB2.trans (hA.mono hB2.size)
  clear C1 hA
  try go_wp2_with fail
  refine hK.out _ _ (⟨K1.cell (i := 0) rfl, K1.cell (i := 1) rfl⟩) (fun hHeld => ?_)
  clear hK K
  try simp only [Act.put, List.setIfInBounds_toArray, List.set_cons_zero, List.set_cons_succ, List.getElem_toArray, List.getElem_cons_zero, List.getElem_cons_succ]
  refine wpAnyH_take (i := 4) (v := ?v5) rfl (by kernel_rfl) (by kernel_rfl) (by kernel_rfl) (fun _ _ _ h => h) (Or.inl ⟨by rfl, ?hy5⟩) hHeld ?rest5
  case hy5 => (intro w' hSw; (try dsimp only at hSw); go_simp; (try with_reducible rfl))
  try simp only [Act.put, List.setIfInBounds_toArray, List.set_cons_zero, List.set_cons_succ, List.getElem_toArray, List.getElem_cons_zero, List.getElem_cons_succ]
  refine wpAnyH_done (by kernel_rfl) ?_ _
  have c0 := K2.cell (i := 0) rfl
  have c1 := K2.cell (i := 1) rfl
  have c2 := K2.cell (i := 2) rfl
  have c3 := K2.cell (i := 3) rfl
  have c4 := K2.cell (i := 4) rfl
  have c5 := K2.cell (i := 5) rfl
  have f0 := K2.free 0
  have f1 := K2.free 1
  have f2 := K2.free 2
  have f3 := K2.free 3
  have f4 := K2.free 4
  have f5 := K2.free 5
  go_wp2_with fail
  refine bodyPost_ret (v := .tuple #[.agg zero6.toArray, .int .i64 9]) (res_blk_tmp rfl rfl (blk_set6 K2 _ _ _ _ _ _) Tryz.underlying70 rfl (by kernel_rfl) rfl) rfl ?_
  exact ⟨rfl, (turned_set6 w3 (w.heap.size + 1) (.int .i64 0) (.int .i64 0) (.int .i64 0) (.int .i64 0) (.int .i64 0) (.int .i64 0)).old hB3 hB3.size (by rintro j hj rfl; omega)⟩

set_option maxRecDepth 20000 in
set_option maxHeartbeats 12800000 in
theorem lookIn_go (base g : Nat) (F : List Int) (W H cell : Nat) (ox oy : Int) (room k : Nat) (X Y u0 u1 v0 v1 : Nat) (fx fy c : Int) (zc cc : Nat → Int) (O : MapOk F W H cell ox oy) (hk : k ≤ 900000) (w : World) (J : CN w base g F W H cell ox oy room k)
    (hz : ∀ i, i < 4 → wrap64 (zc i) = zc i ∧ IntKind.i64.wrap (zc i) = zc i)
    (ht : ∀ i, i < 4 → told F W H ((if i % 2 = 0 then u0 else u1 : Nat) : Int) ((if i / 2 = 0 then v0 else v1 : Nat) : Int) = .tuple #[.int .i16 (zc i), .int .i64 (cc i)])
    (hc : ∀ i, i < 4 → cc i ≠ 0 → c = cc i ∧ c ≠ 0) (h0 : (∀ i, i < 4 → cc i = 0) → c = 0)
    (C1 : Ans 13 #[cv W H (.slice none 0 0) cell ox oy, sv X Y] (.bool true))
    (C2 : Ans 55 #[.int .i64 X] (.tuple #[.int .i64 u0, .int .i64 u1, .int .i64 fx])) (C3 : Ans 55 #[.int .i64 Y] (.tuple #[.int .i64 v0, .int .i64 v1, .int .i64 fy])) :
    Calls Tryz.prog 29 #[.pointer (some ⟨g, 0, none⟩), sv X Y] w fun e w' => e = .returned (.tuple #[.agg (if c = 0 then arL zc 4 fx fy else zero6).toArray, .int .i64 c]) ∧ CN w' base g F W H cell ox oy room (k + 4) ∧ Turned (fun b => b = g) w w' := by
  obtain ⟨w1, hw1⟩ : ∃ w1, (w.alloc (.cells #[.int .i64 X, .int .i64 Y] 37)).alloc (.cells #[.int .i64 0, .int .i64 0, .int .i64 0, .int .i64 0, .int .i64 0, .int .i64 0] 70) = w1 := ⟨_, rfl⟩
  have hB1 : Below w.heap.size w w1 := by rw [← hw1]; exact ((Below.refl _ _).alloc (Nat.le_refl _) _).alloc (by simp) _
  have K1 : Blk w1 w.heap.size 37 [.int .i64 X, .int .i64 Y] := by rw [← hw1]; exact (Blk.new w _ _).alloc _
  have K2 : Blk w1 (w.heap.size + 1) 70 zero6 := by
    rw [← hw1]
    have := Blk.new (w.alloc (.cells #[.int .i64 X, .int .i64 Y] 37)) 70 zero6
    rw [World.size_alloc] at this
    exact this
  have hg := J.lt
  have J1 := J.below hB1
  have D := Lib.hid (J1.drew.chart)
  have d0 := K1.cell (i := 0) rfl
  have d1 := K1.cell (i := 1) rfl
  have HW1 := Lib.hid hw1
  have HB1 := Lib.hid hB1
  have HJ := Lib.hid J
  have HO := Lib.hid O
  have HZ := Lib.hid hz
  have HT := Lib.hid ht
  have HC := Lib.hid hc
  have H0 := Lib.hid h0
  clear hw1 J J1 hB1 O hz ht hc h0
  go_enter Tryz.func29, Tryz.ntmps29
  go_upto_region 1 with fail
  rw [HW1.out]
  clear HW1
  refine wp_region_held_drew (S := (fun w' : World => w'.cell? ⟨w.heap.size, 0, none⟩ = some (.int .i64 X) ∧ w'.cell? ⟨w.heap.size, 1, none⟩ = some (.int .i64 Y))) (by kernel_rfl) (⟨d0, d1⟩) (fun hHeld => ?_)
  refine wpAnyH_take (i := 0) (v := ?v6) rfl (by kernel_rfl) (by kernel_rfl) (by kernel_rfl) (fun _ _ _ h => h) (Or.inl ⟨by rfl, ?hy6⟩) hHeld ?rest6
  case hy6 => (intro w' hSw; (try dsimp only at hSw); go_simp; (try with_reducible rfl))
  try simp only [Act.put, List.setIfInBounds_toArray, List.set_cons_zero, List.set_cons_succ, List.getElem_toArray, List.getElem_cons_zero, List.getElem_cons_succ]
  refine wpAnyH_take (i := 2) (v := ?v7) rfl (by kernel_rfl) (by kernel_rfl) (by kernel_rfl) (fun _ _ _ h => h) (Or.inl ⟨by rfl, ?hy7⟩) hHeld ?rest7
  case hy7 => (intro w' hSw; (try dsimp only at hSw); go_simp; (try with_reducible rfl))
  try simp only [Act.put, List.setIfInBounds_toArray, List.set_cons_zero, List.set_cons_succ, List.getElem_toArray, List.getElem_cons_zero, List.getElem_cons_succ]
  refine wpAnyH_ready (rs := [1]) (by kernel_rfl) (by simp) ?_
  refine AllReadyH.cons rfl (fun K hK => ?_) AllReadyH.nil
  go_simp
  refine D.out.mono ?_
  rintro e w2 ⟨rfl, hA⟩
  replace K1 := K1.drew.below hA K1.lt
  replace K2 := K2.drew.below hA K2.lt
  have hB2 := HB1.out.drew.trans (hA.mono HB1.out.size)
  clear D hA
  try go_wp2_with fail
  refine hK.out _ _ (⟨K1.cell (i := 0) rfl, K1.cell (i := 1) rfl⟩) (fun hHeld => ?_)
  clear hK K
  try simp only [Act.put, List.setIfInBounds_toArray, List.set_cons_zero, List.set_cons_succ, List.getElem_toArray, List.getElem_cons_zero, List.getElem_cons_succ]
  refine wpAnyH_ready (rs := [3]) (by kernel_rfl) (by simp) ?_
  refine AllReadyH.cons rfl (fun K hK => ?_) AllReadyH.nil
  go_simp
  refine (C1 _).mono ?_
  rintro e w3 ⟨rfl, hA⟩
  replace K1 := K1.below hA K1.lt
  replace K2 := K2.below hA K2.lt
  have hB3 := hB2.trans (hA.mono hB2.size)
  clear C1 hA
  try go_wp2_with fail
  refine hK.out _ _ (⟨K1.cell (i := 0) rfl, K1.cell (i := 1) rfl⟩) (fun hHeld => ?_)
  clear hK K
  try simp only [Act.put, List.setIfInBounds_toArray, List.set_cons_zero, List.set_cons_succ, List.getElem_toArray, List.getElem_cons_zero, List.getElem_cons_succ]
  refine wpAnyH_take (i := 4) (v := ?v10) rfl (by kernel_rfl) (by kernel_rfl) (by kernel_rfl) (fun _ _ _ h => h) (Or.inl ⟨by rfl, ?hy10⟩) hHeld ?rest10
  case hy10 => (intro w' hSw; (try dsimp only at hSw); go_simp; (try with_reducible rfl))
  try simp only [Act.put, List.setIfInBounds_toArray, List.set_cons_zero, List.set_cons_succ, List.getElem_toArray, List.getElem_cons_zero, List.getElem_cons_succ]
  refine wpAnyH_done (by kernel_rfl) ?_ _
  clear d0 d1
  have d0 := K1.cell (i := 0) rfl
  go_wp2_with fail
  refine (C2 _).mono ?_
  rintro e w4 ⟨rfl, hA⟩
  replace K1 := K1.below hA K1.lt
  replace K2 := K2.below hA K2.lt
  have hB4 := hB3.trans (hA.mono hB3.size)
  clear C2 hA d0 hB3 hB2
  have d1 := K1.cell (i := 1) rfl
  go_wp2_with fail
  refine (C3 _).mono ?_
  rintro e w5 ⟨rfl, hA⟩
  replace K2 := K2.below hA K2.lt
  have HB5 := Lib.hid (hB4.trans (hA.mono hB4.size))
  clear C3 hA d1 hB4 K1
  go_wp2_with fail
  have hBn : Below w5.heap.size w5 (w5.alloc (.cells #[.int .i64 0, .int .i64 0, .int .i64 0, .int .i64 0, .int .i64 fx, .int .i64 fy] 70)) := (Below.refl _ _).alloc (Nat.le_refl _) _
  have K12 : Blk (w5.alloc (.cells #[.int .i64 0, .int .i64 0, .int .i64 0, .int .i64 0, .int .i64 fx, .int .i64 fy] 70)) w5.heap.size 70 (arL zc 0 fx fy) := Blk.new w5 _ _
  have HG : Hid (w.heap.size + 1 < w5.heap.size) := Lib.hid K2.lt
  replace K2 := K2.below hBn K2.lt
  have hT : Turned (fun b => b = g) w (w5.alloc (.cells #[.int .i64 0, .int .i64 0, .int .i64 0, .int .i64 0, .int .i64 fx, .int .i64 fy] 70)) := Turned.below (HB5.out.trans (hBn.mono HB5.out.size))
  have J5 := (HJ.out.below HB5.out).below hBn
  obtain ⟨g12, hg12⟩ : ∃ q, w5.heap.size = q := ⟨_, rfl⟩
  rw [hg12] at K12 HG
  rw [hg12]
  clear hBn hg12
  go_loopw [53] (fun q wx => ∃ i : Nat, i ≤ 4 ∧ q = .int .i64 i ∧ Hid (∀ j, j < i → cc j = 0) ∧ Blk wx g12 70 (arL zc i fx fy) ∧ Blk wx (w.heap.size + 1) 70 zero6 ∧ CN wx base g F W H cell ox oy room (k + i) ∧ Turned (fun b => b = g) w wx) (fun q _ => 4 - (intOf q).toNat)
  case atStart => exact ⟨0, by omega, rfl, Lib.hid (fun j hj => absurd hj (Nat.not_lt_zero j)), K12, K2, J5, hT⟩
  case round =>
    clear K12 K2 J5 hT
    obtain ⟨i, hi, rfl, hj, K12, K2, J6, hT⟩ := hrel
    by_cases hlt : i < 4
    · obtain ⟨uu, huu⟩ : ∃ q, q = (if i % 2 = 0 then u0 else u1) := ⟨_, rfl⟩
      obtain ⟨vv, hvv⟩ : ∃ q, q = (if i / 2 = 0 then v0 else v1) := ⟨_, rfl⟩
      have HI : ∀ w : World, (Instr.index 113 (.agg #[.int .i64 u0, .int .i64 v0, .int .i64 u1, .int .i64 v0, .int .i64 u0, .int .i64 v1, .int .i64 u1, .int .i64 v1]) (.int .i64 (i : Int))).run Tryz.prog w = .ok (.agg #[.int .i64 uu, .int .i64 vv]) w := by
        intro w
        subst huu hvv
        rcases (by omega : i = 0 ∨ i = 1 ∨ i = 2 ∨ i = 3) with rfl | rfl | rfl | rfl <;> kernel_rfl
      have hBa : Below wr.heap.size wr (wr.alloc (.cells #[.int .i64 uu, .int .i64 vv] 112)) := (Below.refl _ _).alloc (Nat.le_refl _) _
      have Ja := J6.below hBa
      have D := Ja.height HO.out (by omega) (uu : Int) (vv : Int)
      rw [huu, hvv, HT.out i hlt, ← huu, ← hvv] at D
      obtain ⟨z, hzz⟩ : ∃ z, z = zc i := ⟨_, rfl⟩
      obtain ⟨d, hdd⟩ : ∃ d, d = cc i := ⟨_, rfl⟩
      obtain ⟨hz1, hz2⟩ := HZ.out i hlt
      rw [← hzz, ← hdd] at D
      rw [← hzz] at hz1 hz2
      have HDD := Lib.hid hdd
      have HZZ := Lib.hid hzz
      have HD := Lib.hid D
      have HLT := Lib.hid hlt
      have HJa := Lib.hid Ja
      have HTa := Lib.hid (hT.trans (Turned.below (S := fun b => b = g) hBa) (fun _ _ h => h))
      replace K12 := K12.below hBa K12.lt
      replace K2 := K2.below hBa K2.lt
      clear hzz hdd D huu hvv Ja J6 hT hBa
      go_wp2_with fail
      refine HD.out.mono ?_
      rintro e w6 ⟨rfl, J6, hT6⟩
      have HT6 := Lib.hid (HTa.out.trans hT6 (fun _ _ h => h))
      replace K12 := HJa.out.blk hT6 K12 (by decide)
      replace K2 := HJa.out.blk hT6 K2 (by decide)
      have HJ6 := Lib.hid J6
      clear HD HJa HTa J6 hT6
      by_cases hd0 : d = 0
      · subst hd0
        have c0 := K12.cell (arL_cell zc i hlt fx fy)
        have f0 := K12.free i
        go_wp2_with fail
        have hs : Turned (fun b => b = g12) w6 (w6.setCell ⟨g12, i, none⟩ (.int .i64 z)) := (Turned.refl (fun b => b = g12) w6).setCell (.inl rfl) _
        have J7 := HJ6.out.keep hs K12 (by decide)
        have K7 := K12.set i (.int .i64 z) (by show i < 6; omega)
        rw [HZZ.out, arL_set zc i hlt] at K7
        have hg7 := HG.out
        go_roundw
        case rel =>
          refine ⟨i + 1, by omega, by go_num, Lib.hid (fun j hj' => ?_), by rw [HZZ.out]; exact K7, K2.turned hs (by omega), J7, HT6.out.trans hs (fun b hb e => absurd e (by omega))⟩
          by_cases e : j = i
          · rw [e]; exact HDD.out.symm
          · exact hj.out j (by omega)
        case measure => simp [intOf]; omega
      · have b1 : ((d : Int) != 0) = true := by simp [hd0]
        obtain ⟨e1, e2⟩ := HC.out i HLT.out (by rw [← HDD.out]; exact hd0)
        have HE1 := Lib.hid e1
        have HE2 := Lib.hid e2
        have c0 := K2.cell (i := 0) rfl
        have c1 := K2.cell (i := 1) rfl
        have c2 := K2.cell (i := 2) rfl
        have c3 := K2.cell (i := 3) rfl
        have c4 := K2.cell (i := 4) rfl
        have c5 := K2.cell (i := 5) rfl
        have f0 := K2.free 0
        have f1 := K2.free 1
        have f2 := K2.free 2
        have f3 := K2.free 3
        have f4 := K2.free 4
        have f5 := K2.free 5
        clear e1 e2
        go_wp2_with fail
        refine bodyPost_ret (v := .tuple #[.agg zero6.toArray, .int .i64 d]) (res_blk_tmp rfl rfl (blk_set6 K2 _ _ _ _ _ _) Tryz.underlying70 rfl (by kernel_rfl) rfl) rfl ?_
        have ht := turned_set6 w6 (w.heap.size + 1) (.int .i64 0) (.int .i64 0) (.int .i64 0) (.int .i64 0) (.int .i64 0) (.int .i64 0)
        exact ⟨by first | rw [if_neg HE2.out, HE1.out, HDD.out] | rw [HE1.out, HDD.out], (HJ6.out.keep ht K2 (by decide)).mono (by omega), HT6.out.trans ht (fun b hb e => absurd e (by omega))⟩
    · obtain rfl : i = 4 := by omega
      have HE := Lib.hid (H0.out hj.out)
      have c0 := K2.cell (i := 0) rfl
      have c1 := K2.cell (i := 1) rfl
      have c2 := K2.cell (i := 2) rfl
      have c3 := K2.cell (i := 3) rfl
      have c4 := K2.cell (i := 4) rfl
      have c5 := K2.cell (i := 5) rfl
      have f0 := K2.free 0
      have f1 := K2.free 1
      have f2 := K2.free 2
      have f3 := K2.free 3
      have f4 := K2.free 4
      have f5 := K2.free 5
      have a0 := K12.cell (i := 0) (u := .int .i64 (zc 0)) rfl
      have a1 := K12.cell (i := 1) (u := .int .i64 (zc 1)) rfl
      have a2 := K12.cell (i := 2) (u := .int .i64 (zc 2)) rfl
      have a3 := K12.cell (i := 3) (u := .int .i64 (zc 3)) rfl
      have a4 := K12.cell (i := 4) (u := .int .i64 fx) rfl
      have a5 := K12.cell (i := 5) (u := .int .i64 fy) rfl
      go_wp2_with fail
      refine bodyPost_ret (v := .tuple #[.agg (arL zc 4 fx fy).toArray, .int .i64 0]) (res_blk_tmp rfl rfl (blk_set6 K2 _ _ _ _ _ _) Tryz.underlying70 rfl (by kernel_rfl) rfl) rfl ?_
      have ht := turned_set6 wr (w.heap.size + 1) (.int .i64 (zc 0)) (.int .i64 (zc 1)) (.int .i64 (zc 2)) (.int .i64 (zc 3)) (.int .i64 fx) (.int .i64 fy)
      exact ⟨by first | rw [HE.out, if_pos rfl] | rfl, J6.keep ht K2 (by decide), hT.trans ht (fun b hb e => absurd e (by omega))⟩
end Go.Proofs.YtlkjcamjgaecgaaGreat
