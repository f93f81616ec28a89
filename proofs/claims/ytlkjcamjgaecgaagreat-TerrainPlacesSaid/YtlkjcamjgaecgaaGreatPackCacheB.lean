/-
  Texts in one: CacheH, CacheN, CacheR, CacheU, CacheL.
-/
import Derived.Test.YtlkjcamjgaecgaaGreatPackCacheA
import Derived.Test.YtlkjcamjgaecgaaGreatPackTile
import Derived.Test.YtlkjcamjgaecgaaGreatPackBits
set_option linter.unusedVariables false
set_option linter.unusedSimpArgs false

/-
  Which tiles are at hand, told; a new cache: the code's.
-/
namespace Go.Proofs.YtlkjcamjgaecgaaGreat
open Go Go.RowKit Go.Th Go.Th.Crc

theorem chart10_of (base g : Nat) (F : List Int) (W H cell : Nat) (ox oy : Int) (room : Nat) (L : List Nat) (m s : Nat) (w : World) (J : CacheI w base g F W H cell ox oy room L m s) :
    Calls Tryz.prog 54 #[.pointer (some ⟨g, 0, none⟩)] w fun e w' => e = .returned (cv W H (.slice none 0 0) cell ox oy) ∧ Below w.heap.size w w' := by
  obtain ⟨ab, cb, aA, cA, aS, cS, T, c, J⟩ := J
  exact chart10_any g _ T c m s W H cell ox oy rfl rfl rfl rfl rfl rfl w J.ck

/-! ### New -/
theorem newRoom_go (a : Option Addr) (n cap : Nat) (room : Int) (hr : ¬ (4 ≤ room ∧ room ≤ 32)) (w : World) :
    Calls Tryz.prog 28 #[.slice a n cap, .int .i64 room] w fun e w' => e = .returned (.tuple #[.pointer none, .int .i64 12]) ∧ w = w' := by
  by_cases h : room < 4
  · clear hr
    go_enter Tryz.func28, Tryz.ntmps28
    go_wp2_with fail
    go_ret2
    exact ⟨rfl, by trivial⟩
  · have h2 : 32 < room := by omega
    clear hr
    go_enter Tryz.func28, Tryz.ntmps28
    go_wp2_with fail
    go_ret2
    exact ⟨rfl, by trivial⟩

theorem wp_bd3 {P : Program} {o : Oper} {a : Act} {w : World} {K : Act → World → Prop} {Q : Exit → Act → World → Prop} {ty : TypeId} {x y z : Operand} {u v t : Value} {cs : List Value} (ho : o.op = .build ty #[(0, x), (1, y), (2, z)]) (hx : a.eval x = u) (hy : a.eval y = v) (hz : a.eval z = t)
    (hb : P.built ty [(0, u), (1, v), (2, t)] = some cs.toArray) (h : K (a.put o.dst (.agg cs.toArray)) w) : o.wp P a w K Q := wp_bd ho (by simpa [hx, hy, hz] using hb) h
/-- No tiles. -/
def T0 : List (Nat × Value) := List.replicate 32 (0, .slice none 0 0)
theorem T0_length : T0.length = 32 := by unfold T0; rw [List.length_replicate]
theorem T0_mem : ∀ p ∈ T0, ∃ a n cap, p.2 = .slice a n cap := by
  intro p hp
  obtain ⟨_, rfl⟩ := List.mem_replicate.1 hp
  exact ⟨none, 0, 0, rfl⟩
theorem built10 (ab : Option Addr) (n cb W H cell : Nat) (ox oy : Int) (aA : Option Addr) (n9 cA : Nat) (aS : Option Addr) (cS room : Nat) :
    Tryz.prog.built 108 [(0, .slice ab n cb), (1, dv W H (.slice none 0 0) cell ox oy (.slice aA n9 cA) (.slice aS n9 cS)), (2, .int .i64 room)] = some (cc (hdr ab n cb W H cell ox oy aA n9 cA aS cS room) T0 0 0 0).toArray := by kernel_rfl

set_option maxRecDepth 20000 in
set_option maxHeartbeats 1600000 in
theorem new_go (a : Option Addr) (n cap room : Nat) (P : Int → Prop) (R : Nat → Nat → Nat → Int → Int → Nat → List Nat → List Nat → Prop) (bs : List Nat) (hr : 4 ≤ room) (hr2 : room ≤ 32) (w : World)
    (CG : Hid (Calls Tryz.prog 51 #[.slice a n cap] w fun e w' => ∃ (c : Int) (W H : Nat) (v : Value) (cell : Nat) (ox oy : Int), e = .returned (.tuple #[cv W H v cell ox oy, .int .i64 c]) ∧ P c ∧ (∃ a n cap, v = .slice a n cap) ∧ Below w.heap.size w w'))
    (CO : Hid (P 0 → ∀ wx, Below w.heap.size w wx → Calls Tryz.prog 52 #[.slice a n cap] wx fun e w' => ∃ (W H cell : Nat) (ox oy : Int) (n9 : Nat) (A S : List Nat) (va vs : Value), R W H cell ox oy n9 A S ∧ e = .returned (.tuple #[dv W H (.slice none 0 0) cell ox oy va vs, .int .i64 0]) ∧ w'.ownsRow wx.heap.size 3 1 va n9 (ints A) ∧ w'.ownsRow wx.heap.size 3 1 vs n9 (ints S) ∧ Below wx.heap.size wx w'))
    (CC : Hid (∀ wx, Below w.heap.size w wx → Calls Tryz.prog 53 #[.slice a n cap] wx fun e w' => ∃ v, e = .returned v ∧ w'.ownsRow wx.heap.size 5 1 v n (u8s bs) ∧ Below wx.heap.size wx w')) :
    Calls Tryz.prog 28 #[.slice a n cap, .int .i64 room] w fun e w' => (∃ c, P c ∧ c ≠ 0 ∧ e = .returned (.tuple #[.pointer none, .int .i64 c]) ∧ Below w.heap.size w w') ∨
      (P 0 ∧ ∃ (W H cell : Nat) (ox oy : Int) (n9 : Nat) (A S : List Nat) (g : Nat) (ab : Option Addr) (cb : Nat) (aA : Option Addr) (cA : Nat) (aS : Option Addr) (cS : Nat), R W H cell ox oy n9 A S ∧ e = .returned (.tuple #[.pointer (some ⟨g, 0, none⟩), .int .i64 0]) ∧
      CK w' g (hdr ab n cb W H cell ox oy aA n9 cA aS cS room) T0 0 0 0 ∧ w.heap.size ≤ g ∧ w'.ownsRow w.heap.size 5 1 (.slice ab n cb) n (u8s bs) ∧ w'.ownsRow w.heap.size 3 1 (.slice aA n9 cA) n9 (ints A) ∧ w'.ownsRow w.heap.size 3 1 (.slice aS n9 cS) n9 (ints S) ∧ Below w.heap.size w w') := by
  have h1 : ¬ ((room : Int) < 4) := by omega
  have h2 : ¬ ((32 : Int) < (room : Int)) := by omega
  go_enter Tryz.func28, Tryz.ntmps28
  go_wp2_with fail
  refine CG.out.mono ?_
  rintro e w2 ⟨c, W', H', v, cell', ox', oy', rfl, hP, ⟨a', n', cap', rfl⟩, hB⟩
  have HP := Lib.hid hP
  clear CG hP
  by_cases hc : c = 0
  rotate_left
  · have hc' : (c != 0) = true := by simpa using hc
    have HC := Lib.hid hc
    have HB := Lib.hid hB
    clear hB hc CO CC
    go_wp2_with fail
    go_ret2
    exact .inl ⟨c, HP.out, HC.out, rfl, HB.out.alloc HB.out.size _⟩
  subst hc
  replace CO := CO.out HP.out
  have hB3 : Below w.heap.size w (w2.alloc (.cells #[.int .i64 W', .int .i64 H', .slice a' n' cap', .int .i64 cell', .int .i32 ox', .int .i32 oy'] 28)) := hB.alloc hB.size _
  obtain ⟨w3, hw3⟩ : ∃ w3, w2.alloc (.cells #[.int .i64 W', .int .i64 H', .slice a' n' cap', .int .i64 cell', .int .i32 ox', .int .i32 oy'] 28) = w3 := ⟨_, rfl⟩
  rw [hw3] at hB3
  have C2 := Lib.hid (CO w3 hB3)
  have HB3 := Lib.hid hB3
  clear CO hB hB3
  go_wp2_with fail
  refine C2.out.mono ?_
  rintro e w4 ⟨W, H, cell, ox, oy, n9, A, S, va, vs, hR, rfl, hoA, hoS, hA4⟩
  have HR := Lib.hid hR
  clear hR
  obtain ⟨aA, cA, rfl, _, _⟩ := ownsRow_slice hoA
  obtain ⟨aS, cS, rfl, _, _⟩ := ownsRow_slice hoS
  have hB4 := HB3.out.trans (hA4.mono HB3.out.size)
  obtain ⟨w5, hw5⟩ : ∃ w5, w4.alloc (.cells #[.int .i64 W, .int .i64 H, .slice none 0 0, .int .i64 cell, .int .i32 ox, .int .i32 oy, .slice aA n9 cA, .slice aS n9 cS] 101) = w5 := ⟨_, rfl⟩
  have hA5 : Below w4.heap.size w4 w5 := by rw [← hw5]; exact (Below.refl _ _).alloc (Nat.le_refl _) _
  have KD : Blk w5 w4.heap.size 101 [.int .i64 W, .int .i64 H, .slice none 0 0, .int .i64 cell, .int .i32 ox, .int .i32 oy, .slice aA n9 cA, .slice aS n9 cS] := by rw [← hw5]; exact Blk.new w4 _ _
  have hB5 := hB4.trans (hA5.mono hB4.size)
  have hoA5 := ownsRow_base (ownsRow_below hoA hA5) HB3.out.size
  have hoS5 := ownsRow_base (ownsRow_below hoS hA5) HB3.out.size
  have D3 := Lib.hid (CC.out w5.drew hB5.drew)
  have HA := Lib.hid hoA5
  have HS := Lib.hid hoS5
  have HB5 := Lib.hid hB5
  have HW5 := Lib.hid hw5
  have hbt := fun ab cb => built10 ab n cb W H cell ox oy aA n9 cA aS cS room
  have HBT := Lib.hid hbt
  clear C2 CC hoA hoS hA4 hB4 hA5 hB5 hoA5 hoS5 hw5 hbt HB3 hw3
  go_upto_region 9 with fail
  rw [HW5.out]
  clear HW5
  have d0 := KD.cell (i := 0) rfl
  have d1 := KD.cell (i := 1) rfl
  have d2 := KD.cell (i := 2) rfl
  have d3 := KD.cell (i := 3) rfl
  have d4 := KD.cell (i := 4) rfl
  have d5 := KD.cell (i := 5) rfl
  have d6 := KD.cell (i := 6) rfl
  have d7 := KD.cell (i := 7) rfl
  refine wp_region_held_drew (S := (fun w' : World => w'.cell? ⟨w4.heap.size, 0, none⟩ = some (.int .i64 W) ∧ w'.cell? ⟨w4.heap.size, 1, none⟩ = some (.int .i64 H) ∧ w'.cell? ⟨w4.heap.size, 2, none⟩ = some (.slice none 0 0) ∧ w'.cell? ⟨w4.heap.size, 3, none⟩ = some (.int .i64 cell) ∧ w'.cell? ⟨w4.heap.size, 4, none⟩ = some (.int .i32 ox) ∧ w'.cell? ⟨w4.heap.size, 5, none⟩ = some (.int .i32 oy) ∧ w'.cell? ⟨w4.heap.size, 6, none⟩ = some (.slice aA n9 cA) ∧ w'.cell? ⟨w4.heap.size, 7, none⟩ = some (.slice aS n9 cS))) (by kernel_rfl) (⟨d0, d1, d2, d3, d4, d5, d6, d7⟩) (fun hHeld => ?_)
  refine wpAnyH_take (i := 0) (v := ?v1) rfl (by kernel_rfl) (by kernel_rfl) (by kernel_rfl) (fun _ _ _ h => h) (Or.inl ⟨by rfl, ?hy1⟩) hHeld ?rest1
  case hy1 => (intro w' hSw; (try dsimp only at hSw); go_simp; (try with_reducible rfl))
  try simp only [Act.put, List.setIfInBounds_toArray, List.set_cons_zero, List.set_cons_succ, List.getElem_toArray, List.getElem_cons_zero, List.getElem_cons_succ]
  refine wpAnyH_take (i := 2) (v := ?v2) rfl (by kernel_rfl) (by kernel_rfl) (by kernel_rfl) (fun _ _ _ h => h) (Or.inl ⟨by rfl, ?hy2⟩) hHeld ?rest2
  case hy2 => (intro w' hSw; (try dsimp only at hSw); go_simp; (try with_reducible rfl))
  try simp only [Act.put, List.setIfInBounds_toArray, List.set_cons_zero, List.set_cons_succ, List.getElem_toArray, List.getElem_cons_zero, List.getElem_cons_succ]
  refine wpAnyH_take (i := 3) (v := ?v3) rfl (by kernel_rfl) (by kernel_rfl) (by kernel_rfl) (fun _ _ _ h => h) (Or.inl ⟨by rfl, ?hy3⟩) hHeld ?rest3
  case hy3 => (intro w' hSw; (try dsimp only at hSw); go_simp; (try with_reducible rfl))
  try simp only [Act.put, List.setIfInBounds_toArray, List.set_cons_zero, List.set_cons_succ, List.getElem_toArray, List.getElem_cons_zero, List.getElem_cons_succ]
  refine wpAnyH_ready (rs := [1]) (by kernel_rfl) (by simp) ?_
  refine AllReadyH.cons rfl (fun K hK => ?_) AllReadyH.nil
  go_simp
  refine D3.out.mono ?_
  rintro e w6 ⟨v6, rfl, ho6, hA6⟩
  obtain ⟨ab, cb, rfl, _, _⟩ := ownsRow_slice ho6
  replace KD := KD.drew.below hA6 KD.lt
  have hB6 := HB5.out.drew.trans (hA6.mono HB5.out.size)
  have ho6' := ownsRow_base ho6 HB5.out.size
  have hA6' := ownsRow_below (w := w5.drew) HA.out hA6
  have hS6' := ownsRow_below (w := w5.drew) HS.out hA6
  clear D3 ho6 hA6
  try go_wp2_with fail
  refine hK.out _ _ (⟨KD.cell (i := 0) rfl, KD.cell (i := 1) rfl, KD.cell (i := 2) rfl, KD.cell (i := 3) rfl, KD.cell (i := 4) rfl, KD.cell (i := 5) rfl, KD.cell (i := 6) rfl, KD.cell (i := 7) rfl⟩) (fun hHeld => ?_)
  clear hK K
  try simp only [Act.put, List.setIfInBounds_toArray, List.set_cons_zero, List.set_cons_succ, List.getElem_toArray, List.getElem_cons_zero, List.getElem_cons_succ]
  refine wpAnyH_ready (rs := [4]) (by kernel_rfl) (by simp) ?_
  refine AllReadyH.cons rfl (fun K hK => ?_) AllReadyH.nil
  rw [if_pos (by rfl)]
  refine wp_bd3 (x := .tmp 33) (y := .tmp 34) (z := .tmp 35) (cs := cc (hdr ab n cb W H cell ox oy aA n9 cA aS cS room) T0 0 0 0) rfl rfl rfl rfl (HBT.out ab cb) ?_
  refine hK.out _ _ (⟨KD.cell (i := 0) rfl, KD.cell (i := 1) rfl, KD.cell (i := 2) rfl, KD.cell (i := 3) rfl, KD.cell (i := 4) rfl, KD.cell (i := 5) rfl, KD.cell (i := 6) rfl, KD.cell (i := 7) rfl⟩) (fun hHeld => ?_)
  clear hK K
  try simp only [Act.put, List.setIfInBounds_toArray, List.set_cons_zero, List.set_cons_succ, List.getElem_toArray, List.getElem_cons_zero, List.getElem_cons_succ]
  refine wpAnyH_ready (rs := [5]) (by kernel_rfl) (by simp) ?_
  refine AllReadyH.cons rfl (fun K hK => ?_) AllReadyH.nil
  go_simp
  have KD7 := KD.alloc (.cells (cc (hdr ab n cb W H cell ox oy aA n9 cA aS cS room) T0 0 0 0).toArray 108)
  try go_wp2_with fail
  refine hK.out _ _ (⟨KD7.cell (i := 0) rfl, KD7.cell (i := 1) rfl, KD7.cell (i := 2) rfl, KD7.cell (i := 3) rfl, KD7.cell (i := 4) rfl, KD7.cell (i := 5) rfl, KD7.cell (i := 6) rfl, KD7.cell (i := 7) rfl⟩) (fun hHeld => ?_)
  clear hK K
  try simp only [Act.put, List.setIfInBounds_toArray, List.set_cons_zero, List.set_cons_succ, List.getElem_toArray, List.getElem_cons_zero, List.getElem_cons_succ]
  refine wpAnyH_take (i := 6) (v := ?v7) rfl (by kernel_rfl) (by kernel_rfl) (by kernel_rfl) (fun _ _ _ h => h) (Or.inl ⟨by rfl, ?hy7⟩) hHeld ?rest7
  case hy7 => (intro w' hSw; (try dsimp only at hSw); go_simp; (try with_reducible rfl))
  try simp only [Act.put, List.setIfInBounds_toArray, List.set_cons_zero, List.set_cons_succ, List.getElem_toArray, List.getElem_cons_zero, List.getElem_cons_succ]
  refine wpAnyH_take (i := 7) (v := ?v8) rfl (by kernel_rfl) (by kernel_rfl) (by kernel_rfl) (fun _ _ _ h => h) (Or.inl ⟨by rfl, ?hy8⟩) hHeld ?rest8
  case hy8 => (intro w' hSw; (try dsimp only at hSw); go_simp; (try with_reducible rfl))
  try simp only [Act.put, List.setIfInBounds_toArray, List.set_cons_zero, List.set_cons_succ, List.getElem_toArray, List.getElem_cons_zero, List.getElem_cons_succ]
  refine wpAnyH_done (by kernel_rfl) ?_ _
  have hB7 := hB6.alloc hB6.size (.cells (cc (hdr ab n cb W H cell ox oy aA n9 cA aS cS room) T0 0 0 0).toArray 108)
  have hA7 : Below w6.heap.size w6 (w6.alloc (.cells (cc (hdr ab n cb W H cell ox oy aA n9 cA aS cS room) T0 0 0 0).toArray 108)) := (Below.refl _ _).alloc (Nat.le_refl _) _
  have KC := Blk.new w6 108 (cc (hdr ab n cb W H cell ox oy aA n9 cA aS cS room) T0 0 0 0)
  have q1 := ownsRow_below ho6' hA7
  have q2 := ownsRow_below hA6' hA7
  have q3 := ownsRow_below hS6' hA7
  have hz6 := hB6.size
  obtain ⟨w7, hw7⟩ : ∃ w7, w6.alloc (.cells (cc (hdr ab n cb W H cell ox oy aA n9 cA aS cS room) T0 0 0 0).toArray 108) = w7 := ⟨_, rfl⟩
  rw [hw7] at hB7 KC q1 q2 q3 ⊢
  clear hw7 hA7 hB6 ho6' hA6' hS6' KD7 KD d0 d1 d2 d3 d4 d5 d6 d7
  go_wp2_with fail
  go_ret2
  exact .inr ⟨HP.out, W, H, cell, ox, oy, n9, A, S, w6.heap.size, ab, cb, aA, cA, aS, cS, HR.out, rfl, ⟨KC, rfl, T0_length, T0_mem⟩, hz6, q1, q2, q3, hB7⟩
end Go.Proofs.YtlkjcamjgaecgaaGreat

/-
  A new cache: of a map's bytes, and of any; the law's words on a cache: the code's, and the reference's.
-/
namespace Go.Proofs.YtlkjcamjgaecgaaGreat
open Go Go.RowKit Go.Th Go.Th.Crc

/-- A copy of bytes. -/
theorem clone8_any (vx : Value) (bs : List Nat) (w : World) (h : Sl w 1 vx bs.length (u8s bs)) (hl : bs.length ≤ 140737488355328) :
    Calls Tryz.prog 53 #[vx] w fun e w' => ∃ v, e = .returned v ∧ w'.ownsRow w.heap.size 5 1 v bs.length (u8s bs) ∧ Below w.heap.size w w' := by
  have hs := h
  obtain ⟨a, cap, rfl, h1, h2, h3, h4, h5⟩ := h
  cases a with
  | none =>
    obtain ⟨h0, rfl⟩ := h4 rfl
    have hnil : bs = [] := List.eq_nil_of_length_eq_zero h0
    subst hnil
    have hq : ∀ wx : World, (binOp .eql 63 (.slice none 0 0) (.slice none 0 0)).run Tryz.prog wx = .ok (.bool true) wx := fun wx => Lib.run_eql_slice_nil wx 63 5 none _ _ 0 0 Tryz.underlying63
    go_enter Tryz.func53, Tryz.ntmps53
    go_wp2
    go_ret
    exact ⟨_, rfl, World.ownsRow_nil _ _ _ _, Below.refl _ _⟩
  | some ad =>
    have hx : Sl (w.alloc (.cells #[] 5)) 1 (.slice (some ad) bs.length cap) bs.length (u8s bs) := hs.below ((Below.refl _ _).alloc (Nat.le_refl _) _)
    have hown := World.ownsRow_made (base := w.heap.size) (e := 5) (size := 1) w #[] 0 (Nat.le_refl _) (Nat.zero_le _) rfl
    have hq : ∀ wx : World, (binOp .eql 63 (.slice (some ad) bs.length cap) (.slice none 0 0)).run Tryz.prog wx = .ok (.bool false) wx := fun wx => Lib.run_eql_slice_nil wx 63 5 (some ad) _ _ 0 0 Tryz.underlying63
    go_enter Tryz.func53, Tryz.ntmps53
    go_wp2_with (at_builtin; refine wpList_app Eu8 rfl (.tmp 5) (.tmp 6) rfl w.heap.size rfl hown rfl hx (oneCell_u8s _) (by unfold maxLen; omega) (by omega) (by simp) ?_)
    intro v' w' hown' hgrow _
    go_wp2
    go_ret
    exact ⟨_, rfl, by simpa using hown', ((Below.refl _ _).alloc (Nat.le_refl _) _).grown hgrow (by simp) (fun k hk => by simp [Value.ownBlock] at hk; omega)⟩

/-- Of a map's bytes. -/
theorem new_map (F : List Int) (W H cell : Nat) (ox oy : Int) (O : MapOk F W H cell ox oy) (room : Nat) (hr : 4 ≤ room) (hr2 : room ≤ 32) (n : Nat) (hn : n = (chartB F W H cell ox oy).length) (a : Option Addr) (cap : Nat) (w : World) (hS : Sl w 1 (.slice a n cap) n (u8s (chartB F W H cell ox oy))) :
    Calls Tryz.prog 28 #[.slice a n cap, .int .i64 room] w fun e w' => ∃ g, e = .returned (.tuple #[.pointer (some ⟨g, 0, none⟩), .int .i64 0]) ∧ CacheI w' w.heap.size g F W H cell ox oy room [] 0 0 ∧ Below w.heap.size w w' := by
  subst hn
  obtain ⟨i1, i2, i3, i4⟩ := isF_yes O.hF
  obtain ⟨i5, i6⟩ := isC_yes O.hc
  have hO := opens_chart (ox := ox) (oy := oy) (F := F) (W := W) (H := H) (cell := cell) O.hl (by omega) (by omega) (by omega)
  have hs := short10 F W H cell ox oy O.hl (by omega) (by omega)
  obtain ⟨r, hr'⟩ := chartB_more F W H cell ox oy 0 (Nat.zero_le _)
  obtain ⟨_, _, _, _, r5, r6⟩ := rd_head (ox := ox) (oy := oy) (W := W) (H := H) (cell := cell) (by omega) (by omega) (by omega) hr'
  refine (new_go a _ cap room (fun c => c = 0) (fun W1 H1 cell1 ox1 oy1 n9 A S => W1 = W ∧ H1 = H ∧ cell1 = cell ∧ ox1 = ox ∧ oy1 = oy ∧ n9 = nT W H ∧ A = (List.range (nT W H)).map (offs (chartB F W H cell ox oy) W H) ∧ S = (List.range (nT W H)).map (fun i => rd (chartB F W H cell ox oy) (18 + 6 * i + 4) 2)) (chartB F W H cell ox oy) hr hr2 w
    (Lib.hid ((get9_back F W H cell ox oy O.hF O.hc O.hl O.h16 O.h1 O.h2 _ rfl (by omega) a cap w hS).mono ?_)) (Lib.hid (fun _ wx hb => (open9_yes _ W H cell _ hO rfl (by omega) (chartB_lt F W H cell ox oy) a cap wx (hS.below hb)).mono ?_)) (Lib.hid (fun wx hb => clone8_any _ _ wx (hS.below hb) (by omega)))).mono ?_
  · rintro e w' ⟨v, he, ho, hB⟩
    obtain ⟨a', cap', hv, _, _⟩ := ownsRow_slice ho
    exact ⟨0, W, H, v, cell, ox, oy, he, rfl, ⟨a', _, cap', hv⟩, hB⟩
  · rintro e w' ⟨va, vs, he, h1, h2, hB⟩
    rw [r5, r6, u32_back O.h1, u32_back O.h2] at he
    exact ⟨W, H, cell, ox, oy, nT W H, _, _, va, vs, ⟨rfl, rfl, rfl, rfl, rfl, rfl, rfl, rfl⟩, he, h1, h2, hB⟩
  · rintro e w' (⟨c, h0, h1, _⟩ | ⟨_, W1, H1, cell1, ox1, oy1, n9, A, S, g, ab, cb, aA, cA, aS, cS, ⟨rfl, rfl, rfl, rfl, rfl, rfl, rfl, rfl⟩, he, K, hg, q1, q2, q3, hB⟩)
    · exact absurd h0 h1
    · exact ⟨g, he, ⟨ab, cb, aA, cA, aS, cS, T0, 0, K, hg, q1, q2, q3, ⟨rfl, fun p hp => by simp at hp⟩, List.nodup_nil, by omega, hr, hr2⟩, hB⟩

/-- Of any bytes: Get's code. -/
theorem new_any (bs : List Nat) (n : Nat) (hn : n = bs.length) (hn2 : n ≤ 1000000) (hb : ∀ x ∈ bs, x < 256) (room : Nat) (hr : 4 ≤ room) (hr2 : room ≤ 32) (a : Option Addr) (cap : Nat) (w : World) (hS : Sl w 1 (.slice a n cap) n (u8s bs)) :
    Calls Tryz.prog 28 #[.slice a n cap, .int .i64 room] w fun e w' => ∃ (c : Int) (v : Option Addr), GetC bs c ∧ (c = 0 ↔ v.isSome = true) ∧ e = .returned (.tuple #[.pointer v, .int .i64 c]) ∧ Below w.heap.size w w' := by
  subst hn
  refine (new_go a _ cap room (fun c => GetC bs c ∧ (c = 0 → ∃ W H cell, Opens bs W H cell)) (fun _ _ _ _ _ _ _ _ => True) bs hr hr2 w
    (Lib.hid ((get9_code bs _ rfl hn2 hb a cap w hS).mono ?_)) (Lib.hid (fun h0 wx hb' => ?_)) (Lib.hid (fun wx hb => clone8_any _ _ wx (hS.below hb) (by omega)))).mono ?_
  · rintro e w' ⟨c, W, H, v, cell, ox, oy, he, h1, h2, h3, hB⟩
    exact ⟨c, W, H, v, cell, ox, oy, he, ⟨h1, h2⟩, h3, hB⟩
  · obtain ⟨W, H, cell, hO⟩ := h0.2 rfl
    refine (open9_yes _ W H cell _ hO rfl hn2 hb a cap wx (hS.below hb')).mono ?_
    rintro e w' ⟨va, vs, he, h1, h2, hB⟩
    exact ⟨W, H, cell, _, _, nT W H, _, _, va, vs, trivial, he, h1, h2, hB⟩
  · rintro e w' (⟨c, h0, h1, he, hB⟩ | ⟨h0, W1, H1, cell1, ox1, oy1, n9, A, S, g, ab, cb, aA, cA, aS, cS, _, he, K, hg, q1, q2, q3, hB⟩)
    · exact ⟨c, none, h0.1, ⟨fun h => absurd h h1, fun h => by cases h⟩, he, hB⟩
    · exact ⟨0, some ⟨g, 0, none⟩, h0.1, ⟨fun _ => rfl, fun _ => rfl⟩, he, hB⟩
end Go.Proofs.YtlkjcamjgaecgaaGreat

/-
  The reference's words on a cache: heights, places, uses.
-/
namespace Go.Proofs.YtlkjcamjgaecgaaGreat
open Go Go.RowKit Go.Th Go.Th.Crc

set_option maxRecDepth 20000 in
theorem ref10Off_any (W H : Nat) (x y : Int) (a : Option Addr) (n cap : Nat) (hoff : ¬ (0 ≤ x ∧ 0 ≤ y ∧ x < (W : Int) ∧ y < (H : Int))) (w : World) :
    Calls Tryz.prog 34 #[hv W H (.slice a n cap), .int .i64 x, .int .i64 y] w fun e w' => e = .returned (.tuple #[.int .i16 0, .int .i64 9]) ∧ Below w.heap.size w w' := by
  by_cases p : x < 0
  · clear hoff
    go_enter Tryz.func34, Tryz.ntmps34
    go_wp2_with fail
    go_ret2
    exact ⟨rfl, (Below.refl _ _).alloc (Nat.le_refl _) _⟩
  · by_cases b : y < 0
    · clear hoff
      go_enter Tryz.func34, Tryz.ntmps34
      go_wp2_with fail
      go_ret2
      exact ⟨rfl, (Below.refl _ _).alloc (Nat.le_refl _) _⟩
    · by_cases d : (W : Int) ≤ x
      · clear hoff
        go_enter Tryz.func34, Tryz.ntmps34
        go_wp2_with fail
        go_ret2
        exact ⟨rfl, (Below.refl _ _).alloc (Nat.le_refl _) _⟩
      · have d' : (H : Int) ≤ y := by omega
        clear hoff
        go_enter Tryz.func34, Tryz.ntmps34
        go_wp2_with fail
        go_ret2
        exact ⟨rfl, (Below.refl _ _).alloc (Nat.le_refl _) _⟩

set_option maxRecDepth 20000 in
theorem ref10In_go (W H x y n p q : Nat) (z : Int) (b o cap : Nat) (hx : x < W) (hy : y < H) (hW : W ≤ 256) (hH : H ≤ 256) (hp : (y : Int) * (W : Int) = (p : Int)) (hp2 : p ≤ 100000) (hq : q = p + x) (hqn : q < n) (hmx : n ≤ cap ∧ cap ≤ 9223372036854775807) (w : World) (hb : b < w.heap.size) (hc : w.cell? ⟨b, o + q, none⟩ = some (.int .i16 z)) :
    Calls Tryz.prog 34 #[hv W H (.slice (some ⟨b, o, none⟩) n cap), .int .i64 x, .int .i64 y] w fun e w' => e = .returned (hgt z) ∧ Below w.heap.size w w' := by
  have hx0 : ¬ ((x : Int) < 0) := by omega
  have hy0 : ¬ ((y : Int) < 0) := by omega
  have hxW : ¬ ((W : Int) ≤ (x : Int)) := by omega
  have hyH : ¬ ((H : Int) ≤ (y : Int)) := by omega
  have hqi : (p : Int) + (x : Int) = (q : Int) := by omega
  clear hq hx hy
  by_cases hv : z = -32768
  · subst hv
    go_enter Tryz.func34, Tryz.ntmps34
    go_wp2_with fail
    go_ret2
    exact ⟨rfl, (Below.refl _ _).alloc (Nat.le_refl _) _⟩
  · have hg2 : hgt z = .tuple #[.int .i16 z, .int .i64 0] := by unfold hgt; rw [if_neg hv]
    have HG := Lib.hid hg2
    clear hg2
    go_enter Tryz.func34, Tryz.ntmps34
    go_wp2_with fail
    go_ret2
    exact ⟨by rw [HG.out]; rfl, (Below.refl _ _).alloc (Nat.le_refl _) _⟩
theorem ref10In_any (F : List Int) (W H n x y : Nat) (hl : F.length = W * H) (hn : n = W * H) (hx : x < W) (hy : y < H) (hW : W ≤ 256) (hH : H ≤ 256) (a : Option Addr) (cap : Nat) (w : World) (hS : Sl w 1 (.slice a n cap) n (i16s F)) :
    Calls Tryz.prog 34 #[hv W H (.slice a n cap), .int .i64 x, .int .i64 y] w fun e w' => e = .returned (hgt (F.getD (y * W + x) 0)) ∧ Below w.heap.size w w' := by
  have hfit : y * W + x < W * H := by
    have := Nat.mul_le_mul_right W (Nat.succ_le_of_lt hy)
    rw [Nat.succ_mul, Nat.mul_comm H] at this
    omega
  have hle : y * W ≤ 256 * 256 := Nat.mul_le_mul (by omega) hW
  obtain ⟨b, o, rfl, hb, hc⟩ := cell_i16D hS (y * W + x) (by omega)
  exact ref10In_go W H x y n (y * W) (y * W + x) _ b o cap hx hy hW hH (by simp) (by omega) rfl (by omega) hS.max w hb hc

end Go.Proofs.YtlkjcamjgaecgaaGreat

/-
  The reference's use of a tile.
-/
namespace Go.Proofs.YtlkjcamjgaecgaaGreat
open Go Go.RowKit Go.Th Go.Th.Crc

/-- Tiles ahead of the cut. -/
def outL (n : Nat) (l : List Nat) : List Nat := n :: l.filter (fun m => !(m == n))
theorem outL_yes {n x : Nat} (l : List Nat) (h : x = n) : outL n (l ++ [x]) = outL n l := by
  unfold outL
  rw [List.filter_append, List.filter_cons_of_neg (by simp [h]), List.filter_nil, List.append_nil]
theorem outL_no {n x : Nat} (l : List Nat) (h : x ≠ n) : outL n (l ++ [x]) = outL n l ++ [x] := by
  unfold outL
  rw [List.filter_append, List.filter_cons_of_pos (by simpa using h), List.filter_nil, List.cons_append]
theorem outL_le (n : Nat) (l : List Nat) : (outL n l).length ≤ l.length + 1 := by
  unfold outL
  rw [List.length_cons]
  have := List.length_filter_le (fun m => !(m == n)) l
  omega

section
variable {w W W' : World} {g2 g4 g5 B room k : Nat} {a : Option Addr} {cap met miss : Nat} {v v' : Value} {j j' : Nat} {xs xs' : List Nat} {m' s' : Nat}
theorem grown_turned10 {w w' : World} {row : Option Nat} (hg : w.grownBy w' row) : Turned (fun j => row = some j) w w' := (Turned.refl _ w).grown hg (fun j hj _ => hj)
end

theorem take_next {L : List Nat} {i x : Nat} (h : L[i]? = some x) : L.take (i + 1) = L.take i ++ [x] := by
  rw [List.take_add_one, h]; rfl
theorem own_one (w : World) (u : Value) (t : TypeId) : (w.alloc (.cells #[u] t)).ownsRow w.heap.size t 1 (.slice (some ⟨w.heap.size, 0, none⟩) 1 1) 1 [u] :=
  ⟨rfl, .inr ⟨w.heap.size, 1, #[u], rfl, Nat.le_refl _, heap_alloc_new w _, Nat.le_refl _, by unfold maxLen; omega, rfl, rfl⟩⟩

/-- Four cells stored, one behind the other. -/
abbrev set4 (w : World) (g : Nat) (v0 v1 v2 v3 : Value) : World := (((w.setCell ⟨g, 0, none⟩ v0).setCell ⟨g, 1, none⟩ v1).setCell ⟨g, 2, none⟩ v2).setCell ⟨g, 3, none⟩ v3
theorem blk_set4 {w : World} {g : Nat} {t : TypeId} {c0 c1 c2 c3 : Value} (K : Blk w g t [c0, c1, c2, c3]) (v0 v1 v2 v3 : Value) : Blk (set4 w g v0 v1 v2 v3) g t [v0, v1, v2, v3] :=
  (((K.set 0 v0 (by simp)).set 1 v1 (by simp)).set 2 v2 (by simp)).set 3 v3 (by simp)
theorem turned_set4 (w : World) (g : Nat) (v0 v1 v2 v3 : Value) : Turned (fun k => k = g) w (set4 w g v0 v1 v2 v3) :=
  ((((Turned.refl (fun k => k = g) w).setCell (.inl rfl) v0).setCell (.inl rfl) v1).setCell (.inl rfl) v2).setCell (.inl rfl) v3

end Go.Proofs.YtlkjcamjgaecgaaGreat

/-
  The law's words on a cache: maps that are told, a cache over them, heights of any columns and rows.
-/
namespace Go.Proofs.YtlkjcamjgaecgaaGreat
open Go Go.RowKit Go.Th Go.Th.Crc

theorem CacheI.base {w : World} {base base' g : Nat} {F : List Int} {W H cell : Nat} {ox oy : Int} {room : Nat} {L : List Nat} {m s : Nat} (J : CacheI w base g F W H cell ox oy room L m s) (h : base' ≤ base) : CacheI w base' g F W H cell ox oy room L m s := by
  obtain ⟨ab, cb, aA, cA, aS, cS, T, c, J⟩ := J
  exact ⟨ab, cb, aA, cA, aS, cS, T, c, J.ck, Nat.le_trans h J.le, ownsRow_base J.ob h, ownsRow_base J.oA h, ownsRow_base J.oS h, ⟨J.hand.names, fun p hp => ⟨(J.hand.own p hp).1, ownsRow_base (J.hand.own p hp).2 h⟩⟩, J.nd, J.cr, J.lo, J.hi⟩
theorem CacheI.blk {w w' : World} {base g : Nat} {F : List Int} {W H cell : Nat} {ox oy : Int} {room : Nat} {L : List Nat} {m s : Nat} (J : CacheI w base g F W H cell ox oy room L m s) (ht : Turned (fun k => k = g) w w') {b : Nat} {t : TypeId} {cs : List Value} (K : Blk w b t cs) (hne : t ≠ 108) : Blk w' b t cs := by
  obtain ⟨ab, cb, aA, cA, aS, cS, T, c, J⟩ := J
  refine K.turned ht ?_
  rintro rfl
  have h1 : w.heap[b]? = some (.cells cs.toArray t (0, 0)) := K
  have h2 := J.ck.blk
  unfold Blk at h2
  rw [h1] at h2
  simp at h2
  exact hne h2.2
theorem CacheI.own {w w' : World} {base g : Nat} {F : List Int} {W H cell : Nat} {ox oy : Int} {room : Nat} {L : List Nat} {m s : Nat} (J : CacheI w base g F W H cell ox oy room L m s) (ht : Turned (fun k => k = g) w w') {b : Nat} {e : TypeId} {size n : Nat} {v : Value} {xs : List Value} (ho : w.ownsRow b e size v n xs) (hne : 108 ≠ e) : w'.ownsRow b e size v n xs := by
  obtain ⟨ab, cb, aA, cA, aS, cS, T, c, J⟩ := J
  exact ht.own ho (own_ne J.ck.blk ho hne)

/-- Whether there is such a column and row. -/
def inF (W H : Nat) (x y : Int) : Prop := 0 ≤ x ∧ 0 ≤ y ∧ x < (W : Int) ∧ y < (H : Int)
instance (W H : Nat) (x y : Int) : Decidable (inF W H x y) := by unfold inF; exact inferInstance
/-- What is told of any column and row. -/
def told (F : List Int) (W H : Nat) (x y : Int) : Value := if inF W H x y then hgt (F.getD (y.toNat * W + x.toNat) 0) else .tuple #[.int .i16 0, .int .i64 9]
theorem told_pair (F : List Int) (W H : Nat) (x y : Int) : ∃ r c : Int, told F W H x y = .tuple #[.int .i16 r, .int .i64 c] := by
  unfold told hgt
  split
  · split
    · exact ⟨_, _, rfl⟩
    · exact ⟨_, _, rfl⟩
  · exact ⟨_, _, rfl⟩
/-- The tile of a column and a row. -/
def tileOf (W : Nat) (x y : Int) : Nat := y.toNat / 16 * cnt W + x.toNat / 16

theorem height_told (base g : Nat) (F : List Int) (W H cell : Nat) (ox oy : Int) (room : Nat) (L : List Nat) (m s : Nat) (x y : Int) (O : MapOk F W H cell ox oy) (hm : m ≤ 1000000) (hs : s ≤ 1000000) (w : World) (J : CacheI w base g F W H cell ox oy room L m s) :
    Calls Tryz.prog 56 #[.pointer (some ⟨g, 0, none⟩), .int .i64 x, .int .i64 y] w fun e w' => e = .returned (told F W H x y) ∧
      CacheI w' base g F W H cell ox oy room (if inF W H x y then useL room L (tileOf W x y) else L) (if inF W H x y ∧ tileOf W x y ∈ L then m + 1 else m) (if inF W H x y ∧ ¬ tileOf W x y ∈ L then s + 1 else s) ∧ Turned (fun k => k = g) w w' := by
  by_cases h : inF W H x y
  · obtain ⟨h1, h2, h3, h4⟩ := h
    obtain ⟨p, rfl⟩ := Int.eq_ofNat_of_zero_le h1
    obtain ⟨q, rfl⟩ := Int.eq_ofNat_of_zero_le h2
    have hin : inF W H (p : Int) (q : Int) := ⟨h1, h2, h3, h4⟩
    refine (height_in base g F W H cell ox oy room L m s p q O (by omega) (by omega) hm hs w J).mono ?_
    rintro e w' ⟨he, hJ, hT⟩
    have e1 : told F W H (p : Int) (q : Int) = hgt (F.getD (q * W + p) 0) := by unfold told; rw [if_pos hin]; rfl
    have e2 : tileOf W (p : Int) (q : Int) = q / 16 * cnt W + p / 16 := rfl
    rw [e1, e2, if_pos hin]
    refine ⟨he, ?_, hT⟩
    by_cases hmem : q / 16 * cnt W + p / 16 ∈ L
    · rw [if_pos hmem, if_pos hmem] at hJ
      rw [if_pos ⟨hin, hmem⟩, if_neg (fun h => h.2 hmem)]
      exact hJ
    · rw [if_neg hmem, if_neg hmem] at hJ
      rw [if_neg (fun h => hmem h.2), if_pos ⟨hin, hmem⟩]
      exact hJ
  · refine (height_off base g F W H cell ox oy room L m s x y h w J).mono ?_
    rintro e w' ⟨he, hB⟩
    have e1 : told F W H x y = .tuple #[.int .i16 0, .int .i64 9] := by unfold told; rw [if_neg h]
    rw [e1, if_neg h, if_neg (fun k => h k.1), if_neg (fun k => h k.1)]
    exact ⟨he, J.below hB, Turned.below hB⟩
theorem ref10_told (F : List Int) (W H n : Nat) (x y : Int) (hl : F.length = W * H) (hn : n = W * H) (hW : W ≤ 256) (hH : H ≤ 256) (a : Option Addr) (cap : Nat) (w : World) (hS : Sl w 1 (.slice a n cap) n (i16s F)) :
    Calls Tryz.prog 34 #[hv W H (.slice a n cap), .int .i64 x, .int .i64 y] w fun e w' => e = .returned (told F W H x y) ∧ Below w.heap.size w w' := by
  by_cases h : inF W H x y
  · obtain ⟨h1, h2, h3, h4⟩ := h
    obtain ⟨p, rfl⟩ := Int.eq_ofNat_of_zero_le h1
    obtain ⟨q, rfl⟩ := Int.eq_ofNat_of_zero_le h2
    have hin : inF W H (p : Int) (q : Int) := ⟨h1, h2, h3, h4⟩
    have e1 : told F W H (p : Int) (q : Int) = hgt (F.getD (q * W + p) 0) := by unfold told; rw [if_pos hin]; rfl
    rw [e1]
    exact ref10In_any F W H n p q hl hn (by omega) (by omega) hW hH a cap w hS
  · have e1 : told F W H x y = .tuple #[.int .i16 0, .int .i64 9] := by unfold told; rw [if_neg h]
    rw [e1]
    exact ref10Off_any W H x y a n cap h w

set_option maxRecDepth 20000 in
set_option maxHeartbeats 3200000 in
theorem made10_any (p q n k c : Nat) (ox oy : Int) (a : Option Addr) (cap : Nat) (z : List Int) (hp : p < 256) (hq : q < 256) (hk : k < 65536) (hc : c = 1 + k % 1000) (hz : z.length = n) (hn : n ≤ 2000) (h16 : ∀ u ∈ z, In16 u) (w : World) (hS : Sl w 1 (.slice a n cap) n (i16s z)) :
    Calls Tryz.prog 9 #[.int .u8 p, .int .u8 q, .slice a n cap, .int .u16 k, .int .i32 ox, .int .i32 oy] w fun e w' => ∃ (x y : Nat) (v : Value) (F : List Int), (x = 2 + p % 39 ∧ y = 2 + q % 39) ∧ (0 < n → F = (List.range (x * y)).map (fldAt z)) ∧ e = .returned (cv x y v c ox oy) ∧ isF x y = true ∧ x ≤ 40 ∧ y ≤ 40 ∧ F.length = x * y ∧ (∀ u ∈ F, In16 u) ∧ w'.ownsRow w.heap.size 51 1 v (x * y) (i16s F) ∧ Below w.heap.size w w' := by
  obtain ⟨w1, hw1⟩ : ∃ w1, w.alloc (.cells #[.int .i64 0, .int .i64 0, .slice none 0 0, .int .i64 0, .int .i32 0, .int .i32 0] 28) = w1 := ⟨_, rfl⟩
  have hB1 : Below w.heap.size w w1 := by rw [← hw1]; exact (Below.refl _ _).alloc (Nat.le_refl _) _
  have KA : Blk w1 w.heap.size 28 [.int .i64 0, .int .i64 0, .slice none 0 0, .int .i64 0, .int .i32 0, .int .i32 0] := by rw [← hw1]; exact Blk.new w _ _
  have C1 := Lib.hid (field9_any p q n a cap z hp hq hz hn h16 w1 (hS.below hB1))
  have hci : 1 + (k : Int) % 1000 = (c : Int) := by omega
  clear hp hq hz hn h16 hS hc
  go_enter Tryz.func9, Tryz.ntmps9
  go_wp2_with fail
  clear hw1
  refine C1.out.mono ?_
  rintro e w2 ⟨x, y, v, F, hxy, hfd, rfl, hF, hx, hy, hl, hF16, ho, hA⟩
  obtain ⟨av, cw, rfl, _, _⟩ := ownsRow_slice ho
  have hga : w.heap.size < w1.heap.size := KA.lt
  replace KA := KA.below hA KA.lt
  have hz1 := hB1.size
  have hB2 := hB1.trans (hA.mono hB1.size)
  clear C1 hA hB1
  have a0 := KA.cell (i := 0) rfl
  have a1 := KA.cell (i := 1) rfl
  have a2 := KA.cell (i := 2) rfl
  have a3 := KA.cell (i := 3) rfl
  have a4 := KA.cell (i := 4) rfl
  have a5 := KA.cell (i := 5) rfl
  have f0 := KA.free 0
  have f1 := KA.free 1
  have f2 := KA.free 2
  have f3 := KA.free 3
  have f4 := KA.free 4
  have f5 := KA.free 5
  have HF := Lib.hid hF
  have HL := Lib.hid hl
  have H16 := Lib.hid hF16
  have HO := Lib.hid ho
  have HXY := Lib.hid hxy
  have HFD := Lib.hid hfd
  clear hF hl hF16 ho hxy hfd
  go_wp2_with fail
  refine bodyPost_ret (v := cv x y (.slice av (x * y) cw) c ox oy) (res_blk rfl rfl (blk_set6 KA _ _ _ _ _ _) Tryz.underlying28 rfl (by kernel_rfl)) rfl ?_
  have ht := turned_set6 w2 w.heap.size (.int .i64 x) (.int .i64 y) (.slice av (x * y) cw) (.int .i64 c) (.int .i32 ox) (.int .i32 oy)
  exact ⟨x, y, _, F, HXY.out, HFD.out, rfl, HF.out, hx, hy, HL.out, H16.out, ownsRow_base (ht.own HO.out (by rintro j hj rfl; have := (HO.out.lt _ hj).1; omega)) hz1, ht.old hB2 hB2.size (by rintro j hj rfl; omega)⟩

set_option maxRecDepth 20000 in
theorem open10_any (F : List Int) (W H cell : Nat) (ox oy : Int) (O : MapOk F W H cell ox oy) (room : Nat) (hr : 4 ≤ room) (hr2 : room ≤ 32) (n : Nat) (hn : n = W * H) (a : Option Addr) (cap : Nat) (w : World) (hS : Sl w 1 (.slice a n cap) n (i16s F)) :
    Calls Tryz.prog 10 #[cv W H (.slice a n cap) cell ox oy, .int .i64 room] w fun e w' => ∃ g, e = .returned (.pointer (some ⟨g, 0, none⟩)) ∧ CacheI w' w.heap.size g F W H cell ox oy room [] 0 0 ∧ Below w.heap.size w w' := by
  obtain ⟨w1, hw1⟩ : ∃ w1, w.alloc (.cells #[.int .i64 W, .int .i64 H, .slice a n cap, .int .i64 cell, .int .i32 ox, .int .i32 oy] 28) = w1 := ⟨_, rfl⟩
  have hB1 : Below w.heap.size w w1 := by rw [← hw1]; exact (Below.refl _ _).alloc (Nat.le_refl _) _
  have KC : Blk w1 w.heap.size 28 [.int .i64 W, .int .i64 H, .slice a n cap, .int .i64 cell, .int .i32 ox, .int .i32 oy] := by rw [← hw1]; exact Blk.new w _ _
  have C1 := put9_any W H cell n ox oy a cap F O.hF hn O.hc (by rw [O.hl, hn]) O.h16 w1 (hS.below hB1)
  have C2 := fun L hL a' cap' wx hs => new_map F W H cell ox oy O room hr hr2 L hL a' cap' wx hs
  obtain ⟨L, hL⟩ : ∃ L, L = (chartB F W H cell ox oy).length := ⟨_, rfl⟩
  rw [← hL] at C1
  replace C1 := Lib.hid C1
  replace C2 := Lib.hid (C2 L hL)
  have HW1 := Lib.hid hw1
  have hz1 := hB1.size
  clear hw1 hS hL hn
  go_enter Tryz.func10, Tryz.ntmps10
  go_upto_region 1 with fail
  rw [HW1.out]
  have c0 := KC.cell (i := 0) rfl
  have c1 := KC.cell (i := 1) rfl
  have c2 := KC.cell (i := 2) rfl
  have c3 := KC.cell (i := 3) rfl
  have c4 := KC.cell (i := 4) rfl
  have c5 := KC.cell (i := 5) rfl
  go_wp2_with fail
  refine C1.out.mono ?_
  rintro e w2 ⟨vb, rfl, hob, hA⟩
  obtain ⟨gb, cb, rfl, _, _⟩ := ownsRow_slice hob
  have hB2 := hB1.trans (hA.mono hB1.size)
  have D2 := Lib.hid (C2.out gb cb w2 (Sl.of_own hob))
  have HB2 := Lib.hid hB2
  clear C1 C2 hA hB1 hB2 hob c0 c1 c2 c3 c4 c5 KC HW1
  go_wp2_with fail
  refine D2.out.mono ?_
  rintro e w3 ⟨g, rfl, hJ, hA⟩
  have HJ := Lib.hid (hJ.base HB2.out.size)
  have HB3 := Lib.hid (HB2.out.trans (hA.mono HB2.out.size))
  clear D2 hJ hA
  go_wp2_with fail
  go_ret
  exact ⟨g, rfl, HJ.out, HB3.out⟩
end Go.Proofs.YtlkjcamjgaecgaaGreat
