/-
  Which tiles are at hand, told; a new cache: the code's.
-/
import Derived.Test.YtiflbbpliioblaaCacheG
set_option linter.unusedVariables false
set_option linter.unusedSimpArgs false
namespace Go.Proofs.Ytiflbbpliioblaa
open Go Go.RowKit Go.Th Go.Th.Crc

set_option maxRecDepth 20000 in
set_option maxHeartbeats 1600000 in
theorem held_go (g : Nat) (h : List Value) (T : List (Nat × Value)) (c m s : Nat) (L : List Nat) (hc : c ≤ 32) (hL : L = (T.take c).map Prod.fst) (hT : T.length = 32) (w : World) (K : CK w g h T c m s) :
    Calls Try.prog 15 #[.pointer (some ⟨g, 0, none⟩)] w fun e w' => ∃ v, e = .returned v ∧ w'.ownsRow w.heap.size 3 1 v c (ints L) ∧ Below w.heap.size w w' := by
  have hnext : ∀ i, i < c → ints (L.take i) ++ [.int .i64 ((pl T i : Nat) : Int)] = ints (L.take (i + 1)) := by
    intro i hi
    have e := pl_take T i c hi (by omega)
    rw [← hL] at e
    have hlt : i < L.length := (List.getElem?_eq_some_iff.1 e).1
    rw [List.take_add_one, e, ← ints_snoc]; rfl
  have hall : L.take c = L := List.take_of_length_le (by rw [hL, List.length_map, List.length_take]; omega)
  have HN := Lib.hid hnext
  have HA := Lib.hid hall
  have HK := Lib.hid K
  have c74 := K.cnt
  clear hnext hall hL K
  go_enter Try.func15, Try.ntmps15
  go_wp2_with fail
  go_loopw [3, 9] (fun v k wx => ∃ i : Nat, i ≤ c ∧ k = .int .i64 i ∧ wx.ownsRow w.heap.size 3 1 v i (ints (L.take i)) ∧ Below w.heap.size w wx) (fun _ k _ => c - (intOf k).toNat)
  case atStart => exact ⟨0, Nat.zero_le _, rfl, World.ownsRow_nil _ _ _ _, Below.refl _ _⟩
  case round =>
    clear c74
    obtain ⟨i, hi, rfl, ho, hB⟩ := hrel
    by_cases hlt : i < c
    · have K2 := HK.out.below hB
      have hp := K2.place i (by omega)
      have hs := HN.out i hlt
      obtain ⟨p, hpe⟩ : ∃ p, p = pl T i := ⟨_, rfl⟩
      rw [← hpe] at hp hs
      have HSX := Lib.hid hs
      have hi32 : (i : Int) < 32 := by omega
      have hsz := hB.size
      clear hs hpe K2
      go_wp2_with (at_builtin; refine wpList_app Eint rfl (.tmp 12) (.tmp 20) rfl w.heap.size rfl (ho.alloc _) rfl (Sl.one _ _ _) (by intro u hu; simp at hu; subst hu; rfl) (by unfold maxLen; omega) (by omega) (by simp; omega) ?_)
      intro v3 w3 ho3 hg3 _
      have hB3 := hB.trans (app_below ho hsz hg3)
      rw [HSX.out] at ho3
      clear ho hg3 hB hp
      go_wp2_with fail
      go_roundw
      case rel => exact ⟨i + 1, by omega, by go_num, ho3, hB3⟩
      case measure => simp [intOf]; omega
    · obtain rfl : i = c := by omega
      rw [HA.out] at ho
      go_wp2_with fail
      go_ret
      exact ⟨_, rfl, ho, hB⟩

theorem held_any (base g : Nat) (F : List Int) (W H cell : Nat) (ox oy : Int) (room : Nat) (L : List Nat) (m s : Nat) (w : World) (J : CacheI w base g F W H cell ox oy room L m s) :
    Calls Try.prog 15 #[.pointer (some ⟨g, 0, none⟩)] w fun e w' => ∃ v, e = .returned v ∧ w'.ownsRow w.heap.size 3 1 v L.length (ints L) ∧ Below w.heap.size w w' := by
  obtain ⟨ab, cb, aA, cA, aS, cS, T, c, J⟩ := J
  have hT := J.ck.tl
  have hcr := J.cr
  have hhi := J.hi
  rw [J.hand.length (by omega)]
  exact held_go g _ T c m s L (by omega) J.hand.names hT w J.ck
theorem met10_any (base g : Nat) (F : List Int) (W H cell : Nat) (ox oy : Int) (room : Nat) (L : List Nat) (m s : Nat) (w : World) (J : CacheI w base g F W H cell ox oy room L m s) :
    Calls Try.prog 14 #[.pointer (some ⟨g, 0, none⟩)] w fun e w' => e = .returned (.tuple #[.int .i64 m, .int .i64 s]) ∧ ∃ n, w' = w.drewN n := by
  obtain ⟨ab, cb, aA, cA, aS, cS, T, c, J⟩ := J
  exact met_any g _ T c m s w J.ck
theorem chart10_of (base g : Nat) (F : List Int) (W H cell : Nat) (ox oy : Int) (room : Nat) (L : List Nat) (m s : Nat) (w : World) (J : CacheI w base g F W H cell ox oy room L m s) :
    Calls Try.prog 20 #[.pointer (some ⟨g, 0, none⟩)] w fun e w' => e = .returned (cv W H (.slice none 0 0) cell ox oy) ∧ Below w.heap.size w w' := by
  obtain ⟨ab, cb, aA, cA, aS, cS, T, c, J⟩ := J
  exact chart10_any g _ T c m s W H cell ox oy rfl rfl rfl rfl rfl rfl w J.ck

/-! ### New -/
theorem newRoom_go (a : Option Addr) (n cap : Nat) (room : Int) (hr : ¬ (4 ≤ room ∧ room ≤ 32)) (w : World) :
    Calls Try.prog 18 #[.slice a n cap, .int .i64 room] w fun e w' => e = .returned (.tuple #[.pointer none, .int .i64 12]) ∧ w = w' := by
  by_cases h : room < 4
  · clear hr
    go_enter Try.func18, Try.ntmps18
    go_wp2_with fail
    go_ret2
    exact ⟨rfl, by trivial⟩
  · have h2 : 32 < room := by omega
    clear hr
    go_enter Try.func18, Try.ntmps18
    go_wp2_with fail
    go_ret2
    exact ⟨rfl, by trivial⟩

theorem wp_bd3 {P : Program} {o : Oper} {a : Act} {w : World} {K : Act → World → Prop} {Q : Exit → Act → World → Prop} {ty : TypeId} {x y z : Operand} {u v t : Value} {cs : List Value} (ho : o.op = .build ty #[(0, x), (1, y), (2, z)]) (hx : a.eval x = u) (hy : a.eval y = v) (hz : a.eval z = t)
    (hb : P.built ty [(0, u), (1, v), (2, t)] = some cs.toArray) (h : K (a.put o.dst (.agg cs.toArray)) w) : o.wp P a w K Q := wp_bd ho (by simpa [hx, hy, hz] using hb) h
/-- No tiles. -/
def T0 : List (Nat × Value) := List.replicate 32 (0, .slice none 0 0)
theorem T0_length : T0.length = 32 := by unfold T0; rw [List.length_replicate]
theorem T0_mem : ∀ p ∈ T0, ∃ a n cap, p.2 = .slice a n cap := by
  intro p hp
  obtain ⟨_, rfl⟩ := List.mem_replicate.1 hp
  exact ⟨none, 0, 0, rfl⟩
theorem built10 (ab : Option Addr) (n cb W H cell : Nat) (ox oy : Int) (aA : Option Addr) (n9 cA : Nat) (aS : Option Addr) (cS room : Nat) :
    Try.prog.built 67 [(0, .slice ab n cb), (1, dv W H (.slice none 0 0) cell ox oy (.slice aA n9 cA) (.slice aS n9 cS)), (2, .int .i64 room)] = some (cc (hdr ab n cb W H cell ox oy aA n9 cA aS cS room) T0 0 0 0).toArray := by kernel_rfl

set_option maxRecDepth 20000 in
set_option maxHeartbeats 1600000 in
theorem new_go (a : Option Addr) (n cap room : Nat) (P : Int → Prop) (R : Nat → Nat → Nat → Int → Int → Nat → List Nat → List Nat → Prop) (bs : List Nat) (hr : 4 ≤ room) (hr2 : room ≤ 32) (w : World)
    (CG : Hid (Calls Try.prog 19 #[.slice a n cap] w fun e w' => ∃ (c : Int) (W H : Nat) (v : Value) (cell : Nat) (ox oy : Int), e = .returned (.tuple #[cv W H v cell ox oy, .int .i64 c]) ∧ P c ∧ (∃ a n cap, v = .slice a n cap) ∧ Below w.heap.size w w'))
    (CO : Hid (P 0 → ∀ wx, Below w.heap.size w wx → Calls Try.prog 33 #[.slice a n cap] wx fun e w' => ∃ (W H cell : Nat) (ox oy : Int) (n9 : Nat) (A S : List Nat) (va vs : Value), R W H cell ox oy n9 A S ∧ e = .returned (.tuple #[dv W H (.slice none 0 0) cell ox oy va vs, .int .i64 0]) ∧ w'.ownsRow wx.heap.size 3 1 va n9 (ints A) ∧ w'.ownsRow wx.heap.size 3 1 vs n9 (ints S) ∧ Below wx.heap.size wx w'))
    (CC : Hid (∀ wx, Below w.heap.size w wx → Calls Try.prog 34 #[.slice a n cap] wx fun e w' => ∃ v, e = .returned v ∧ w'.ownsRow wx.heap.size 5 1 v n (u8s bs) ∧ Below wx.heap.size wx w')) :
    Calls Try.prog 18 #[.slice a n cap, .int .i64 room] w fun e w' => (∃ c, P c ∧ c ≠ 0 ∧ e = .returned (.tuple #[.pointer none, .int .i64 c]) ∧ Below w.heap.size w w') ∨
      (P 0 ∧ ∃ (W H cell : Nat) (ox oy : Int) (n9 : Nat) (A S : List Nat) (g : Nat) (ab : Option Addr) (cb : Nat) (aA : Option Addr) (cA : Nat) (aS : Option Addr) (cS : Nat), R W H cell ox oy n9 A S ∧ e = .returned (.tuple #[.pointer (some ⟨g, 0, none⟩), .int .i64 0]) ∧
      CK w' g (hdr ab n cb W H cell ox oy aA n9 cA aS cS room) T0 0 0 0 ∧ w.heap.size ≤ g ∧ w'.ownsRow w.heap.size 5 1 (.slice ab n cb) n (u8s bs) ∧ w'.ownsRow w.heap.size 3 1 (.slice aA n9 cA) n9 (ints A) ∧ w'.ownsRow w.heap.size 3 1 (.slice aS n9 cS) n9 (ints S) ∧ Below w.heap.size w w') := by
  have h1 : ¬ ((room : Int) < 4) := by omega
  have h2 : ¬ ((32 : Int) < (room : Int)) := by omega
  go_enter Try.func18, Try.ntmps18
  go_wp2_with fail
  refine CG.out.mono ?_
  rintro e w2 ⟨c, W', H', v, cell', ox', oy', rfl, hP, ⟨a', n', cap', rfl⟩, hB⟩
  have HP := Lib.hid hP
  clear CG hP
  by_cases hc : c = 0
  rotate_left
  · have hc' : (c != 0) = true := by simpa using hc
    have HC := Lib.hid hc
    have HB := Lib.hid hB
    clear hB hc CO CC
    go_wp2_with fail
    go_ret2
    exact .inl ⟨c, HP.out, HC.out, rfl, HB.out.alloc HB.out.size _⟩
  subst hc
  replace CO := CO.out HP.out
  have hB3 : Below w.heap.size w (w2.alloc (.cells #[.int .i64 W', .int .i64 H', .slice a' n' cap', .int .i64 cell', .int .i32 ox', .int .i32 oy'] 28)) := hB.alloc hB.size _
  obtain ⟨w3, hw3⟩ : ∃ w3, w2.alloc (.cells #[.int .i64 W', .int .i64 H', .slice a' n' cap', .int .i64 cell', .int .i32 ox', .int .i32 oy'] 28) = w3 := ⟨_, rfl⟩
  rw [hw3] at hB3
  have C2 := Lib.hid (CO w3 hB3)
  have HB3 := Lib.hid hB3
  clear CO hB hB3
  go_wp2_with fail
  refine C2.out.mono ?_
  rintro e w4 ⟨W, H, cell, ox, oy, n9, A, S, va, vs, hR, rfl, hoA, hoS, hA4⟩
  have HR := Lib.hid hR
  clear hR
  obtain ⟨aA, cA, rfl, _, _⟩ := ownsRow_slice hoA
  obtain ⟨aS, cS, rfl, _, _⟩ := ownsRow_slice hoS
  have hB4 := HB3.out.trans (hA4.mono HB3.out.size)
  obtain ⟨w5, hw5⟩ : ∃ w5, w4.alloc (.cells #[.int .i64 W, .int .i64 H, .slice none 0 0, .int .i64 cell, .int .i32 ox, .int .i32 oy, .slice aA n9 cA, .slice aS n9 cS] 62) = w5 := ⟨_, rfl⟩
  have hA5 : Below w4.heap.size w4 w5 := by rw [← hw5]; exact (Below.refl _ _).alloc (Nat.le_refl _) _
  have KD : Blk w5 w4.heap.size 62 [.int .i64 W, .int .i64 H, .slice none 0 0, .int .i64 cell, .int .i32 ox, .int .i32 oy, .slice aA n9 cA, .slice aS n9 cS] := by rw [← hw5]; exact Blk.new w4 _ _
  have hB5 := hB4.trans (hA5.mono hB4.size)
  have hoA5 := ownsRow_base (ownsRow_below hoA hA5) HB3.out.size
  have hoS5 := ownsRow_base (ownsRow_below hoS hA5) HB3.out.size
  have D3 := Lib.hid (CC.out w5.drew hB5.drew)
  have HA := Lib.hid hoA5
  have HS := Lib.hid hoS5
  have HB5 := Lib.hid hB5
  have HW5 := Lib.hid hw5
  have hbt := fun ab cb => built10 ab n cb W H cell ox oy aA n9 cA aS cS room
  have HBT := Lib.hid hbt
  clear C2 CC hoA hoS hA4 hB4 hA5 hB5 hoA5 hoS5 hw5 hbt HB3 hw3
  go_upto_region 9 with fail
  rw [HW5.out]
  clear HW5
  have d0 := KD.cell (i := 0) rfl
  have d1 := KD.cell (i := 1) rfl
  have d2 := KD.cell (i := 2) rfl
  have d3 := KD.cell (i := 3) rfl
  have d4 := KD.cell (i := 4) rfl
  have d5 := KD.cell (i := 5) rfl
  have d6 := KD.cell (i := 6) rfl
  have d7 := KD.cell (i := 7) rfl
  refine wp_region_held_drew (S := (fun w' : World => w'.cell? ⟨w4.heap.size, 0, none⟩ = some (.int .i64 W) ∧ w'.cell? ⟨w4.heap.size, 1, none⟩ = some (.int .i64 H) ∧ w'.cell? ⟨w4.heap.size, 2, none⟩ = some (.slice none 0 0) ∧ w'.cell? ⟨w4.heap.size, 3, none⟩ = some (.int .i64 cell) ∧ w'.cell? ⟨w4.heap.size, 4, none⟩ = some (.int .i32 ox) ∧ w'.cell? ⟨w4.heap.size, 5, none⟩ = some (.int .i32 oy) ∧ w'.cell? ⟨w4.heap.size, 6, none⟩ = some (.slice aA n9 cA) ∧ w'.cell? ⟨w4.heap.size, 7, none⟩ = some (.slice aS n9 cS))) (by kernel_rfl) (⟨d0, d1, d2, d3, d4, d5, d6, d7⟩) (fun hHeld => ?_)
  refine wpAnyH_take (i := 0) (v := ?v50) rfl (by kernel_rfl) (by kernel_rfl) (by kernel_rfl) (fun _ _ _ h => h) (Or.inl ⟨by rfl, ?hy50⟩) hHeld ?rest50
  case hy50 => (intro w' hSw; (try dsimp only at hSw); go_simp; (try with_reducible rfl))
  try simp only [Act.put, List.setIfInBounds_toArray, List.set_cons_zero, List.set_cons_succ, List.getElem_toArray, List.getElem_cons_zero, List.getElem_cons_succ]
  refine wpAnyH_take (i := 2) (v := ?v51) rfl (by kernel_rfl) (by kernel_rfl) (by kernel_rfl) (fun _ _ _ h => h) (Or.inl ⟨by rfl, ?hy51⟩) hHeld ?rest51
  case hy51 => (intro w' hSw; (try dsimp only at hSw); go_simp; (try with_reducible rfl))
  try simp only [Act.put, List.setIfInBounds_toArray, List.set_cons_zero, List.set_cons_succ, List.getElem_toArray, List.getElem_cons_zero, List.getElem_cons_succ]
  refine wpAnyH_take (i := 3) (v := ?v52) rfl (by kernel_rfl) (by kernel_rfl) (by kernel_rfl) (fun _ _ _ h => h) (Or.inl ⟨by rfl, ?hy52⟩) hHeld ?rest52
  case hy52 => (intro w' hSw; (try dsimp only at hSw); go_simp; (try with_reducible rfl))
  try simp only [Act.put, List.setIfInBounds_toArray, List.set_cons_zero, List.set_cons_succ, List.getElem_toArray, List.getElem_cons_zero, List.getElem_cons_succ]
  refine wpAnyH_ready (rs := [1]) (by kernel_rfl) (by simp) ?_
  refine AllReadyH.cons rfl (fun K hK => ?_) AllReadyH.nil
  go_simp
  refine D3.out.mono ?_
  rintro e w6 ⟨v6, rfl, ho6, hA6⟩
  obtain ⟨ab, cb, rfl, _, _⟩ := ownsRow_slice ho6
  replace KD := KD.drew.below hA6 KD.lt
  have hB6 := HB5.out.drew.trans (hA6.mono HB5.out.size)
  have ho6' := ownsRow_base ho6 HB5.out.size
  have hA6' := ownsRow_below (w := w5.drew) HA.out hA6
  have hS6' := ownsRow_below (w := w5.drew) HS.out hA6
  clear D3 ho6 hA6
  try go_wp2_with fail
  refine hK.out _ _ (⟨KD.cell (i := 0) rfl, KD.cell (i := 1) rfl, KD.cell (i := 2) rfl, KD.cell (i := 3) rfl, KD.cell (i := 4) rfl, KD.cell (i := 5) rfl, KD.cell (i := 6) rfl, KD.cell (i := 7) rfl⟩) (fun hHeld => ?_)
  clear hK K
  try simp only [Act.put, List.setIfInBounds_toArray, List.set_cons_zero, List.set_cons_succ, List.getElem_toArray, List.getElem_cons_zero, List.getElem_cons_succ]
  refine wpAnyH_ready (rs := [4]) (by kernel_rfl) (by simp) ?_
  refine AllReadyH.cons rfl (fun K hK => ?_) AllReadyH.nil
  rw [if_pos (by rfl)]
  refine wp_bd3 (x := .tmp 33) (y := .tmp 34) (z := .tmp 35) (cs := cc (hdr ab n cb W H cell ox oy aA n9 cA aS cS room) T0 0 0 0) rfl rfl rfl rfl (HBT.out ab cb) ?_
  refine hK.out _ _ (⟨KD.cell (i := 0) rfl, KD.cell (i := 1) rfl, KD.cell (i := 2) rfl, KD.cell (i := 3) rfl, KD.cell (i := 4) rfl, KD.cell (i := 5) rfl, KD.cell (i := 6) rfl, KD.cell (i := 7) rfl⟩) (fun hHeld => ?_)
  clear hK K
  try simp only [Act.put, List.setIfInBounds_toArray, List.set_cons_zero, List.set_cons_succ, List.getElem_toArray, List.getElem_cons_zero, List.getElem_cons_succ]
  refine wpAnyH_ready (rs := [5]) (by kernel_rfl) (by simp) ?_
  refine AllReadyH.cons rfl (fun K hK => ?_) AllReadyH.nil
  go_simp
  have KD7 := KD.alloc (.cells (cc (hdr ab n cb W H cell ox oy aA n9 cA aS cS room) T0 0 0 0).toArray 67)
  try go_wp2_with fail
  refine hK.out _ _ (⟨KD7.cell (i := 0) rfl, KD7.cell (i := 1) rfl, KD7.cell (i := 2) rfl, KD7.cell (i := 3) rfl, KD7.cell (i := 4) rfl, KD7.cell (i := 5) rfl, KD7.cell (i := 6) rfl, KD7.cell (i := 7) rfl⟩) (fun hHeld => ?_)
  clear hK K
  try simp only [Act.put, List.setIfInBounds_toArray, List.set_cons_zero, List.set_cons_succ, List.getElem_toArray, List.getElem_cons_zero, List.getElem_cons_succ]
  refine wpAnyH_take (i := 6) (v := ?v56) rfl (by kernel_rfl) (by kernel_rfl) (by kernel_rfl) (fun _ _ _ h => h) (Or.inl ⟨by rfl, ?hy56⟩) hHeld ?rest56
  case hy56 => (intro w' hSw; (try dsimp only at hSw); go_simp; (try with_reducible rfl))
  try simp only [Act.put, List.setIfInBounds_toArray, List.set_cons_zero, List.set_cons_succ, List.getElem_toArray, List.getElem_cons_zero, List.getElem_cons_succ]
  refine wpAnyH_take (i := 7) (v := ?v57) rfl (by kernel_rfl) (by kernel_rfl) (by kernel_rfl) (fun _ _ _ h => h) (Or.inl ⟨by rfl, ?hy57⟩) hHeld ?rest57
  case hy57 => (intro w' hSw; (try dsimp only at hSw); go_simp; (try with_reducible rfl))
  try simp only [Act.put, List.setIfInBounds_toArray, List.set_cons_zero, List.set_cons_succ, List.getElem_toArray, List.getElem_cons_zero, List.getElem_cons_succ]
  refine wpAnyH_done (by kernel_rfl) ?_ _
  have hB7 := hB6.alloc hB6.size (.cells (cc (hdr ab n cb W H cell ox oy aA n9 cA aS cS room) T0 0 0 0).toArray 67)
  have hA7 : Below w6.heap.size w6 (w6.alloc (.cells (cc (hdr ab n cb W H cell ox oy aA n9 cA aS cS room) T0 0 0 0).toArray 67)) := (Below.refl _ _).alloc (Nat.le_refl _) _
  have KC := Blk.new w6 67 (cc (hdr ab n cb W H cell ox oy aA n9 cA aS cS room) T0 0 0 0)
  have q1 := ownsRow_below ho6' hA7
  have q2 := ownsRow_below hA6' hA7
  have q3 := ownsRow_below hS6' hA7
  have hz6 := hB6.size
  obtain ⟨w7, hw7⟩ : ∃ w7, w6.alloc (.cells (cc (hdr ab n cb W H cell ox oy aA n9 cA aS cS room) T0 0 0 0).toArray 67) = w7 := ⟨_, rfl⟩
  rw [hw7] at hB7 KC q1 q2 q3 ⊢
  clear hw7 hA7 hB6 ho6' hA6' hS6' KD7 KD d0 d1 d2 d3 d4 d5 d6 d7
  go_wp2_with fail
  go_ret2
  exact .inr ⟨HP.out, W, H, cell, ox, oy, n9, A, S, w6.heap.size, ab, cb, aA, cA, aS, cS, HR.out, rfl, ⟨KC, rfl, T0_length, T0_mem⟩, hz6, q1, q2, q3, hB7⟩
end Go.Proofs.Ytiflbbpliioblaa
