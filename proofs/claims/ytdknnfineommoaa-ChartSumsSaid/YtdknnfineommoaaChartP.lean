/-
  A map as bytes: the code's.
-/
import Derived.Test.YtdknnfineommoaaChartC
import Derived.Test.YtdknnfineommoaaPackCrc
set_option linter.unusedVariables false
set_option linter.unusedSimpArgs false
namespace Go.Proofs.Ytdknnfineommoaa
open Go Go.RowKit Go.Th Go.Th.Crc

/-- Header and directory, and tiles, as far as they are written. -/
structure PutI (w W : World) (Bh Bb : Nat) (vh vb : Value) (k m : Nat) (hd bd : List Nat) : Prop where
  oh : W.ownsRow Bh 5 1 vh k (u8s hd)
  ob : W.ownsRow Bb 5 1 vb m (u8s bd)
  ne : ∀ j, vh.ownBlock = some j → vb.ownBlock = some j → False
  bel : Below w.heap.size w W
  le : w.heap.size ≤ Bh ∧ w.heap.size ≤ Bb ∧ Bb ≤ W.heap.size ∧ Bh ≤ W.heap.size
section
variable {w W W' : World} {Bh Bb : Nat} {vh vb vh' vb' : Value} {k m k' m' : Nat} {hd bd hd' bd' : List Nat}
theorem PutI.below (h : PutI w W Bh Bb vh vb k m hd bd) (hb : Below W.heap.size W W') : PutI w W' Bh Bb vh vb k m hd bd :=
  ⟨ownsRow_below h.oh hb, ownsRow_below h.ob hb, h.ne, h.bel.trans (hb.mono h.bel.size), by have := h.le; have := hb.size; omega⟩
theorem PutI.drew (h : PutI w W Bh Bb vh vb k m hd bd) : PutI w W.drew Bh Bb vh vb k m hd bd := ⟨h.oh, h.ob, h.ne, h.bel.drew, h.le⟩
/-- A head of new memory. -/
theorem PutI.head (h : PutI w W Bh Bb vh vb k m hd bd) (hb : Below W.heap.size W W') (ho : W'.ownsRow W.heap.size 5 1 vh' k' (u8s hd')) : PutI w W' Bh Bb vh' vb k' m hd' bd :=
  ⟨ownsRow_base ho h.le.2.2.2, ownsRow_below h.ob hb, fun j h1 h2 => by have := (ho.lt j h1).1; have := (h.ob.lt j h2).2; omega, h.bel.trans (hb.mono h.bel.size), by have := h.le; have := hb.size; omega⟩
/-- A head that was appended to. -/
theorem PutI.head' (h : PutI w W Bh Bb vh vb k m hd bd) (ht : Turned (fun j => vh.ownBlock = some j) W W') (ho : W'.ownsRow Bh 5 1 vh' k' (u8s hd')) (hw : vh'.ownBlock = vh.ownBlock ∨ ∃ g, vh'.ownBlock = some g ∧ W.heap.size ≤ g) : PutI w W' Bh Bb vh' vb k' m hd' bd :=
  ⟨ho, ht.own h.ob (fun j h1 h2 => h.ne j h2 h1), fun j h1 h2 => by
    rcases hw with e | ⟨g, e, hg⟩
    · exact h.ne j (e.symm.trans h1) h2
    · rw [h1] at e; cases e; have := (h.ob.lt j h2).2; omega, ht.old h.bel h.bel.size (fun j hj hs => by have := (h.oh.lt j hs).1; have := h.le.1; omega), by have := h.le; have := ht.size; omega⟩
theorem grown_turned {w' : World} {row : Option Nat} (hg : W.grownBy w' row) : Turned (fun j => row = some j) W w' := (Turned.refl _ W).grown hg (fun j hj _ => hj)
theorem PutI.body (h : PutI w W Bh Bb vh vb k m hd bd) (hg : W.grownBy W' vb.ownBlock) (ho : W'.ownsRow Bb 5 1 vb' m' (u8s bd')) (hw : vb'.ownBlock = vb.ownBlock ∨ ∃ g, vb'.ownBlock = some g ∧ W.heap.size ≤ g) : PutI w W' Bh Bb vh vb' k m' hd bd' :=
  ⟨(grown_turned hg).own h.oh (fun j h1 h2 => h.ne j h1 h2), ho, fun j h1 h2 => by
    rcases hw with e | ⟨g, e, hg⟩
    · exact h.ne j h1 (e.symm.trans h2)
    · rw [h2] at e; cases e; have := (h.oh.lt j h1).2; omega, (grown_turned hg).old h.bel h.bel.size (fun j hj hs => by have := (h.ob.lt j hs).1; have := h.le.2.1; omega), by have := h.le; have := (grown_turned hg).size; omega⟩
end

set_option maxRecDepth 20000 in
theorem check9_ok (W H n : Nat) (cell ox oy : Int) (a : Option Addr) (cap : Nat) (hF : isF W H = true) (hn : n = W * H) (hc : isC cell = true) : Ans 11 #[cv W H (.slice a n cap) cell ox oy] (.int .i64 0) := by
  intro w
  have C1 := Lib.hid (fun wx => check_ok W H n a cap hF hn wx)
  have C2 := isCell_go cell
  rw [hc] at C2
  have C2 := Lib.hid C2
  clear hF hn hc
  obtain ⟨w1, hw1⟩ : ∃ w1, w.alloc (.cells #[.int .i64 W, .int .i64 H, .slice a n cap, .int .i64 cell, .int .i32 ox, .int .i32 oy] 28) = w1 := ⟨_, rfl⟩
  have hB1 : Below w.heap.size w w1 := by rw [← hw1]; exact (Below.refl _ _).alloc (Nat.le_refl _) _
  have KC : Blk w1 w.heap.size 28 [.int .i64 W, .int .i64 H, .slice a n cap, .int .i64 cell, .int .i32 ox, .int .i32 oy] := by rw [← hw1]; exact Blk.new w _ _
  have a0 := KC.cell (i := 0) rfl
  have a1 := KC.cell (i := 1) rfl
  have a2 := KC.cell (i := 2) rfl
  have a3 := KC.cell (i := 3) rfl
  have a4 := KC.cell (i := 4) rfl
  have a5 := KC.cell (i := 5) rfl
  go_enter Try.func11, Try.ntmps11
  go_wp2_with fail
  clear hw1
  refine (C1.out _).mono ?_
  rintro e w2 ⟨rfl, hA2⟩
  clear C1 a0 a1 a2 a3 a4 a5
  replace KC := KC.below hA2 KC.lt
  have c3 := KC.cell (i := 3) rfl
  have hB2 := hB1.trans (hA2.mono hB1.size)
  go_wp2_with fail
  refine (C2.out _).mono ?_
  rintro e wx ⟨rfl, rfl⟩
  clear C2
  go_wp2_with fail
  go_ret
  exact ⟨rfl, hB2⟩

set_option maxRecDepth 20000 in
theorem check9_bad (W H n : Nat) (cell ox oy : Int) (a : Option Addr) (cap : Nat) (hF : isF W H = true) (hn : n = W * H) (hc : isC cell = false) : Ans 11 #[cv W H (.slice a n cap) cell ox oy] (.int .i64 1) := by
  intro w
  have C1 := Lib.hid (fun wx => check_ok W H n a cap hF hn wx)
  have C2 := isCell_go cell
  rw [hc] at C2
  have C2 := Lib.hid C2
  clear hF hn hc
  obtain ⟨w1, hw1⟩ : ∃ w1, w.alloc (.cells #[.int .i64 W, .int .i64 H, .slice a n cap, .int .i64 cell, .int .i32 ox, .int .i32 oy] 28) = w1 := ⟨_, rfl⟩
  have hB1 : Below w.heap.size w w1 := by rw [← hw1]; exact (Below.refl _ _).alloc (Nat.le_refl _) _
  have KC : Blk w1 w.heap.size 28 [.int .i64 W, .int .i64 H, .slice a n cap, .int .i64 cell, .int .i32 ox, .int .i32 oy] := by rw [← hw1]; exact Blk.new w _ _
  have a0 := KC.cell (i := 0) rfl
  have a1 := KC.cell (i := 1) rfl
  have a2 := KC.cell (i := 2) rfl
  have a3 := KC.cell (i := 3) rfl
  have a4 := KC.cell (i := 4) rfl
  have a5 := KC.cell (i := 5) rfl
  go_enter Try.func11, Try.ntmps11
  go_wp2_with fail
  clear hw1
  refine (C1.out _).mono ?_
  rintro e w2 ⟨rfl, hA2⟩
  clear C1 a0 a1 a2 a3 a4 a5
  replace KC := KC.below hA2 KC.lt
  have c3 := KC.cell (i := 3) rfl
  have hB2 := hB1.trans (hA2.mono hB1.size)
  go_wp2_with fail
  refine (C2.out _).mono ?_
  rintro e wx ⟨rfl, rfl⟩
  clear C2
  go_wp2_with fail
  go_ret
  exact ⟨rfl, hB2⟩

set_option maxRecDepth 20000 in
theorem put9_bad (W H n : Nat) (cell ox oy : Int) (a : Option Addr) (cap : Nat) (hF : isF W H = true) (hn : n = W * H) (hc : isC cell = false) : Ans 8 #[cv W H (.slice a n cap) cell ox oy] (.tuple #[.slice none 0 0, .int .i64 1]) := by
  intro w
  have C1 := Lib.hid (check9_bad W H n cell ox oy a cap hF hn hc)
  clear hF hn hc
  obtain ⟨w1, hw1⟩ : ∃ w1, w.alloc (.cells #[.int .i64 W, .int .i64 H, .slice a n cap, .int .i64 cell, .int .i32 ox, .int .i32 oy] 28) = w1 := ⟨_, rfl⟩
  have hB1 : Below w.heap.size w w1 := by rw [← hw1]; exact (Below.refl _ _).alloc (Nat.le_refl _) _
  have KC : Blk w1 w.heap.size 28 [.int .i64 W, .int .i64 H, .slice a n cap, .int .i64 cell, .int .i32 ox, .int .i32 oy] := by rw [← hw1]; exact Blk.new w _ _
  have a0 := KC.cell (i := 0) rfl
  have a1 := KC.cell (i := 1) rfl
  have a2 := KC.cell (i := 2) rfl
  have a3 := KC.cell (i := 3) rfl
  have a4 := KC.cell (i := 4) rfl
  have a5 := KC.cell (i := 5) rfl
  go_enter Try.func8, Try.ntmps8
  go_wp2_with fail
  clear hw1
  refine (C1.out _).mono ?_
  rintro e w2 ⟨rfl, hA2⟩
  clear C1 a0 a1 a2 a3 a4 a5
  go_wp2_with fail
  go_ret2
  exact ⟨rfl, hB1.trans (hA2.mono hB1.size)⟩

set_option maxRecDepth 20000 in
set_option maxHeartbeats 6400000 in
theorem put9_go (W H cell n m9 hl : Nat) (ox oy : Int) (a : Option Addr) (cap : Nat) (F : List Int) (D Bd T : Nat → List Nat) (w : World) (hS : Sl w 1 (.slice a n cap) n (i16s F))
    (hW : 2 ≤ W ∧ W ≤ 256) (hH : 2 ≤ H ∧ H ≤ 256) (hm : m9 ≤ 256) (hhl : hl = 22 + 6 * m9) (hm1 : 0 < m9)
    (C1 : Hid (Ans 11 #[cv W H (.slice a n cap) cell ox oy] (.int .i64 0)))
    (C2 : Hid (∀ wx, Calls Try.prog 22 #[cv W H (.slice a n cap) cell ox oy] wx fun e w' => ∃ v, e = .returned v ∧ w'.ownsRow wx.heap.size 5 1 v 18 (u8s (D 0)) ∧ Below wx.heap.size wx w'))
    (C3 : Hid (Ans 20 #[.int .i64 W, .int .i64 H] (.int .i64 hl)))
    (C4 : Hid (∀ wx, Calls Try.prog 21 #[.int .i64 W, .int .i64 H] wx fun e w' => ∃ v, e = .returned v ∧ w'.ownsRow wx.heap.size 62 2 v m9 (plcs W m9) ∧ Below wx.heap.size wx w'))
    (C5 : Hid (∀ i, i < m9 → ∀ wx, Sl wx 1 (.slice a n cap) n (i16s F) → Calls Try.prog 24 #[hv W H (.slice a n cap), pv ((i % cnt W : Nat) : Int) ((i / cnt W : Nat) : Int)] wx fun e w' => ∃ v k L, e = .returned v ∧ putB L = T i ∧ L.length = k ∧ (∀ x ∈ L, x < 256) ∧ w'.ownsRow wx.heap.size 5 1 v k (u8s L) ∧ Below wx.heap.size wx w'))
    (HD : Hid (∀ i, i < m9 → D (i + 1) = (D i ++ lowB (hl + (Bd i).length) 4) ++ lowB (T i).length 2)) (HDL : Hid (∀ i, (D i).length = 18 + 6 * i)) (HDB : Hid (∀ i, ∀ x ∈ D i, x < 256))
    (HB : Hid (∀ i, Bd (i + 1) = Bd i ++ T i)) (HB0 : Hid (Bd 0 = [])) (HBL : Hid (∀ i, i ≤ m9 → (Bd i).length ≤ 1300 * i)) (HT : Hid (∀ i, i < m9 → 4 ≤ (T i).length ∧ (T i).length ≤ 1300)) (HBP : Hid (0 < (Bd m9).length)) :
    Calls Try.prog 8 #[cv W H (.slice a n cap) cell ox oy] w fun e w' => ∃ v, e = .returned (.tuple #[v, .int .i64 0]) ∧ w'.ownsRow w.heap.size 5 1 v (hl + (Bd m9).length) (u8s (putB (D m9) ++ Bd m9)) ∧ Below w.heap.size w w' := by
  obtain ⟨w1, hw1⟩ : ∃ w1, w.alloc (.cells #[.int .i64 W, .int .i64 H, .slice a n cap, .int .i64 cell, .int .i32 ox, .int .i32 oy] 28) = w1 := ⟨_, rfl⟩
  have hB1 : Below w.heap.size w w1 := by rw [← hw1]; exact (Below.refl _ _).alloc (Nat.le_refl _) _
  have KC : Blk w1 w.heap.size 28 [.int .i64 W, .int .i64 H, .slice a n cap, .int .i64 cell, .int .i32 ox, .int .i32 oy] := by rw [← hw1]; exact Blk.new w _ _
  have a0 := KC.cell (i := 0) rfl
  have a1 := KC.cell (i := 1) rfl
  have a2 := KC.cell (i := 2) rfl
  have a3 := KC.cell (i := 3) rfl
  have a4 := KC.cell (i := 4) rfl
  have a5 := KC.cell (i := 5) rfl
  have HS := Lib.hid hS
  have HHL := Lib.hid hhl
  have hhl2 : hl ≤ 2000 := by omega
  clear hS hhl
  go_enter Try.func8, Try.ntmps8
  go_wp2_with fail
  clear hw1
  refine (C1.out _).mono ?_
  rintro e w2 ⟨rfl, hA2⟩
  clear C1 a0 a1 a2 a3 a4 a5
  replace KC := KC.below hA2 KC.lt
  have hB2 := hB1.trans (hA2.mono hB1.size)
  clear hA2 hB1
  have a0 := KC.cell (i := 0) rfl
  have a1 := KC.cell (i := 1) rfl
  have a2 := KC.cell (i := 2) rfl
  have a3 := KC.cell (i := 3) rfl
  have a4 := KC.cell (i := 4) rfl
  have a5 := KC.cell (i := 5) rfl
  have D2 := Lib.hid (C2.out w2.drew)
  clear C2
  go_wp2_with fail
  refine wp_region_held_drew (S := (fun w' : World => w'.cell? ⟨w.heap.size, 0, none⟩ = some (.int .i64 W) ∧ w'.cell? ⟨w.heap.size, 1, none⟩ = some (.int .i64 H) ∧ w'.cell? ⟨w.heap.size, 2, none⟩ = some (.slice a n cap) ∧ w'.cell? ⟨w.heap.size, 3, none⟩ = some (.int .i64 cell) ∧ w'.cell? ⟨w.heap.size, 4, none⟩ = some (.int .i32 ox) ∧ w'.cell? ⟨w.heap.size, 5, none⟩ = some (.int .i32 oy))) (by kernel_rfl) (⟨a0, a1, a2, a3, a4, a5⟩) (fun hHeld => ?_)
  refine wpAnyH_take (i := 0) (v := ?v1) rfl (by kernel_rfl) (by kernel_rfl) (by kernel_rfl) (fun _ _ _ h => h) (Or.inl ⟨by rfl, ?hy1⟩) hHeld ?rest1
  case hy1 => (intro w' hSw; (try dsimp only at hSw); go_simp; (try with_reducible rfl))
  try simp only [Act.put, List.setIfInBounds_toArray, List.set_cons_zero, List.set_cons_succ, List.getElem_toArray, List.getElem_cons_zero, List.getElem_cons_succ]
  refine wpAnyH_take (i := 2) (v := ?v2) rfl (by kernel_rfl) (by kernel_rfl) (by kernel_rfl) (fun _ _ _ h => h) (Or.inl ⟨by rfl, ?hy2⟩) hHeld ?rest2
  case hy2 => (intro w' hSw; (try dsimp only at hSw); go_simp; (try with_reducible rfl))
  try simp only [Act.put, List.setIfInBounds_toArray, List.set_cons_zero, List.set_cons_succ, List.getElem_toArray, List.getElem_cons_zero, List.getElem_cons_succ]
  refine wpAnyH_take (i := 3) (v := ?v3) rfl (by kernel_rfl) (by kernel_rfl) (by kernel_rfl) (fun _ _ _ h => h) (Or.inl ⟨by rfl, ?hy3⟩) hHeld ?rest3
  case hy3 => (intro w' hSw; (try dsimp only at hSw); go_simp; (try with_reducible rfl))
  try simp only [Act.put, List.setIfInBounds_toArray, List.set_cons_zero, List.set_cons_succ, List.getElem_toArray, List.getElem_cons_zero, List.getElem_cons_succ]
  refine wpAnyH_take (i := 4) (v := ?v4) rfl (by kernel_rfl) (by kernel_rfl) (by kernel_rfl) (fun _ _ _ h => h) (Or.inl ⟨by rfl, ?hy4⟩) hHeld ?rest4
  case hy4 => (intro w' hSw; (try dsimp only at hSw); go_simp; (try with_reducible rfl))
  try simp only [Act.put, List.setIfInBounds_toArray, List.set_cons_zero, List.set_cons_succ, List.getElem_toArray, List.getElem_cons_zero, List.getElem_cons_succ]
  refine wpAnyH_take (i := 5) (v := ?v5) rfl (by kernel_rfl) (by kernel_rfl) (by kernel_rfl) (fun _ _ _ h => h) (Or.inl ⟨by rfl, ?hy5⟩) hHeld ?rest5
  case hy5 => (intro w' hSw; (try dsimp only at hSw); go_simp; (try with_reducible rfl))
  try simp only [Act.put, List.setIfInBounds_toArray, List.set_cons_zero, List.set_cons_succ, List.getElem_toArray, List.getElem_cons_zero, List.getElem_cons_succ]
  refine wpAnyH_take (i := 6) (v := ?v6) rfl (by kernel_rfl) (by kernel_rfl) (by kernel_rfl) (fun _ _ _ h => h) (Or.inl ⟨by rfl, ?hy6⟩) hHeld ?rest6
  case hy6 => (intro w' hSw; (try dsimp only at hSw); go_simp; (try with_reducible rfl))
  try simp only [Act.put, List.setIfInBounds_toArray, List.set_cons_zero, List.set_cons_succ, List.getElem_toArray, List.getElem_cons_zero, List.getElem_cons_succ]
  refine wpAnyH_take (i := 7) (v := ?v7) rfl (by kernel_rfl) (by kernel_rfl) (by kernel_rfl) (fun _ _ _ h => h) (Or.inl ⟨by rfl, ?hy7⟩) hHeld ?rest7
  case hy7 => (intro w' hSw; (try dsimp only at hSw); go_simp; (try with_reducible rfl))
  try simp only [Act.put, List.setIfInBounds_toArray, List.set_cons_zero, List.set_cons_succ, List.getElem_toArray, List.getElem_cons_zero, List.getElem_cons_succ]
  refine wpAnyH_ready (rs := [1]) (by kernel_rfl) (by simp) ?_
  refine AllReadyH.cons rfl (fun K hK => ?_) AllReadyH.nil
  go_simp
  refine D2.out.mono ?_
  rintro e w3 ⟨v3, rfl, ho3, hA3⟩
  obtain ⟨a3', c3', rfl, _, _⟩ := ownsRow_slice ho3
  have KC3 := KC.drew.below hA3 KC.lt
  have hB3 := hB2.drew.trans (hA3.mono hB2.size)
  clear D2 hA3
  try go_wp2_with fail
  refine hK.out _ _ (⟨KC3.cell (i := 0) rfl, KC3.cell (i := 1) rfl, KC3.cell (i := 2) rfl, KC3.cell (i := 3) rfl, KC3.cell (i := 4) rfl, KC3.cell (i := 5) rfl⟩) (fun hHeld => ?_)
  clear hK K
  try simp only [Act.put, List.setIfInBounds_toArray, List.set_cons_zero, List.set_cons_succ, List.getElem_toArray, List.getElem_cons_zero, List.getElem_cons_succ]
  refine wpAnyH_ready (rs := [8]) (by kernel_rfl) (by simp) ?_
  refine AllReadyH.cons rfl (fun K hK => ?_) AllReadyH.nil
  go_simp
  refine (C3.out _).mono ?_
  rintro e w4 ⟨rfl, hA4⟩
  have KC4 := KC3.below hA4 KC3.lt
  have hB4 := hB3.trans (hA4.mono hB3.size)
  have ho4 := ownsRow_below ho3 hA4
  clear C3 hA4
  try go_wp2_with fail
  refine hK.out _ _ (⟨KC4.cell (i := 0) rfl, KC4.cell (i := 1) rfl, KC4.cell (i := 2) rfl, KC4.cell (i := 3) rfl, KC4.cell (i := 4) rfl, KC4.cell (i := 5) rfl⟩) (fun hHeld => ?_)
  clear hK K
  try simp only [Act.put, List.setIfInBounds_toArray, List.set_cons_zero, List.set_cons_succ, List.getElem_toArray, List.getElem_cons_zero, List.getElem_cons_succ]
  refine wpAnyH_take (i := 9) (v := ?v10) rfl (by kernel_rfl) (by kernel_rfl) (by kernel_rfl) (fun _ _ _ h => h) (Or.inl ⟨by rfl, ?hy10⟩) hHeld ?rest10
  case hy10 => (intro w' hSw; (try dsimp only at hSw); go_simp; (try with_reducible rfl))
  try simp only [Act.put, List.setIfInBounds_toArray, List.set_cons_zero, List.set_cons_succ, List.getElem_toArray, List.getElem_cons_zero, List.getElem_cons_succ]
  refine wpAnyH_take (i := 10) (v := ?v11) rfl (by kernel_rfl) (by kernel_rfl) (by kernel_rfl) (fun _ _ _ h => h) (Or.inl ⟨by rfl, ?hy11⟩) hHeld ?rest11
  case hy11 => (intro w' hSw; (try dsimp only at hSw); go_simp; (try with_reducible rfl))
  try simp only [Act.put, List.setIfInBounds_toArray, List.set_cons_zero, List.set_cons_succ, List.getElem_toArray, List.getElem_cons_zero, List.getElem_cons_succ]
  refine wpAnyH_done (by kernel_rfl) ?_ _
  clear a0 a1 a2 a3 a4 a5 ho3 hB3 KC3 KC
  have a0 := KC4.cell (i := 0) rfl
  have a1 := KC4.cell (i := 1) rfl
  go_wp2_with fail
  refine (C4.out _).mono ?_
  rintro e w5 ⟨v5, rfl, ho5, hA5⟩
  obtain ⟨gp, cp, rfl, hgp1, hgp2, _, _⟩ := ownsRow_val ho5 hm1
  have KC5 := KC4.below hA5 KC4.lt
  have hB5 := hB4.trans (hA5.mono hB4.size)
  replace ho4 := ownsRow_below ho4 hA5
  have hz4 := hB4.size
  have hz5 := hB5.size
  have hk5 := KC4.lt
  have hgk : w.heap.size < w5.heap.size := by have := KC5.lt; omega
  obtain ⟨Bb, hBb⟩ : ∃ B, B = w5.heap.size := ⟨_, rfl⟩
  have hI0 : PutI w w5 w.heap.size Bb (.slice a3' 18 c3') (.slice none 0 0) 18 0 (D 0) (Bd 0) := by
    refine ⟨ownsRow_base ho4 (by rw [World.size_drew]; exact hB2.size), ?_, ?_, hB5, ⟨Nat.le_refl _, by omega, by omega, hz5⟩⟩
    · rw [HB0.out]; exact World.ownsRow_nil _ _ _ _
    · intro j _ h2; simp [Value.ownBlock] at h2
  have hgB : w.heap.size < Bb := by omega
  have hpB : gp < Bb := by omega
  clear C4 hA5 a0 a1 ho4 hB4 KC4 hBb
  go_wp2_with fail
  go_loopw [5, 7, 33] (fun vh vb c wx => ∃ i m : Nat, i ≤ m9 ∧ c = .int .i64 i ∧ Hid (m = (Bd i).length) ∧ m ≤ 1300 * i ∧ PutI w wx w.heap.size Bb vh vb (18 + 6 * i) m (D i) (Bd i) ∧ Blk wx w.heap.size 28 [.int .i64 W, .int .i64 H, .slice a n cap, .int .i64 cell, .int .i32 ox, .int .i32 oy] ∧ wx.ownsRow w4.heap.size 62 2 (.slice (some ⟨gp, 0, none⟩) m9 cp) m9 (plcs W m9)) (fun _ _ c _ => m9 - (intOf c).toNat)
  case atStart => exact ⟨0, 0, Nat.zero_le _, rfl, Lib.hid (by rw [HB0.out]; rfl), Nat.zero_le _, hI0, KC5, ho5⟩
  case round =>
    clear hI0 KC5 ho5
    obtain ⟨i, m, hi, rfl, hmm, hml, hI, K, hP⟩ := hrel
    by_cases hlt : i < m9
    · have p0 := hP.cells (g := gp) rfl _ _ (plcs_at W m9 i hlt).1
      have p1 := hP.cells (g := gp) rfl _ _ (plcs_at W m9 i hlt).2
      rw [add_none, Nat.zero_add] at p0 p1
      have D5 := C5.out i hlt
      obtain ⟨X, hX⟩ : ∃ X, X = i % cnt W := ⟨_, rfl⟩
      obtain ⟨Y, hY⟩ : ∃ Y, Y = i / cnt W := ⟨_, rfl⟩
      rw [← hX] at p0 D5
      rw [← hY] at p1 D5
      have D5 := Lib.hid D5
      obtain ⟨w6, hw6⟩ : ∃ w6, wr.alloc (.cells #[.int .i64 X, .int .i64 Y] 62) = w6 := ⟨_, rfl⟩
      have hA6 : Below wr.heap.size wr w6 := by rw [← hw6]; exact (Below.refl _ _).alloc (Nat.le_refl _) _
      have KP : Blk w6 wr.heap.size 62 [.int .i64 X, .int .i64 Y] := by rw [← hw6]; exact Blk.new wr _ _
      replace hI := hI.below hA6
      replace K := K.below hA6 K.lt
      replace hP := ownsRow_below hP hA6
      have a0 := K.cell (i := 0) rfl
      have a1 := K.cell (i := 1) rfl
      have a2 := K.cell (i := 2) rfl
      have k0 := KP.cell (i := 0) rfl
      have k1 := KP.cell (i := 1) rfl
      clear hX hY hA6
      go_wp2_with fail
      clear hw6
      refine (D5.out w6 (HS.out.below hI.bel)).mono ?_
      rintro e w7 ⟨v7, k7, L, rfl, hL, hLk, hLb, ho7, hA7⟩
      obtain ⟨a7, c7, rfl, _, _⟩ := ownsRow_slice ho7
      replace hI := hI.below hA7
      replace K := K.below hA7 K.lt
      replace hP := ownsRow_below hP hA7
      obtain ⟨t, ht⟩ : ∃ t, t = k7 + 4 := ⟨_, rfl⟩
      have htl : (T i).length = t := by rw [← hL, putB_length, hLk, ht]
      have hT := HT.out i hlt
      rw [htl] at hT
      have D6 := crcPut_any (.slice a7 k7 c7) L w7 (by rw [hLk]; exact Sl.of_own ho7) (by omega) hLb
      rw [hL, hLk, ← ht] at D6
      have D6 := Lib.hid D6
      clear a0 a1 a2 k0 k1 KP D5 hA7 ho7 hL hLk hLb p0 p1 ht
      go_wp2_with fail
      refine D6.out.mono ?_
      rintro e w8 ⟨v8, rfl, ho8, hA8⟩
      obtain ⟨a8, c8, rfl, _, _⟩ := ownsRow_slice ho8
      replace hI := hI.below hA8
      replace K := K.below hA8 K.lt
      replace hP := ownsRow_below hP hA8
      obtain ⟨q, hq⟩ : ∃ q, q = hl + m := ⟨_, rfl⟩
      have hqi : (hl : Int) + (m : Int) = (q : Int) := by omega
      have hq2 : q ≤ 400000 := by omega
      have hd := HD.out i hlt
      rw [htl, ← hmm.out, ← hq] at hd
      obtain ⟨d1, hd1⟩ : ∃ d, d = D i ++ lowB q 4 := ⟨_, rfl⟩
      rw [← hd1] at hd
      have hdl1 := put9_len (HDL.out i) hd1 (show 18 + 6 * i + 4 = 18 + 6 * i + 4 from rfl)
      obtain ⟨ah, ch, rfl, _, _⟩ := ownsRow_slice hI.oh
      obtain ⟨ab, cb, rfl, _, _⟩ := ownsRow_slice hI.ob
      have D7 := Lib.hid (bput9_any (.slice ah (18 + 6 * i) ch) (D i) d1 (18 + 6 * i) 4 (18 + 6 * i + 4) q (HDL.out i) hd1 rfl (by omega) (by omega) (by omega) w8 (Sl.of_own hI.oh))
      have D8 := Lib.hid (fun vx wx hs => bput9_any vx d1 (D (i + 1)) (18 + 6 * i + 4) 2 (18 + 6 * (i + 1)) t hdl1 hd (by omega) (by omega) (by omega) (by omega) wx hs)
      have HTL := Lib.hid htl
      clear D6 hA8 hd hd1 hdl1 hq htl
      go_wp2_with fail
      refine D7.out.mono ?_
      rintro e w9 ⟨v9, rfl, ho9, hA9⟩
      obtain ⟨a9, c9, rfl, _, _⟩ := ownsRow_slice ho9
      replace hI := hI.head hA9 ho9
      replace K := K.below hA9 K.lt
      replace hP := ownsRow_below hP hA9
      replace ho8 := ownsRow_below ho8 hA9
      have D9 := Lib.hid (D8.out _ w9 (Sl.of_own ho9))
      clear D7 D8 hA9 ho9
      go_wp2_with fail
      refine D9.out.mono ?_
      rintro e w10 ⟨v10, rfl, ho10, hA10⟩
      obtain ⟨a10, c10, rfl, _, _⟩ := ownsRow_slice ho10
      replace hI := hI.head hA10 ho10
      replace K := K.below hA10 K.lt
      replace hP := ownsRow_below hP hA10
      replace ho8 := ownsRow_below ho8 hA10
      have hle := hI.le
      clear D9 hA10 ho10
      have HO8 := Lib.hid (Sl.of_own ho8)
      clear ho8
      go_wp2_with (at_builtin; refine wpList_app Eu8 rfl (.tmp 54) (.tmp 55) rfl Bb rfl hI.ob rfl HO8.out (oneCell_u8s _) (by unfold maxLen; omega) (by omega) (by omega) ?_)
      intro v11 w11 ho11 hg11 hw11
      rw [show u8s (Bd i) ++ u8s (T i) = u8s (Bd (i + 1)) by rw [HB.out i]; simp [u8s]] at ho11
      have hT11 := grown_turned hg11
      have hI2 := hI.body hg11 ho11 hw11
      replace K := K.turned hT11 (fun hs => by have := (hI.ob.lt _ hs).1; omega)
      replace hP := hT11.own hP (fun k hk hs => by
        have h1 : k = gp := by simpa [Value.ownBlock] using hk.symm
        have := (hI.ob.lt _ hs).1; omega)
      have hmm2 : Hid (m + t = (Bd (i + 1)).length) := by show _ = _; rw [HB.out i, List.length_append, HTL.out, hmm.out]
      obtain ⟨a11, c11, rfl, _, _⟩ := ownsRow_slice ho11
      clear hI ho11 hg11 hw11 hT11 HO8
      go_wp2_with fail
      go_roundw
      case rel => exact ⟨i + 1, m + t, by omega, by go_num, hmm2, by omega, hI2, K, hP⟩
      case measure => simp [intOf]; omega
    · obtain rfl : i = m9 := by omega
      obtain ⟨ah, ch, rfl, _, _⟩ := ownsRow_slice hI.oh
      obtain ⟨ab, cb, rfl, _, _⟩ := ownsRow_slice hI.ob
      have hDl := HDL.out i
      have D6 := crcPut_any (.slice ah (18 + 6 * i) ch) (D i) wr (by rw [hDl]; exact Sl.of_own hI.oh) (by omega) (HDB.out i)
      rw [hDl] at D6
      have D6 := Lib.hid D6
      have HDl := Lib.hid hDl
      have hbp := HBP.out
      rw [← hmm.out] at hbp
      clear K hP hDl
      go_wp2_with fail
      refine D6.out.mono ?_
      rintro e w6 ⟨v6, rfl, ho6, hA6⟩
      obtain ⟨a6, c6, rfl, _, _⟩ := ownsRow_slice ho6
      replace hI := hI.below hA6
      clear D6 hA6
      obtain ⟨w7, hw7⟩ : ∃ w7, w6.alloc (.cells #[.slice a6 (18 + 6 * i + 4) c6, .slice ab m cb] 29) = w7 := ⟨_, rfl⟩
      have hA7 : Below w6.heap.size w6 w7 := by rw [← hw7]; exact (Below.refl _ _).alloc (Nat.le_refl _) _
      have KS : Blk w7 w6.heap.size 29 [.slice a6 (18 + 6 * i + 4) c6, .slice ab m cb] := by rw [← hw7]; exact Blk.new w6 _ _
      replace ho6 := ownsRow_below ho6 hA7
      replace hI := hI.below hA7
      have hpl : (putB (D i)).length = 18 + 6 * i + 4 := by rw [putB_length, HDl.out]
      have C := concat_any (.slice (some ⟨w6.heap.size, 0, none⟩) 2 2) _ _ (putB (D i)) (Bd i) w7 (KS.sl 2 rfl (by decide)) (by rw [hpl]; exact Sl.of_own ho6) (by rw [← hmm.out]; exact Sl.of_own hI.ob) (by rw [← hmm.out]; exact hbp) (by rw [hpl, ← hmm.out]; omega)
      rw [hpl, ← hmm.out, show 18 + 6 * i + 4 + m = hl + m by rw [HHL.out]; omega] at C
      have C := Lib.hid C
      clear hpl KS hA7 ho6
      go_wp2_with fail
      clear hw7
      refine C.out.mono ?_
      rintro e w8 ⟨v8, rfl, ho8, hA8⟩
      have hB8 := hI.bel.trans (hA8.mono hI.bel.size)
      go_wp2_with fail
      go_ret2
      exact ⟨_, rfl, by rw [← hmm.out]; exact ownsRow_base ho8 hI.bel.size, hB8⟩

theorem put9_any (W H cell n : Nat) (ox oy : Int) (a : Option Addr) (cap : Nat) (F : List Int) (hF : isF W H = true) (hn : n = W * H) (hc : isC cell = true) (hl : F.length = n) (h16 : ∀ u ∈ F, In16 u) (w : World) (hS : Sl w 1 (.slice a n cap) n (i16s F)) :
    Calls Try.prog 8 #[cv W H (.slice a n cap) cell ox oy] w fun e w' => ∃ v, e = .returned (.tuple #[v, .int .i64 0]) ∧ w'.ownsRow w.heap.size 5 1 v (chartB F W H cell ox oy).length (u8s (chartB F W H cell ox oy)) ∧ Below w.heap.size w w' := by
  obtain ⟨h1, h2, h3, h4⟩ := isF_yes hF
  have hcc := isC_yes hc
  have hFl : F.length = W * H := by rw [hl, hn]
  have hm := nT_le (W := W) (H := H) (by omega) (by omega)
  have hm1 := nT_pos (W := W) (H := H) (by omega) (by omega)
  have hhl : headLen W H = 22 + 6 * nT W H := by unfold headLen; omega
  rw [chartB_length]
  refine put9_go W H cell n (nT W H) (headLen W H) ox oy a cap F (dirTo F W H cell ox oy) (bodyTo F W H) (tileB F W H) w hS (by omega) (by omega) hm hhl hm1
    (Lib.hid (check9_ok W H n cell ox oy a cap hF hn hc)) (Lib.hid (fun wx => header_any W H cell ox oy a n cap (by omega) (by omega) (by omega) wx)) (Lib.hid (head_any W H hF)) (Lib.hid (fun wx => places_any W H hF wx))
    (Lib.hid (fun i hi wx hs => heights9_any W H i n a cap F hF hn hi hl h16 wx hs)) (Lib.hid (fun i _ => by rw [dirTo, List.append_assoc])) (Lib.hid (fun i => dirTo_length F W H cell ox oy i)) (Lib.hid (fun i => dirTo_lt F W H cell ox oy i))
    (Lib.hid (fun i => rfl)) (Lib.hid rfl) (Lib.hid (fun i hi => bodyTo_length F W H i hFl hi)) (Lib.hid (fun i hi => tileB_length F W H i hFl hi)) (Lib.hid ?_)
  obtain ⟨k, hk⟩ : ∃ k, nT W H = k + 1 := ⟨nT W H - 1, by omega⟩
  have := (tileB_length F W H k hFl (by omega)).1
  rw [hk, bodyTo, List.length_append]
  omega
end Go.Proofs.Ytdknnfineommoaa
