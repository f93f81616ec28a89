/-
  The directory of a map's bytes: the code's.
-/
import Derived.Test.YtdknnfineommoaaChartC
import Derived.Test.YtdknnfineommoaaPackBits
import Derived.Test.YtdknnfineommoaaHeldN
import Derived.Deep.Cut
set_option linter.unusedVariables false
set_option linter.unusedSimpArgs false
namespace Go.Th
open Go Go.RowKit
/-- Eight cells stored, one behind the other. -/
abbrev set8 (w : World) (g : Nat) (v0 v1 v2 v3 v4 v5 v6 v7 : Value) : World :=
  (((((((w.setCell ⟨g, 0, none⟩ v0).setCell ⟨g, 1, none⟩ v1).setCell ⟨g, 2, none⟩ v2).setCell ⟨g, 3, none⟩ v3).setCell ⟨g, 4, none⟩ v4).setCell ⟨g, 5, none⟩ v5).setCell ⟨g, 6, none⟩ v6).setCell ⟨g, 7, none⟩ v7
theorem blk_set8 {w : World} {g : Nat} {t : TypeId} {c0 c1 c2 c3 c4 c5 c6 c7 : Value} (K : Blk w g t [c0, c1, c2, c3, c4, c5, c6, c7]) (v0 v1 v2 v3 v4 v5 v6 v7 : Value) : Blk (set8 w g v0 v1 v2 v3 v4 v5 v6 v7) g t [v0, v1, v2, v3, v4, v5, v6, v7] :=
  (((((((K.set 0 v0 (by simp)).set 1 v1 (by simp)).set 2 v2 (by simp)).set 3 v3 (by simp)).set 4 v4 (by simp)).set 5 v5 (by simp)).set 6 v6 (by simp)).set 7 v7 (by simp)
theorem turned_set8 (w : World) (g : Nat) (v0 v1 v2 v3 v4 v5 v6 v7 : Value) : Turned (fun k => k = g) w (set8 w g v0 v1 v2 v3 v4 v5 v6 v7) :=
  ((((((((Turned.refl (fun k => k = g) w).setCell (.inl rfl) v0).setCell (.inl rfl) v1).setCell (.inl rfl) v2).setCell (.inl rfl) v3).setCell (.inl rfl) v4).setCell (.inl rfl) v5).setCell (.inl rfl) v6).setCell (.inl rfl) v7
theorem grown_turned' {w w' : World} {row : Option Nat} (hg : w.grownBy w' row) : Turned (fun j => row = some j) w w' := (Turned.refl _ w).grown hg (fun j hj _ => hj)
end Go.Th
namespace Go.Proofs.Ytdknnfineommoaa
open Go Go.RowKit Go.Th Go.Th.Crc

theorem Eint : ElemOf Try.prog 35 3 1 8 := ElemOf.mk' Try.underlying35 (z := .int .i64 0) (by kernel_rfl) rfl (by decide)
def ints (l : List Nat) : List Value := l.map fun x : Nat => .int .i64 (x : Int)
theorem ints_snoc (l : List Nat) (x : Nat) : ints (l ++ [x]) = ints l ++ [.int .i64 (x : Int)] := by simp [ints]
theorem ints_at (l : List Nat) (i : Nat) (h : i < l.length) : (ints l)[i]? = some (.int .i64 (l[i] : Nat)) := by simp [ints, h]

/-- A directory while it is read. -/
structure DirI (w W : World) (gD gR B : Nat) (cs zs : List Value) (va vs : Value) (k l : Nat) (qs ps : List Nat) : Prop where
  kD : Blk W gD 37 cs
  kR : Blk W gR 37 zs
  oA : W.ownsRow B 3 1 va k (ints qs)
  oS : W.ownsRow B 3 1 vs l (ints ps)
  ne : ∀ j, va.ownBlock = some j → vs.ownBlock = some j → False
  bel : Below w.heap.size w W
  le : w.heap.size ≤ B ∧ B ≤ W.heap.size ∧ gD < B ∧ gR < B ∧ w.heap.size ≤ gD ∧ w.heap.size ≤ gR
section
variable {w W W' : World} {gD gR B : Nat} {cs zs : List Value} {va vs va' vs' : Value} {k l k' l' : Nat} {qs ps qs' ps' : List Nat}
theorem DirI.below (h : DirI w W gD gR B cs zs va vs k l qs ps) (hb : Below W.heap.size W W') : DirI w W' gD gR B cs zs va vs k l qs ps :=
  ⟨h.kD.below hb h.kD.lt, h.kR.below hb h.kR.lt, ownsRow_below h.oA hb, ownsRow_below h.oS hb, h.ne, h.bel.trans (hb.mono h.bel.size), by have := h.le; have := hb.size; omega⟩
theorem DirI.drew (h : DirI w W gD gR B cs zs va vs k l qs ps) : DirI w W.drew gD gR B cs zs va vs k l qs ps := ⟨h.kD, h.kR, h.oA, h.oS, h.ne, h.bel.drew, h.le⟩
theorem DirI.appA (h : DirI w W gD gR B cs zs va vs k l qs ps) (hg : W.grownBy W' va.ownBlock) (ho : W'.ownsRow B 3 1 va' k' (ints qs')) (hw : va'.ownBlock = va.ownBlock ∨ ∃ g, va'.ownBlock = some g ∧ W.heap.size ≤ g) : DirI w W' gD gR B cs zs va' vs k' l qs' ps :=
  ⟨h.kD.turned (grown_turned' hg) (fun hs => by have := (h.oA.lt _ hs).1; have := h.le; omega), h.kR.turned (grown_turned' hg) (fun hs => by have := (h.oA.lt _ hs).1; have := h.le; omega), ho,
    (grown_turned' hg).own h.oS (fun j h1 h2 => h.ne j h2 h1), fun j h1 h2 => by
      rcases hw with e | ⟨g, e, hg⟩
      · exact h.ne j (e.symm.trans h1) h2
      · rw [h1] at e; cases e; have := (h.oS.lt j h2).2; omega, (grown_turned' hg).old h.bel h.bel.size (fun j hj hs => by have := (h.oA.lt j hs).1; have := h.le; omega), by have := h.le; have := (grown_turned' hg).size; omega⟩
theorem DirI.appS (h : DirI w W gD gR B cs zs va vs k l qs ps) (hg : W.grownBy W' vs.ownBlock) (ho : W'.ownsRow B 3 1 vs' l' (ints ps')) (hw : vs'.ownBlock = vs.ownBlock ∨ ∃ g, vs'.ownBlock = some g ∧ W.heap.size ≤ g) : DirI w W' gD gR B cs zs va vs' k l' qs ps' :=
  ⟨h.kD.turned (grown_turned' hg) (fun hs => by have := (h.oS.lt _ hs).1; have := h.le; omega), h.kR.turned (grown_turned' hg) (fun hs => by have := (h.oS.lt _ hs).1; have := h.le; omega), (grown_turned' hg).own h.oA (fun j h1 h2 => h.ne j h1 h2),
    ho, fun j h1 h2 => by
      rcases hw with e | ⟨g, e, hg⟩
      · exact h.ne j h1 (e.symm.trans h2)
      · rw [h2] at e; cases e; have := (h.oA.lt j h1).2; omega, (grown_turned' hg).old h.bel h.bel.size (fun j hj hs => by have := (h.oS.lt j hs).1; have := h.le; omega), by have := h.le; have := (grown_turned' hg).size; omega⟩
theorem DirI.setD (h : DirI w W gD gR B cs zs va vs k l qs ps) (hne : gD ≠ gR) (i : Nat) (u : Value) (hi : i < cs.length) : DirI w (W.setCell ⟨gD, i, none⟩ u) gD gR B (cs.set i u) zs va vs k l qs ps := by
  have ht : Turned (fun j => j = gD) W (W.setCell ⟨gD, i, none⟩ u) := (Turned.refl (fun j => j = gD) W).setCell (.inl rfl) u
  exact ⟨h.kD.set i u hi, h.kR.turned ht (fun e => hne e.symm), ht.own h.oA (fun j h1 h2 => by have := (h.oA.lt j h1).1; have := h.le; omega), ht.own h.oS (fun j h1 h2 => by have := (h.oS.lt j h1).1; have := h.le; omega), h.ne,
    ht.old h.bel h.bel.size (fun j hj hs => by have := h.le; omega), by have := h.le; have := ht.size; omega⟩
end

theorem zeroD : (Try.prog.info? 37).map (·.zero) = some (some (dv 0 0 (.slice none 0 0) 0 0 0 (.slice none 0 0) (.slice none 0 0))) := by kernel_rfl
theorem rd_chart9 (W H : Int) (v : Value) (cell ox oy : Int) : Rd Try.prog 28 0 [.int .i64 W, .int .i64 H, v, .int .i64 cell, .int .i32 ox, .int .i32 oy] (cv W H v cell ox oy) :=
  Rd.agg (ds := [.int .i64 W, .int .i64 H, v, .int .i64 cell, .int .i32 ox, .int .i32 oy]) Try.underlying28 rfl (by kernel_rfl) (fun j u h => by rw [Nat.zero_add]; exact h)
theorem wr_dir9 (W H : Int) (v : Value) (cell ox oy : Int) (a s : Value) (cs : List Value) (hl : cs.length = 8) (h1 : v.oneCell' = true) (h2 : a.oneCell' = true) (h3 : s.oneCell' = true) : Wr Try.prog 37 0 cs (dv W H v cell ox oy a s) [.int .i64 W, .int .i64 H, v, .int .i64 cell, .int .i32 ox, .int .i32 oy, a, s] :=
  Wr.whole (ds := [.int .i64 W, .int .i64 H, v, .int .i64 cell, .int .i32 ox, .int .i32 oy, a, s]) (by kernel_rfl) (by simp [hl]) (by
    intro u hu
    simp at hu
    rcases hu with rfl | rfl | rfl | rfl | rfl | rfl | rfl | rfl <;> first | rfl | assumption)

set_option maxRecDepth 20000 in
set_option maxHeartbeats 6400000 in
theorem directory_go (W H n9 hl L : Nat) (cell ox oy : Int) (bs : List Nat) (O R : Nat → Nat) (a : Option Addr) (cap : Nat) (w : World)
    (hn : n9 ≤ 256) (hhl : hl = 22 + 6 * n9) (hL : hl ≤ L) (hL2 : L ≤ 1000000000)
    (C3 : Hid (Ans 20 #[.int .i64 W, .int .i64 H] (.int .i64 hl))) (C4 : Hid (Ans 38 #[.int .i64 W, .int .i64 H] (.int .i64 n9)))
    (CN : Hid (∀ (at_ size : Nat), size ≤ 4 → at_ + size ≤ L → ∀ wx, Below w.heap.size w wx → Calls Try.prog 34 #[.slice a L cap, .int .i64 at_, .int .i64 size] wx fun e w' => e = .returned (.int .i64 (rd bs at_ size : Nat)) ∧ wx = w'))
    (HO : Hid (∀ i, O (i + 1) = O i + R i)) (HO0 : Hid (O 0 = hl)) (HR : Hid (∀ i, R i = rd bs (18 + 6 * i + 4) 2)) (HRl : Hid (∀ i, R i < 65536)) (HRd : Hid (∀ i, rd bs (18 + 6 * i) 4 < 4294967296)) :
    Calls Try.prog 37 #[.slice a L cap, cv W H (.slice none 0 0) cell ox oy] w fun e w' =>
      ((∀ i, i < n9 → rd bs (18 + 6 * i) 4 = O i) ∧ O n9 = L ∧ ∃ va vs, e = .returned (.tuple #[dv W H (.slice none 0 0) cell ox oy va vs, .int .i64 0]) ∧ w'.ownsRow w.heap.size 3 1 va n9 (ints ((List.range n9).map O)) ∧ w'.ownsRow w.heap.size 3 1 vs n9 (ints ((List.range n9).map R)) ∧ Below w.heap.size w w') ∨
      (¬ ((∀ i, i < n9 → rd bs (18 + 6 * i) 4 = O i) ∧ O n9 = L) ∧ ∃ c : Int, c ≠ 0 ∧ e = .returned (.tuple #[dv 0 0 (.slice none 0 0) 0 0 0 (.slice none 0 0) (.slice none 0 0), .int .i64 c]) ∧ Below w.heap.size w w') := by
  have HHL := Lib.hid hhl
  have hhl2 : 22 ≤ hl ∧ hl ≤ 2000 := by omega
  clear hhl
  have M : Mem w ((w.alloc (.cells #[.int .i64 W, .int .i64 H, .slice none 0 0, .int .i64 cell, .int .i32 ox, .int .i32 oy] 28)).alloc (.cells #[.int .i64 0, .int .i64 0, .slice none 0 0, .int .i64 0, .int .i32 0, .int .i32 0, .slice none 0 0, .slice none 0 0] 37)) [(w.heap.size + 1, 37, [.int .i64 0, .int .i64 0, .slice none 0 0, .int .i64 0, .int .i32 0, .int .i32 0, .slice none 0 0, .slice none 0 0]), (w.heap.size, 28, [.int .i64 W, .int .i64 H, .slice none 0 0, .int .i64 cell, .int .i32 ox, .int .i32 oy])] := by
    have := ((Mem.start w).alloc 28 [.int .i64 W, .int .i64 H, .slice none 0 0, .int .i64 cell, .int .i32 ox, .int .i32 oy]).alloc 37 [.int .i64 0, .int .i64 0, .slice none 0 0, .int .i64 0, .int .i32 0, .int .i32 0, .slice none 0 0, .slice none 0 0]
    rw [World.size_alloc] at this
    exact this
  obtain ⟨w2, hw2⟩ : ∃ w2, (w.alloc (.cells #[.int .i64 W, .int .i64 H, .slice none 0 0, .int .i64 cell, .int .i32 ox, .int .i32 oy] 28)).alloc (.cells #[.int .i64 0, .int .i64 0, .slice none 0 0, .int .i64 0, .int .i32 0, .int .i32 0, .slice none 0 0, .slice none 0 0] 37) = w2 := ⟨_, rfl⟩
  rw [hw2] at M
  obtain ⟨gR, hgR⟩ : ∃ g, w.heap.size + 1 = g := ⟨_, rfl⟩
  have M' := M
  rw [hgR] at M'
  have HM := Lib.hid M'
  clear M M'
  go_enter Try.func37, Try.ntmps37
  go_upto_region 1 with fail
  clear hw2
  have M := HM.out
  clear HM
  go_cut [6, 7] from 12 (fun s6 s7 wx => ∃ gD, s6 = .pointer (some ⟨gD, 0, none⟩) ∧ s7 = .int .i64 hl ∧ Mem w wx [(gD, 37, [.int .i64 W, .int .i64 H, .slice none 0 0, .int .i64 cell, .int .i32 ox, .int .i32 oy, .slice none 0 0, .slice none 0 0]), (gR, 37, [.int .i64 0, .int .i64 0, .slice none 0 0, .int .i64 0, .int .i32 0, .int .i32 0, .slice none 0 0, .slice none 0 0]), (w.heap.size, 28, [.int .i64 W, .int .i64 H, .slice none 0 0, .int .i64 cell, .int .i32 ox, .int .i32 oy])])
  case first =>
    refine wp_region_held_drew (S := (fun w' : World => Mem w w' [(w.heap.size, 28, [.int .i64 W, .int .i64 H, .slice none 0 0, .int .i64 cell, .int .i32 ox, .int .i32 oy])])) (by kernel_rfl) (M.drew.pick (by repeat (first | exact List.nil_sublist _ | apply List.Sublist.cons_cons | apply List.Sublist.cons))) (fun hHeld => ?_)
    replace M := M.drew
    refine wpAnyH_take (i := 0) rfl (by kernel_rfl) (by kernel_rfl) (by kernel_rfl) (fun _ _ _ h => h) (yi_ld (fun _ h => ⟨_, h⟩) (by rfl) rfl rfl (by repeat (first | exact Has.head _ _ _ _ | apply Has.tail)) (rd_chart9 _ _ _ _ _ _)) hHeld ?_
    try simp only [Act.put, List.setIfInBounds_toArray, List.set_cons_zero, List.set_cons_succ, List.getElem_toArray, List.getElem_cons_zero, List.getElem_cons_succ]
    refine wpAnyH_take (i := 1) (v := ?v9001) rfl (by kernel_rfl) (by kernel_rfl) (by kernel_rfl) (fun _ _ _ h => h) (Or.inl ⟨by rfl, ?hy9001⟩) hHeld ?rest9001
    case hy9001 => (intro w' hSw; (try dsimp only at hSw); go_simp; (try with_reducible rfl))
    try simp only [Act.put, List.setIfInBounds_toArray, List.set_cons_zero, List.set_cons_succ, List.getElem_toArray, List.getElem_cons_zero, List.getElem_cons_succ]
    refine wpAnyH_take (i := 2) (v := ?v9002) rfl (by kernel_rfl) (by kernel_rfl) (by kernel_rfl) (fun _ _ _ h => h) (Or.inl ⟨by rfl, ?hy9002⟩) hHeld ?rest9002
    case hy9002 => (intro w' hSw; (try dsimp only at hSw); go_simp; (try with_reducible rfl))
    try simp only [Act.put, List.setIfInBounds_toArray, List.set_cons_zero, List.set_cons_succ, List.getElem_toArray, List.getElem_cons_zero, List.getElem_cons_succ]
    refine wpAnyH_take (i := 3) (v := ?v9003) rfl (by kernel_rfl) (by kernel_rfl) (by kernel_rfl) (fun _ _ _ h => h) (Or.inl ⟨by rfl, ?hy9003⟩) hHeld ?rest9003
    case hy9003 => (intro w' hSw; (try dsimp only at hSw); go_simp; (try with_reducible rfl))
    try simp only [Act.put, List.setIfInBounds_toArray, List.set_cons_zero, List.set_cons_succ, List.getElem_toArray, List.getElem_cons_zero, List.getElem_cons_succ]
    refine wpAnyH_take (i := 4) rfl (by kernel_rfl) (by kernel_rfl) (by kernel_rfl) (fun _ _ _ h => h) (yi_ld (fun _ h => ⟨_, h⟩) (by rfl) rfl rfl (by repeat (first | exact Has.head _ _ _ _ | apply Has.tail)) (Rd.one Try.underlying3 rfl rfl)) hHeld ?_
    try simp only [Act.put, List.setIfInBounds_toArray, List.set_cons_zero, List.set_cons_succ, List.getElem_toArray, List.getElem_cons_zero, List.getElem_cons_succ]
    refine wpAnyH_take (i := 5) (v := ?v9004) rfl (by kernel_rfl) (by kernel_rfl) (by kernel_rfl) (fun _ _ _ h => h) (Or.inl ⟨by rfl, ?hy9004⟩) hHeld ?rest9004
    case hy9004 => (intro w' hSw; (try dsimp only at hSw); go_simp; (try with_reducible rfl))
    try simp only [Act.put, List.setIfInBounds_toArray, List.set_cons_zero, List.set_cons_succ, List.getElem_toArray, List.getElem_cons_zero, List.getElem_cons_succ]
    refine wpAnyH_take (i := 6) (v := ?v9005) rfl (by kernel_rfl) (by kernel_rfl) (by kernel_rfl) (fun _ _ _ h => h) (Or.inl ⟨by rfl, ?hy9005⟩) hHeld ?rest9005
    case hy9005 => (intro w' hSw; (try dsimp only at hSw); go_simp; (try with_reducible rfl))
    try simp only [Act.put, List.setIfInBounds_toArray, List.set_cons_zero, List.set_cons_succ, List.getElem_toArray, List.getElem_cons_zero, List.getElem_cons_succ]
    refine wpAnyH_take (i := 7) rfl (by kernel_rfl) (by kernel_rfl) (by kernel_rfl) (fun _ _ _ h => h) (yi_ld (fun _ h => ⟨_, h⟩) (by rfl) rfl rfl (by repeat (first | exact Has.head _ _ _ _ | apply Has.tail)) (Rd.one Try.underlying3 rfl rfl)) hHeld ?_
    try simp only [Act.put, List.setIfInBounds_toArray, List.set_cons_zero, List.set_cons_succ, List.getElem_toArray, List.getElem_cons_zero, List.getElem_cons_succ]
    refine wpAnyH_ready (rs := [8, 9]) (by kernel_rfl) (by simp) ?_
    refine AllReadyH.cons rfl (fun K hK => ?_) (AllReadyH.cons rfl (fun K hK => ?_) AllReadyH.nil)
    · go_simp
      refine (C3.out _).mono ?_
      rintro e w2 ⟨rfl, hBl⟩
      replace M := M.call hBl
      clear hBl
      try go_wp2_with fail
      refine hK.out _ _ (M.pick (by repeat (first | exact List.nil_sublist _ | apply List.Sublist.cons_cons | apply List.Sublist.cons))) (fun hHeld => ?_)
      clear hK K
      try simp only [Act.put, List.setIfInBounds_toArray, List.set_cons_zero, List.set_cons_succ, List.getElem_toArray, List.getElem_cons_zero, List.getElem_cons_succ]
      refine wpAnyH_ready (rs := [9]) (by kernel_rfl) (by simp) ?_
      refine AllReadyH.cons rfl (fun K hK => ?_) AllReadyH.nil
      rw [if_pos (by rfl)]
      refine wp_al M rfl zeroD rfl ?_
      clear M
      intro gD wa9 M
      refine hK.out _ _ (M.pick (by repeat (first | exact List.nil_sublist _ | apply List.Sublist.cons_cons | apply List.Sublist.cons))) (fun hHeld => ?_)
      clear hK K
      try simp only [Act.put, List.setIfInBounds_toArray, List.set_cons_zero, List.set_cons_succ, List.getElem_toArray, List.getElem_cons_zero, List.getElem_cons_succ]
      refine wpAnyH_ready (rs := [10]) (by kernel_rfl) (by simp) ?_
      refine AllReadyH.cons rfl (fun K hK => ?_) AllReadyH.nil
      rw [if_pos (by rfl)]
      refine wp_st M rfl rfl rfl (by repeat (first | exact Has.head _ _ _ _ | apply Has.tail)) (wr_dir9 _ _ _ _ _ _ _ _ _ rfl rfl rfl rfl) (by repeat (first | exact Upd.head _ _ _ _ _ | apply Upd.tail)) ?_
      clear M
      intro w2 M
      refine hK.out _ _ (M.pick (by repeat (first | exact List.nil_sublist _ | apply List.Sublist.cons_cons | apply List.Sublist.cons))) (fun hHeld => ?_)
      clear hK K
      try simp only [Act.put, List.setIfInBounds_toArray, List.set_cons_zero, List.set_cons_succ, List.getElem_toArray, List.getElem_cons_zero, List.getElem_cons_succ]
      refine wpAnyH_take (i := 11) (v := ?v9006) rfl (by kernel_rfl) (by kernel_rfl) (by kernel_rfl) (fun _ _ _ h => h) (Or.inl ⟨by rfl, ?hy9006⟩) hHeld ?rest9006
      case hy9006 => (intro w' hSw; (try dsimp only at hSw); go_simp; (try with_reducible rfl))
      try simp only [Act.put, List.setIfInBounds_toArray, List.set_cons_zero, List.set_cons_succ, List.getElem_toArray, List.getElem_cons_zero, List.getElem_cons_succ]
      refine wpAnyH_done (by kernel_rfl) ?_ _
      go_wp2_with fail
      go_meet
      exact ⟨_, rfl, rfl, M⟩
    · rw [if_pos (by rfl)]
      refine wp_al M rfl zeroD rfl ?_
      clear M
      intro gD wa9 M
      refine hK.out _ _ (M.pick (by repeat (first | exact List.nil_sublist _ | apply List.Sublist.cons_cons | apply List.Sublist.cons))) (fun hHeld => ?_)
      clear hK K
      try simp only [Act.put, List.setIfInBounds_toArray, List.set_cons_zero, List.set_cons_succ, List.getElem_toArray, List.getElem_cons_zero, List.getElem_cons_succ]
      refine wpAnyH_ready (rs := [8]) (by kernel_rfl) (by simp) ?_
      refine AllReadyH.cons rfl (fun K hK => ?_) AllReadyH.nil
      go_simp
      refine (C3.out _).mono ?_
      rintro e w2 ⟨rfl, hBl⟩
      replace M := M.call hBl
      clear hBl
      try go_wp2_with fail
      refine hK.out _ _ (M.pick (by repeat (first | exact List.nil_sublist _ | apply List.Sublist.cons_cons | apply List.Sublist.cons))) (fun hHeld => ?_)
      clear hK K
      try simp only [Act.put, List.setIfInBounds_toArray, List.set_cons_zero, List.set_cons_succ, List.getElem_toArray, List.getElem_cons_zero, List.getElem_cons_succ]
      refine wpAnyH_ready (rs := [10]) (by kernel_rfl) (by simp) ?_
      refine AllReadyH.cons rfl (fun K hK => ?_) AllReadyH.nil
      rw [if_pos (by rfl)]
      refine wp_st M rfl rfl rfl (by repeat (first | exact Has.head _ _ _ _ | apply Has.tail)) (wr_dir9 _ _ _ _ _ _ _ _ _ rfl rfl rfl rfl) (by repeat (first | exact Upd.head _ _ _ _ _ | apply Upd.tail)) ?_
      clear M
      intro w2 M
      refine hK.out _ _ (M.pick (by repeat (first | exact List.nil_sublist _ | apply List.Sublist.cons_cons | apply List.Sublist.cons))) (fun hHeld => ?_)
      clear hK K
      try simp only [Act.put, List.setIfInBounds_toArray, List.set_cons_zero, List.set_cons_succ, List.getElem_toArray, List.getElem_cons_zero, List.getElem_cons_succ]
      refine wpAnyH_take (i := 11) (v := ?v9007) rfl (by kernel_rfl) (by kernel_rfl) (by kernel_rfl) (fun _ _ _ h => h) (Or.inl ⟨by rfl, ?hy9007⟩) hHeld ?rest9007
      case hy9007 => (intro w' hSw; (try dsimp only at hSw); go_simp; (try with_reducible rfl))
      try simp only [Act.put, List.setIfInBounds_toArray, List.set_cons_zero, List.set_cons_succ, List.getElem_toArray, List.getElem_cons_zero, List.getElem_cons_succ]
      refine wpAnyH_done (by kernel_rfl) ?_ _
      go_wp2_with fail
      go_meet
      exact ⟨_, rfl, rfl, M⟩
  obtain ⟨gD, rfl, rfl, M⟩ := hcut
  have a0 := M.cell (g := w.heap.size) (by repeat (first | exact Has.head _ _ _ _ | apply Has.tail)) (i := 0) rfl
  have a1 := M.cell (g := w.heap.size) (by repeat (first | exact Has.head _ _ _ _ | apply Has.tail)) (i := 1) rfl
  go_wp2_with fail
  refine (C4.out _).mono ?_
  rintro e w3 ⟨rfl, hA3⟩
  replace M := M.call hA3
  clear C3 C4 hA3 a0 a1 hgR
  obtain ⟨B, hB⟩ : ∃ B, B = w3.heap.size := ⟨_, rfl⟩
  have hDR : gD ≠ gR := by
    have := M.nodup
    simp at this
    omega
  have hI0 : DirI w w3 gD gR B [.int .i64 W, .int .i64 H, .slice none 0 0, .int .i64 cell, .int .i32 ox, .int .i32 oy, .slice none 0 0, .slice none 0 0] [.int .i64 0, .int .i64 0, .slice none 0 0, .int .i64 0, .int .i32 0, .int .i32 0, .slice none 0 0, .slice none 0 0] (.slice none 0 0) (.slice none 0 0) 0 0 [] [] := by
    refine ⟨M.has (by repeat (first | exact Has.head _ _ _ _ | apply Has.tail)), M.has (by repeat (first | exact Has.head _ _ _ _ | apply Has.tail)), World.ownsRow_nil _ _ _ _, World.ownsRow_nil _ _ _ _, fun j h _ => by simp [Value.ownBlock] at h, M.below, ?_⟩
    have h1 := M.lt (g := gD) (by repeat (first | exact Has.head _ _ _ _ | apply Has.tail))
    have h2 := M.lt (g := gR) (by repeat (first | exact Has.head _ _ _ _ | apply Has.tail))
    have h3 := M.from (g := gD) (by repeat (first | exact Has.head _ _ _ _ | apply Has.tail))
    have h4 := M.from (g := gR) (by repeat (first | exact Has.head _ _ _ _ | apply Has.tail))
    have h5 := M.below.size
    omega
  clear M hB
  go_wp2_with fail
  go_loopw [7, 28] (fun e c wx => ∃ (i : Nat) (va vs : Value), i ≤ n9 ∧ c = .int .i64 i ∧ e = .int .i64 (O i : Nat) ∧ O i ≤ hl + 65535 * i ∧ Hid (∀ j, j < i → rd bs (18 + 6 * j) 4 = O j) ∧ DirI w wx gD gR B [.int .i64 W, .int .i64 H, .slice none 0 0, .int .i64 cell, .int .i32 ox, .int .i32 oy, va, vs] [.int .i64 0, .int .i64 0, .slice none 0 0, .int .i64 0, .int .i32 0, .int .i32 0, .slice none 0 0, .slice none 0 0] va vs i i ((List.range i).map O) ((List.range i).map R)) (fun _ c _ => n9 - (intOf c).toNat)
  case atStart => exact ⟨0, _, _, Nat.zero_le _, rfl, by rw [HO0.out], by rw [HO0.out]; exact Nat.le_refl _, Lib.hid (fun j h => by omega), hI0⟩
  case round =>
    clear hI0
    obtain ⟨i, va, vs, hi, rfl, rfl, hol, hdir, hI⟩ := hrel
    obtain ⟨o, ho⟩ : ∃ o, o = O i := ⟨_, rfl⟩
    rw [← ho] at hol ⊢
    by_cases hlt : i < n9
    · obtain ⟨e, he⟩ : ∃ e, e = 18 + 6 * i := ⟨_, rfl⟩
      obtain ⟨e4, he4⟩ : ∃ e, e = 18 + 6 * i + 4 := ⟨_, rfl⟩
      have hel : e4 + 2 ≤ L := by have := HHL.out; omega
      have hei : 18 + (i : Int) * 6 = (e : Int) := by omega
      have hei4 : (e : Int) + 4 = (e4 : Int) := by omega
      have D1 := CN.out e 4 (by omega) (by omega) wr hI.bel
      have D2 := CN.out e4 2 (by omega) hel wr hI.bel
      have hr1 := HRd.out i
      have hr2 := HRl.out i
      have hr3 := HR.out i
      rw [← he] at hr1
      rw [← he4] at hr3
      rw [← hr3] at D2
      obtain ⟨r1, hr1e⟩ : ∃ r, r = rd bs e 4 := ⟨_, rfl⟩
      obtain ⟨r2, hr2e⟩ : ∃ r, r = R i := ⟨_, rfl⟩
      rw [← hr1e] at D1 hr1
      rw [← hr2e] at D2 hr2
      have HR1 := Lib.hid hr1e
      have HR2 := Lib.hid hr2e
      have HOE := Lib.hid ho
      have HE := Lib.hid he
      have D1 := Lib.hid D1
      have D2 := Lib.hid D2
      clear he he4 hr3 hr1e hr2e ho
      by_cases heq : r1 = o
      · have hd : ((r1 : Int) != (o : Int)) = false := by simp; omega
        have HEQ := Lib.hid heq
        clear heq
        go_wp2_with fail
        refine D1.out.mono ?_
        rintro e1 wx ⟨rfl, rfl⟩
        clear D1
        go_wp2_with fail
        refine D2.out.mono ?_
        rintro e1 wx ⟨rfl, rfl⟩
        clear D2
        go_wp2_with fail
        have HI0 := Lib.hid hI
        have hvA : ∀ j, va.ownBlock = some j → j < wr.heap.size := fun j h => (hI.oA.lt j h).2
        have HA : Hid (ints ((List.range i).map O) ++ [.int .i64 (r1 : Int)] = ints ((List.range (i + 1)).map O)) := by show _ = _; rw [List.range_succ, List.map_append, List.map_singleton, ints_snoc, ← HOE.out, HEQ.out]
        have HSZ : Hid (ints ((List.range i).map R) ++ [.int .i64 (r2 : Int)] = ints ((List.range (i + 1)).map R)) := by show _ = _; rw [List.range_succ, List.map_append, List.map_singleton, ints_snoc, ← HR2.out]
        have HDI : Hid (∀ j, j < i + 1 → rd bs (18 + 6 * j) 4 = O j) := by
          show ∀ j, j < i + 1 → rd bs (18 + 6 * j) 4 = O j
          intro j hj
          by_cases hji : j < i
          · exact hdir.out j hji
          · obtain rfl : j = i := by omega
            rw [← HE.out, ← HR1.out, HEQ.out, HOE.out]
        refine wp_region_N_drew (S := (fun w' : World => w'.cell? ⟨gD, 6, none⟩ = some va ∧ w'.cell? ⟨gD, 7, none⟩ = some vs)) 11 (by kernel_rfl) ?_
        replace hI := hI.drew
        have hHeld : (fun w' : World => w'.cell? ⟨gD, 6, none⟩ = some va ∧ w'.cell? ⟨gD, 7, none⟩ = some vs) wr.drew := ⟨hI.kD.cell (i := 6) rfl, hI.kD.cell (i := 7) rfl⟩
        refine wpAnyN_takeY (i := 0) (v := ?v9008) rfl (by kernel_rfl) (by kernel_rfl) (by kernel_rfl) (fun _ _ _ h => h) rfl (Or.inl ⟨by rfl, ?hy9008⟩) (fun _ => hHeld) ?rest9008
        case hy9008 => (intro w' _; go_simp; (try with_reducible rfl))
        try simp only [Act.put, List.setIfInBounds_toArray, List.set_cons_zero, List.set_cons_succ, List.getElem_toArray, List.getElem_cons_zero, List.getElem_cons_succ]
        refine wpAnyN_takeY (i := 2) (v := ?v9009) rfl (by kernel_rfl) (by kernel_rfl) (by kernel_rfl) (fun _ _ _ h => h) rfl (Or.inl ⟨by rfl, ?hy9009⟩) (fun _ => hHeld) ?rest9009
        case hy9009 => (intro w' _; go_simp; (try with_reducible rfl))
        try simp only [Act.put, List.setIfInBounds_toArray, List.set_cons_zero, List.set_cons_succ, List.getElem_toArray, List.getElem_cons_zero, List.getElem_cons_succ]
        refine wpAnyN_takeY (i := 5) (v := ?v9010) rfl (by kernel_rfl) (by kernel_rfl) (by kernel_rfl) (fun _ _ _ h => h) rfl (Or.inl ⟨by rfl, ?hy9010⟩) (fun _ => hHeld) ?rest9010
        case hy9010 => (intro w' _; go_simp; (try with_reducible rfl))
        try simp only [Act.put, List.setIfInBounds_toArray, List.set_cons_zero, List.set_cons_succ, List.getElem_toArray, List.getElem_cons_zero, List.getElem_cons_succ]
        refine wpAnyN_takeY (i := 7) (v := ?v9011) rfl (by kernel_rfl) (by kernel_rfl) (by kernel_rfl) (fun _ _ _ h => h) rfl (Or.inl ⟨by rfl, ?hy9011⟩) (fun _ => hHeld) ?rest9011
        case hy9011 => (intro w' _; go_simp; (try with_reducible rfl))
        try simp only [Act.put, List.setIfInBounds_toArray, List.set_cons_zero, List.set_cons_succ, List.getElem_toArray, List.getElem_cons_zero, List.getElem_cons_succ]
        refine wpAnyN_take (i := 1) (v := ?v9012) rfl (by kernel_rfl) (by kernel_rfl) (by kernel_rfl) (fun _ _ _ h => h) rfl (by kernel_rfl) (by kernel_rfl) (Or.inl ⟨by rfl, ?hy9012⟩) hHeld ?rest9012
        case hy9012 => (intro w' hSw; (try dsimp only at hSw); go_simp; (try with_reducible rfl))
        try simp only [Act.put, List.setIfInBounds_toArray, List.set_cons_zero, List.set_cons_succ, List.getElem_toArray, List.getElem_cons_zero, List.getElem_cons_succ]
        refine wpAnyN_take (i := 6) (v := ?v9013) rfl (by kernel_rfl) (by kernel_rfl) (by kernel_rfl) (fun _ _ _ h => h) rfl (by kernel_rfl) (by kernel_rfl) (Or.inl ⟨by rfl, ?hy9013⟩) hHeld ?rest9013
        case hy9013 => (intro w' hSw; (try dsimp only at hSw); go_simp; (try with_reducible rfl))
        try simp only [Act.put, List.setIfInBounds_toArray, List.set_cons_zero, List.set_cons_succ, List.getElem_toArray, List.getElem_cons_zero, List.getElem_cons_succ]
        refine wpAnyN_ready (rs := [3, 8]) (by kernel_rfl) (by simp) ?_
        refine AllReadyN.cons rfl (fun K hK => ?_) (AllReadyN.cons rfl (fun K hK => ?_) AllReadyN.nil)
        · rw [if_pos (by rfl)]
          go_simp
          obtain ⟨w3, hw3⟩ : ∃ w3, (wr.alloc (.cells #[.int .i64 r1] 3)).drew = w3 := ⟨_, rfl⟩
          have hA : Below wr.heap.size wr w3 := by rw [← hw3]; exact ((Below.refl _ _).alloc (Nat.le_refl _) _).drew
          have p3 : Sl w3 1 (.slice (some ⟨wr.heap.size, 0, none⟩) 1 1) 1 [.int .i64 r1] := by rw [← hw3]; exact Sl.one wr _ _
          obtain ⟨b3, hbe3⟩ : ∃ b, wr.heap.size = b := ⟨_, rfl⟩
          have hb3 : wr.heap.size ≤ b3 := by omega
          rw [hbe3] at p3
          have hs3 : wr.heap.size ≤ w3.heap.size := by have := hA.size; omega
          replace hI := HI0.out.below hA
          (try simp only [hw3, hbe3])
          clear hw3 hbe3 hA
          refine hK.out _ _ (fun _ => ⟨hI.kD.cell (i := 6) rfl, hI.kD.cell (i := 7) rfl⟩) ?_
          clear hK K
          try simp only [Act.put, List.setIfInBounds_toArray, List.set_cons_zero, List.set_cons_succ, List.getElem_toArray, List.getElem_cons_zero, List.getElem_cons_succ]
          refine wpAnyN_ready (rs := [4, 8]) (by kernel_rfl) (by simp) ?_
          refine AllReadyN.cons rfl (fun K hK => ?_) (AllReadyN.cons rfl (fun K hK => ?_) AllReadyN.nil)
          · rw [if_pos (by rfl)]
            refine wp_app Eint (.tmp 46) (.tmp 48) rfl B rfl hI.oA rfl p3 (by intro u hu; simp at hu; subst hu; rfl) (by unfold maxLen; omega) (by omega) hI.le.2.1 ?_
            intro v4 w4 ho4 hg4 hh4
            rw [HA.out] at ho4
            have hs4 : wr.heap.size ≤ w4.heap.size := by have := (grown_turned' hg4).size; omega
            replace hI := hI.appA hg4 ho4 hh4
            obtain ⟨a4, c4, rfl, _, _⟩ := ownsRow_slice ho4
            clear ho4 hg4 hh4 p3
            refine hK.out _ _ (fun _ => ⟨hI.kD.cell (i := 6) rfl, hI.kD.cell (i := 7) rfl⟩) ?_
            clear hK K
            try simp only [Act.put, List.setIfInBounds_toArray, List.set_cons_zero, List.set_cons_succ, List.getElem_toArray, List.getElem_cons_zero, List.getElem_cons_succ]
            refine wpAnyN_takeY (i := 10) (v := ?v9014) rfl (by kernel_rfl) (by kernel_rfl) (by kernel_rfl) (fun _ _ _ h => h) rfl (Or.inl ⟨by rfl, ?hy9014⟩) (fun _ => ⟨hI.kD.cell (i := 6) rfl, hI.kD.cell (i := 7) rfl⟩) ?rest9014
            case hy9014 => (intro w' _; go_simp; (try with_reducible rfl))
            try simp only [Act.put, List.setIfInBounds_toArray, List.set_cons_zero, List.set_cons_succ, List.getElem_toArray, List.getElem_cons_zero, List.getElem_cons_succ]
            refine wpAnyN_ready (rs := [8]) (by kernel_rfl) (by simp) ?_
            refine AllReadyN.cons rfl (fun K hK => ?_) AllReadyN.nil
            rw [if_pos (by rfl)]
            go_simp
            obtain ⟨w8, hw8⟩ : ∃ w8, (w4.alloc (.cells #[.int .i64 r2] 3)) = w8 := ⟨_, rfl⟩
            have hA : Below w4.heap.size w4 w8 := by rw [← hw8]; exact ((Below.refl _ _).alloc (Nat.le_refl _) _)
            have p8 : Sl w8 1 (.slice (some ⟨w4.heap.size, 0, none⟩) 1 1) 1 [.int .i64 r2] := by rw [← hw8]; exact Sl.one w4 _ _
            obtain ⟨b8, hbe8⟩ : ∃ b, w4.heap.size = b := ⟨_, rfl⟩
            have hb8 : wr.heap.size ≤ b8 := by omega
            rw [hbe8] at p8
            have hs8 : wr.heap.size ≤ w8.heap.size := by have := hA.size; omega
            replace hI := hI.below hA
            (try simp only [hw8, hbe8])
            clear hw8 hbe8 hA
            refine hK.out _ _ (fun _ => ⟨hI.kD.cell (i := 6) rfl, hI.kD.cell (i := 7) rfl⟩) ?_
            clear hK K
            try simp only [Act.put, List.setIfInBounds_toArray, List.set_cons_zero, List.set_cons_succ, List.getElem_toArray, List.getElem_cons_zero, List.getElem_cons_succ]
            refine wpAnyN_ready (rs := [9]) (by kernel_rfl) (by simp) ?_
            refine AllReadyN.cons rfl (fun K hK => ?_) AllReadyN.nil
            rw [if_pos (by rfl)]
            refine wp_app Eint (.tmp 51) (.tmp 53) rfl B rfl hI.oS rfl p8 (by intro u hu; simp at hu; subst hu; rfl) (by unfold maxLen; omega) (by omega) hI.le.2.1 ?_
            intro v9 w9 ho9 hg9 hh9
            rw [HSZ.out] at ho9
            have hs9 : wr.heap.size ≤ w9.heap.size := by have := (grown_turned' hg9).size; omega
            replace hI := hI.appS hg9 ho9 hh9
            obtain ⟨a9, c9, rfl, _, _⟩ := ownsRow_slice ho9
            clear ho9 hg9 hh9 p8
            refine hK.out _ _ (fun _ => ⟨hI.kD.cell (i := 6) rfl, hI.kD.cell (i := 7) rfl⟩) ?_
            clear hK K
            try simp only [Act.put, List.setIfInBounds_toArray, List.set_cons_zero, List.set_cons_succ, List.getElem_toArray, List.getElem_cons_zero, List.getElem_cons_succ]
            have d6 := hI.kD.cell (i := 6) rfl
            have f6 := hI.kD.free 6
            refine wpAnyN_ready (rs := [11]) (by kernel_rfl) (by simp) ?_
            refine AllReadyN.cons rfl (fun K hK => ?_) AllReadyN.nil
            rw [if_pos (by rfl)]
            go_simp
            replace hI := hI.setD hDR 6 (.slice a4 (i + 1) c4) (by simp)
            obtain ⟨w11, hw11⟩ : ∃ w11, w9.setCell ⟨gD, 6, none⟩ (.slice a4 (i + 1) c4) = w11 := ⟨_, rfl⟩
            (try rw [hw11] at hI)
            (try simp only [hw11])
            clear hw11 d6 f6
            refine hK.out _ _ (fun h => by have h' : (true : Bool) = false := h; cases h') ?_
            clear hK K
            try simp only [Act.put, List.setIfInBounds_toArray, List.set_cons_zero, List.set_cons_succ, List.getElem_toArray, List.getElem_cons_zero, List.getElem_cons_succ]
            refine wpAnyN_takeY (i := 12) (v := ?v9015) rfl (by kernel_rfl) (by kernel_rfl) (by kernel_rfl) (fun _ _ _ h => h) rfl (Or.inl ⟨by rfl, ?hy9015⟩) (fun h => by have h' : (true : Bool) = false := h; cases h') ?rest9015
            case hy9015 => (intro w' _; go_simp; (try with_reducible rfl))
            try simp only [Act.put, List.setIfInBounds_toArray, List.set_cons_zero, List.set_cons_succ, List.getElem_toArray, List.getElem_cons_zero, List.getElem_cons_succ]
            have d7 := hI.kD.cell (i := 7) rfl
            have f7 := hI.kD.free 7
            refine wpAnyN_ready (rs := [13]) (by kernel_rfl) (by simp) ?_
            refine AllReadyN.cons rfl (fun K hK => ?_) AllReadyN.nil
            rw [if_pos (by rfl)]
            go_simp
            replace hI := hI.setD hDR 7 (.slice a9 (i + 1) c9) (by simp)
            obtain ⟨w13, hw13⟩ : ∃ w13, w11.setCell ⟨gD, 7, none⟩ (.slice a9 (i + 1) c9) = w13 := ⟨_, rfl⟩
            (try rw [hw13] at hI)
            (try simp only [hw13])
            clear hw13 d7 f7
            refine hK.out _ _ (fun h => by have h' : (true : Bool) = false := h; cases h') ?_
            clear hK K
            try simp only [Act.put, List.setIfInBounds_toArray, List.set_cons_zero, List.set_cons_succ, List.getElem_toArray, List.getElem_cons_zero, List.getElem_cons_succ]
            refine wpAnyN_done (by kernel_rfl) ?_ _
            go_wp2_with fail
            go_roundw
            case rel => exact ⟨i + 1, _, _, by omega, by go_num, by rw [HO.out, ← HOE.out, ← HR2.out]; simp, by rw [HO.out, ← HOE.out, ← HR2.out]; omega, HDI, hI⟩
            case measure => simp [intOf]; omega
          · rw [if_pos (by rfl)]
            go_simp
            obtain ⟨w8, hw8⟩ : ∃ w8, (w3.alloc (.cells #[.int .i64 r2] 3)) = w8 := ⟨_, rfl⟩
            have hA : Below w3.heap.size w3 w8 := by rw [← hw8]; exact ((Below.refl _ _).alloc (Nat.le_refl _) _)
            have p8 : Sl w8 1 (.slice (some ⟨w3.heap.size, 0, none⟩) 1 1) 1 [.int .i64 r2] := by rw [← hw8]; exact Sl.one w3 _ _
            obtain ⟨b8, hbe8⟩ : ∃ b, w3.heap.size = b := ⟨_, rfl⟩
            have hb8 : wr.heap.size ≤ b8 := by omega
            rw [hbe8] at p8
            have hs8 : wr.heap.size ≤ w8.heap.size := by have := hA.size; omega
            replace hI := hI.below hA
            replace p3 := p3.below hA
            (try simp only [hw8, hbe8])
            clear hw8 hbe8 hA
            refine hK.out _ _ (fun _ => ⟨hI.kD.cell (i := 6) rfl, hI.kD.cell (i := 7) rfl⟩) ?_
            clear hK K
            try simp only [Act.put, List.setIfInBounds_toArray, List.set_cons_zero, List.set_cons_succ, List.getElem_toArray, List.getElem_cons_zero, List.getElem_cons_succ]
            refine wpAnyN_ready (rs := [4]) (by kernel_rfl) (by simp) ?_
            refine AllReadyN.cons rfl (fun K hK => ?_) AllReadyN.nil
            rw [if_pos (by rfl)]
            refine wp_app Eint (.tmp 46) (.tmp 48) rfl B rfl hI.oA rfl p3 (by intro u hu; simp at hu; subst hu; rfl) (by unfold maxLen; omega) (by omega) hI.le.2.1 ?_
            intro v4 w4 ho4 hg4 hh4
            rw [HA.out] at ho4
            replace p8 := p8.turned (grown_turned' hg4) (fun x hx hs => by cases hx; have h := hvA b8 hs; omega)
            have hs4 : wr.heap.size ≤ w4.heap.size := by have := (grown_turned' hg4).size; omega
            replace hI := hI.appA hg4 ho4 hh4
            obtain ⟨a4, c4, rfl, _, _⟩ := ownsRow_slice ho4
            clear ho4 hg4 hh4 p3
            refine hK.out _ _ (fun _ => ⟨hI.kD.cell (i := 6) rfl, hI.kD.cell (i := 7) rfl⟩) ?_
            clear hK K
            try simp only [Act.put, List.setIfInBounds_toArray, List.set_cons_zero, List.set_cons_succ, List.getElem_toArray, List.getElem_cons_zero, List.getElem_cons_succ]
            refine wpAnyN_takeY (i := 10) (v := ?v9016) rfl (by kernel_rfl) (by kernel_rfl) (by kernel_rfl) (fun _ _ _ h => h) rfl (Or.inl ⟨by rfl, ?hy9016⟩) (fun _ => ⟨hI.kD.cell (i := 6) rfl, hI.kD.cell (i := 7) rfl⟩) ?rest9016
            case hy9016 => (intro w' _; go_simp; (try with_reducible rfl))
            try simp only [Act.put, List.setIfInBounds_toArray, List.set_cons_zero, List.set_cons_succ, List.getElem_toArray, List.getElem_cons_zero, List.getElem_cons_succ]
            refine wpAnyN_ready (rs := [9]) (by kernel_rfl) (by simp) ?_
            refine AllReadyN.cons rfl (fun K hK => ?_) AllReadyN.nil
            rw [if_pos (by rfl)]
            refine wp_app Eint (.tmp 51) (.tmp 53) rfl B rfl hI.oS rfl p8 (by intro u hu; simp at hu; subst hu; rfl) (by unfold maxLen; omega) (by omega) hI.le.2.1 ?_
            intro v9 w9 ho9 hg9 hh9
            rw [HSZ.out] at ho9
            have hs9 : wr.heap.size ≤ w9.heap.size := by have := (grown_turned' hg9).size; omega
            replace hI := hI.appS hg9 ho9 hh9
            obtain ⟨a9, c9, rfl, _, _⟩ := ownsRow_slice ho9
            clear ho9 hg9 hh9 p8
            refine hK.out _ _ (fun _ => ⟨hI.kD.cell (i := 6) rfl, hI.kD.cell (i := 7) rfl⟩) ?_
            clear hK K
            try simp only [Act.put, List.setIfInBounds_toArray, List.set_cons_zero, List.set_cons_succ, List.getElem_toArray, List.getElem_cons_zero, List.getElem_cons_succ]
            have d6 := hI.kD.cell (i := 6) rfl
            have f6 := hI.kD.free 6
            refine wpAnyN_ready (rs := [11]) (by kernel_rfl) (by simp) ?_
            refine AllReadyN.cons rfl (fun K hK => ?_) AllReadyN.nil
            rw [if_pos (by rfl)]
            go_simp
            replace hI := hI.setD hDR 6 (.slice a4 (i + 1) c4) (by simp)
            obtain ⟨w11, hw11⟩ : ∃ w11, w9.setCell ⟨gD, 6, none⟩ (.slice a4 (i + 1) c4) = w11 := ⟨_, rfl⟩
            (try rw [hw11] at hI)
            (try simp only [hw11])
            clear hw11 d6 f6
            refine hK.out _ _ (fun h => by have h' : (true : Bool) = false := h; cases h') ?_
            clear hK K
            try simp only [Act.put, List.setIfInBounds_toArray, List.set_cons_zero, List.set_cons_succ, List.getElem_toArray, List.getElem_cons_zero, List.getElem_cons_succ]
            refine wpAnyN_takeY (i := 12) (v := ?v9017) rfl (by kernel_rfl) (by kernel_rfl) (by kernel_rfl) (fun _ _ _ h => h) rfl (Or.inl ⟨by rfl, ?hy9017⟩) (fun h => by have h' : (true : Bool) = false := h; cases h') ?rest9017
            case hy9017 => (intro w' _; go_simp; (try with_reducible rfl))
            try simp only [Act.put, List.setIfInBounds_toArray, List.set_cons_zero, List.set_cons_succ, List.getElem_toArray, List.getElem_cons_zero, List.getElem_cons_succ]
            have d7 := hI.kD.cell (i := 7) rfl
            have f7 := hI.kD.free 7
            refine wpAnyN_ready (rs := [13]) (by kernel_rfl) (by simp) ?_
            refine AllReadyN.cons rfl (fun K hK => ?_) AllReadyN.nil
            rw [if_pos (by rfl)]
            go_simp
            replace hI := hI.setD hDR 7 (.slice a9 (i + 1) c9) (by simp)
            obtain ⟨w13, hw13⟩ : ∃ w13, w11.setCell ⟨gD, 7, none⟩ (.slice a9 (i + 1) c9) = w13 := ⟨_, rfl⟩
            (try rw [hw13] at hI)
            (try simp only [hw13])
            clear hw13 d7 f7
            refine hK.out _ _ (fun h => by have h' : (true : Bool) = false := h; cases h') ?_
            clear hK K
            try simp only [Act.put, List.setIfInBounds_toArray, List.set_cons_zero, List.set_cons_succ, List.getElem_toArray, List.getElem_cons_zero, List.getElem_cons_succ]
            refine wpAnyN_done (by kernel_rfl) ?_ _
            go_wp2_with fail
            go_roundw
            case rel => exact ⟨i + 1, _, _, by omega, by go_num, by rw [HO.out, ← HOE.out, ← HR2.out]; simp, by rw [HO.out, ← HOE.out, ← HR2.out]; omega, HDI, hI⟩
            case measure => simp [intOf]; omega
        · rw [if_pos (by rfl)]
          go_simp
          obtain ⟨w8, hw8⟩ : ∃ w8, (wr.alloc (.cells #[.int .i64 r2] 3)).drew = w8 := ⟨_, rfl⟩
          have hA : Below wr.heap.size wr w8 := by rw [← hw8]; exact ((Below.refl _ _).alloc (Nat.le_refl _) _).drew
          have p8 : Sl w8 1 (.slice (some ⟨wr.heap.size, 0, none⟩) 1 1) 1 [.int .i64 r2] := by rw [← hw8]; exact Sl.one wr _ _
          obtain ⟨b8, hbe8⟩ : ∃ b, wr.heap.size = b := ⟨_, rfl⟩
          have hb8 : wr.heap.size ≤ b8 := by omega
          rw [hbe8] at p8
          have hs8 : wr.heap.size ≤ w8.heap.size := by have := hA.size; omega
          replace hI := HI0.out.below hA
          (try simp only [hw8, hbe8])
          clear hw8 hbe8 hA
          refine hK.out _ _ (fun _ => ⟨hI.kD.cell (i := 6) rfl, hI.kD.cell (i := 7) rfl⟩) ?_
          clear hK K
          try simp only [Act.put, List.setIfInBounds_toArray, List.set_cons_zero, List.set_cons_succ, List.getElem_toArray, List.getElem_cons_zero, List.getElem_cons_succ]
          refine wpAnyN_ready (rs := [3]) (by kernel_rfl) (by simp) ?_
          refine AllReadyN.cons rfl (fun K hK => ?_) AllReadyN.nil
          rw [if_pos (by rfl)]
          go_simp
          obtain ⟨w3, hw3⟩ : ∃ w3, (w8.alloc (.cells #[.int .i64 r1] 3)) = w3 := ⟨_, rfl⟩
          have hA : Below w8.heap.size w8 w3 := by rw [← hw3]; exact ((Below.refl _ _).alloc (Nat.le_refl _) _)
          have p3 : Sl w3 1 (.slice (some ⟨w8.heap.size, 0, none⟩) 1 1) 1 [.int .i64 r1] := by rw [← hw3]; exact Sl.one w8 _ _
          obtain ⟨b3, hbe3⟩ : ∃ b, w8.heap.size = b := ⟨_, rfl⟩
          have hb3 : wr.heap.size ≤ b3 := by omega
          rw [hbe3] at p3
          have hs3 : wr.heap.size ≤ w3.heap.size := by have := hA.size; omega
          replace hI := hI.below hA
          replace p8 := p8.below hA
          (try simp only [hw3, hbe3])
          clear hw3 hbe3 hA
          refine hK.out _ _ (fun _ => ⟨hI.kD.cell (i := 6) rfl, hI.kD.cell (i := 7) rfl⟩) ?_
          clear hK K
          try simp only [Act.put, List.setIfInBounds_toArray, List.set_cons_zero, List.set_cons_succ, List.getElem_toArray, List.getElem_cons_zero, List.getElem_cons_succ]
          refine wpAnyN_ready (rs := [4]) (by kernel_rfl) (by simp) ?_
          refine AllReadyN.cons rfl (fun K hK => ?_) AllReadyN.nil
          rw [if_pos (by rfl)]
          refine wp_app Eint (.tmp 46) (.tmp 48) rfl B rfl hI.oA rfl p3 (by intro u hu; simp at hu; subst hu; rfl) (by unfold maxLen; omega) (by omega) hI.le.2.1 ?_
          intro v4 w4 ho4 hg4 hh4
          rw [HA.out] at ho4
          replace p8 := p8.turned (grown_turned' hg4) (fun x hx hs => by cases hx; have h := hvA b8 hs; omega)
          have hs4 : wr.heap.size ≤ w4.heap.size := by have := (grown_turned' hg4).size; omega
          replace hI := hI.appA hg4 ho4 hh4
          obtain ⟨a4, c4, rfl, _, _⟩ := ownsRow_slice ho4
          clear ho4 hg4 hh4 p3
          refine hK.out _ _ (fun _ => ⟨hI.kD.cell (i := 6) rfl, hI.kD.cell (i := 7) rfl⟩) ?_
          clear hK K
          try simp only [Act.put, List.setIfInBounds_toArray, List.set_cons_zero, List.set_cons_succ, List.getElem_toArray, List.getElem_cons_zero, List.getElem_cons_succ]
          refine wpAnyN_takeY (i := 10) (v := ?v9018) rfl (by kernel_rfl) (by kernel_rfl) (by kernel_rfl) (fun _ _ _ h => h) rfl (Or.inl ⟨by rfl, ?hy9018⟩) (fun _ => ⟨hI.kD.cell (i := 6) rfl, hI.kD.cell (i := 7) rfl⟩) ?rest9018
          case hy9018 => (intro w' _; go_simp; (try with_reducible rfl))
          try simp only [Act.put, List.setIfInBounds_toArray, List.set_cons_zero, List.set_cons_succ, List.getElem_toArray, List.getElem_cons_zero, List.getElem_cons_succ]
          refine wpAnyN_ready (rs := [9]) (by kernel_rfl) (by simp) ?_
          refine AllReadyN.cons rfl (fun K hK => ?_) AllReadyN.nil
          rw [if_pos (by rfl)]
          refine wp_app Eint (.tmp 51) (.tmp 53) rfl B rfl hI.oS rfl p8 (by intro u hu; simp at hu; subst hu; rfl) (by unfold maxLen; omega) (by omega) hI.le.2.1 ?_
          intro v9 w9 ho9 hg9 hh9
          rw [HSZ.out] at ho9
          have hs9 : wr.heap.size ≤ w9.heap.size := by have := (grown_turned' hg9).size; omega
          replace hI := hI.appS hg9 ho9 hh9
          obtain ⟨a9, c9, rfl, _, _⟩ := ownsRow_slice ho9
          clear ho9 hg9 hh9 p8
          refine hK.out _ _ (fun _ => ⟨hI.kD.cell (i := 6) rfl, hI.kD.cell (i := 7) rfl⟩) ?_
          clear hK K
          try simp only [Act.put, List.setIfInBounds_toArray, List.set_cons_zero, List.set_cons_succ, List.getElem_toArray, List.getElem_cons_zero, List.getElem_cons_succ]
          have d6 := hI.kD.cell (i := 6) rfl
          have f6 := hI.kD.free 6
          refine wpAnyN_ready (rs := [11]) (by kernel_rfl) (by simp) ?_
          refine AllReadyN.cons rfl (fun K hK => ?_) AllReadyN.nil
          rw [if_pos (by rfl)]
          go_simp
          replace hI := hI.setD hDR 6 (.slice a4 (i + 1) c4) (by simp)
          obtain ⟨w11, hw11⟩ : ∃ w11, w9.setCell ⟨gD, 6, none⟩ (.slice a4 (i + 1) c4) = w11 := ⟨_, rfl⟩
          (try rw [hw11] at hI)
          (try simp only [hw11])
          clear hw11 d6 f6
          refine hK.out _ _ (fun h => by have h' : (true : Bool) = false := h; cases h') ?_
          clear hK K
          try simp only [Act.put, List.setIfInBounds_toArray, List.set_cons_zero, List.set_cons_succ, List.getElem_toArray, List.getElem_cons_zero, List.getElem_cons_succ]
          refine wpAnyN_takeY (i := 12) (v := ?v9019) rfl (by kernel_rfl) (by kernel_rfl) (by kernel_rfl) (fun _ _ _ h => h) rfl (Or.inl ⟨by rfl, ?hy9019⟩) (fun h => by have h' : (true : Bool) = false := h; cases h') ?rest9019
          case hy9019 => (intro w' _; go_simp; (try with_reducible rfl))
          try simp only [Act.put, List.setIfInBounds_toArray, List.set_cons_zero, List.set_cons_succ, List.getElem_toArray, List.getElem_cons_zero, List.getElem_cons_succ]
          have d7 := hI.kD.cell (i := 7) rfl
          have f7 := hI.kD.free 7
          refine wpAnyN_ready (rs := [13]) (by kernel_rfl) (by simp) ?_
          refine AllReadyN.cons rfl (fun K hK => ?_) AllReadyN.nil
          rw [if_pos (by rfl)]
          go_simp
          replace hI := hI.setD hDR 7 (.slice a9 (i + 1) c9) (by simp)
          obtain ⟨w13, hw13⟩ : ∃ w13, w11.setCell ⟨gD, 7, none⟩ (.slice a9 (i + 1) c9) = w13 := ⟨_, rfl⟩
          (try rw [hw13] at hI)
          (try simp only [hw13])
          clear hw13 d7 f7
          refine hK.out _ _ (fun h => by have h' : (true : Bool) = false := h; cases h') ?_
          clear hK K
          try simp only [Act.put, List.setIfInBounds_toArray, List.set_cons_zero, List.set_cons_succ, List.getElem_toArray, List.getElem_cons_zero, List.getElem_cons_succ]
          refine wpAnyN_done (by kernel_rfl) ?_ _
          go_wp2_with fail
          go_roundw
          case rel => exact ⟨i + 1, _, _, by omega, by go_num, by rw [HO.out, ← HOE.out, ← HR2.out]; simp, by rw [HO.out, ← HOE.out, ← HR2.out]; omega, HDI, hI⟩
          case measure => simp [intOf]; omega
      · have hd : ((r1 : Int) != (o : Int)) = true := by simp; omega
        have hno : ¬ ((∀ i, i < n9 → rd bs (18 + 6 * i) 4 = O i) ∧ O n9 = L) := fun h => heq (by rw [HR1.out, HE.out, h.1 i hlt, HOE.out])
        have HNO := Lib.hid hno
        clear heq hno
        have z0 := hI.kR.cell (i := 0) rfl
        have z1 := hI.kR.cell (i := 1) rfl
        have z2 := hI.kR.cell (i := 2) rfl
        have z3 := hI.kR.cell (i := 3) rfl
        have z4 := hI.kR.cell (i := 4) rfl
        have z5 := hI.kR.cell (i := 5) rfl
        have z6 := hI.kR.cell (i := 6) rfl
        have z7 := hI.kR.cell (i := 7) rfl
        have zf0 := hI.kR.free 0
        have zf1 := hI.kR.free 1
        have zf2 := hI.kR.free 2
        have zf3 := hI.kR.free 3
        have zf4 := hI.kR.free 4
        have zf5 := hI.kR.free 5
        have zf6 := hI.kR.free 6
        have zf7 := hI.kR.free 7
        go_wp2_with fail
        refine D1.out.mono ?_
        rintro e1 wx ⟨rfl, rfl⟩
        clear D1
        go_wp2_with fail
        refine D2.out.mono ?_
        rintro e1 wx ⟨rfl, rfl⟩
        clear D2
        go_wp2_with fail
        refine bodyPost_ret (v := .tuple #[dv 0 0 (.slice none 0 0) 0 0 0 (.slice none 0 0) (.slice none 0 0), .int .i64 2]) (res_blk_tmp rfl rfl (blk_set8 hI.kR _ _ _ _ _ _ _ _) Try.underlying37 rfl (by kernel_rfl) rfl) rfl ?_
        have ht := turned_set8 wr gR (.int .i64 0) (.int .i64 0) (.slice none 0 0) (.int .i64 0) (.int .i32 0) (.int .i32 0) (.slice none 0 0) (.slice none 0 0)
        exact .inr ⟨HNO.out, 2, by decide, rfl, ht.old hI.bel hI.bel.size (by rintro k hk rfl; have := hI.le; omega)⟩
    · obtain rfl : i = n9 := by omega
      by_cases heq : o = L
      · have hd : ((o : Int) != (L : Int)) = false := by simp; omega
        have HEQ := Lib.hid heq
        have HOE := Lib.hid ho
        clear heq ho
        obtain ⟨aA, cA, rfl, _, _⟩ := ownsRow_slice hI.oA
        obtain ⟨aS, cS, rfl, _, _⟩ := ownsRow_slice hI.oS
        have d0 := hI.kD.cell (i := 0) rfl
        have d1 := hI.kD.cell (i := 1) rfl
        have d2 := hI.kD.cell (i := 2) rfl
        have d3 := hI.kD.cell (i := 3) rfl
        have d4 := hI.kD.cell (i := 4) rfl
        have d5 := hI.kD.cell (i := 5) rfl
        have d6 := hI.kD.cell (i := 6) rfl
        have d7 := hI.kD.cell (i := 7) rfl
        have z0 := hI.kR.cell (i := 0) rfl
        have z1 := hI.kR.cell (i := 1) rfl
        have z2 := hI.kR.cell (i := 2) rfl
        have z3 := hI.kR.cell (i := 3) rfl
        have z4 := hI.kR.cell (i := 4) rfl
        have z5 := hI.kR.cell (i := 5) rfl
        have z6 := hI.kR.cell (i := 6) rfl
        have z7 := hI.kR.cell (i := 7) rfl
        have zf0 := hI.kR.free 0
        have zf1 := hI.kR.free 1
        have zf2 := hI.kR.free 2
        have zf3 := hI.kR.free 3
        have zf4 := hI.kR.free 4
        have zf5 := hI.kR.free 5
        have zf6 := hI.kR.free 6
        have zf7 := hI.kR.free 7
        go_wp2_with fail
        refine bodyPost_ret (v := .tuple #[dv W H (.slice none 0 0) cell ox oy (.slice aA i cA) (.slice aS i cS), .int .i64 0]) (res_blk_tmp rfl rfl (blk_set8 hI.kR _ _ _ _ _ _ _ _) Try.underlying37 rfl (by kernel_rfl) rfl) rfl ?_
        have ht := turned_set8 wr gR (.int .i64 W) (.int .i64 H) (.slice none 0 0) (.int .i64 cell) (.int .i32 ox) (.int .i32 oy) (.slice aA i cA) (.slice aS i cS)
        refine .inl ⟨hdir.out, by rw [← HOE.out, HEQ.out], _, _, rfl, ?_, ?_, ht.old hI.bel hI.bel.size (by rintro k hk rfl; have := hI.le; omega)⟩
        · exact ownsRow_base (ht.own hI.oA (by rintro k hk rfl; have := (hI.oA.lt _ hk).1; have := hI.le; omega)) hI.le.1
        · exact ownsRow_base (ht.own hI.oS (by rintro k hk rfl; have := (hI.oS.lt _ hk).1; have := hI.le; omega)) hI.le.1
      · have hd : ((o : Int) != (L : Int)) = true := by simp; omega
        have hno : ¬ ((∀ j, j < i → rd bs (18 + 6 * j) 4 = O j) ∧ O i = L) := fun h => heq (by rw [ho, h.2])
        have HNO := Lib.hid hno
        clear heq hno ho
        have z0 := hI.kR.cell (i := 0) rfl
        have z1 := hI.kR.cell (i := 1) rfl
        have z2 := hI.kR.cell (i := 2) rfl
        have z3 := hI.kR.cell (i := 3) rfl
        have z4 := hI.kR.cell (i := 4) rfl
        have z5 := hI.kR.cell (i := 5) rfl
        have z6 := hI.kR.cell (i := 6) rfl
        have z7 := hI.kR.cell (i := 7) rfl
        have zf0 := hI.kR.free 0
        have zf1 := hI.kR.free 1
        have zf2 := hI.kR.free 2
        have zf3 := hI.kR.free 3
        have zf4 := hI.kR.free 4
        have zf5 := hI.kR.free 5
        have zf6 := hI.kR.free 6
        have zf7 := hI.kR.free 7
        go_wp2_with fail
        refine bodyPost_ret (v := .tuple #[dv 0 0 (.slice none 0 0) 0 0 0 (.slice none 0 0) (.slice none 0 0), .int .i64 5]) (res_blk_tmp rfl rfl (blk_set8 hI.kR _ _ _ _ _ _ _ _) Try.underlying37 rfl (by kernel_rfl) rfl) rfl ?_
        have ht := turned_set8 wr gR (.int .i64 0) (.int .i64 0) (.slice none 0 0) (.int .i64 0) (.int .i32 0) (.int .i32 0) (.slice none 0 0) (.slice none 0 0)
        exact .inr ⟨HNO.out, 5, by decide, rfl, ht.old hI.bel hI.bel.size (by rintro k hk rfl; have := hI.le; omega)⟩
end Go.Proofs.Ytdknnfineommoaa
