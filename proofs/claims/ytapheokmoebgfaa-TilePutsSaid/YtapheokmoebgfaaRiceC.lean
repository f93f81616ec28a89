/-
  Folded numbers gone through: the iterator, and the sum of their sizes.
-/
import Derived.RangeFuncFrom
import Derived.RangeFuncNested
import Derived.RangeFuncBox
import Derived.RangeFuncBound
import Derived.RangeFuncCalls
import Derived.RangeFuncLeaves
import Derived.Shelf.Abstract
import Derived.Shelf.RegionOpen
import Derived.WalkKit
import Derived.OwnWalkIn
import Derived.TacticsInMore
import Derived.LoopNIn
import Derived.LoopIn
import Derived.Test.YtapheokmoebgfaaRiceA
set_option linter.unusedVariables false
set_option linter.unusedSimpArgs false
namespace Go.Proofs.Ytapheokmoebgfaa
open Go Go.RowKit Go.Shelf Go.Th
attribute [local go_sem] Oper.semAt_some

/-- Numbers of 32 bits with a sign. -/
def In32 (x : Int) : Prop := -2147483648 ≤ x ∧ x ≤ 2147483647
abbrev I32 := { x : Int // In32 x }
theorem exists_i32 (xs : List Int) (h : ∀ x ∈ xs, In32 x) : ∃ ys : List I32, ys.map (·.1) = xs := by
  induction xs with
  | nil => exact ⟨[], rfl⟩
  | cons x r ih =>
    obtain ⟨ys, hy⟩ := ih (fun y hy => h y (by simp [hy]))
    exact ⟨⟨x, h x (by simp)⟩ :: ys, by simp [hy]⟩
def i32s (xs : List Int) : List Value := xs.map (.int .i32)
theorem i32s_at (xs : List Int) (i : Nat) (h : i < xs.length) : (i32s xs)[i]? = some (.int .i32 xs[i]) := by simp [i32s, h]

/-- These blocks lie as they lay. -/
def Kept (K : Nat → Prop) (W W' : World) : Prop := ∀ k, K k → W'.heap[k]? = W.heap[k]?
theorem Kept.refl (K : Nat → Prop) (W : World) : Kept K W W := fun _ _ => rfl
theorem Kept.trans {K : Nat → Prop} {A B C : World} (h : Kept K A B) (k : Kept K B C) : Kept K A C := fun j hj => (k j hj).trans (h j hj)
theorem kept_b {K : Nat → Prop} {w : World} (hK : ∀ k, K k → k < w.heap.size) (W : World) (l : Nat) (o o' : Obj) (hl : w.heap.size ≤ l) (_ : W.heap[l]? = some o) (_ : o.isCells = false) (_ : o.isWalk = false) : Kept K W (W.putObj l o') :=
  fun k hk => World.putObj_heap_other (by have := hK k hk; omega)
theorem Kept.cell {K : Nat → Prop} {W W' : World} (h : Kept K W W') {p : Addr} (hp : K p.block) : W'.cell? p = W.cell? p := World.cell?_of_block (w := W) (h p.block hp)

set_option maxRecDepth 100000 in
set_option maxHeartbeats 2000000 in
theorem seq_in (l Bx : Nat) (a : Option Addr) (n cap : Nat) (xs : List I32) (hn : n = xs.length) (hmax : n ≤ 1000000) (J Jx : List I32 → World → Prop) (K : Nat → Prop) (hK : ∀ p, a = some p → 0 < n → K p.block)
    (hY : ∀ pre x W, J pre W → pre.length < xs.length → YieldAt Fence.wide 8 Try.prog l #[.int .u32 (fold x.1 : Nat)] W fun e W' =>
      (e = .returned (.bool true) ∧ J (pre ++ [x]) W' ∧ Kept K W W') ∨ (e = .returned (.bool false) ∧ Jx (pre ++ [x]) W'))
    (W : World) (hBx : W.cell? ⟨Bx, 0, none⟩ = some (.slice a n cap)) (hS : Sl W 1 (.slice a n cap) n (i32s (xs.map (·.1)))) (h0 : J [] W) :
    CallsIn Fence.wide 9 Try.prog 50 #[.func (.yield l) #[] #[], .pointer (some ⟨Bx, 0, none⟩)] W fun e W' => (∃ v, e = .returned v) ∧
      ((∃ ys, ys = xs ∧ J ys W') ∨ (∃ pre, pre <+: xs ∧ Jx pre W')) := by
  obtain ⟨a', c', he, hl, hcap, hcm, hnil, hcell⟩ := hS
  cases he
  refine callsIn_of_wp Try.func50 rfl trivial ?_ rfl
  simp only [Try.ntmps50, List.size_toArray, List.length_cons, List.length_nil, Nat.reduceAdd, Nat.reduceSub, Array.replicate_succ, Array.replicate_zero, List.push_toArray, List.append_toArray, List.nil_append, List.cons_append]
  have HY := Lib.hid hY; clear hY
  have HC := Lib.hid hcell; clear hcell
  have HK := Lib.hid hK; clear hK
  gi_wp2
  gi_loopw [7] (fun i wr => ∃ k : Nat, k ≤ n ∧ i = .int .i64 k ∧ J (xs.take k) wr ∧ Kept K W wr)
    (fun i _ => n - (intOf i).toNat)
  case atStart => exact ⟨0, Nat.zero_le _, rfl, h0, Kept.refl _ _⟩
  case round =>
    obtain ⟨k, hk, rfl, hJs, hnx⟩ := hrel
    by_cases hlt : k < n
    · have hkl : k < xs.length := by omega
      obtain ⟨b, o, rfl, hc⟩ := HC.out k _ (i32s_at (xs.map (·.1)) k (by simpa using hkl))
      have hcx := (hnx.cell (p := ⟨b, o + k, none⟩) (HK.out ⟨b, o, none⟩ rfl (by omega))).trans hc
      rw [List.getElem_map] at hcx
      obtain ⟨fn, tmps, assign, body, hy, hR⟩ := HY.out _ (xs[k]) wr hJs (by simp; omega)
      have hts : xs.take (k + 1) = xs.take k ++ [xs[k]] := take_snoc xs k hkl
      obtain ⟨x, hx⟩ : ∃ x : I32, x = xs[k] := ⟨_, rfl⟩
      rw [← hx] at hcx hy hR hts
      have HT := Lib.hid hts; clear hts
      have CF := fold_go x.1 x.2.1 x.2.2
      clear hx hc
      gi_wp2
      refine ⟨trivial, (callsIn_wide.2 (CF _)).mono ?_⟩
      rintro e w' ⟨rfl, rfl⟩
      clear CF
      gi_wp2
      refine hR.mono ?_
      rintro e W3 (⟨rfl, hJ3, hk3⟩ | ⟨rfl, hJx3⟩)
      · gi_wp2
        go_roundw
        case rel => exact ⟨k + 1, by omega, by go_num, by rw [HT.out]; exact hJ3, hnx.trans hk3⟩
        case measure => simp [intOf]; omega
      · gi_wp2
        refine bodyPost_ret (results_none rfl _ _ _) rfl ?_
        exact ⟨⟨_, rfl⟩, .inr ⟨_, by rw [← HT.out]; exact List.take_prefix _ _, hJx3⟩⟩
    · obtain rfl : k = n := by omega
      gi_wp2
      go_end0
      refine ⟨⟨_, rfl⟩, .inl ⟨_, ?_, hJs⟩⟩
      rw [hn, List.take_length]

theorem folded_stops (Bx : Nat) (a : Option Addr) (n cap : Nat) (xs : List I32) (hn : n = xs.length) (hmax : n ≤ 1000000) (K : Nat → Prop) (hK : ∀ p, a = some p → 0 < n → K p.block)
    (w : World) (hBl : Bx < w.heap.size) (hBx : w.cell? ⟨Bx, 0, none⟩ = some (.slice a n cap)) (hS : Sl w 1 (.slice a n cap) n (i32s (xs.map (·.1)))) :
    SeqStopsK Fence.wide 9 Try.prog 50 #[.pointer (some ⟨Bx, 0, none⟩)] (fun x : I32 => #[.int .u32 (fold x.1 : Nat)]) (Kept K) (fun ys => ys = xs) (fun pre => pre <+: xs) xs.length w :=
  fun l J Jx W hW _ _ hY h0 => seq_in l Bx a n cap xs hn hmax J Jx K hK hY W ((hW.cell (p := ⟨Bx, 0, none⟩) hBl).trans hBx) (hS.below hW) h0

theorem folded_any (a : Option Addr) (n cap : Nat) (w : World) :
    Calls Try.prog 36 #[.slice a n cap] w fun e w' => e = .returned (.func (.func 50) #[] #[.pointer (some ⟨w.heap.size, 0, none⟩)]) ∧ w' = w.alloc (.cells #[.slice a n cap] 50) := by
  go_enter Try.func36, Try.ntmps36
  go_wp2
  go_ret
  exact ⟨rfl, rfl⟩

set_option maxRecDepth 100000 in
set_option maxHeartbeats 2000000 in
theorem total_any (a : Option Addr) (n cap k : Nat) (xs : List I32) (hn : n = xs.length) (hmax : n ≤ 1000000) (hk : k ≤ 16) (w : World) (hS : Sl w 1 (.slice a n cap) n (i32s (xs.map (·.1)))) :
    Calls Try.prog 48 #[.slice a n cap, .int .i64 k] w fun e w' => e = .returned (.int .i64 (sizes (xs.map (·.1)) k : Nat)) ∧ Below w.heap.size w w' := by
  refine (callsIn_wide (n := 10)).1 ?_
  refine callsIn_of_wp_marks Try.func48 rfl trivial ?_ rfl
  simp only [Try.ntmps48, List.size_toArray, List.length_cons, List.length_nil, Nat.reduceAdd, Nat.reduceSub, Array.replicate_succ, Array.replicate_zero, List.push_toArray, List.append_toArray, List.nil_append, List.cons_append]
  have HN := Lib.hid hn; clear hn
  gi_wp2
  refine ⟨trivial, (callsIn_wide.2 (folded_any a n cap _)).mono ?_⟩
  rintro e w' ⟨rfl, rfl⟩
  gi_wp2
  have hSb : ∀ p, a = some p → 0 < n → p.block < w.heap.size := by
    rintro p rfl hn0
    obtain ⟨a', c', he, h1, _, _, _, h5⟩ := hS
    cases he
    have hl : 0 < (i32s (xs.map (·.1))).length := by omega
    obtain ⟨b, o, e, hc⟩ := h5 0 _ (List.getElem?_eq_getElem hl)
    cases e
    have := World.block_lt_of_cell? w _ hc
    simpa using this
  have b0 := Boxed.new w 3 (.int .i64 k)
  have b1 := Boxed.new (w.alloc (.cells #[.int .i64 k] 3)) 3 (.int .i64 0)
  have b2 := Boxed.new ((w.alloc (.cells #[.int .i64 k] 3)).alloc (.cells #[.int .i64 0] 3)) 50 (.slice a n cap)
  replace b0 := (b0.alloc (.cells #[.int .i64 0] 3)).alloc (.cells #[.slice a n cap] 50)
  replace b1 := b1.alloc (.cells #[.slice a n cap] 50)
  have hB0 : Below w.heap.size w (((w.alloc (.cells #[.int .i64 k] 3)).alloc (.cells #[.int .i64 0] 3)).alloc (.cells #[.slice a n cap] 50)) := (((Below.refl _ w).alloc (Nat.le_refl _) _).alloc (by simp) _).alloc (by simp; omega) _
  simp only [World.size_alloc] at b1 b2
  have hz : (((w.alloc (.cells #[.int .i64 k] 3)).alloc (.cells #[.int .i64 0] 3)).alloc (.cells #[.slice a n cap] 50)).heap.size = w.heap.size + 1 + 1 + 1 := by simp
  have hS0 := hS.below hB0
  obtain ⟨W0, hW0⟩ : ∃ W0, ((w.alloc (.cells #[.int .i64 k] 3)).alloc (.cells #[.int .i64 0] 3)).alloc (.cells #[.slice a n cap] 50) = W0 := ⟨_, rfl⟩
  rw [hW0] at b0 b1 b2 hB0 hz hS0 ⊢
  clear hW0
  refine wpIn_rangeFunc_ownF rfl (by omega) (gf := 50) (lb := #[.pointer (some ⟨w.heap.size + 1 + 1, 0, none⟩)]) rfl trivial (enters_of Try.func50 (by kernel_rfl) rfl)
    (folded_stops (w.heap.size + 1 + 1) a n cap xs HN.out hmax (fun j => (∃ p, a = some p ∧ p.block = j) ∧ 0 < n) (fun p hp h0 => ⟨⟨p, hp, rfl⟩, h0⟩) W0 b2.lt b2.cell hS0) (fun h k => h.trans k) (kept_b (by rintro j ⟨⟨p, hp, rfl⟩, h0⟩; have := hSb p hp h0; omega)) (Below.refl _ _) (fun _ => rfl)
    (fun pre W => (Boxed W w.heap.size 3 (.int .i64 k) ∧ Boxed W (w.heap.size + 1) 3 (.int .i64 (sizes (pre.map (·.1)) k : Nat))) ∧ Below w.heap.size w W)
    (fun _ _ _ => False)
    (OwnFrom.and (Own.from (fun s A B row hs hg hr => ⟨boxed_own _ _ (fun _ => _) s A B row hs.1 hg hr, boxed_own _ _ (fun _ => _) s A B row hs.2 hg hr⟩) _) (ownFrom_below (Nat.le_refl _) (by omega)))
    (fun _ _ _ _ _ hs _ _ => hs)
    ⟨⟨b0, b1⟩, hB0⟩
    (fun x => { tmps := #[.slice a n cap, .int .i64 k, undef, .pointer (some ⟨w.heap.size, 0, none⟩), .int .i64 0, .pointer (some ⟨w.heap.size + 1, 0, none⟩), .int .u32 (fold x.1 : Nat), .slice a n cap, .func (.func 50) #[] #[.pointer (some ⟨w.heap.size + 1 + 1, 0, none⟩)], .int .u32 (fold x.1 : Nat), undef, undef, undef, undef, undef, undef], defers := [] }) ?assign ?body ?done ?stop
  case assign =>
    intro l x W K hK
    gi_wp2
    exact hK
  case body =>
    rintro l pre x W ⟨⟨d0, d1⟩, hB⟩ hlen
    have c0 := d0.cell
    have c1 := d1.cell
    have f1 := d1.frozen
    have hmx : Try.prog.follows .mixedOrders = true := by kernel_rfl
    have CS := size_go (fold x.1) k (fold_max x.1 x.2.1 x.2.2) hk
    have hs1 := sizes_le (pre.map (·.1)) k hk
    rw [List.length_map] at hs1
    have hs2 := size_le (fold x.1) k hk
    have hs3 := sizes_snoc (pre.map (·.1)) x.1 k
    have hpre : pre.length < 1000000 := by have := HN.out; omega
    obtain ⟨s, hs⟩ : ∃ s, s = sizes (pre.map (·.1)) k := ⟨_, rfl⟩
    obtain ⟨z, hz'⟩ : ∃ z, z = size (fold x.1) k := ⟨_, rfl⟩
    rw [← hs] at c1 hs1 hs3 d1
    rw [← hz'] at CS hs2 hs3
    have HS := Lib.hid hs3
    have hsb : s ≤ 38000000 := by omega
    clear hs hz' hs1 hs3
    gi_wp2
    gi_region_with_o (refine ⟨trivial, ?_⟩; gi_at_call 60; refine (CallsIn.inRound l (callsIn_wide.2 (CS _))).mono ?_; rintro e w' ⟨rfl, rfl⟩)
    all_goals gi_wp2
    all_goals (try go_bits)
    all_goals
      refine ⟨(KeepsOthers.setCell _ _ _).trans (KeepsOthers.drew _), ?_, ⟨d0.other (by omega) _, ?_⟩, (hB.setCell (p := ⟨w.heap.size + 1, 0, none⟩) (by simp) _).drew⟩
      · rintro j ⟨⟨p, hp, rfl⟩, hn0⟩
        have := hSb p hp hn0
        exact Below.heap_setCell _ _ _ _ (by simp; omega)
      · rw [List.map_append, List.map_singleton, HS.out, Int.natCast_add]
        exact d1.set _
  case done =>
    rintro D ys W hD rfl ⟨⟨_, d1⟩, hB⟩ hK
    have c1 := d1.cell
    gi_wp2
    refine ⟨by simp, .inl ⟨_, _, rfl, run_takeDeferred hK, ?_⟩⟩
    exact ⟨_, results_tmp rfl _ _ _, rfl, hB.trans (belowK_b (w := w) (Nat.le_refl _) W D _ _ (by omega) hK rfl rfl)⟩
  case stop =>
    rintro D c pre W _ _ h _
    exact h.elim
end Go.Proofs.Ytapheokmoebgfaa
