/-
  A sum as bytes; slices.Concat of two; Put.
-/
import Derived.Test.YtjedbffikhmbhaaCrcA
import Derived.Test.YtjedbffikhmbhaaBlk
import Derived.Test.YtjedbffikhmbhaaClone
import Derived.Test.YtjedbffikhmbhaaSame
import Derived.Test.YtjedbffikhmbhaaBytesEqual
import Derived.Lib.AppendZerosOnto
namespace Go.Proofs.Ytjedbffikhmbhaa
open Go.RowKit Go.Th Go.Th.Crc

/-- The four cells behind i rounds. -/
def tailC (s i : Nat) : List Value := (List.range 4).map fun j => .int .u8 (if j < i then ((s / 256 ^ j % 256 : Nat) : Int) else 0)
theorem tailC_set (s i : Nat) (h : i < 4) : (tailC s i).set i (.int .u8 ((s / 256 ^ i % 256 : Nat) : Int)) = tailC s (i + 1) := by
  match i, h with
  | 0, _ => simp [tailC, List.range, List.range.loop]
  | 1, _ => simp [tailC, List.range, List.range.loop]
  | 2, _ => simp [tailC, List.range, List.range.loop]
  | 3, _ => simp [tailC, List.range, List.range.loop]
theorem tailC_end (s : Nat) : tailC s 4 = u8s (tail4 s) := by simp [tailC, tail4, u8s, List.range, List.range.loop]

theorem tailCell (s i : Nat) : (s : Int) / 2 ^ (8 * i) % 256 = ((s / 256 ^ i % 256 : Nat) : Int) := by
  rw [show (256 : Nat) ^ i = 2 ^ (8 * i) by rw [Nat.pow_mul]]
  simp

set_option maxHeartbeats 800000 in
theorem tail_any (s : Nat) (hs : s < 4294967296) (w : World) :
    Calls Try.prog 20 #[.int .u32 s] w fun e w' => ∃ v, e = .returned v ∧ Sl w' 1 v 4 (u8s (tail4 s)) ∧ Below w.heap.size w w' := by
  go_enter Try.func20, Try.ntmps20
  go_wp2
  go_loopw [5] (fun c wx => ∃ i : Nat, i ≤ 4 ∧ c = .int .i64 i ∧ Blk wx w.heap.size 43 (tailC s i) ∧ Below w.heap.size w wx) (fun c _ => 4 - (intOf c).toNat)
  case atStart => exact ⟨0, by omega, rfl, Blk.new w _ _, (Below.refl _ _).alloc (Nat.le_refl _) _⟩
  case round =>
    obtain ⟨i, hi, rfl, hb, hB⟩ := hrel
    by_cases hlt : i < 4
    · have hc := hb.cell (i := i) (u := .int .u8 0) (by simp [tailC, hlt])
      have hf := hb.free i
      have hset := hb.set i (.int .u8 ((s / 256 ^ i % 256 : Nat) : Int)) (by simp [tailC]; omega)
      rw [tailC_set s i hlt] at hset
      go_wp2
      go_roundw
      case rel => exact ⟨i + 1, by omega, by go_num, by rw [tailCell s i]; exact hset, hB.setCell (Nat.le_refl _) _⟩
      case measure => simp [intOf]; omega
    · obtain rfl : i = 4 := by omega
      go_wp2
      go_ret
      exact ⟨_, rfl, by rw [← tailC_end]; exact hb.sl 4 (by simp [tailC]) (by decide), hB⟩

theorem info_u8 : (Try.prog.info? 5).map (fun i => (i.zero, i.size, i.bytes)) = some (some (.int .u8 0), 1, 1) := by kernel_rfl

set_option maxHeartbeats 800000 in
theorem grow_nil (n : Nat) (h0 : 0 < n) (hn : n ≤ 140737488355328) (w : World) :
    Calls Try.prog 23 #[.slice none 0 0, .int .i64 n] w fun e w' => ∃ v, e = .returned v ∧ w'.ownsRow w.heap.size 5 1 v 0 [] ∧ Below w.heap.size w w' := by
  obtain ⟨i0, hi0, hz0, hz1, hz2⟩ := info_parts info_u8
  have hrz : ∀ ty, (Builtin.append_ #[22, 3] ty #[.slice none 0 0, .int .i64 n]).run Try.prog w = .ok (.slice (some ⟨w.heap.size, 0, none⟩) n (grownCap w n 0 5)) (w.drew.alloc (.cells (#[] ++ Builtin.zeroCells (Value.int .u8 0).cells n ++ Builtin.zeroCells (Value.int .u8 0).cells (grownCap w n 0 5 - n)) 5)) := fun ty => by
    have h := Lib.run_append_grow_zeros w 22 3 ty 5 i0 (.int .u8 0) .i64 .i64 Try.underlying22 Try.underlying3 hi0 hz0 none 0 0 [] (run_firstCells_none w.drew i0.size 0 0 0) n h0 (by omega) (by omega) (by omega)
      (by rw [hz2]; omega) (by rw [Nat.zero_add, nextslicecap_zero h0, hz2]; omega)
    rw [Nat.zero_add] at h
    exact h
  have hGn : n ≤ grownCap w n 0 5 := grownCap_ge w _ _ _
  have hGm := grownCap_le_maxLen w n 0 5 (by unfold maxLen; omega)
  obtain ⟨G, hG⟩ : ∃ G, G = grownCap w n 0 5 := ⟨_, rfl⟩
  rw [← hG] at hrz hGn hGm
  have HM := Lib.hid hGm
  unfold maxLen at hGm
  clear hG
  go_enter Try.func23, Try.ntmps23
  go_wp2_with (at_builtin; refine Lib.wpList_append_run _ rfl _ _ _ _ rfl _ _ rfl rfl _ _ (hrz _) ?_)
  go_ret
  refine ⟨_, rfl, ⟨rfl, .inr ⟨w.heap.size, G, _, rfl, Nat.le_refl _, heap_alloc_new w.drew _, Nat.zero_le _, HM.out, ?_, ?_⟩⟩, ((Below.refl _ _).drew).alloc (Nat.le_refl _) _⟩
  · simp [Builtin.zeroCells]
    omega
  · simp

theorem sl_slice {w : World} {size n : Nat} {v : Value} {xs : List Value} (h : Sl w size v n xs) : ∃ a cap, v = .slice a n cap := by
  obtain ⟨a, cap, he, _⟩ := h
  exact ⟨a, cap, he⟩

set_option maxHeartbeats 1600000 in
theorem concat_any (vs va vb : Value) (ps bs : List Nat) (w : World) (hs : Sl w 1 vs 2 [va, vb]) (ha : Sl w 1 va ps.length (u8s ps)) (hb : Sl w 1 vb bs.length (u8s bs)) (h0 : 0 < bs.length)
    (hl : ps.length + bs.length ≤ 70368744177664) :
    Calls Try.prog 19 #[vs] w fun e w' => ∃ v, e = .returned v ∧ w'.ownsRow w.heap.size 5 1 v (ps.length + bs.length) (u8s (ps ++ bs)) ∧ Below w.heap.size w w' := by
  obtain ⟨aa, ca, rfl⟩ := sl_slice ha
  obtain ⟨ab, cb, rfl⟩ := sl_slice hb
  obtain ⟨vsa, vsc, rfl, _, _, _, _, hc⟩ := hs
  obtain ⟨b, o, rfl, c0⟩ := hc 0 _ rfl
  obtain ⟨b', o', hA, c1⟩ := hc 1 _ rfl
  cases hA
  rw [Nat.add_zero] at c0
  have hbl := World.block_lt_of_cell? w _ c0
  clear hc
  go_enter Try.func19, Try.ntmps19
  go_wp2
  go_loop [3, 11] (fun s c => ∃ i : Nat, i ≤ 2 ∧ c = .int .i64 i ∧ s = .int .i64 (if i = 0 then 0 else if i = 1 then ps.length else ps.length + bs.length : Nat)) (fun _ c => 2 - (intOf c).toNat)
  case atStart => exact ⟨0, by omega, rfl, rfl⟩
  case round =>
    obtain ⟨i, hi, rfl, rfl⟩ := hrel
    rcases (show i = 0 ∨ i = 1 ∨ i = 2 by omega) with rfl | rfl | rfl
    · go_wp2
      go_round
      case rel => exact ⟨1, by omega, rfl, by simp⟩
      case measure => simp [intOf]
    · go_wp2
      go_round
      case rel => exact ⟨2, by omega, rfl, by simp⟩
      case measure => simp [intOf]
    · go_wp2_with fail
      refine (grow_nil (ps.length + bs.length) (by omega) (by omega) _).mono ?_
      rintro e w1 ⟨v1, rfl, ho, hB⟩
      go_wp2
      go_loopw [6, 27] (fun v c wx => ∃ i : Nat, i ≤ 2 ∧ c = .int .i64 i ∧ wx.ownsRow w.heap.size 5 1 v (if i = 0 then 0 else if i = 1 then ps.length else ps.length + bs.length) (u8s (if i = 0 then [] else if i = 1 then ps else ps ++ bs)) ∧ Below w.heap.size w wx) (fun _ c _ => 2 - (intOf c).toNat)
      case atStart => exact ⟨0, by omega, rfl, by simpa [u8s] using ho, hB⟩
      case round =>
        clear ho hB
        obtain ⟨i, hi, rfl, ho, hB⟩ := hrel
        have hsz := hB.size
        have d0 := (hB.cell (p := ⟨b, o, none⟩) hbl).trans c0
        have d1 := (hB.cell (p := ⟨b, o + 1, none⟩) hbl).trans c1
        have sa := ha.below hB
        have sb := hb.below hB
        rcases (show i = 0 ∨ i = 1 ∨ i = 2 by omega) with rfl | rfl | rfl
        · go_wp2_with (at_builtin; refine wpList_app Eu8 rfl (.tmp 31) (.tmp 32) rfl w.heap.size rfl ho rfl sa (oneCell_u8s _) (by unfold maxLen; simp; omega) (by simp; omega) hsz ?_)
          intro v2 w2 ho2 hg2 _
          have hB2 := hB.grown hg2 hsz (fun q hq => (ho.lt q hq).1)
          clear ho hB hg2 sa sb
          go_wp2
          go_roundw
          case rel => exact ⟨1, by omega, rfl, by simpa [u8s] using ho2, hB2⟩
          case measure => simp [intOf]
        · go_wp2_with (at_builtin; refine wpList_app Eu8 rfl (.tmp 31) (.tmp 32) rfl w.heap.size rfl ho rfl sb (oneCell_u8s _) (by unfold maxLen; simp; omega) (by simp; omega) hsz ?_)
          intro v2 w2 ho2 hg2 _
          have hB2 := hB.grown hg2 hsz (fun q hq => (ho.lt q hq).1)
          clear ho hB hg2 sa sb
          go_wp2
          go_roundw
          case rel => exact ⟨2, by omega, rfl, by simpa [u8s] using ho2, hB2⟩
          case measure => simp [intOf]
        · go_wp2
          go_ret
          exact ⟨_, rfl, by simpa using ho, hB⟩
end Go.Proofs.Ytjedbffikhmbhaa
