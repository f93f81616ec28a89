/-
  All frames that stand in bytes, gone through: the code's All.
-/
import Derived.RangeFuncFrom
import Derived.RangeFuncNested
import Derived.RangeFuncBox
import Derived.RangeFuncBound
import Derived.RangeFuncCalls
import Derived.RangeFuncLeaves
import Derived.Shelf.Abstract
import Derived.Shelf.RegionOpen
import Derived.WalkKit
import Derived.OwnWalkIn
import Derived.TacticsInMore
import Derived.LoopNIn
import Derived.LoopIn
import Derived.Test.YtfkncfjdgbgeeaaDoorFrameC
import Derived.Test.YtfkncfjdgbgeeaaDoorPackBits
set_option linter.unusedVariables false
set_option linter.unusedSimpArgs false
namespace Go.Proofs.YtfkncfjdgbgeeaaDoor
open Go Go.RowKit Go.Shelf Go.Th Go.Th.Crc
attribute [local go_sem] Oper.semAt_some

/-- These blocks lie as they lay. -/
def KeptF (K : Nat → Prop) (W W' : World) : Prop := ∀ k, K k → W'.heap[k]? = W.heap[k]?
theorem KeptF.refl (K : Nat → Prop) (W : World) : KeptF K W W := fun _ _ => rfl
theorem KeptF.trans {K : Nat → Prop} {A B C : World} (h : KeptF K A B) (k : KeptF K B C) : KeptF K A C := fun j hj => (k j hj).trans (h j hj)
theorem keptF_b {K : Nat → Prop} {w : World} (hK : ∀ k, K k → k < w.heap.size) (W : World) (l : Nat) (o o' : Obj) (hl : w.heap.size ≤ l) (_ : W.heap[l]? = some o) (_ : o.isCells = false) (_ : o.isWalk = false) : KeptF K W (W.putObj l o') :=
  fun k hk => World.putObj_heap_other (by have := hK k hk; omega)
theorem KeptF.cell {K : Nat → Prop} {W W' : World} (h : KeptF K W W') {p : Addr} (hp : K p.block) : W'.cell? p = W.cell? p := World.cell?_of_block (w := W) (h p.block hp)
theorem KeptF.below {K : Nat → Prop} {W A B : World} (h : KeptF K W A) (hb : Below A.heap.size A B) (hK : ∀ k, K k → k < A.heap.size) : KeptF K W B := fun k hk => (hb.block k (hK k hk)).trans (h k hk)
theorem sl_keptF {K : Nat → Prop} {W W' : World} {n cap : Nat} {a : Option Addr} {xs : List Value} (h : Sl W 1 (.slice a n cap) n xs) (hk : KeptF K W W') (hK : ∀ p, a = some p → K p.block) : Sl W' 1 (.slice a n cap) n xs := by
  obtain ⟨a0, c0, he, h2, h3, h4, h6, h5⟩ := h
  cases he
  refine ⟨a, cap, rfl, h2, h3, h4, h6, fun j u hu => ?_⟩
  obtain ⟨b, o, ha, hc⟩ := h5 j u hu
  exact ⟨b, o, ha, (hk.cell (p := ⟨b, o + j, none⟩) (hK ⟨b, o, none⟩ ha)).trans hc⟩
theorem Cts.keptF {K : Nat → Prop} {W W' : World} (C : Cts W) (hk : KeptF K W W') (h0 : K 0) : Cts W' := fun j hj => (hk.cell (p := ⟨0, j, none⟩) h0).trans (C j hj)
theorem grown_below {W W' : World} (h : Below W.heap.size W W') : W.grownBy W' none := ⟨h.os, h.tape, h.output, h.size, fun k hk _ => h.block k hk⟩

set_option maxRecDepth 100000 in
set_option maxHeartbeats 4000000 in
theorem seqF_in (l Bx : Nat) (a : Option Addr) (cap : Nat) (bs : List Nat) (hl : bs.length ≤ 1000000) (hb : ∀ x ∈ bs, x < 256) (J Jx : List (Nat × Fr) → World → Prop) (K : Nat → Prop) (hKa : ∀ p, a = some p → K p.block) (hK0 : K 0) (hKx : K Bx)
    (W : World) (hKl : ∀ k, K k → k < W.heap.size)
    (hJ : AbidesFrom W.heap.size J)
    (hY : ∀ pre x W1, J pre W1 → pre.length < (found bs 0).length → YieldAt Fence.wide 8 Tryd.prog l #[.int .i64 (x.1 : Nat), fv x.2] W1 fun e W' =>
      (e = .returned (.bool true) ∧ J (pre ++ [x]) W' ∧ KeptF K W1 W') ∨ (e = .returned (.bool false) ∧ Jx (pre ++ [x]) W'))
    (C : Cts W) (hBx : W.cell? ⟨Bx, 0, none⟩ = some (.slice a bs.length cap)) (hS : Sl W 1 (.slice a bs.length cap) bs.length (u8s bs)) (h0 : J [] W) :
    CallsIn Fence.wide 9 Tryd.prog 32 #[.func (.yield l) #[] #[], .pointer (some ⟨Bx, 0, none⟩)] W fun e W' => (∃ v, e = .returned v) ∧
      ((∃ ys, ys = found bs 0 ∧ J ys W') ∨ (∃ pre, pre <+: found bs 0 ∧ Jx pre W')) := by
  refine callsIn_of_wp Tryd.func32 rfl trivial ?_ rfl
  simp only [Tryd.ntmps32, List.size_toArray, List.length_cons, List.length_nil, Nat.reduceAdd, Nat.reduceSub, Array.replicate_succ, Array.replicate_zero, List.push_toArray, List.append_toArray, List.nil_append, List.cons_append]
  have HY := Lib.hid hY
  have HB := Lib.hid hb
  have HKA := Lib.hid hKa
  have HKL := Lib.hid hKl
  have HJ := Lib.hid hJ
  have HS := Lib.hid hS
  have HC := Lib.hid C
  obtain ⟨n, hn⟩ : ∃ n, n = bs.length := ⟨_, rfl⟩
  have HNN := Lib.hid hn
  rw [← hn] at hBx hl HS
  have HBX := Lib.hid hBx
  clear hY hb hKa hKl hJ hS C hn hBx
  gi_wp2
  gi_loopw [3] (fun i wr => ∃ (p : Nat) (pre : List (Nat × Fr)), p ≤ n ∧ i = .int .i64 p ∧ Hid (found bs 0 = pre ++ found bs p) ∧ Hid (J pre wr) ∧ Hid (KeptF K W wr) ∧ Hid (∀ k, K k → k < wr.heap.size))
    (fun i _ => n - (intOf i).toNat)
  case atStart => exact ⟨0, [], Nat.zero_le _, rfl, Lib.hid rfl, Lib.hid h0, Lib.hid (KeptF.refl _ _), HKL⟩
  case round =>
    obtain ⟨p, pre, hp, rfl, HF, HJs, HNX, HLT⟩ := hrel
    have cx := (HNX.out.cell (p := ⟨Bx, 0, none⟩) hKx).trans HBX.out
    by_cases hlt : p < n
    · have sr := sl_keptF HS.out HNX.out HKA.out
      obtain ⟨a2, c2, cut, s2, _, _⟩ := Sl.cut_off Eu8 sr p (by omega) (p : Int) rfl
      have ed : u8s (bs.drop p) = (u8s bs).drop p := by simp [u8s]
      rw [← ed] at s2
      have hdl : (bs.drop p).length = n - p := by rw [List.length_drop, ← HNN.out]
      have CF := first_any (.slice a2 (n - p) c2) (bs.drop p) (by omega) (fun x hx => HB.out x (List.mem_of_mem_drop hx)) wr (HC.out.keptF HNX.out hK0) (by rw [hdl]; exact s2)
      obtain ⟨F, hF⟩ : ∃ F, F = fstF (bs.drop p) := ⟨_, rfl⟩
      obtain ⟨m, hm⟩ : ∃ m, m = fstN (bs.drop p) := ⟨_, rfl⟩
      have hcl := fst_lt (bs.drop p)
      have hf1 : fst (bs.drop p) = 0 → p + m ≤ n ∧ 12 ≤ m ∧ found bs p = (p, F) :: found bs (p + m) := fun h => by
        have h1 := (lcode_ok (fst_ok h).1).1
        have h2 := sz_le (bs.drop p)
        have e1 : m = sz (bs.drop p) := by rw [hm, fstN, if_pos h]
        have e2 : F = frm (bs.drop p) := by rw [hF, fstF, if_pos h]
        rw [e1, e2]
        exact ⟨by omega, by omega, found_yes bs p (by rw [← HNN.out]; exact hlt) h⟩
      have hf2 := fun h => found_no bs p (by rw [← HNN.out]; exact hlt) h
      rw [← hF, ← hm] at CF
      obtain ⟨c, hc⟩ : ∃ c, c = fst (bs.drop p) := ⟨_, rfl⟩
      rw [← hc] at CF hcl hf1 hf2
      have CF := Lib.hid CF
      have HF1 := Lib.hid hf1
      have HF2 := Lib.hid hf2
      clear hF hm hc hf1 hf2 hdl ed s2 sr
      gi_wp2
      refine ⟨trivial, (callsIn_wide.2 CF.out).mono ?_⟩
      rintro e w2 ⟨rfl, hB2⟩
      clear CF
      obtain ⟨w3, hw3⟩ : ∃ w3, w2.alloc (.cells #[.int .i64 F.k, .int .u16 F.s, .int .u32 F.t, .int .i32 F.a, .int .i32 F.b, .int .i32 F.c] 25) = w3 := ⟨_, rfl⟩
      have hB3 : Below wr.heap.size wr w3 := by rw [← hw3]; exact hB2.alloc hB2.size _
      have K3 : Blk w3 w2.heap.size 25 (fc F) := by rw [← hw3]; exact Blk.new w2 _ _
      have HJ3 := Lib.hid (HJ.out pre wr w3 none HJs.out (grown_below hB3) (fun r e => by cases e))
      have HN3 := Lib.hid (HNX.out.below hB3 HLT.out)
      have HL3 : Hid (∀ k, K k → k < w3.heap.size) := Lib.hid (fun k hk => Nat.lt_of_lt_of_le (HLT.out k hk) hB3.size)
      clear hB2 hB3 HJs HNX HLT cx cut
      by_cases hc0 : c = 0
      · obtain ⟨g1, g2, g3⟩ := HF1.out hc0
        subst hc0
        have HG3 := Lib.hid g3
        have hlen : pre.length < (found bs 0).length := by rw [HF.out, g3]; simp
        obtain ⟨fn, tmps, assign, body, hy, hR⟩ := HY.out pre (p, F) w3 HJ3.out hlen
        dsimp only at hy
        have c0 := K3.cell (i := 0) rfl
        have c1 := K3.cell (i := 1) rfl
        have c2' := K3.cell (i := 2) rfl
        have c3 := K3.cell (i := 3) rfl
        have c4 := K3.cell (i := 4) rfl
        have c5 := K3.cell (i := 5) rfl
        have HLN := Lib.hid hlen
        clear g3 HF1 HF2 hlen
        gi_wp2
        refine hR.mono ?_
        rintro e W3 (⟨rfl, hJ3, hk3⟩ | ⟨rfl, hJx3⟩)
        · have hl3 : Hid (∀ k, K k → k < W3.heap.size) := Lib.hid (fun k hk => by
            have h1 := HL3.out k hk
            have h2 := hk3 k hk
            rw [Array.getElem?_eq_getElem h1] at h2
            exact (Array.getElem?_eq_some_iff.1 h2).1)
          gi_wp2
          go_roundw
          case rel => exact ⟨p + m, pre ++ [(p, F)], g1, by go_num, Lib.hid (by rw [HF.out, HG3.out]; simp), Lib.hid hJ3, Lib.hid (HN3.out.trans hk3), hl3⟩
          case measure => simp [intOf]; omega
        · gi_wp2
          refine bodyPost_ret (results_none rfl _ _ _) rfl ?_
          exact ⟨⟨_, rfl⟩, .inr ⟨_, by rw [HF.out, HG3.out]; exact ⟨found bs (p + m), by simp⟩, hJx3⟩⟩
      · have hfd := HF2.out hc0
        have HFD := Lib.hid hfd
        have d1 : ((c : Int) != 0) = true := by simp; omega
        clear hfd HF1 HF2 K3
        gi_wp2
        go_roundw
        case rel => exact ⟨p + 1, pre, by omega, by go_num, Lib.hid (by rw [HF.out, HFD.out]), HJ3, HN3, HL3⟩
        case measure => simp [intOf]; omega
    · obtain rfl : p = n := by omega
      have e : found bs 0 = pre := by
        have := HF.out
        rw [found_end bs p (by rw [← HNN.out]; exact Nat.le_refl _), List.append_nil] at this
        exact this
      have HE := Lib.hid e
      clear e
      gi_wp2
      go_end0
      exact ⟨⟨_, rfl⟩, .inl ⟨_, HE.out.symm, HJs.out⟩⟩

theorem all_stops (Bx : Nat) (a : Option Addr) (cap : Nat) (bs : List Nat) (hl : bs.length ≤ 1000000) (hb : ∀ x ∈ bs, x < 256) (K : Nat → Prop) (hKa : ∀ p, a = some p → K p.block) (hK0 : K 0) (hKx : K Bx)
    (w : World) (hKl : ∀ k, K k → k < w.heap.size) (C : Cts w) (hBx : w.cell? ⟨Bx, 0, none⟩ = some (.slice a bs.length cap)) (hS : Sl w 1 (.slice a bs.length cap) bs.length (u8s bs)) :
    SeqStopsK Fence.wide 9 Tryd.prog 32 #[.pointer (some ⟨Bx, 0, none⟩)] (fun x : Nat × Fr => #[.int .i64 (x.1 : Nat), fv x.2]) (KeptF K) (fun ys => ys = found bs 0) (fun pre => pre <+: found bs 0) (found bs 0).length w :=
  fun l J Jx W hW hJ _ hY h0 => seqF_in l Bx a cap bs hl hb J Jx K hKa hK0 hKx W (fun k hk => Nat.lt_of_lt_of_le (hKl k hk) hW.size) hJ hY (C.below hW) ((hW.cell (p := ⟨Bx, 0, none⟩) (hKl Bx hKx)).trans hBx) (hS.below hW) h0

set_option maxRecDepth 20000 in
theorem all_any (a : Option Addr) (n cap : Nat) (bs : List Nat) (hn : n = bs.length) (hl : n ≤ 1000000) (w : World) (h : Sl w 1 (.slice a n cap) n (u8s bs)) :
    Calls Tryd.prog 17 #[.slice a n cap] w fun e w' => ∃ Bx a' cap', e = .returned (.func (.func 32) #[] #[.pointer (some ⟨Bx, 0, none⟩)]) ∧ w'.cell? ⟨Bx, 0, none⟩ = some (.slice a' n cap') ∧ Sl w' 1 (.slice a' n cap') n (u8s bs) ∧ w.heap.size ≤ Bx ∧ (∀ p, a' = some p → w.heap.size ≤ p.block ∧ p.block < w'.heap.size) ∧ Below w.heap.size w w' := by
  subst hn
  have CC := Lib.hid (clone_any _ bs w h (by omega))
  have hmf : ∀ (B : Nat) (wx : World), (Instr.makeFunc (.func 32) #[] #[.pointer (some ⟨B, 0, none⟩)]).run Tryd.prog wx = .ok (.func (.func 32) #[] #[.pointer (some ⟨B, 0, none⟩)]) wx := fun _ _ => rfl
  go_enter Tryd.func17, Tryd.ntmps17
  go_wp2_with fail
  refine CC.out.mono ?_
  rintro e w2 ⟨v2, rfl, ho2, hB2⟩
  clear CC
  have hv := fun q hq => ho2.lt q hq
  obtain ⟨a2, c2, rfl, _, _⟩ := ownsRow_slice ho2
  have K3 := Blk.new w2 26 [.slice a2 bs.length c2]
  have hB3 := hB2.alloc hB2.size (.cells #[.slice a2 bs.length c2] 26)
  have s3 := (Sl.of_own ho2).below ((Below.refl w2.heap.size w2).alloc (Nat.le_refl _) (.cells #[.slice a2 bs.length c2] 26))
  have hsz := hB2.size
  have ho2 := Lib.hid ho2
  go_wp2_with fail
  go_ret
  refine ⟨_, _, _, rfl, K3.cell (i := 0) rfl, s3, hsz, fun p hp => ?_, hB3⟩
  subst hp
  obtain ⟨_, h2⟩ := ho2.out
  rcases h2 with ⟨e, _⟩ | ⟨gx, cx, cur, e, hgx, hh, _⟩
  · cases e
  · cases e
    exact ⟨hgx, by have := lt_of_block hh; simp; omega⟩
end Go.Proofs.YtfkncfjdgbgeeaaDoor
