/-
  The frame with which bytes begin: the code's First.
-/
import Derived.Test.YtfkncfjdgbgeeaaDoorFrameB
set_option linter.unusedVariables false
set_option linter.unusedSimpArgs false
namespace Go.Proofs.YtfkncfjdgbgeeaaDoor
open Go Go.RowKit Go.Th Go.Th.Crc

theorem kd_take (bs : List Nat) (m : Nat) (h : 2 ≤ m) : kd (bs.take m) = kd bs := by
  unfold kd
  rw [List.getD_eq_getElem?_getD, List.getD_eq_getElem?_getD, List.getElem?_take, if_pos (by omega)]
theorem frm_take (bs : List Nat) : frm (bs.take (sz bs - 4)) = frm bs := by
  have hz := sz_le bs
  have hk := kd_take bs (sz bs - 4) (by omega)
  have hn : ∀ i, nth (bs.take (sz bs - 4)) i = nth bs i := by
    intro i
    unfold nth
    rw [hk]
    split
    · rw [rdF_take bs _ _ 4 (by unfold sz; omega)]
    · rfl
  unfold frm
  rw [hk, rdF_take bs _ 2 2 (by omega), rdF_take bs _ 4 4 (by omega), hn, hn, hn]

set_option maxRecDepth 20000 in
set_option maxHeartbeats 3200000 in
theorem first_any (vx : Value) (bs : List Nat) (hl : bs.length ≤ 1000000000) (hb : ∀ x ∈ bs, x < 256) (w : World) (C : Cts w) (h : Sl w 1 vx bs.length (u8s bs)) :
    Calls Tryd.prog 13 #[vx] w fun e w' => e = .returned (.tuple #[fv (fstF bs), .int .i64 (fstN bs : Nat), .int .i64 (fst bs : Nat)]) ∧ Below w.heap.size w w' := by
  obtain ⟨a, cap, rfl⟩ := sl_slice h
  obtain ⟨w1, hw1⟩ : ∃ w1, w.alloc (.cells #[.int .i64 0, .int .u16 0, .int .u32 0, .int .i32 0, .int .i32 0, .int .i32 0] 25) = w1 := ⟨_, rfl⟩
  have hB1 : Below w.heap.size w w1 := by rw [← hw1]; exact (Below.refl _ _).alloc (Nat.le_refl _) _
  have K0 : Blk w1 w.heap.size 25 [.int .i64 0, .int .u16 0, .int .u32 0, .int .i32 0, .int .i32 0, .int .i32 0] := by rw [← hw1]; exact Blk.new w _ _
  have hs1 : w1.heap.size = w.heap.size + 1 := by rw [← hw1]; simp
  have C1 := C.below hB1
  have s1 := h.below hB1
  have CL := length_any _ bs hl hb w1 C1 s1
  have hz := sz_le bs
  by_cases h0 : lcode bs = 0
  · obtain ⟨g1, g2, g3⟩ := lcode_ok h0
    rw [if_pos h0, h0] at CL
    obtain ⟨cut1, sc1⟩ := s1.cut_to Eu8 (sz bs) g1
    have et : u8s (bs.take (sz bs)) = (u8s bs).take (sz bs) := by simp [u8s]
    rw [← et] at sc1
    have lt : (bs.take (sz bs)).length = sz bs := by rw [List.length_take]; omega
    have hbt := mem_take hb (sz bs)
    cases hok : okB (bs.take (sz bs))
    · have CG := crcGet_no (.slice a (sz bs) cap) (bs.take (sz bs)) w1 (by rw [lt]; exact sc1) (by rw [lt]; omega) hbt (by rw [lt]; omega) hok
      have e : fst bs = 4 := by unfold fst; rw [if_neg (by omega), if_neg (by rw [hok]; decide)]
      have e2 : fstF bs = z0 := by unfold fstF; rw [if_neg (by omega)]
      have e3 : fstN bs = 0 := by unfold fstN; rw [if_neg (by omega)]
      rw [e, e2, e3]
      have E := h.max
      obtain ⟨m, hm⟩ : ∃ m, m = sz bs := ⟨_, rfl⟩
      obtain ⟨n, hn⟩ : ∃ n, n = bs.length := ⟨_, rfl⟩
      rw [← hm] at CL CG cut1 hz g1
      rw [← hn] at CL cut1 g1 E hl ⊢
      have CL := Lib.hid CL
      have CG := Lib.hid CG
      clear lt et sc1 s1 C1 hbt hok e e2 e3 h C h0 g2 g3 hm hn hb hs1
      have HW1 := Lib.hid hw1
      clear hw1
      go_enter Tryd.func13, Tryd.ntmps13
      go_upto_region 1 with fail
      rw [HW1.out]
      clear HW1
      go_wp2_with fail
      refine CL.out.mono ?_
      rintro e wx ⟨rfl, rfl⟩
      clear CL
      go_wp2_with fail
      refine CG.out.mono ?_
      rintro e w2 ⟨rfl, hB2⟩
      clear CG
      replace K0 := K0.below hB2 K0.lt
      have hB := hB1.trans (hB2.mono hB1.size)
      have b0 := K0.cell (i := 0) rfl
      have b1 := K0.cell (i := 1) rfl
      have b2 := K0.cell (i := 2) rfl
      have b3 := K0.cell (i := 3) rfl
      have b4 := K0.cell (i := 4) rfl
      have b5 := K0.cell (i := 5) rfl
      have z0 := K0.free 0
      have z1 := K0.free 1
      have z2 := K0.free 2
      have z3 := K0.free 3
      have z4 := K0.free 4
      have z5 := K0.free 5
      clear hB1 hB2 cut1
      go_wp2_with fail
      refine bodyPost_ret (v := .tuple #[fvs 0 0 0 0 0 0, .int .i64 0, .int .i64 4]) (res_three rfl rfl (blk_setF K0 _ _ _ _ _ _) Tryd.underlying25 rfl (by kernel_rfl) rfl rfl) rfl ?_
      exact ⟨rfl, below_setF hB _ (Nat.le_refl _) _ _ _ _ _ _⟩
    · have CG := crcGet_yes (.slice a (sz bs) cap) (bs.take (sz bs)) w1 (by rw [lt]; exact sc1) (by rw [lt]; omega) hbt (by rw [lt]; omega) hok
      rw [lt, List.take_take, Nat.min_eq_left (by omega)] at CG
      have e : fst bs = 0 := by unfold fst; rw [if_neg (by omega), if_pos hok]
      have e2 : fstF bs = frm bs := by unfold fstF; rw [if_pos e]
      have e3 : fstN bs = sz bs := by unfold fstN; rw [if_pos e]
      rw [e, e2, e3]
      have E := h.max
      have hkd := kd_take bs (sz bs - 4) (by omega)
      have hpl : (bs.take (sz bs - 4)).length = sz bs - 4 := by rw [List.length_take]; omega
      have CRF := fun vy wx Cx hs => readF_any vy (bs.take (sz bs - 4)) (by rw [hkd]; exact g3) (by rw [hkd, hpl]; unfold sz; omega) (mem_take hb _) wx Cx hs
      rw [frm_take, hpl] at CRF
      have CRF := Lib.hid CRF
      obtain ⟨p, hp⟩ : ∃ p, p = u8s (bs.take (sz bs - 4)) := ⟨_, rfl⟩
      obtain ⟨F, hF⟩ : ∃ F, F = frm bs := ⟨_, rfl⟩
      rw [← hp] at CG CRF
      rw [← hF] at CRF ⊢
      obtain ⟨m, hm⟩ : ∃ m, m = sz bs := ⟨_, rfl⟩
      obtain ⟨n, hn⟩ : ∃ n, n = bs.length := ⟨_, rfl⟩
      rw [← hm] at CL CG CRF cut1 hz g1 ⊢
      rw [← hn] at CL cut1 g1 E hl ⊢
      have CL := Lib.hid CL
      have CG := Lib.hid CG
      have C1 := Lib.hid C1
      clear lt et sc1 s1 hbt hok e e2 e3 h C h0 g2 g3 hm hn hb hs1 hF hp hkd hpl
      have HW1 := Lib.hid hw1
      clear hw1
      go_enter Tryd.func13, Tryd.ntmps13
      go_upto_region 1 with fail
      rw [HW1.out]
      clear HW1
      go_wp2_with fail
      refine CL.out.mono ?_
      rintro e wx ⟨rfl, rfl⟩
      clear CL
      go_wp2_with fail
      refine CG.out.mono ?_
      rintro e w2 ⟨v2, rfl, ho2, hB2⟩
      clear CG
      replace K0 := K0.below hB2 K0.lt
      have hB := hB1.trans (hB2.mono hB1.size)
      obtain ⟨a2, c2, rfl, _, _⟩ := ownsRow_slice ho2
      have CF := Lib.hid (CRF.out _ w2 (C1.out.below hB2) (Sl.of_own ho2))
      clear hB1 hB2 cut1 ho2 CRF C1
      go_wp2_with fail
      refine CF.out.mono ?_
      rintro e w3 ⟨rfl, hB3⟩
      clear CF
      replace K0 := K0.below hB3 K0.lt
      replace hB := hB.trans (hB3.mono hB.size)
      have b0 := K0.cell (i := 0) rfl
      have b1 := K0.cell (i := 1) rfl
      have b2 := K0.cell (i := 2) rfl
      have b3 := K0.cell (i := 3) rfl
      have b4 := K0.cell (i := 4) rfl
      have b5 := K0.cell (i := 5) rfl
      have z0 := K0.free 0
      have z1 := K0.free 1
      have z2 := K0.free 2
      have z3 := K0.free 3
      have z4 := K0.free 4
      have z5 := K0.free 5
      clear hB3
      go_wp2_with fail
      refine bodyPost_ret (v := .tuple #[fv F, .int .i64 m, .int .i64 0]) (res_three rfl rfl (blk_setF K0 _ _ _ _ _ _) Tryd.underlying25 rfl (by kernel_rfl) rfl rfl) rfl ?_
      exact ⟨rfl, below_setF hB _ (Nat.le_refl _) _ _ _ _ _ _⟩
  · have e : fst bs = lcode bs := by unfold fst; rw [if_pos h0]
    have e2 : fstF bs = z0 := by unfold fstF; rw [if_neg (by omega)]
    have e3 : fstN bs = 0 := by unfold fstN; rw [if_neg (by omega)]
    rw [e, e2, e3]
    rw [if_neg h0] at CL
    have hc := lcode_lt bs
    obtain ⟨c, hcc⟩ : ∃ c, c = lcode bs := ⟨_, rfl⟩
    rw [← hcc] at CL h0 hc ⊢
    have d1 : ((c : Int) != 0) = true := by simp; omega
    have CL := Lib.hid CL
    have HW1 := Lib.hid hw1
    clear s1 C1 e e2 e3 h C hcc hb hw1 hs1
    go_enter Tryd.func13, Tryd.ntmps13
    go_upto_region 1 with fail
    rw [HW1.out]
    clear HW1
    go_wp2_with fail
    refine CL.out.mono ?_
    rintro e wx ⟨rfl, rfl⟩
    clear CL
    have b0 := K0.cell (i := 0) rfl
    have b1 := K0.cell (i := 1) rfl
    have b2 := K0.cell (i := 2) rfl
    have b3 := K0.cell (i := 3) rfl
    have b4 := K0.cell (i := 4) rfl
    have b5 := K0.cell (i := 5) rfl
    have z0 := K0.free 0
    have z1 := K0.free 1
    have z2 := K0.free 2
    have z3 := K0.free 3
    have z4 := K0.free 4
    have z5 := K0.free 5
    go_wp2_with fail
    refine bodyPost_ret (v := .tuple #[fvs 0 0 0 0 0 0, .int .i64 0, .int .i64 c]) (res_three rfl rfl (blk_setF K0 _ _ _ _ _ _) Tryd.underlying25 rfl (by kernel_rfl) rfl rfl) rfl ?_
    exact ⟨rfl, below_setF hB1 _ (Nat.le_refl _) _ _ _ _ _ _⟩
end Go.Proofs.YtfkncfjdgbgeeaaDoor
