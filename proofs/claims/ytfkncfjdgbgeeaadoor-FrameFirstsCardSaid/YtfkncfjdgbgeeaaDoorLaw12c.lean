/-
  FrameFirsts, walked.
-/
import Derived.Test.YtfkncfjdgbgeeaaDoorLaw12a
import Derived.Test.YtfkncfjdgbgeeaaDoorFrameT
import Derived.Test.YtfkncfjdgbgeeaaDoorPackBits
set_option linter.unusedVariables false
set_option linter.unusedSimpArgs false
namespace Go.Proofs.YtfkncfjdgbgeeaaDoor
open Go Go.RowKit Go.Th Go.Th.Crc

set_option maxRecDepth 100000 in
set_option maxHeartbeats 4000000 in
theorem frameFirsts_any (a : Option Addr) (n cap : Nat) (bs : List Nat) (hn : n = bs.length) (hb : ∀ x ∈ bs, x < 256) (w : World) (h : Sl w 1 (.slice a n cap) n (u8s bs)) (C : Cts w) : Calls Tryd.prog 4 #[.slice a n cap] w fun e w' => e = .returned (.bool true) ∧ Below w.heap.size w w' := by
  by_cases hl : 200 < n
  · have WK := Lib.hid (works12_any w C)
    have hmx := h.max
    clear h hn hb C
    go_enter Tryd.func4, Tryd.ntmps4
    go_wp2_with fail
    refine WK.out.mono ?_
    rintro e w2 ⟨rfl, hB⟩
    clear WK
    go_wp2_with fail
    go_ret
    exact ⟨rfl, hB⟩
  have P1 := first_any (.slice a n cap) bs (by omega) hb w C (by rw [← hn]; exact h)
  have P2 := fun wx hs => refFirst_any (.slice a n cap) bs 0 (Nat.zero_le _) (by omega) hb wx hs
  rw [List.drop_zero] at P2
  unfold FirstSaid at P2
  have hcl := fst_lt bs
  obtain ⟨F, hF⟩ : ∃ F, F = fstF bs := ⟨_, rfl⟩
  obtain ⟨m, hm⟩ : ∃ m, m = fstN bs := ⟨_, rfl⟩
  have hbad : fst bs ≠ 0 → F = z0 ∧ m = 0 := fun e => ⟨by rw [hF, fstF, if_neg e], by rw [hm, fstN, if_neg e]⟩
  have hgood : fst bs = 0 → F = frm bs ∧ m = sz bs := fun e => ⟨by rw [hF, fstF, if_pos e], by rw [hm, fstN, if_pos e]⟩
  have hfront := fun e => front_F bs hb e
  rw [← hF, ← hm] at P1 P2
  have hFok : F.Ok := by rw [hF]; exact fstF_ok bs hb
  obtain ⟨c, hc⟩ : ∃ c, c = fst bs := ⟨_, rfl⟩
  rw [← hc] at P1 P2 hcl hbad hgood hfront
  rw [← hn] at P2
  have P1 := Lib.hid P1
  have P2 := Lib.hid P2
  have HBAD := Lib.hid hbad
  have HGOOD := Lib.hid hgood
  have HFRONT := Lib.hid hfront
  have HS := Lib.hid h
  have HC := Lib.hid C
  have HFO := Lib.hid hFok
  have HB := Lib.hid hb
  have HNN := Lib.hid hn
  have hmx := h.max
  clear hF hm hc hbad hgood hfront h C hFok hb hn
  go_enter Tryd.func4, Tryd.ntmps4
  go_wp2_with fail
  refine P1.out.mono ?_
  rintro e w2 ⟨rfl, hB2⟩
  clear P1
  obtain ⟨w3, hw3⟩ : ∃ w3, w2.alloc (.cells #[.int .i64 F.k, .int .u16 F.s, .int .u32 F.t, .int .i32 F.a, .int .i32 F.b, .int .i32 F.c] 25) = w3 := ⟨_, rfl⟩
  have hB3 : Below w2.heap.size w2 w3 := by rw [← hw3]; exact (Below.refl _ _).alloc (Nat.le_refl _) _
  have K3 : Blk w3 w2.heap.size 25 (fc F) := by rw [← hw3]; exact Blk.new w2 _ _
  have hBw3 := hB2.trans (hB3.mono hB2.size)
  have HW3 := Lib.hid hw3
  clear hw3 hB3
  go_upto_region 4 with fail
  rw [HW3.out]
  clear HW3
  have P3 := Lib.hid (P2.out w3 (HS.out.below hBw3))
  go_wp2_with fail
  refine P3.out.mono ?_
  rintro e w4 ⟨rfl, hB4⟩
  clear P3 P2 hB2
  obtain ⟨w5, hw5⟩ : ∃ w5, w4.alloc (.cells #[.int .i64 F.k, .int .u16 F.s, .int .u32 F.t, .int .i32 F.a, .int .i32 F.b, .int .i32 F.c] 25) = w5 := ⟨_, rfl⟩
  have hB5 : Below w4.heap.size w4 w5 := by rw [← hw5]; exact (Below.refl _ _).alloc (Nat.le_refl _) _
  have K5 : Blk w5 w4.heap.size 25 (fc F) := by rw [← hw5]; exact Blk.new w4 _ _
  have K35 := (K3.below hB4 K3.lt).below hB5 (K3.below hB4 K3.lt).lt
  have hBw4 := hBw3.trans (hB4.mono hBw3.size)
  have hBw5 := hBw4.trans (hB5.mono hBw4.size)
  have HW5 := Lib.hid hw5
  have c0 := K35.cell (i := 0) rfl
  have c1 := K35.cell (i := 1) rfl
  have c2 := K35.cell (i := 2) rfl
  have c3 := K35.cell (i := 3) rfl
  have c4 := K35.cell (i := 4) rfl
  have c5 := K35.cell (i := 5) rfl
  have d0 := K5.cell (i := 0) rfl
  have d1 := K5.cell (i := 1) rfl
  have d2 := K5.cell (i := 2) rfl
  have d3 := K5.cell (i := 3) rfl
  have d4 := K5.cell (i := 4) rfl
  have d5 := K5.cell (i := 5) rfl
  have C5 := HC.out.below hBw5
  have s5 := HS.out.below hBw5
  clear hw5 hB4 hB5 K3 hBw3 K5 hBw4 HC HS
  by_cases h0 : c = 0
  · obtain ⟨e1, e2⟩ := HGOOD.out h0
    obtain ⟨f1, f2, f3⟩ := HFRONT.out h0
    have P4 := putF_any F HFO.out w5 C5
    rw [← e1] at f1 f2
    rw [← e2] at f2 f3
    rw [f1, f2] at P4
    have htl : (bs.take m).length = m := by rw [List.length_take]; omega
    rw [htl] at P4
    rw [← HNN.out] at f3
    subst h0
    have P4 := Lib.hid P4
    obtain ⟨cut1, s1⟩ := s5.cut_to Eu8 m f3
    rw [show (u8s bs).take m = u8s (bs.take m) by simp [u8s]] at s1
    have HTL := Lib.hid htl
    clear HBAD HGOOD HFRONT e1 e2 f1 f2 htl s5
    go_upto_region 5 with fail
    rw [HW5.out]
    clear HW5
    go_wp2_with fail
    refine P4.out.mono ?_
    rintro e w6 ⟨⟨v6, rfl, h60, _⟩, hB6⟩
    clear P4 c0 c1 c2 c3 c4 c5 d0 d1 d2 d3 d4 d5
    have ho6 := h60 trivial
    obtain ⟨a6, cap6, rfl, _, _⟩ := ownsRow_slice ho6
    have hBw6 := hBw5.trans (hB6.mono hBw5.size)
    have SM := Lib.hid (same_any (.slice a6 m cap6) (.slice a m cap) (bs.take m) (bs.take m) w6 (by rw [HTL.out]; exact Sl.of_own ho6) (by rw [HTL.out]; exact s1.below hB6) rfl)
    have WK := Lib.hid (works12_any w6 (C5.below hB6))
    clear ho6 h60 hB6 K35 C5 s1
    go_wp2_with fail
    refine SM.out.mono ?_
    rintro e wx ⟨rfl, rfl⟩
    clear SM
    go_wp2_with fail
    refine WK.out.mono ?_
    rintro e w7 ⟨rfl, hB7⟩
    clear WK
    have hBw7 := hBw6.trans (hB7.mono hBw6.size)
    go_wp2_with fail
    go_ret
    exact ⟨rfl, hBw7⟩
  · obtain ⟨e1, e2⟩ := HBAD.out h0
    subst e2
    have E1 := Lib.hid e1
    clear e1
    have q1 : ((c : Int) != 0) = true := by simp; omega
    have WK := Lib.hid (works12_any w5 C5)
    clear HBAD HGOOD HFRONT C5 s5
    go_upto_region 5 with fail
    rw [HW5.out]
    clear HW5
    have g0 : F.k = 0 := by rw [E1.out]; rfl
    have g1 : F.s = 0 := by rw [E1.out]; rfl
    have g2 : F.t = 0 := by rw [E1.out]; rfl
    have g3 : F.a = 0 := by rw [E1.out]; rfl
    have g4 : F.b = 0 := by rw [E1.out]; rfl
    have g5 : F.c = 0 := by rw [E1.out]; rfl
    rw [g0] at c0 d0
    rw [g1] at c1 d1
    rw [g2] at c2 d2
    rw [g3] at c3 d3
    rw [g4] at c4 d4
    rw [g5] at c5 d5
    clear E1 g0 g1 g2 g3 g4 g5
    go_wp2_with fail
    refine WK.out.mono ?_
    rintro e w7 ⟨rfl, hB7⟩
    clear WK
    have hBw7 := hBw5.trans (hB7.mono hBw5.size)
    go_wp2_with fail
    go_ret
    exact ⟨rfl, hBw7⟩
end Go.Proofs.YtfkncfjdgbgeeaaDoor
