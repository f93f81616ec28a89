/-
  ChartSums: parts of a map's bytes; the walk.
-/
import Derived.Test.YtdknnfineommoaaLaw09b
import Derived.Deep.Cut
set_option linter.unusedVariables false
set_option linter.unusedSimpArgs false
namespace Go.Proofs.Ytdknnfineommoaa
open Go Go.RowKit Go.Th Go.Th.Crc

/-- A header or directory with turned bits, all within 32 of each other: no map. -/
theorem head_told' (F : List Int) (W H cell : Nat) (ox oy : Int) (hF : F.length = W * H) (hW : 2 ≤ W ∧ W ≤ 256) (hH : 2 ≤ H ∧ H ≤ 256) (hc : 1 ≤ cell ∧ cell ≤ 1000) (n : Nat) (bs s : List Nat)
    (hl : s.length = headLen W H) (hs : okB s = false) (hb : bs = s ++ bodyTo F W H (nT W H)) (hw : ∀ j, j < headLen W H → j < n / 8 ∨ (n + 31) / 8 < j → s[j]? = (chartB F W H cell ox oy)[j]?) : ¬ Gets bs := by
  rintro ⟨W', H', cell', ho, hg⟩
  have hO := opens_chart (ox := ox) (oy := oy) hF hW hH hc
  have h3 : headLen W H = 22 + 6 * nT W H := by unfold headLen; omega
  have hn := nT_pos (W := W) (H := H) (by omega) (by omega)
  have hbs : ∀ j, j < headLen W H → bs[j]? = s[j]? := fun j hj => by rw [hb, List.getElem?_append_left (by omega)]
  by_cases hh : headLen W' H' = headLen W H
  · have := ho.sum
    rw [hh, hb, List.take_append_of_le_length (by omega), List.take_of_length_le (by omega), hs] at this
    cases this
  · have hchg : n / 8 ≤ 7 := by
      refine Classical.byContradiction fun h => hh ?_
      have hsm : ∀ j, j < 8 → bs[j]? = (chartB F W H cell ox oy)[j]? := fun j hj => (hbs j (by omega)).trans (hw j (by omega) (.inl (by omega)))
      have e1 : W' = W := by rw [← ho.w, ← hO.w]; exact rd_same (fun j h1 h2 => hsm j (by omega))
      have e2 : H' = H := by rw [← ho.h, ← hO.h]; exact rd_same (fun j h1 h2 => hsm j (by omega))
      rw [e1, e2]
    have hn' := nT_pos (W := W') (H := H') (by have := ho.wr; omega) (by have := ho.hr; omega)
    have e1 := ho.dir 0 hn'
    have e2 := hO.dir 0 hn
    have e3 : rd bs (18 + 6 * 0) 4 = rd (chartB F W H cell ox oy) (18 + 6 * 0) 4 := rd_same (fun j h1 h2 => (hbs j (by omega)).trans (hw j (by omega) (.inr (by omega))))
    rw [e3, e2] at e1
    exact hh e1.symm

/-- A part of bytes with a sum of its own: where it lies, and that it can't be turned unseen. -/
def PartP (bs : List Nat) (fr Lp : Nat) : Prop :=
  ∃ A s0 B, bs = A ++ (s0 ++ B) ∧ A.length = fr ∧ s0.length = Lp ∧ 4 ≤ Lp ∧ okB s0 = true ∧
    ∀ n0 s, n0 + 32 ≤ 8 * Lp → s.length = Lp → okB s = false → (∀ j, j < n0 / 8 ∨ (n0 + 31) / 8 < j → s[j]? = s0[j]?) → ¬ Gets (A ++ (s ++ B))
section
variable (F : List Int) (W H cell : Nat) (ox oy : Int) (hF : F.length = W * H) (hW : 2 ≤ W ∧ W ≤ 256) (hH : 2 ≤ H ∧ H ≤ 256) (hc : 1 ≤ cell ∧ cell ≤ 1000)
include hF hW hH hc
theorem part_tile (i : Nat) (hi : i < nT W H) : PartP (chartB F W H cell ox oy) (headLen W H + (bodyTo F W H i).length) (tileB F W H i).length := by
  have hcl := chartB_length F W H cell ox oy
  obtain ⟨r, hr⟩ := bodyTo_more F W H (i + 1) _ hi
  have hbl := congrArg List.length hr
  rw [bodyTo, List.length_append, List.length_append] at hbl
  have ht := chartB_tile F W H cell ox oy i hi
  refine ⟨(chartB F W H cell ox oy).take (headLen W H + (bodyTo F W H i).length), tileB F W H i, (chartB F W H cell ox oy).drop (headLen W H + (bodyTo F W H i).length + (tileB F W H i).length), ?_, by rw [List.length_take]; omega, rfl, (tileB_length F W H i hF hi).1, okB_putB _, ?_⟩
  · have e1 := (List.take_append_drop (headLen W H + (bodyTo F W H i).length) (chartB F W H cell ox oy)).symm
    have e2 := (List.take_append_drop (tileB F W H i).length ((chartB F W H cell ox oy).drop (headLen W H + (bodyTo F W H i).length))).symm
    rw [ht, List.drop_drop] at e2
    rw [← e2]
    exact e1
  · intro n0 s _ hl hs _
    exact tile_told F W H cell ox oy hF hW hH hc i hi _ s hl hs (by rw [hl])
theorem part_head : PartP (chartB F W H cell ox oy) 0 (headLen W H) := by
  have h3 : headLen W H = 22 + 6 * nT W H := by unfold headLen; omega
  refine ⟨[], putB (dirTo F W H cell ox oy (nT W H)), bodyTo F W H (nT W H), rfl, rfl, head_length F W H cell ox oy, by omega, okB_putB _, ?_⟩
  intro n0 s _ hl hs hw
  rw [List.nil_append]
  refine head_told' F W H cell ox oy hF hW hH hc n0 _ s hl hs rfl fun j hj h => ?_
  rw [hw j h]
  unfold chartB
  rw [List.getElem?_append_left (by rw [head_length]; exact hj)]
end

theorem chartSums_big (p q at_ mk : Nat) (a : Option Addr) (n cap : Nat) (w : World) (hn : n ≤ 9223372036854775807) (hbig : 1000 < n) :
    Calls Try.prog 5 #[.int .u8 p, .int .u8 q, .slice a n cap, .int .u16 at_, .int .u32 mk] w fun e w' => e = .returned (.bool true) ∧ Below w.heap.size w w' := by
  have hb' : (1000 : Int) < (n : Int) := by omega
  go_enter Try.func5, Try.ntmps5
  go_wp2_with fail
  refine (works9_any w).mono ?_
  rintro e w1 ⟨rfl, hB⟩
  go_wp2_with fail
  go_ret
  exact ⟨rfl, hB⟩
theorem chartSums_zero (p q at_ : Nat) (a : Option Addr) (n cap : Nat) (w : World) (hn : n ≤ 9223372036854775807) (hbig : ¬ 1000 < n) :
    Calls Try.prog 5 #[.int .u8 p, .int .u8 q, .slice a n cap, .int .u16 at_, .int .u32 0] w fun e w' => e = .returned (.bool true) ∧ Below w.heap.size w w' := by
  have hb' : ¬ ((1000 : Int) < (n : Int)) := by omega
  go_enter Try.func5, Try.ntmps5
  go_wp2_with fail
  refine (works9_any w).mono ?_
  rintro e w1 ⟨rfl, hB⟩
  go_wp2_with fail
  go_ret
  exact ⟨rfl, hB⟩

set_option maxRecDepth 20000 in
set_option maxHeartbeats 6400000 in
theorem chartSums_go (p q at_ mk : Nat) (a : Option Addr) (n cap : Nat) (z : List Int) (hp : p < 256) (hq : q < 256) (hat : at_ < 65536) (hm32 : mk < 4294967296) (hm0 : mk ≠ 0) (hz : z.length = n) (h16 : ∀ u ∈ z, In16 u) (hn : n ≤ 1000) (w : World) (hS : Sl w 1 (.slice a n cap) n (i16s z)) :
    Calls Try.prog 5 #[.int .u8 p, .int .u8 q, .slice a n cap, .int .u16 at_, .int .u32 mk] w fun e w' => e = .returned (.bool true) ∧ Below w.heap.size w w' := by
  have hb' : ¬ ((1000 : Int) < (n : Int)) := by omega
  have hd0 : ((mk : Int) == 0) = false := by rw [Bool.eq_false_iff]; intro e; rw [beq_iff_eq] at e; omega
  have C1 := Lib.hid (made9_any p q n 30 31 1 2 a cap z hp hq (by omega) rfl hz (by omega) h16 w hS)
  have HM0 := Lib.hid hm0
  have HM32 := Lib.hid hm32
  have HAT := Lib.hid hat
  clear hz h16 hS hp hq hm0 hm32
  go_enter Try.func5, Try.ntmps5
  go_wp2_with fail
  refine C1.out.mono ?_
  rintro e w2 ⟨x, y, v, F, rfl, hF, hx, hy, hl, h16, hof, hA⟩
  obtain ⟨av, cw, rfl, _, _⟩ := ownsRow_slice hof
  have hB := hA
  have hf := isF_yes hF
  have hLs := chartB_short F x y 31 1 2 hl (by omega) (by omega)
  have hO := opens_chart (ox := 1) (oy := 2) (F := F) (W := x) (H := y) (cell := 31) hl (by omega) (by omega) (by omega)
  have hblt := chartB_lt F x y 31 1 2
  have hn9 := nT_le (W := x) (H := y) (by omega) (by omega)
  have hn1 := nT_pos (W := x) (H := y) (by omega) (by omega)
  have P1 := put9_any x y 31 (x * y) 1 2 av cw F hF rfl (by decide) hl h16
  have PO := fun (gb : Option Addr) cb wx hs => open9_yes (chartB F x y 31 1 2) x y 31 (chartB F x y 31 1 2).length hO rfl (by omega) hblt gb cb wx hs
  have PH := part_head F x y 31 1 2 hl (by omega) (by omega) (by omega)
  have PT := fun i hi => part_tile F x y 31 1 2 hl (by omega) (by omega) (by omega) i hi
  have POF : ∀ i, i < nT x y → offs (chartB F x y 31 1 2) x y i = headLen x y + (bodyTo F x y i).length := fun i hi => offs_chart hl (by omega) (by omega) i (by omega)
  have PSZ : ∀ i, i < nT x y → rd (chartB F x y 31 1 2) (18 + 6 * i + 4) 2 = (tileB F x y i).length := fun i hi => (rd_entry hl (by omega) (by omega) i hi).2
  have PFT : ∀ i, i < nT x y → offs (chartB F x y 31 1 2) x y i + rd (chartB F x y 31 1 2) (18 + 6 * i + 4) 2 ≤ (chartB F x y 31 1 2).length := fun i hi => tb_fits hO i hi
  have P0 : offs (chartB F x y 31 1 2) x y 0 = headLen x y := rfl
  have PHL : headLen x y ≤ (chartB F x y 31 1 2).length := hO.head
  obtain ⟨BS, hBS⟩ : ∃ B, B = chartB F x y 31 1 2 := ⟨_, rfl⟩
  obtain ⟨L, hL⟩ : ∃ L, L = BS.length := ⟨_, rfl⟩
  obtain ⟨m, hm⟩ : ∃ m, m = x * y := ⟨_, rfl⟩
  obtain ⟨n9, hn9e⟩ : ∃ m, m = nT x y := ⟨_, rfl⟩
  rw [← hBS] at PH PT POF PSZ PFT P0 hblt PHL
  rw [← hBS, ← hL] at P1 PO hLs
  rw [← hL] at PFT PHL
  rw [← hm] at P1 hof ⊢
  rw [← hn9e] at PO PT POF PSZ PFT hn9 hn1
  obtain ⟨q4, hq4⟩ : ∃ q, q = IntKind.i32.wrap (rd BS 10 4 : Nat) := ⟨_, rfl⟩
  obtain ⟨q5, hq5⟩ : ∃ q, q = IntKind.i32.wrap (rd BS 14 4 : Nat) := ⟨_, rfl⟩
  rw [← hq4, ← hq5] at PO
  replace P1 := Lib.hid P1
  replace PO := Lib.hid PO
  have PART : ∀ i, i < n9 → PartP BS (offs BS x y i) (rd BS (18 + 6 * i + 4) 2) := fun i hi => by rw [POF i hi, PSZ i hi]; exact PT i hi
  replace PART := Lib.hid PART
  replace PH := Lib.hid PH
  replace PFT := Lib.hid PFT
  replace P0 := Lib.hid P0
  replace PHL := Lib.hid PHL
  have HBL := Lib.hid hblt
  have HL := Lib.hid hL
  clear C1 hF hl h16 hBS hL hm hn9e hq4 hq5 hf hO hblt PT POF PSZ
  obtain ⟨w3, hw3⟩ : ∃ w3, w2.alloc (.cells #[.int .i64 x, .int .i64 y, .slice av m cw, .int .i64 31, .int .i32 1, .int .i32 2] 28) = w3 := ⟨_, rfl⟩
  have hA3 : Below w2.heap.size w2 w3 := by rw [← hw3]; exact (Below.refl _ _).alloc (Nat.le_refl _) _
  have KC : Blk w3 w2.heap.size 28 [.int .i64 x, .int .i64 y, .slice av m cw, .int .i64 31, .int .i32 1, .int .i32 2] := by rw [← hw3]; exact Blk.new w2 _ _
  replace hof := ownsRow_below hof hA3
  replace hB := hB.trans (hA3.mono hB.size)
  have HW3 := Lib.hid hw3
  have D := Lib.hid (P1.out w3 (Sl.of_own hof))
  have hz3 := hB.size
  clear hA hA3 hw3 P1 hof
  go_upto_region 4 with fail
  rw [HW3.out]
  have c0 := KC.cell (i := 0) rfl
  have c1 := KC.cell (i := 1) rfl
  have c2 := KC.cell (i := 2) rfl
  have c3 := KC.cell (i := 3) rfl
  have c4 := KC.cell (i := 4) rfl
  have c5 := KC.cell (i := 5) rfl
  go_wp2_with fail
  refine D.out.mono ?_
  rintro e w4 ⟨vb, rfl, hob, hA⟩
  have hLp : 0 < L := by have := PHL.out; unfold headLen at this; omega
  obtain ⟨gb, cb, rfl, hgb1, _, hcb1, hcb2⟩ := ownsRow_val hob hLp
  unfold maxLen at hcb2
  replace hob := ownsRow_base hob hz3
  have hgbw : w.heap.size ≤ gb := by omega
  replace hB := hB.trans (hA.mono hB.size)
  have hz4 := hB.size
  have D2 := Lib.hid (PO.out (some ⟨gb, 0, none⟩) cb w4 (Sl.of_own hob))
  clear D hA c0 c1 c2 c3 c4 c5 KC HW3 PO
  go_wp2_with fail
  refine D2.out.mono ?_
  rintro e w7 ⟨va, vs, rfl, hoA, hoS, hA⟩
  obtain ⟨aA, cA, rfl, hcA1, hcA2⟩ := ownsRow_slice hoA
  obtain ⟨aS, cS, rfl, hcS1, hcS2⟩ := ownsRow_slice hoS
  unfold maxLen at hcA2 hcS2
  obtain ⟨w8, hw8⟩ : ∃ w8, w7.alloc (.cells #[.int .i64 x, .int .i64 y, .slice none 0 0, .int .i64 31, .int .i32 q4, .int .i32 q5, .slice aA n9 cA, .slice aS n9 cS] 37) = w8 := ⟨_, rfl⟩
  have hA8 : Below w7.heap.size w7 w8 := by rw [← hw8]; exact (Below.refl _ _).alloc (Nat.le_refl _) _
  have KD : Blk w8 w7.heap.size 37 [.int .i64 x, .int .i64 y, .slice none 0 0, .int .i64 31, .int .i32 q4, .int .i32 q5, .slice aA n9 cA, .slice aS n9 cS] := by rw [← hw8]; exact Blk.new w7 _ _
  replace hob := ownsRow_below (ownsRow_below hob hA) hA8
  replace hoA := ownsRow_below hoA hA8
  replace hoS := ownsRow_below hoS hA8
  replace hB := (hB.trans (hA.mono hB.size)).trans (hA8.mono (hB.trans (hA.mono hB.size)).size)
  have HW8 := Lib.hid hw8
  clear D2 hA hA8 hw8
  obtain ⟨i, hi⟩ : ∃ i, i = at_ % (n9 + 1) := ⟨_, rfl⟩
  have hii : (at_ : Int) % ((n9 : Int) + 1) = (i : Int) := by rw [hi]; simp
  have hil : i < n9 + 1 := by rw [hi]; exact Nat.mod_lt _ (by omega)
  obtain ⟨bA, oA, rfl, hbA, hc0⟩ := cell_ints (Sl.of_own hoA) 0 (by simp; omega)
  have e00 : ((List.range n9).map (offs BS x y))[0]'(by simp; omega) = headLen x y := by
    rw [List.getElem_map, List.getElem_range]; exact P0.out
  rw [e00, Nat.add_zero] at hc0
  obtain ⟨hl, hhl⟩ : ∃ h, h = headLen x y := ⟨_, rfl⟩
  rw [← hhl] at hc0
  have HHL := Lib.hid hhl
  have hn9e : ((n9 : Int) == 0) = false := by rw [Bool.eq_false_iff]; intro e; rw [beq_iff_eq] at e; omega
  have hn9b : ((n9 : Int) != (n9 : Int)) = false := by simp
  have HOA := Lib.hid hoA
  have HOS := Lib.hid hoS
  clear hi hoA hoS hhl e00
  go_upto_region 8 with fail
  rw [HW8.out]
  clear HW8
  have d6 := KD.cell (i := 6) rfl
  have d7 := KD.cell (i := 7) rfl
  go_upto_region 10 with fail
  go_region
  go_upto_if 79 with fail
  go_cut [16, 17, 18] from 23 (fun s16 s17 _ wx => ∃ (FR TO : Int) (fr Lp : Nat), s16 = .int .i64 FR ∧ s17 = .int .i64 TO ∧ FR = (fr : Int) ∧ TO = (fr : Int) + (Lp : Int) ∧ fr + Lp ≤ L ∧ Hid (PartP BS fr Lp) ∧ wx.ownsRow w.heap.size 5 1 (.slice (some ⟨gb, 0, none⟩) L cb) L (u8s BS) ∧ Below w.heap.size w wx)
  case first =>
    by_cases hlt : i < n9
    · obtain ⟨bA', oA', heA, _, hcA'⟩ := cell_ints (Sl.of_own HOA.out) i (by simp; omega)
      cases heA
      obtain ⟨bS, oS, rfl, _, hcS'⟩ := cell_ints (Sl.of_own HOS.out) i (by simp; omega)
      have e1 : ((List.range n9).map (offs BS x y))[i]'(by simp; omega) = offs BS x y i := by rw [List.getElem_map, List.getElem_range]
      have e2 : ((List.range n9).map (fun i => rd BS (18 + 6 * i + 4) 2))[i]'(by simp; omega) = rd BS (18 + 6 * i + 4) 2 := by rw [List.getElem_map, List.getElem_range]
      rw [e1] at hcA'
      rw [e2] at hcS'
      have hP := PART.out i hlt
      have hft := PFT.out i hlt
      obtain ⟨o, ho⟩ : ∃ o, o = offs BS x y i := ⟨_, rfl⟩
      obtain ⟨s, hs⟩ : ∃ s, s = rd BS (18 + 6 * i + 4) 2 := ⟨_, rfl⟩
      rw [← ho] at hcA' hP hft
      rw [← hs] at hcS' hP hft
      have HP := Lib.hid hP
      have HOB := Lib.hid hob
      have hlti : (i : Int) < (n9 : Int) := by omega
      clear hP e1 e2 ho hs hob HOA HOS
      go_wp2_with fail
      go_region
      all_goals
        go_wp2_with fail
        go_meet
        exact ⟨_, _, o, s, rfl, rfl, rfl, rfl, hft, HP, HOB.out, by first | exact hB | exact hB.drew | exact hB.drew.drew | exact below_dN hB _⟩
    · have hlti : ¬ ((i : Int) < (n9 : Int)) := by omega
      have HOB := Lib.hid hob
      have hft := PHL.out
      rw [← HHL.out] at hft
      have HP : Hid (PartP BS 0 hl) := by rw [HHL.out]; exact PH
      clear hob HOA HOS
      go_wp2_with fail
      go_meet
      exact ⟨_, _, 0, hl, rfl, rfl, rfl, by simp, by omega, HP, HOB.out, by first | exact hB | exact hB.drew | exact hB.drew.drew | exact below_dN hB _⟩
  obtain ⟨FR, TO, fr, Lp, rfl, rfl, hFR, hTO, hfit, hP, hob, hB'⟩ := hcut
  clear hB HOA HOS KD d6 d7 hc0 hbA PART PH PFT P0 PHL HHL hii hil hn9e hn9b hcA1 hcA2 hcS1 hcS2 hn1 hn9
  obtain ⟨A, s0, BB, hbs, hAl, hs0, h4, hok, htold⟩ := hP.out
  have hq1 : ¬ (FR < 0) := by omega
  have hq2 : ¬ ((L : Int) < TO) := by omega
  have hq3 : ¬ ((Lp : Int) < 4) := by omega
  have hTF : TO - FR = (Lp : Int) := by omega
  obtain ⟨n0, hn0⟩ : ∃ n, n = at_ % (8 * Lp - 31) := ⟨_, rfl⟩
  have hn0i : (at_ : Int) % (8 * (Lp : Int) - 31) = (n0 : Int) := by
    rw [hn0, show (8 * (Lp : Int) - 31) = ((8 * Lp - 31 : Nat) : Int) by omega]; simp
  have hnl : n0 + 32 ≤ 8 * Lp := by
    have := Nat.mod_lt at_ (show 0 < 8 * Lp - 31 by omega)
    omega
  obtain ⟨NN, hNN⟩ : ∃ N : Int, 8 * FR + (n0 : Int) = N := ⟨_, rfl⟩
  have hNr : NN = 8 * (fr : Int) + (n0 : Int) := by omega
  have hNb : 0 ≤ NN ∧ NN ≤ 4000000 := by omega
  have HNR := Lib.hid hNr
  have hs0b : ∀ v ∈ s0, v < 256 := fun v hv => HBL.out v (by rw [hbs]; exact List.mem_append_right _ (List.mem_append_left _ hv))
  have hAb : ∀ v ∈ A, v < 256 := fun v hv => HBL.out v (by rw [hbs]; exact List.mem_append_left _ hv)
  have hBb : ∀ v ∈ BB, v < 256 := fun v hv => HBL.out v (by rw [hbs]; exact List.mem_append_right _ (List.mem_append_right _ hv))
  have hreg := okB_reg s0 hs0b hok
  have HT := Lib.hid htold
  have hlen : A.length + (s0.length + BB.length) = L := by rw [HL.out, hbs]; simp
  rw [hbs] at hob
  have HS0B := Lib.hid hs0b
  have HAB := Lib.hid hAb
  have HBB := Lib.hid hBb
  have HREG := Lib.hid hreg
  have HLEN := Lib.hid hlen
  have HAL := Lib.hid hAl
  have HS0 := Lib.hid hs0
  have HFIT := Lib.hid hfit
  have HFR := Lib.hid hFR
  have HTO := Lib.hid hTO
  have HNL := Lib.hid hnl
  have hm := HM32.out
  clear hbs hP hok htold hn0 hNr hs0b hAb hBb hreg hlen hAl hs0 hfit hFR hTO hnl
  go_wp2_with fail
  go_loopw [20] (fun c wx => ∃ (k : Nat) (s : List Nat), k ≤ 32 ∧ c = .int .i64 k ∧ wx.ownsRow w.heap.size 5 1 (.slice (some ⟨gb, 0, none⟩) L cb) L (u8s (A ++ (s ++ BB))) ∧ Hid (s.length = Lp) ∧ Hid (∀ v ∈ s, v < 256) ∧
    Hid (regOf s 4294967295 = sk 32 4294967295 ^^^ sk (8 * Lp - n0) (mk % 2 ^ k)) ∧ Hid (∀ j, j < n0 / 8 ∨ (n0 + 31) / 8 < j → s[j]? = s0[j]?) ∧ Below w.heap.size w wx) (fun c _ => 32 - (intOf c).toNat)
  case atStart => exact ⟨0, s0, by omega, rfl, hob, HS0, HS0B, by show _ = _; rw [HREG.out]; simp [Nat.mod_one, sk_zero], Lib.hid (fun j _ => rfl), hB'⟩
  case round =>
    clear hob hB'
    obtain ⟨k, s, hk, rfl, ho, HLs, HS, HR, HW, hB⟩ := hrel
    by_cases hlt : k < 32
    · by_cases hbit : mk / 2 ^ k % 2 = 1
      · have hd : (bits BinOp.and IntKind.u32 ((mk : Int) / 2 ^ k) 1 == 1) = true := by
          rw [beq_iff_eq, show (mk : Int) / 2 ^ k = ((mk / 2 ^ k : Nat) : Int) by simp, and1 _ (Nat.lt_of_le_of_lt (Nat.div_le_self _ _) hm), hbit]; rfl
        obtain ⟨qi, hqi⟩ : ∃ q, q = (n0 + k) / 8 := ⟨_, rfl⟩
        obtain ⟨r, hr⟩ : ∃ r, r = (n0 + k) % 8 := ⟨_, rfl⟩
        have hnl := HNL.out
        have hqL : qi < Lp := by omega
        have hr8 : r < 8 := by omega
        have hql : qi < s.length := by rw [HLs.out]; exact hqL
        have hst := turn_step Lp n0 k mk s HLs.out hnl hlt HR.out hbit (by rw [← hqi]; exact hql)
        simp only [← hqi, ← hr] at hst
        obtain ⟨g, hg⟩ : ∃ g, g = fr + qi := ⟨_, rfl⟩
        have hNR := HNR.out
        have hq' : (NN + (k : Int)) / 8 = (g : Int) := by omega
        have hr' : (NN + (k : Int)) % 8 = (r : Int) := by omega
        have hgL : g < L := by have := HFIT.out; omega
        have hge : g = A.length + qi := by rw [HAL.out, hg]
        have hgc : (u8s (A ++ (s ++ BB)))[g]? = some (.int .u8 (s[qi] : Nat)) := by
          unfold u8s
          rw [List.getElem?_map, mid_get A s BB g qi hge hql]; rfl
        have hc := ownsRow_cell ho hgc
        have hf := ownsRow_free ho g
        have hxl := HS.out s[qi] (List.getElem_mem _)
        have hset0 := mid_set A s BB g qi (s[qi] ^^^ 2 ^ r) hge hql
        obtain ⟨v, hxe⟩ : ∃ v, v = s[qi] := ⟨_, rfl⟩
        rw [← hxe] at hst hc hxl hset0
        have h2 : 2 ^ r < 256 := Nat.pow_lt_pow_right (a := 2) (by decide) hr8
        have hx2 : v ^^^ 2 ^ r < 256 := Nat.xor_lt_two_pow (n := 8) hxl h2
        have hset := ownsRow_set ho g hgL (.int .u8 (v ^^^ 2 ^ r : Nat))
        rw [show (u8s (A ++ (s ++ BB))).set g (.int .u8 (v ^^^ 2 ^ r : Nat)) = u8s (A ++ (s.set qi (v ^^^ 2 ^ r) ++ BB)) by rw [← hset0]; simp [u8s, List.map_set]] at hset
        have hbx : bits BinOp.xor IntKind.u8 (v : Int) ((2 ^ r : Nat) : Int) = ((v ^^^ 2 ^ r : Nat) : Int) := u8_xor_nat v (2 ^ r) hxl h2
        have hl2 : Hid ((s.set qi (v ^^^ 2 ^ r)).length = Lp) := by show _ = _; rw [List.length_set]; exact HLs.out
        have hs2 : Hid (∀ y ∈ s.set qi (v ^^^ 2 ^ r), y < 256) := by
          show ∀ y ∈ s.set qi (v ^^^ 2 ^ r), y < 256
          intro y hy
          rcases List.mem_or_eq_of_mem_set hy with h | h
          · exact HS.out y h
          · rw [h]; exact hx2
        have hw2 : Hid (∀ j, j < n0 / 8 ∨ (n0 + 31) / 8 < j → (s.set qi (v ^^^ 2 ^ r))[j]? = s0[j]?) := by
          show ∀ j, j < n0 / 8 ∨ (n0 + 31) / 8 < j → (s.set qi (v ^^^ 2 ^ r))[j]? = s0[j]?
          intro j hj
          rw [List.getElem?_set_ne (by omega)]
          exact HW.out j hj
        have H2 : Hid ((2 : Int) ^ r % 256 = ((2 ^ r : Nat) : Int)) := by
          show _ = _
          rw [show (2 : Int) ^ r = ((2 ^ r : Nat) : Int) from (Int.natCast_pow 2 r).symm]; generalize 2 ^ r = y at *; omega
        have HST := Lib.hid hst
        have HBS := Lib.hid hbx
        have HSET := Lib.hid hset
        clear hst hbx hset hset0 hxe hx2 h2 HR hbit hqi hr hg hge hgc hNR hnl hql hqL HW
        go_wp2
        go_roundw
        case rel => exact ⟨k + 1, _, by omega, by go_num, by rw [H2.out, HBS.out]; exact HSET.out, hl2, hs2, HST, hw2, hB.setCell hgbw _⟩
        case measure => simp [intOf]; omega
      · have hd : (bits BinOp.and IntKind.u32 ((mk : Int) / 2 ^ k) 1 == 1) = false := by
          rw [Bool.eq_false_iff]
          intro e
          rw [beq_iff_eq, show (mk : Int) / 2 ^ k = ((mk / 2 ^ k : Nat) : Int) by simp, and1 _ (Nat.lt_of_le_of_lt (Nat.div_le_self _ _) hm)] at e
          omega
        have HR2 := Lib.hid (turn_same Lp n0 k mk s HR.out hbit)
        clear hbit HR
        go_wp2
        go_roundw
        case rel => exact ⟨k + 1, s, by omega, by go_num, ho, HLs, HS, HR2, HW, hB⟩
        case measure => simp [intOf]; omega
    · have HR2 : Hid (regOf s 4294967295 = sk 32 4294967295 ^^^ sk (8 * Lp - n0) (mk % 2 ^ 32)) := by
        have := HR.out
        rw [show k = 32 by omega] at this
        exact this
      have hok := turn_told Lp n0 mk s HS.out hm HM0.out HR2.out
      have hng := HT.out n0 s HNL.out HLs.out hok HW.out
      have hab : ∀ v ∈ A ++ (s ++ BB), v < 256 := by
        intro v hv
        rcases List.mem_append.1 hv with hv | hv
        · exact HAB.out v hv
        · rcases List.mem_append.1 hv with hv | hv
          · exact HS.out v hv
          · exact HBB.out v hv
      have hll : L = (A ++ (s ++ BB)).length := by rw [List.length_append, List.length_append, HLs.out, ← HS0.out]; exact HLEN.out.symm
      have D := Lib.hid (get9_ne (A ++ (s ++ BB)) L hll (by omega) hab hng (some ⟨gb, 0, none⟩) cb wr (Sl.of_own ho))
      clear hok hng hab hll ho HR HR2
      go_wp2_with fail
      refine D.out.mono ?_
      rintro e w5 ⟨c, hc, rfl, hA⟩
      have hcn : (c != 0) = true := by simpa using hc
      replace hB := hB.trans (hA.mono hB.size)
      clear D hA
      obtain ⟨w6, hw6⟩ : ∃ w6, w5.alloc (.cells #[.int .i64 0, .int .i64 0, .slice none 0 0, .int .i64 0, .int .i32 0, .int .i32 0] 28) = w6 := ⟨_, rfl⟩
      have hA6 : Below w5.heap.size w5 w6 := by rw [← hw6]; exact (Below.refl _ _).alloc (Nat.le_refl _) _
      replace hB := hB.trans (hA6.mono hB.size)
      have HW6 := Lib.hid hw6
      clear hA6 hw6
      go_upto_region 23 with fail
      rw [HW6.out]
      go_wp2_with fail
      refine (works9_any w6).mono ?_
      rintro e w7 ⟨rfl, hA⟩
      go_wp2_with fail
      go_ret
      exact ⟨rfl, hB.trans (hA.mono hB.size)⟩

theorem chartSums_any (p q at_ mk : Nat) (a : Option Addr) (n cap : Nat) (z : List Int) (hp : p < 256) (hq : q < 256) (hat : at_ < 65536) (hm32 : mk < 4294967296) (hz : z.length = n) (h16 : ∀ u ∈ z, In16 u) (w : World) (hS : Sl w 1 (.slice a n cap) n (i16s z)) :
    Calls Try.prog 5 #[.int .u8 p, .int .u8 q, .slice a n cap, .int .u16 at_, .int .u32 mk] w fun e w' => e = .returned (.bool true) ∧ Below w.heap.size w w' := by
  have hmx := hS.max
  by_cases hbig : 1000 < n
  · exact chartSums_big p q at_ mk a n cap w (by omega) hbig
  · by_cases hm0 : mk = 0
    · subst hm0
      exact chartSums_zero p q at_ a n cap w (by omega) hbig
    · exact chartSums_go p q at_ mk a n cap z hp hq hat hm32 hm0 hz h16 (by omega) w hS
end Go.Proofs.Ytdknnfineommoaa
