/-
  The examples of the law of layer 9.
-/
import Derived.Test.YtdknnfineommoaaChartY
import Derived.Test.YtdknnfineommoaaChartN
import Derived.Test.YtdknnfineommoaaChartQ
set_option linter.unusedVariables false
set_option linter.unusedSimpArgs false
namespace Go.Proofs.Ytdknnfineommoaa
open Go Go.RowKit Go.Th Go.Th.Crc

set_option maxRecDepth 20000 in
set_option maxHeartbeats 6400000 in
theorem works9_any (w : World) : Calls Try.prog 6 #[] w fun e w' => e = .returned (.bool true) ∧ Below w.heap.size w w' := by
  obtain ⟨w1, hw1⟩ : ∃ w1, w.alloc (.cells #[.int .i16 5, .int .i16 9] 56) = w1 := ⟨_, rfl⟩
  have hS1 : Sl w1 1 (.slice (some ⟨w.heap.size, 0, none⟩) 2 2) 2 (i16s [5, 9]) := by rw [← hw1]; exact Sl.i16 [5, 9] 56 2 rfl (by decide)
  have hB : Below w.heap.size w w1 := by rw [← hw1]; exact (Below.refl _ _).alloc (Nat.le_refl _) _
  have C1 := Lib.hid (field9_any 20 3 2 (some ⟨w.heap.size, 0, none⟩) 2 [5, 9] (by decide) (by decide) rfl (by omega) (by intro u hu; simp at hu; rcases hu with rfl | rfl <;> (constructor <;> decide)) w1 hS1)
  clear hS1
  go_enter Try.func6, Try.ntmps6
  go_wp2_with fail
  clear hw1
  refine C1.out.mono ?_
  rintro e w2 ⟨x, y, v, F, ⟨hx, hy⟩, hFd, rfl, hF, _, _, hl, h16, hof, hA⟩
  obtain rfl : x = 22 := by omega
  obtain rfl : y = 5 := by omega
  obtain rfl : F = wF := hFd (by omega)
  rw [show (22 : Nat) * 5 = 110 from rfl] at hof
  obtain ⟨av, cw, rfl, _, _⟩ := ownsRow_slice hof
  have H16 := Lib.hid h16
  have HF := Lib.hid hF
  clear C1 hx hy hFd hl h16 hF
  replace hB := hB.trans (hA.mono hB.size)
  clear hA
  obtain ⟨w3, hw3⟩ : ∃ w3, w2.alloc (.cells #[.int .i64 22, .int .i64 5, .slice av 110 cw, .int .i64 30, .int .i32 (-7), .int .i32 8] 28) = w3 := ⟨_, rfl⟩
  have hA : Below w2.heap.size w2 w3 := by rw [← hw3]; exact (Below.refl _ _).alloc (Nat.le_refl _) _
  have KC : Blk w3 w2.heap.size 28 [.int .i64 22, .int .i64 5, .slice av 110 cw, .int .i64 30, .int .i32 (-7), .int .i32 8] := by rw [← hw3]; exact Blk.new w2 _ _
  replace hof := ownsRow_below hof hA
  replace hB := hB.trans (hA.mono hB.size)
  clear hA
  obtain ⟨gC, hgC⟩ : ∃ g, w2.heap.size = g := ⟨_, rfl⟩
  have HGC := Lib.hid hgC
  rw [hgC] at KC
  clear hgC
  have C2 := put9_any 22 5 30 110 (-7) 8 av cw wF HF.out rfl (by decide) (by rw [wF_length]) H16.out w3 (Sl.of_own hof)
  rw [show chartB wF 22 5 30 (-7) 8 = wB from rfl, wB_length] at C2
  replace C2 := Lib.hid C2
  have HW3 := Lib.hid hw3
  clear hw3
  go_upto_region 2 with fail
  rw [HW3.out, HGC.out]
  clear HW3
  have c0 := KC.cell (i := 0) rfl
  have c1 := KC.cell (i := 1) rfl
  have c2 := KC.cell (i := 2) rfl
  have c3 := KC.cell (i := 3) rfl
  have c4 := KC.cell (i := 4) rfl
  have c5 := KC.cell (i := 5) rfl
  go_wp2_with fail
  refine C2.out.mono ?_
  rintro e w4 ⟨vb, rfl, hob, hA⟩
  obtain ⟨gb, cb, rfl, hgb1, hgb2, hcb1, hcb2⟩ := ownsRow_val hob (by omega)
  unfold maxLen at hcb2
  have hgC3 := KC.lt
  have hwgb0 : w.heap.size ≤ gb := by have := hB.size; omega
  have HWG := Lib.hid hwgb0
  clear hwgb0
  have hof3 : ∀ k, (Value.slice av 110 cw).ownBlock = some k → k < w3.heap.size := fun k hk => (hof.lt k hk).2
  have HOF3 := Lib.hid hof3
  clear C2 hof3 c0 c1 c2 c3 c4 c5
  replace hof := ownsRow_below hof hA
  replace KC := KC.below hA KC.lt
  replace hB := hB.trans (hA.mono hB.size)
  clear hA
  have C3 := get9_back wF 22 5 30 (-7) 8 HF.out (by decide) wF_length H16.out ⟨by decide, by decide⟩ ⟨by decide, by decide⟩ 93 wB_length.symm (by omega) (some ⟨gb, 0, none⟩) cb w4 (Sl.of_own hob)
  rw [show (22 : Nat) * 5 = 110 from rfl] at C3
  replace C3 := Lib.hid C3
  go_wp2_with fail
  refine C3.out.mono ?_
  rintro e w5 ⟨v5, rfl, ho5, hA⟩
  obtain ⟨a5, cz5, rfl, _, _⟩ := ownsRow_slice ho5
  have HN5 := Lib.hid (fun k (hk : (Value.slice a5 110 cz5).ownBlock = some k) => (ho5.lt k hk).1)
  have hgb4 : gb < w4.heap.size := (hob.lt gb rfl).2
  have HN5' : Hid (∀ k, (Value.slice a5 110 cz5).ownBlock = some k → k ≠ gb) := Lib.hid (fun k hk e => by have := HN5.out k hk; omega)
  clear HN5 hgb4
  clear C3
  replace hof := ownsRow_below hof hA
  replace KC := KC.below hA KC.lt
  replace hob := ownsRow_below hob hA
  replace hB := hB.trans (hA.mono hB.size)
  clear hA
  obtain ⟨w6, hw6⟩ : ∃ w6, w5.alloc (.cells #[.int .i64 22, .int .i64 5, .slice a5 110 cz5, .int .i64 30, .int .i32 (-7), .int .i32 8] 28) = w6 := ⟨_, rfl⟩
  have hA : Below w5.heap.size w5 w6 := by rw [← hw6]; exact (Below.refl _ _).alloc (Nat.le_refl _) _
  have K4 : Blk w6 w5.heap.size 28 [.int .i64 22, .int .i64 5, .slice a5 110 cz5, .int .i64 30, .int .i32 (-7), .int .i32 8] := by rw [← hw6]; exact Blk.new w5 _ _
  have hz5 : gb < w5.heap.size := (hob.lt gb rfl).2
  replace hof := ownsRow_below hof hA
  replace KC := KC.below hA KC.lt
  replace hob := ownsRow_below hob hA
  replace ho5 := ownsRow_below ho5 hA
  replace hB := hB.trans (hA.mono hB.size)
  clear hA
  obtain ⟨g4, hg4⟩ : ∃ g, w5.heap.size = g := ⟨_, rfl⟩
  have HG4 := Lib.hid hg4
  rw [hg4] at K4 hz5
  clear hg4
  have C4 := open9_yes wB 22 5 30 93 wB_opens wB_length.symm (by omega) wB_lt (some ⟨gb, 0, none⟩) cb w6 (Sl.of_own hob)
  rw [show nT 22 5 = 2 by decide] at C4
  obtain ⟨q4, hq4⟩ : ∃ q, q = IntKind.i32.wrap (rd wB 10 4 : Nat) := ⟨_, rfl⟩
  obtain ⟨q5, hq5⟩ : ∃ q, q = IntKind.i32.wrap (rd wB 14 4 : Nat) := ⟨_, rfl⟩
  rw [← hq4, ← hq5] at C4
  replace C4 := Lib.hid C4
  clear hq4 hq5
  have HW6 := Lib.hid hw6
  clear hw6
  go_upto_region 4 with fail
  rw [HW6.out, HG4.out]
  clear HW6
  go_wp2_with fail
  refine C4.out.mono ?_
  rintro e w7 ⟨va, vs, rfl, hoA, hoS, hA⟩
  obtain ⟨aA, cA, rfl, hcA1, hcA2⟩ := ownsRow_slice hoA
  obtain ⟨aS, cS, rfl, hcS1, hcS2⟩ := ownsRow_slice hoS
  unfold maxLen at hcA2 hcS2
  have hgb6 : gb < w6.heap.size := (hob.lt gb rfl).2
  have HNA' : Hid (∀ k, (Value.slice aA 2 cA).ownBlock = some k → k ≠ gb) := Lib.hid (fun k hk e => by have := (hoA.lt k hk).1; omega)
  have HNS' : Hid (∀ k, (Value.slice aS 2 cS).ownBlock = some k → k ≠ gb) := Lib.hid (fun k hk e => by have := (hoS.lt k hk).1; omega)
  clear C4 hgb6
  have hz6 : gb < w6.heap.size := (hob.lt gb rfl).2
  replace hof := ownsRow_below hof hA
  replace KC := KC.below hA KC.lt
  replace hob := ownsRow_below hob hA
  replace ho5 := ownsRow_below ho5 hA
  replace K4 := K4.below hA K4.lt
  replace hB := hB.trans (hA.mono hB.size)
  clear hA
  obtain ⟨w8, hw8⟩ : ∃ w8, w7.alloc (.cells #[.int .i64 22, .int .i64 5, .slice none 0 0, .int .i64 30, .int .i32 q4, .int .i32 q5, .slice aA 2 cA, .slice aS 2 cS] 37) = w8 := ⟨_, rfl⟩
  have hA : Below w7.heap.size w7 w8 := by rw [← hw8]; exact (Below.refl _ _).alloc (Nat.le_refl _) _
  have K6 : Blk w8 w7.heap.size 37 [.int .i64 22, .int .i64 5, .slice none 0 0, .int .i64 30, .int .i32 q4, .int .i32 q5, .slice aA 2 cA, .slice aS 2 cS] := by rw [← hw8]; exact Blk.new w7 _ _
  have hz7 : gb < w7.heap.size := (hob.lt gb rfl).2
  replace hof := ownsRow_below hof hA
  replace KC := KC.below hA KC.lt
  replace hob := ownsRow_below hob hA
  replace ho5 := ownsRow_below ho5 hA
  replace K4 := K4.below hA K4.lt
  replace hoA := ownsRow_below hoA hA
  replace hoS := ownsRow_below hoS hA
  replace hB := hB.trans (hA.mono hB.size)
  clear hA
  obtain ⟨g6, hg6⟩ : ∃ g, w7.heap.size = g := ⟨_, rfl⟩
  have HG6 := Lib.hid hg6
  rw [hg6] at K6 hz7
  clear hg6
  have hok1 : okB (tb wB 22 5 1) = true := by
    have e : tb wB 22 5 1 = tileB wF 22 5 1 := tb_chart wF_length (by decide) (by decide) 1 (by decide)
    rw [e]; exact okB_putB _
  have C5 := tile9_any wB 22 5 30 93 wB_opens wB_length.symm (by omega) wB_lt 1 30 (by decide) 30 q4 q5 (fun zs c => c = 0 ∧ zs = tileAt wF 22 5 1)
    (fun _ a' cap' k wx hk hs => by
      have e : tb wB 22 5 1 = tileB wF 22 5 1 := tb_chart wF_length (by decide) (by decide) 1 (by decide)
      rw [e] at hk hs
      exact tget_tile wF 22 5 1 HF.out wF_length H16.out (by decide) a' cap' k wx hk hs)
    (some ⟨gb, 0, none⟩) cb aA cA aS cS w8 (Sl.of_own hob) (Sl.of_own hoA) (Sl.of_own hoS)
  rw [show nT 22 5 = 2 by decide] at C5
  replace C5 := Lib.hid C5
  have HOK1 := Lib.hid hok1
  clear hok1
  have HW8 := Lib.hid hw8
  clear hw8
  go_upto_region 7 with fail
  rw [HW8.out, HG6.out]
  clear HW8
  have d0 := K6.cell (i := 0) rfl
  have d1 := K6.cell (i := 1) rfl
  have d2 := K6.cell (i := 2) rfl
  have d3 := K6.cell (i := 3) rfl
  have d4 := K6.cell (i := 4) rfl
  have d5 := K6.cell (i := 5) rfl
  have d6 := K6.cell (i := 6) rfl
  have d7 := K6.cell (i := 7) rfl
  go_wp2_with fail
  refine C5.out.mono ?_
  rintro e w9 ⟨zs, c, v9, rfl, hR, ⟨a9, n9, c9, rfl⟩, hz, hA⟩
  obtain rfl : c = 0 := by
    rcases hR with ⟨h, _⟩ | ⟨_, h, _⟩
    · rw [HOK1.out] at h; cases h
    · exact h
  obtain ⟨_, ho9⟩ := hz rfl
  obtain ⟨a', c', he, _, _⟩ := ownsRow_slice ho9
  cases he
  clear C5 hR hz ho9 HOK1 d0 d1 d2 d3 d4 d5 d6 d7
  replace hof := ownsRow_below hof hA
  replace KC := KC.below hA KC.lt
  replace hob := ownsRow_below hob hA
  replace ho5 := ownsRow_below ho5 hA
  replace K4 := K4.below hA K4.lt
  replace hoA := ownsRow_below hoA hA
  replace hoS := ownsRow_below hoS hA
  replace K6 := K6.below hA K6.lt
  replace hB := hB.trans (hA.mono hB.size)
  clear hA
  have CN := count9_any 22 5 HF.out
  rw [show nT 22 5 = 2 by decide] at CN
  have C6 := Lib.hid (tile9_none 22 5 2 2 93 30 q4 q5 (some ⟨gb, 0, none⟩) cb aA aS cA cS w9 (by omega) (by omega) ⟨hcA1, hcA2⟩ ⟨hcS1, hcS2⟩ (Lib.hid CN))
  clear CN
  have d0 := K6.cell (i := 0) rfl
  have d1 := K6.cell (i := 1) rfl
  have d2 := K6.cell (i := 2) rfl
  have d3 := K6.cell (i := 3) rfl
  have d4 := K6.cell (i := 4) rfl
  have d5 := K6.cell (i := 5) rfl
  have d6 := K6.cell (i := 6) rfl
  have d7 := K6.cell (i := 7) rfl
  go_wp2_with fail
  refine C6.out.mono ?_
  rintro e w10 ⟨rfl, hA⟩
  clear C6 d0 d1 d2 d3 d4 d5 d6 d7
  replace hof := ownsRow_below hof hA
  replace KC := KC.below hA KC.lt
  replace hob := ownsRow_below hob hA
  replace ho5 := ownsRow_below ho5 hA
  replace K4 := K4.below hA K4.lt
  replace hoA := ownsRow_below hoA hA
  replace hoS := ownsRow_below hoS hA
  replace K6 := K6.below hA K6.lt
  replace hB := hB.trans (hA.mono hB.size)
  clear hA
  obtain ⟨x, hx⟩ : ∃ x, x = wB.getD 92 0 := ⟨_, rfl⟩
  have hx8 : x < 256 := by rw [hx]; exact wB_lt _ (by rw [List.getD, List.getElem?_eq_getElem (by rw [wB_length]; omega)]; exact List.getElem_mem _)
  have hxc : (u8s wB)[92]? = some (.int .u8 (x : Int)) := by
    have hlt : 92 < wB.length := by rw [wB_length]; omega
    rw [u8s_at wB 92 hlt, hx, List.getD, List.getElem?_eq_getElem hlt]; rfl
  have hcx := ownsRow_cell hob hxc
  have hfx := ownsRow_free hob 92
  have hxb : bits BinOp.xor IntKind.u8 (x : Int) 1 = ((x ^^^ 1 : Nat) : Int) := u8_xor_nat x 1 hx8 (by decide)
  have hset := ownsRow_set hob 92 (by omega) (.int .u8 (x ^^^ 1 : Nat))
  rw [show (u8s wB).set 92 (.int .u8 (x ^^^ 1 : Nat)) = u8s wB1 by rw [hx]; simp [u8s, wB1, List.map_set]] at hset
  have hT : Turned (fun k => k = gb) w10 (w10.setCell ⟨gb, 92, none⟩ (.int .u8 (x ^^^ 1 : Nat))) := (Turned.refl (fun k => k = gb) w10).setCell (.inl rfl) _
  obtain ⟨w11, hw11⟩ : ∃ w11, w10.setCell ⟨gb, 92, none⟩ (.int .u8 (x ^^^ 1 : Nat)) = w11 := ⟨_, rfl⟩
  rw [hw11] at hset hT
  have hne5 : ∀ k, (Value.slice a5 110 cz5).ownBlock = some k → k ≠ gb := HN5'.out
  have hneA : ∀ k, (Value.slice aA 2 cA).ownBlock = some k → k ≠ gb := HNA'.out
  have hneS : ∀ k, (Value.slice aS 2 cS).ownBlock = some k → k ≠ gb := HNS'.out
  have hwgb : w.heap.size ≤ gb := HWG.out
  replace KC := KC.turned hT (by omega)
  replace K4 := K4.turned hT (by omega)
  replace K6 := K6.turned hT (by omega)
  replace hof := hT.own hof (fun k hk e => by have := HOF3.out k hk; omega)
  replace ho5 := hT.own ho5 (fun k hk e => hne5 k hk e)
  replace hoA := hT.own hoA (fun k hk e => hneA k hk e)
  replace hoS := hT.own hoS (fun k hk e => hneS k hk e)
  replace hB := hT.old hB hB.size (by rintro k hk rfl; omega)
  replace hob := hset
  clear hset hT hxc hx
  have hgood : ∀ i, i < 1 → tb wB1 22 5 i = tileB wF 22 5 i := fun i hi => by
    obtain rfl : i = 0 := by omega
    exact wB1_tile0
  have C7 := Lib.hid (get9_sum wF wB1 22 5 30 93 1 wB1_opens wB1_length.symm (by omega) wB1_lt (by decide) wF_length H16.out wB1_tile1 hgood (some ⟨gb, 0, none⟩) cb w11 (Sl.of_own hob))
  go_wp2_with fail
  clear hw11
  refine C7.out.mono ?_
  rintro e w12 ⟨rfl, hA⟩
  clear C7 hcx hfx hxb hx8
  replace hof := ownsRow_below hof hA
  replace KC := KC.below hA KC.lt
  replace hob := ownsRow_below hob hA
  replace ho5 := ownsRow_below ho5 hA
  replace K4 := K4.below hA K4.lt
  replace hoA := ownsRow_below hoA hA
  replace hoS := ownsRow_below hoS hA
  replace K6 := K6.below hA K6.lt
  replace hB := hB.trans (hA.mono hB.size)
  clear hA
  obtain ⟨w13, hw13⟩ : ∃ v, w12.alloc (.cells #[.int .i64 0, .int .i64 0, .slice none 0 0, .int .i64 0, .int .i32 0, .int .i32 0] 28) = v := ⟨_, rfl⟩
  have hA : Below w12.heap.size w12 w13 := by rw [← hw13]; exact (Below.refl _ _).alloc (Nat.le_refl _) _
  replace hof := ownsRow_below hof hA
  replace KC := KC.below hA KC.lt
  replace hob := ownsRow_below hob hA
  replace ho5 := ownsRow_below ho5 hA
  replace K4 := K4.below hA K4.lt
  replace hoA := ownsRow_below hoA hA
  replace hoS := ownsRow_below hoS hA
  replace K6 := K6.below hA K6.lt
  replace hB := hB.trans (hA.mono hB.size)
  clear hA
  have HW := Lib.hid hw13
  clear hw13
  go_upto_region 11 with fail
  rw [HW.out]
  clear HW
  have hcx : w13.cell? ⟨gb, 5, none⟩ = some (.int .u8 ((wB1.getD 5 0 : Nat) : Int)) := ownsRow_cell hob (by
    have hlt : 5 < wB1.length := by rw [wB1_length]; omega
    rw [u8s_at wB1 5 hlt, List.getD, List.getElem?_eq_getElem hlt]; rfl)
  have hfx := ownsRow_free hob 5
  have hset := ownsRow_set hob 5 (by omega) (.int .u8 9)
  rw [show (u8s wB1).set 5 (.int .u8 9) = u8s wB2 by simp [u8s, wB2, List.map_set]] at hset
  have hT : Turned (fun k => k = gb) w13 (w13.setCell ⟨gb, 5, none⟩ (.int .u8 9)) := (Turned.refl (fun k => k = gb) w13).setCell (.inl rfl) _
  obtain ⟨w14, hw14⟩ : ∃ w14, w13.setCell ⟨gb, 5, none⟩ (.int .u8 9) = w14 := ⟨_, rfl⟩
  rw [hw14] at hset hT
  replace KC := KC.turned hT (by omega)
  replace K4 := K4.turned hT (by omega)
  replace K6 := K6.turned hT (by omega)
  replace hof := hT.own hof (fun k hk e => by have := HOF3.out k hk; omega)
  replace ho5 := hT.own ho5 (fun k hk e => hne5 k hk e)
  replace hoA := hT.own hoA (fun k hk e => hneA k hk e)
  replace hoS := hT.own hoS (fun k hk e => hneS k hk e)
  replace hB := hT.old hB hB.size (by rintro k hk rfl; omega)
  replace hob := hset
  clear hset hT
  have C8 := Lib.hid (get9_range wB2 93 wB2_length.symm (by omega) wB2_lt (by rw [wB2_length]; omega) wB2_head.1 wB2_head.2 (some ⟨gb, 0, none⟩) cb w14 (Sl.of_own hob))
  go_wp2_with fail
  clear hw14
  refine C8.out.mono ?_
  rintro e w15 ⟨rfl, hA⟩
  clear C8 hcx hfx
  clear hob
  replace hof := ownsRow_below hof hA
  replace KC := KC.below hA KC.lt
  replace ho5 := ownsRow_below ho5 hA
  replace K4 := K4.below hA K4.lt
  replace hoA := ownsRow_below hoA hA
  replace hoS := ownsRow_below hoS hA
  replace K6 := K6.below hA K6.lt
  replace hB := hB.trans (hA.mono hB.size)
  clear hA
  obtain ⟨w16, hw16⟩ : ∃ v, w15.alloc (.cells #[.int .i64 0, .int .i64 0, .slice none 0 0, .int .i64 0, .int .i32 0, .int .i32 0] 28) = v := ⟨_, rfl⟩
  have hA : Below w15.heap.size w15 w16 := by rw [← hw16]; exact (Below.refl _ _).alloc (Nat.le_refl _) _
  replace hof := ownsRow_below hof hA
  replace KC := KC.below hA KC.lt
  replace ho5 := ownsRow_below ho5 hA
  replace K4 := K4.below hA K4.lt
  replace hoA := ownsRow_below hoA hA
  replace hoS := ownsRow_below hoS hA
  replace K6 := K6.below hA K6.lt
  replace hB := hB.trans (hA.mono hB.size)
  clear hA
  have HW := Lib.hid hw16
  clear hw16
  go_upto_region 13 with fail
  rw [HW.out]
  clear HW
  have C9 := Lib.hid (put9_bad 22 5 110 0 0 0 av cw HF.out rfl (by decide) w16)
  have c0 := KC.cell (i := 0) rfl
  have c1 := KC.cell (i := 1) rfl
  have c2 := KC.cell (i := 2) rfl
  go_wp2_with fail
  refine C9.out.mono ?_
  rintro e w17 ⟨rfl, hA⟩
  clear C9 c0 c1 c2
  replace hof := ownsRow_below hof hA
  replace KC := KC.below hA KC.lt
  replace ho5 := ownsRow_below ho5 hA
  replace K4 := K4.below hA K4.lt
  replace hoA := ownsRow_below hoA hA
  replace hoS := ownsRow_below hoS hA
  replace K6 := K6.below hA K6.lt
  replace hB := hB.trans (hA.mono hB.size)
  clear hA
  obtain ⟨bA, oA, rfl, hbA, hc0⟩ := cell_ints (Sl.of_own hoA) 0 (by simp)
  rw [show ((List.range 2).map (offs wB 22 5))[0]'(by simp) = 34 by simp [offs]; rfl, Nat.add_zero] at hc0
  have C10 := Lib.hid (same9_any 22 5 110 30 (-7) 8 av a5 cw cz5 wF (by rw [wF_length]) (by omega) w17.drew (Sl.of_own (w := w17.drew) hof) (Sl.of_own (w := w17.drew) ho5))
  have CH := head_any 22 5 HF.out
  rw [show headLen 22 5 = 34 by decide] at CH
  replace CH := Lib.hid CH
  have C11 : ∀ wx, Calls Try.prog 21 #[.int .i64 22, .int .i64 5] wx fun e w' => ∃ a c, e = .returned (.slice a 2 c) ∧ Below wx.heap.size wx w' := fun wx => (places_any 22 5 HF.out wx).mono (by
    rintro e w' ⟨v, rfl, ho, hb⟩
    rw [show nT 22 5 = 2 by decide] at ho
    obtain ⟨a, c, rfl, _, _⟩ := ownsRow_slice ho
    exact ⟨a, c, rfl, hb⟩)
  replace C11 := Lib.hid C11
  have C12 := Lib.hid (check9_ok 22 5 110 30 (-7) 8 av cw HF.out rfl (by decide))
  have c0 := KC.cell (i := 0) rfl
  have c1 := KC.cell (i := 1) rfl
  have c2 := KC.cell (i := 2) rfl
  have c3 := KC.cell (i := 3) rfl
  have c4 := KC.cell (i := 4) rfl
  have c5 := KC.cell (i := 5) rfl
  have k0 := K4.cell (i := 0) rfl
  have k1 := K4.cell (i := 1) rfl
  have k2 := K4.cell (i := 2) rfl
  have k3 := K4.cell (i := 3) rfl
  have k4 := K4.cell (i := 4) rfl
  have k5 := K4.cell (i := 5) rfl
  have d6 := K6.cell (i := 6) rfl
  go_wp2_with fail
  simp only [List.append_eq, List.cons_append, List.nil_append]
  refine wp_region_held_drew (S := (fun w' : World => w'.cell? ⟨gC, 0, none⟩ = some (.int .i64 22) ∧ w'.cell? ⟨gC, 1, none⟩ = some (.int .i64 5) ∧ w'.cell? ⟨gC, 2, none⟩ = some (.slice av 110 cw) ∧ w'.cell? ⟨gC, 3, none⟩ = some (.int .i64 30) ∧ w'.cell? ⟨gC, 4, none⟩ = some (.int .i32 (-7)) ∧ w'.cell? ⟨gC, 5, none⟩ = some (.int .i32 8) ∧ w'.cell? ⟨g4, 0, none⟩ = some (.int .i64 22) ∧ w'.cell? ⟨g4, 1, none⟩ = some (.int .i64 5) ∧ w'.cell? ⟨g4, 2, none⟩ = some (.slice a5 110 cz5) ∧ w'.cell? ⟨g4, 3, none⟩ = some (.int .i64 30) ∧ w'.cell? ⟨g4, 4, none⟩ = some (.int .i32 (-7)) ∧ w'.cell? ⟨g4, 5, none⟩ = some (.int .i32 8) ∧ w'.cell? ⟨g6, 6, none⟩ = some (.slice (some ⟨bA, oA, none⟩) 2 cA) ∧ w'.cell? ⟨bA, oA, none⟩ = some (.int .i64 34))) (by kernel_rfl) (⟨c0, c1, c2, c3, c4, c5, k0, k1, k2, k3, k4, k5, d6, hc0⟩) (fun hHeld => ?_)
  refine wpAnyH_take (i := 0) (v := ?v1) rfl (by kernel_rfl) (by kernel_rfl) (by kernel_rfl) (fun _ _ _ h => h) (Or.inl ⟨by rfl, ?hy1⟩) hHeld ?rest1
  case hy1 => (intro w' hSw; (try dsimp only at hSw); go_simp; (try with_reducible rfl))
  try simp only [Act.put, List.setIfInBounds_toArray, List.set_cons_zero, List.set_cons_succ, List.getElem_toArray, List.getElem_cons_zero, List.getElem_cons_succ]
  refine wpAnyH_take (i := 1) (v := ?v2) rfl (by kernel_rfl) (by kernel_rfl) (by kernel_rfl) (fun _ _ _ h => h) (Or.inl ⟨by rfl, ?hy2⟩) hHeld ?rest2
  case hy2 => (intro w' hSw; (try dsimp only at hSw); go_simp; (try with_reducible rfl))
  try simp only [Act.put, List.setIfInBounds_toArray, List.set_cons_zero, List.set_cons_succ, List.getElem_toArray, List.getElem_cons_zero, List.getElem_cons_succ]
  refine wpAnyH_take (i := 2) (v := ?v3) rfl (by kernel_rfl) (by kernel_rfl) (by kernel_rfl) (fun _ _ _ h => h) (Or.inl ⟨by rfl, ?hy3⟩) hHeld ?rest3
  case hy3 => (intro w' hSw; (try dsimp only at hSw); go_simp; (try with_reducible rfl))
  try simp only [Act.put, List.setIfInBounds_toArray, List.set_cons_zero, List.set_cons_succ, List.getElem_toArray, List.getElem_cons_zero, List.getElem_cons_succ]
  refine wpAnyH_take (i := 3) (v := ?v4) rfl (by kernel_rfl) (by kernel_rfl) (by kernel_rfl) (fun _ _ _ h => h) (Or.inl ⟨by rfl, ?hy4⟩) hHeld ?rest4
  case hy4 => (intro w' hSw; (try dsimp only at hSw); go_simp; (try with_reducible rfl))
  try simp only [Act.put, List.setIfInBounds_toArray, List.set_cons_zero, List.set_cons_succ, List.getElem_toArray, List.getElem_cons_zero, List.getElem_cons_succ]
  refine wpAnyH_take (i := 4) (v := ?v5) rfl (by kernel_rfl) (by kernel_rfl) (by kernel_rfl) (fun _ _ _ h => h) (Or.inl ⟨by rfl, ?hy5⟩) hHeld ?rest5
  case hy5 => (intro w' hSw; (try dsimp only at hSw); go_simp; (try with_reducible rfl))
  try simp only [Act.put, List.setIfInBounds_toArray, List.set_cons_zero, List.set_cons_succ, List.getElem_toArray, List.getElem_cons_zero, List.getElem_cons_succ]
  refine wpAnyH_take (i := 5) (v := ?v6) rfl (by kernel_rfl) (by kernel_rfl) (by kernel_rfl) (fun _ _ _ h => h) (Or.inl ⟨by rfl, ?hy6⟩) hHeld ?rest6
  case hy6 => (intro w' hSw; (try dsimp only at hSw); go_simp; (try with_reducible rfl))
  try simp only [Act.put, List.setIfInBounds_toArray, List.set_cons_zero, List.set_cons_succ, List.getElem_toArray, List.getElem_cons_zero, List.getElem_cons_succ]
  refine wpAnyH_take (i := 6) (v := ?v7) rfl (by kernel_rfl) (by kernel_rfl) (by kernel_rfl) (fun _ _ _ h => h) (Or.inl ⟨by rfl, ?hy7⟩) hHeld ?rest7
  case hy7 => (intro w' hSw; (try dsimp only at hSw); go_simp; (try with_reducible rfl))
  try simp only [Act.put, List.setIfInBounds_toArray, List.set_cons_zero, List.set_cons_succ, List.getElem_toArray, List.getElem_cons_zero, List.getElem_cons_succ]
  refine wpAnyH_take (i := 7) (v := ?v8) rfl (by kernel_rfl) (by kernel_rfl) (by kernel_rfl) (fun _ _ _ h => h) (Or.inl ⟨by rfl, ?hy8⟩) hHeld ?rest8
  case hy8 => (intro w' hSw; (try dsimp only at hSw); go_simp; (try with_reducible rfl))
  try simp only [Act.put, List.setIfInBounds_toArray, List.set_cons_zero, List.set_cons_succ, List.getElem_toArray, List.getElem_cons_zero, List.getElem_cons_succ]
  refine wpAnyH_take (i := 8) (v := ?v9) rfl (by kernel_rfl) (by kernel_rfl) (by kernel_rfl) (fun _ _ _ h => h) (Or.inl ⟨by rfl, ?hy9⟩) hHeld ?rest9
  case hy9 => (intro w' hSw; (try dsimp only at hSw); go_simp; (try with_reducible rfl))
  try simp only [Act.put, List.setIfInBounds_toArray, List.set_cons_zero, List.set_cons_succ, List.getElem_toArray, List.getElem_cons_zero, List.getElem_cons_succ]
  refine wpAnyH_ready (rs := [9]) (by kernel_rfl) (by simp) ?_
  refine AllReadyH.cons rfl (fun K hK => ?_) AllReadyH.nil
  go_simp
  refine C10.out.mono ?_
  rintro e w18 ⟨rfl, hA⟩
  replace KC := KC.drew.below hA KC.lt
  replace K4 := K4.drew.below hA K4.lt
  replace K6 := K6.drew.below hA K6.lt
  replace hc0 := (hA.cell (p := ⟨bA, oA, none⟩) hbA).trans hc0
  replace hbA := Nat.lt_of_lt_of_le hbA hA.size
  replace hB := hB.drew.trans (hA.mono hB.size)
  clear hA
  try go_wp2_with fail
  refine hK.out _ _ (⟨KC.cell (i := 0) rfl, KC.cell (i := 1) rfl, KC.cell (i := 2) rfl, KC.cell (i := 3) rfl, KC.cell (i := 4) rfl, KC.cell (i := 5) rfl, K4.cell (i := 0) rfl, K4.cell (i := 1) rfl, K4.cell (i := 2) rfl, K4.cell (i := 3) rfl, K4.cell (i := 4) rfl, K4.cell (i := 5) rfl, K6.cell (i := 6) rfl, hc0⟩) (fun hHeld => ?_)
  clear hK K
  try simp only [Act.put, List.setIfInBounds_toArray, List.set_cons_zero, List.set_cons_succ, List.getElem_toArray, List.getElem_cons_zero, List.getElem_cons_succ]
  refine wpAnyH_take (i := 10) (v := ?v11) rfl (by kernel_rfl) (by kernel_rfl) (by kernel_rfl) (fun _ _ _ h => h) (Or.inl ⟨by rfl, ?hy11⟩) hHeld ?rest11
  case hy11 => (intro w' hSw; (try dsimp only at hSw); go_simp; (try with_reducible rfl))
  try simp only [Act.put, List.setIfInBounds_toArray, List.set_cons_zero, List.set_cons_succ, List.getElem_toArray, List.getElem_cons_zero, List.getElem_cons_succ]
  refine wpAnyH_take (i := 11) (v := ?v12) rfl (by kernel_rfl) (by kernel_rfl) (by kernel_rfl) (fun _ _ _ h => h) (Or.inl ⟨by rfl, ?hy12⟩) hHeld ?rest12
  case hy12 => (intro w' hSw; (try dsimp only at hSw); go_simp; (try with_reducible rfl))
  try simp only [Act.put, List.setIfInBounds_toArray, List.set_cons_zero, List.set_cons_succ, List.getElem_toArray, List.getElem_cons_zero, List.getElem_cons_succ]
  refine wpAnyH_take (i := 12) (v := ?v13) rfl (by kernel_rfl) (by kernel_rfl) (by kernel_rfl) (fun _ _ _ h => h) (Or.inl ⟨by rfl, ?hy13⟩) hHeld ?rest13
  case hy13 => (intro w' hSw; (try dsimp only at hSw); go_simp; (try with_reducible rfl))
  try simp only [Act.put, List.setIfInBounds_toArray, List.set_cons_zero, List.set_cons_succ, List.getElem_toArray, List.getElem_cons_zero, List.getElem_cons_succ]
  refine wpAnyH_take (i := 13) (v := ?v14) rfl (by kernel_rfl) (by kernel_rfl) (by kernel_rfl) (fun _ _ _ h => h) (Or.inl ⟨by rfl, ?hy14⟩) hHeld ?rest14
  case hy14 => (intro w' hSw; (try dsimp only at hSw); go_simp; (try with_reducible rfl))
  try simp only [Act.put, List.setIfInBounds_toArray, List.set_cons_zero, List.set_cons_succ, List.getElem_toArray, List.getElem_cons_zero, List.getElem_cons_succ]
  refine wpAnyH_take (i := 14) (v := ?v15) rfl (by kernel_rfl) (by kernel_rfl) (by kernel_rfl) (fun _ _ _ h => h) (Or.inl ⟨by rfl, ?hy15⟩) hHeld ?rest15
  case hy15 => (intro w' hSw; (try dsimp only at hSw); go_simp; (try with_reducible rfl))
  try simp only [Act.put, List.setIfInBounds_toArray, List.set_cons_zero, List.set_cons_succ, List.getElem_toArray, List.getElem_cons_zero, List.getElem_cons_succ]
  refine wpAnyH_take (i := 15) (v := ?v16) rfl (by kernel_rfl) (by kernel_rfl) (by kernel_rfl) (fun _ _ _ h => h) (Or.inl ⟨by rfl, ?hy16⟩) hHeld ?rest16
  case hy16 => (intro w' hSw; (try dsimp only at hSw); go_simp; (try with_reducible rfl))
  try simp only [Act.put, List.setIfInBounds_toArray, List.set_cons_zero, List.set_cons_succ, List.getElem_toArray, List.getElem_cons_zero, List.getElem_cons_succ]
  refine wpAnyH_take (i := 16) (v := ?v17) rfl (by kernel_rfl) (by kernel_rfl) (by kernel_rfl) (fun _ _ _ h => h) (Or.inl ⟨by rfl, ?hy17⟩) hHeld ?rest17
  case hy17 => (intro w' hSw; (try dsimp only at hSw); go_simp; (try with_reducible rfl))
  try simp only [Act.put, List.setIfInBounds_toArray, List.set_cons_zero, List.set_cons_succ, List.getElem_toArray, List.getElem_cons_zero, List.getElem_cons_succ]
  refine wpAnyH_take (i := 17) (v := ?v18) rfl (by kernel_rfl) (by kernel_rfl) (by kernel_rfl) (fun _ _ _ h => h) (Or.inl ⟨by rfl, ?hy18⟩) hHeld ?rest18
  case hy18 => (intro w' hSw; (try dsimp only at hSw); go_simp; (try with_reducible rfl))
  try simp only [Act.put, List.setIfInBounds_toArray, List.set_cons_zero, List.set_cons_succ, List.getElem_toArray, List.getElem_cons_zero, List.getElem_cons_succ]
  refine wpAnyH_take (i := 18) (v := ?v19) rfl (by kernel_rfl) (by kernel_rfl) (by kernel_rfl) (fun _ _ _ h => h) (Or.inl ⟨by rfl, ?hy19⟩) hHeld ?rest19
  case hy19 => (intro w' hSw; (try dsimp only at hSw); go_simp; (try with_reducible rfl))
  try simp only [Act.put, List.setIfInBounds_toArray, List.set_cons_zero, List.set_cons_succ, List.getElem_toArray, List.getElem_cons_zero, List.getElem_cons_succ]
  refine wpAnyH_take (i := 19) (v := ?v20) rfl (by kernel_rfl) (by kernel_rfl) (by kernel_rfl) (fun _ _ _ h => h) (Or.inl ⟨by rfl, ?hy20⟩) hHeld ?rest20
  case hy20 => (intro w' hSw; (try dsimp only at hSw); go_simp; (try with_reducible rfl))
  try simp only [Act.put, List.setIfInBounds_toArray, List.set_cons_zero, List.set_cons_succ, List.getElem_toArray, List.getElem_cons_zero, List.getElem_cons_succ]
  refine wpAnyH_take (i := 20) (v := ?v21) rfl (by kernel_rfl) (by kernel_rfl) (by kernel_rfl) (fun _ _ _ h => h) (Or.inl ⟨by rfl, ?hy21⟩) hHeld ?rest21
  case hy21 => (intro w' hSw; (try dsimp only at hSw); go_simp; (try with_reducible rfl))
  try simp only [Act.put, List.setIfInBounds_toArray, List.set_cons_zero, List.set_cons_succ, List.getElem_toArray, List.getElem_cons_zero, List.getElem_cons_succ]
  refine wpAnyH_take (i := 21) (v := ?v22) rfl (by kernel_rfl) (by kernel_rfl) (by kernel_rfl) (fun _ _ _ h => h) (Or.inl ⟨by rfl, ?hy22⟩) hHeld ?rest22
  case hy22 => (intro w' hSw; (try dsimp only at hSw); go_simp; (try with_reducible rfl))
  try simp only [Act.put, List.setIfInBounds_toArray, List.set_cons_zero, List.set_cons_succ, List.getElem_toArray, List.getElem_cons_zero, List.getElem_cons_succ]
  refine wpAnyH_take (i := 22) (v := ?v23) rfl (by kernel_rfl) (by kernel_rfl) (by kernel_rfl) (fun _ _ _ h => h) (Or.inl ⟨by rfl, ?hy23⟩) hHeld ?rest23
  case hy23 => (intro w' hSw; (try dsimp only at hSw); go_simp; (try with_reducible rfl))
  try simp only [Act.put, List.setIfInBounds_toArray, List.set_cons_zero, List.set_cons_succ, List.getElem_toArray, List.getElem_cons_zero, List.getElem_cons_succ]
  refine wpAnyH_take (i := 23) (v := ?v24) rfl (by kernel_rfl) (by kernel_rfl) (by kernel_rfl) (fun _ _ _ h => h) (Or.inl ⟨by rfl, ?hy24⟩) hHeld ?rest24
  case hy24 => (intro w' hSw; (try dsimp only at hSw); go_simp; (try with_reducible rfl))
  try simp only [Act.put, List.setIfInBounds_toArray, List.set_cons_zero, List.set_cons_succ, List.getElem_toArray, List.getElem_cons_zero, List.getElem_cons_succ]
  refine wpAnyH_take (i := 24) (v := ?v25) rfl (by kernel_rfl) (by kernel_rfl) (by kernel_rfl) (fun _ _ _ h => h) (Or.inl ⟨by rfl, ?hy25⟩) hHeld ?rest25
  case hy25 => (intro w' hSw; (try dsimp only at hSw); go_simp; (try with_reducible rfl))
  try simp only [Act.put, List.setIfInBounds_toArray, List.set_cons_zero, List.set_cons_succ, List.getElem_toArray, List.getElem_cons_zero, List.getElem_cons_succ]
  refine wpAnyH_take (i := 25) (v := ?v26) rfl (by kernel_rfl) (by kernel_rfl) (by kernel_rfl) (fun _ _ _ h => h) (Or.inl ⟨by rfl, ?hy26⟩) hHeld ?rest26
  case hy26 => (intro w' hSw; (try dsimp only at hSw); go_simp; (try with_reducible rfl))
  try simp only [Act.put, List.setIfInBounds_toArray, List.set_cons_zero, List.set_cons_succ, List.getElem_toArray, List.getElem_cons_zero, List.getElem_cons_succ]
  refine wpAnyH_ready (rs := [26]) (by kernel_rfl) (by simp) ?_
  refine AllReadyH.cons rfl (fun K hK => ?_) AllReadyH.nil
  go_simp
  refine (CH.out _).mono ?_
  rintro e w19 ⟨rfl, hA⟩
  replace KC := KC.below hA KC.lt
  replace K4 := K4.below hA K4.lt
  replace K6 := K6.below hA K6.lt
  replace hc0 := (hA.cell (p := ⟨bA, oA, none⟩) hbA).trans hc0
  replace hbA := Nat.lt_of_lt_of_le hbA hA.size
  replace hB := hB.trans (hA.mono hB.size)
  clear hA
  try go_wp2_with fail
  refine hK.out _ _ (⟨KC.cell (i := 0) rfl, KC.cell (i := 1) rfl, KC.cell (i := 2) rfl, KC.cell (i := 3) rfl, KC.cell (i := 4) rfl, KC.cell (i := 5) rfl, K4.cell (i := 0) rfl, K4.cell (i := 1) rfl, K4.cell (i := 2) rfl, K4.cell (i := 3) rfl, K4.cell (i := 4) rfl, K4.cell (i := 5) rfl, K6.cell (i := 6) rfl, hc0⟩) (fun hHeld => ?_)
  clear hK K
  try simp only [Act.put, List.setIfInBounds_toArray, List.set_cons_zero, List.set_cons_succ, List.getElem_toArray, List.getElem_cons_zero, List.getElem_cons_succ]
  refine wpAnyH_take (i := 27) (v := ?v28) rfl (by kernel_rfl) (by kernel_rfl) (by kernel_rfl) (fun _ _ _ h => h) (Or.inl ⟨by rfl, ?hy28⟩) hHeld ?rest28
  case hy28 => (intro w' hSw; (try dsimp only at hSw); go_simp; (try with_reducible rfl))
  try simp only [Act.put, List.setIfInBounds_toArray, List.set_cons_zero, List.set_cons_succ, List.getElem_toArray, List.getElem_cons_zero, List.getElem_cons_succ]
  refine wpAnyH_take (i := 28) (v := ?v29) rfl (by kernel_rfl) (by kernel_rfl) (by kernel_rfl) (fun _ _ _ h => h) (Or.inl ⟨by rfl, ?hy29⟩) hHeld ?rest29
  case hy29 => (intro w' hSw; (try dsimp only at hSw); go_simp; (try with_reducible rfl))
  try simp only [Act.put, List.setIfInBounds_toArray, List.set_cons_zero, List.set_cons_succ, List.getElem_toArray, List.getElem_cons_zero, List.getElem_cons_succ]
  refine wpAnyH_take (i := 29) (v := ?v30) rfl (by kernel_rfl) (by kernel_rfl) (by kernel_rfl) (fun _ _ _ h => h) (Or.inl ⟨by rfl, ?hy30⟩) hHeld ?rest30
  case hy30 => (intro w' hSw; (try dsimp only at hSw); go_simp; (try with_reducible rfl))
  try simp only [Act.put, List.setIfInBounds_toArray, List.set_cons_zero, List.set_cons_succ, List.getElem_toArray, List.getElem_cons_zero, List.getElem_cons_succ]
  refine wpAnyH_take (i := 30) (v := ?v31) rfl (by kernel_rfl) (by kernel_rfl) (by kernel_rfl) (fun _ _ _ h => h) (Or.inl ⟨by rfl, ?hy31⟩) hHeld ?rest31
  case hy31 => (intro w' hSw; (try dsimp only at hSw); go_simp; (try with_reducible rfl))
  try simp only [Act.put, List.setIfInBounds_toArray, List.set_cons_zero, List.set_cons_succ, List.getElem_toArray, List.getElem_cons_zero, List.getElem_cons_succ]
  refine wpAnyH_take (i := 31) (v := ?v32) rfl (by kernel_rfl) (by kernel_rfl) (by kernel_rfl) (fun _ _ _ h => h) (Or.inl ⟨by rfl, ?hy32⟩) hHeld ?rest32
  case hy32 => (intro w' hSw; (try dsimp only at hSw); go_simp; (try with_reducible rfl))
  try simp only [Act.put, List.setIfInBounds_toArray, List.set_cons_zero, List.set_cons_succ, List.getElem_toArray, List.getElem_cons_zero, List.getElem_cons_succ]
  refine wpAnyH_take (i := 32) (v := ?v33) rfl (by kernel_rfl) (by kernel_rfl) (by kernel_rfl) (fun _ _ _ h => h) (Or.inl ⟨by rfl, ?hy33⟩) hHeld ?rest33
  case hy33 => (intro w' hSw; (try dsimp only at hSw); go_simp; (try with_reducible rfl))
  try simp only [Act.put, List.setIfInBounds_toArray, List.set_cons_zero, List.set_cons_succ, List.getElem_toArray, List.getElem_cons_zero, List.getElem_cons_succ]
  refine wpAnyH_take (i := 33) (v := ?v34) rfl (by kernel_rfl) (by kernel_rfl) (by kernel_rfl) (fun _ _ _ h => h) (Or.inl ⟨by rfl, ?hy34⟩) hHeld ?rest34
  case hy34 => (intro w' hSw; (try dsimp only at hSw); go_simp; (try with_reducible rfl))
  try simp only [Act.put, List.setIfInBounds_toArray, List.set_cons_zero, List.set_cons_succ, List.getElem_toArray, List.getElem_cons_zero, List.getElem_cons_succ]
  refine wpAnyH_take (i := 34) (v := ?v35) rfl (by kernel_rfl) (by kernel_rfl) (by kernel_rfl) (fun _ _ _ h => h) (Or.inl ⟨by rfl, ?hy35⟩) hHeld ?rest35
  case hy35 => (intro w' hSw; (try dsimp only at hSw); go_simp; (try with_reducible rfl))
  try simp only [Act.put, List.setIfInBounds_toArray, List.set_cons_zero, List.set_cons_succ, List.getElem_toArray, List.getElem_cons_zero, List.getElem_cons_succ]
  refine wpAnyH_take (i := 35) (v := ?v36) rfl (by kernel_rfl) (by kernel_rfl) (by kernel_rfl) (fun _ _ _ h => h) (Or.inl ⟨by rfl, ?hy36⟩) hHeld ?rest36
  case hy36 => (intro w' hSw; (try dsimp only at hSw); go_simp; (try with_reducible rfl))
  try simp only [Act.put, List.setIfInBounds_toArray, List.set_cons_zero, List.set_cons_succ, List.getElem_toArray, List.getElem_cons_zero, List.getElem_cons_succ]
  refine wpAnyH_take (i := 36) (v := ?v37) rfl (by kernel_rfl) (by kernel_rfl) (by kernel_rfl) (fun _ _ _ h => h) (Or.inl ⟨by rfl, ?hy37⟩) hHeld ?rest37
  case hy37 => (intro w' hSw; (try dsimp only at hSw); go_simp; (try with_reducible rfl))
  try simp only [Act.put, List.setIfInBounds_toArray, List.set_cons_zero, List.set_cons_succ, List.getElem_toArray, List.getElem_cons_zero, List.getElem_cons_succ]
  refine wpAnyH_take (i := 37) (v := ?v38) rfl (by kernel_rfl) (by kernel_rfl) (by kernel_rfl) (fun _ _ _ h => h) (Or.inl ⟨by rfl, ?hy38⟩) hHeld ?rest38
  case hy38 => (intro w' hSw; (try dsimp only at hSw); go_simp; (try with_reducible rfl))
  try simp only [Act.put, List.setIfInBounds_toArray, List.set_cons_zero, List.set_cons_succ, List.getElem_toArray, List.getElem_cons_zero, List.getElem_cons_succ]
  refine wpAnyH_take (i := 38) (v := ?v39) rfl (by kernel_rfl) (by kernel_rfl) (by kernel_rfl) (fun _ _ _ h => h) (Or.inl ⟨by rfl, ?hy39⟩) hHeld ?rest39
  case hy39 => (intro w' hSw; (try dsimp only at hSw); go_simp; (try with_reducible rfl))
  try simp only [Act.put, List.setIfInBounds_toArray, List.set_cons_zero, List.set_cons_succ, List.getElem_toArray, List.getElem_cons_zero, List.getElem_cons_succ]
  refine wpAnyH_take (i := 39) (v := ?v40) rfl (by kernel_rfl) (by kernel_rfl) (by kernel_rfl) (fun _ _ _ h => h) (Or.inl ⟨by rfl, ?hy40⟩) hHeld ?rest40
  case hy40 => (intro w' hSw; (try dsimp only at hSw); go_simp; (try with_reducible rfl))
  try simp only [Act.put, List.setIfInBounds_toArray, List.set_cons_zero, List.set_cons_succ, List.getElem_toArray, List.getElem_cons_zero, List.getElem_cons_succ]
  refine wpAnyH_take (i := 40) (v := ?v41) rfl (by kernel_rfl) (by kernel_rfl) (by kernel_rfl) (fun _ _ _ h => h) (Or.inl ⟨by rfl, ?hy41⟩) hHeld ?rest41
  case hy41 => (intro w' hSw; (try dsimp only at hSw); go_simp; (try with_reducible rfl))
  try simp only [Act.put, List.setIfInBounds_toArray, List.set_cons_zero, List.set_cons_succ, List.getElem_toArray, List.getElem_cons_zero, List.getElem_cons_succ]
  refine wpAnyH_take (i := 41) (v := ?v42) rfl (by kernel_rfl) (by kernel_rfl) (by kernel_rfl) (fun _ _ _ h => h) (Or.inl ⟨by rfl, ?hy42⟩) hHeld ?rest42
  case hy42 => (intro w' hSw; (try dsimp only at hSw); go_simp; (try with_reducible rfl))
  try simp only [Act.put, List.setIfInBounds_toArray, List.set_cons_zero, List.set_cons_succ, List.getElem_toArray, List.getElem_cons_zero, List.getElem_cons_succ]
  refine wpAnyH_take (i := 42) (v := ?v43) rfl (by kernel_rfl) (by kernel_rfl) (by kernel_rfl) (fun _ _ _ h => h) (Or.inl ⟨by rfl, ?hy43⟩) hHeld ?rest43
  case hy43 => (intro w' hSw; (try dsimp only at hSw); go_simp; (try with_reducible rfl))
  try simp only [Act.put, List.setIfInBounds_toArray, List.set_cons_zero, List.set_cons_succ, List.getElem_toArray, List.getElem_cons_zero, List.getElem_cons_succ]
  refine wpAnyH_take (i := 43) (v := ?v44) rfl (by kernel_rfl) (by kernel_rfl) (by kernel_rfl) (fun _ _ _ h => h) (Or.inl ⟨by rfl, ?hy44⟩) hHeld ?rest44
  case hy44 => (intro w' hSw; (try dsimp only at hSw); go_simp; (try with_reducible rfl))
  try simp only [Act.put, List.setIfInBounds_toArray, List.set_cons_zero, List.set_cons_succ, List.getElem_toArray, List.getElem_cons_zero, List.getElem_cons_succ]
  refine wpAnyH_take (i := 44) (v := ?v45) rfl (by kernel_rfl) (by kernel_rfl) (by kernel_rfl) (fun _ _ _ h => h) (Or.inl ⟨by rfl, ?hy45⟩) hHeld ?rest45
  case hy45 => (intro w' hSw; (try dsimp only at hSw); go_simp; (try with_reducible rfl))
  try simp only [Act.put, List.setIfInBounds_toArray, List.set_cons_zero, List.set_cons_succ, List.getElem_toArray, List.getElem_cons_zero, List.getElem_cons_succ]
  refine wpAnyH_take (i := 45) (v := ?v46) rfl (by kernel_rfl) (by kernel_rfl) (by kernel_rfl) (fun _ _ _ h => h) (Or.inl ⟨by rfl, ?hy46⟩) hHeld ?rest46
  case hy46 => (intro w' hSw; (try dsimp only at hSw); go_simp; (try with_reducible rfl))
  try simp only [Act.put, List.setIfInBounds_toArray, List.set_cons_zero, List.set_cons_succ, List.getElem_toArray, List.getElem_cons_zero, List.getElem_cons_succ]
  refine wpAnyH_take (i := 46) (v := ?v47) rfl (by kernel_rfl) (by kernel_rfl) (by kernel_rfl) (fun _ _ _ h => h) (Or.inl ⟨by rfl, ?hy47⟩) hHeld ?rest47
  case hy47 => (intro w' hSw; (try dsimp only at hSw); go_simp; (try with_reducible rfl))
  try simp only [Act.put, List.setIfInBounds_toArray, List.set_cons_zero, List.set_cons_succ, List.getElem_toArray, List.getElem_cons_zero, List.getElem_cons_succ]
  refine wpAnyH_take (i := 47) (v := ?v48) rfl (by kernel_rfl) (by kernel_rfl) (by kernel_rfl) (fun _ _ _ h => h) (Or.inl ⟨by rfl, ?hy48⟩) hHeld ?rest48
  case hy48 => (intro w' hSw; (try dsimp only at hSw); go_simp; (try with_reducible rfl))
  try simp only [Act.put, List.setIfInBounds_toArray, List.set_cons_zero, List.set_cons_succ, List.getElem_toArray, List.getElem_cons_zero, List.getElem_cons_succ]
  refine wpAnyH_take (i := 48) (v := ?v49) rfl (by kernel_rfl) (by kernel_rfl) (by kernel_rfl) (fun _ _ _ h => h) (Or.inl ⟨by rfl, ?hy49⟩) hHeld ?rest49
  case hy49 => (intro w' hSw; (try dsimp only at hSw); go_simp; (try with_reducible rfl))
  try simp only [Act.put, List.setIfInBounds_toArray, List.set_cons_zero, List.set_cons_succ, List.getElem_toArray, List.getElem_cons_zero, List.getElem_cons_succ]
  refine wpAnyH_take (i := 49) (v := ?v50) rfl (by kernel_rfl) (by kernel_rfl) (by kernel_rfl) (fun _ _ _ h => h) (Or.inl ⟨by rfl, ?hy50⟩) hHeld ?rest50
  case hy50 => (intro w' hSw; (try dsimp only at hSw); go_simp; (try with_reducible rfl))
  try simp only [Act.put, List.setIfInBounds_toArray, List.set_cons_zero, List.set_cons_succ, List.getElem_toArray, List.getElem_cons_zero, List.getElem_cons_succ]
  refine wpAnyH_take (i := 50) (v := ?v51) rfl (by kernel_rfl) (by kernel_rfl) (by kernel_rfl) (fun _ _ _ h => h) (Or.inl ⟨by rfl, ?hy51⟩) hHeld ?rest51
  case hy51 => (intro w' hSw; (try dsimp only at hSw); go_simp; (try with_reducible rfl))
  try simp only [Act.put, List.setIfInBounds_toArray, List.set_cons_zero, List.set_cons_succ, List.getElem_toArray, List.getElem_cons_zero, List.getElem_cons_succ]
  refine wpAnyH_take (i := 51) (v := ?v52) rfl (by kernel_rfl) (by kernel_rfl) (by kernel_rfl) (fun _ _ _ h => h) (Or.inl ⟨by rfl, ?hy52⟩) hHeld ?rest52
  case hy52 => (intro w' hSw; (try dsimp only at hSw); go_simp; (try with_reducible rfl))
  try simp only [Act.put, List.setIfInBounds_toArray, List.set_cons_zero, List.set_cons_succ, List.getElem_toArray, List.getElem_cons_zero, List.getElem_cons_succ]
  refine wpAnyH_take (i := 52) (v := ?v53) rfl (by kernel_rfl) (by kernel_rfl) (by kernel_rfl) (fun _ _ _ h => h) (Or.inl ⟨by rfl, ?hy53⟩) hHeld ?rest53
  case hy53 => (intro w' hSw; (try dsimp only at hSw); go_simp; (try with_reducible rfl))
  try simp only [Act.put, List.setIfInBounds_toArray, List.set_cons_zero, List.set_cons_succ, List.getElem_toArray, List.getElem_cons_zero, List.getElem_cons_succ]
  refine wpAnyH_take (i := 53) (v := ?v54) rfl (by kernel_rfl) (by kernel_rfl) (by kernel_rfl) (fun _ _ _ h => h) (Or.inl ⟨by rfl, ?hy54⟩) hHeld ?rest54
  case hy54 => (intro w' hSw; (try dsimp only at hSw); go_simp; (try with_reducible rfl))
  try simp only [Act.put, List.setIfInBounds_toArray, List.set_cons_zero, List.set_cons_succ, List.getElem_toArray, List.getElem_cons_zero, List.getElem_cons_succ]
  refine wpAnyH_take (i := 54) (v := ?v55) rfl (by kernel_rfl) (by kernel_rfl) (by kernel_rfl) (fun _ _ _ h => h) (Or.inl ⟨by rfl, ?hy55⟩) hHeld ?rest55
  case hy55 => (intro w' hSw; (try dsimp only at hSw); go_simp; (try with_reducible rfl))
  try simp only [Act.put, List.setIfInBounds_toArray, List.set_cons_zero, List.set_cons_succ, List.getElem_toArray, List.getElem_cons_zero, List.getElem_cons_succ]
  refine wpAnyH_ready (rs := [55]) (by kernel_rfl) (by simp) ?_
  refine AllReadyH.cons rfl (fun K hK => ?_) AllReadyH.nil
  go_simp
  refine (C11.out _).mono ?_
  rintro e w20 ⟨a20, c20, rfl, hA⟩
  replace KC := KC.below hA KC.lt
  replace K4 := K4.below hA K4.lt
  replace K6 := K6.below hA K6.lt
  replace hc0 := (hA.cell (p := ⟨bA, oA, none⟩) hbA).trans hc0
  replace hbA := Nat.lt_of_lt_of_le hbA hA.size
  replace hB := hB.trans (hA.mono hB.size)
  clear hA
  try go_wp2_with fail
  refine hK.out _ _ (⟨KC.cell (i := 0) rfl, KC.cell (i := 1) rfl, KC.cell (i := 2) rfl, KC.cell (i := 3) rfl, KC.cell (i := 4) rfl, KC.cell (i := 5) rfl, K4.cell (i := 0) rfl, K4.cell (i := 1) rfl, K4.cell (i := 2) rfl, K4.cell (i := 3) rfl, K4.cell (i := 4) rfl, K4.cell (i := 5) rfl, K6.cell (i := 6) rfl, hc0⟩) (fun hHeld => ?_)
  clear hK K
  try simp only [Act.put, List.setIfInBounds_toArray, List.set_cons_zero, List.set_cons_succ, List.getElem_toArray, List.getElem_cons_zero, List.getElem_cons_succ]
  refine wpAnyH_take (i := 56) (v := ?v57) rfl (by kernel_rfl) (by kernel_rfl) (by kernel_rfl) (fun _ _ _ h => h) (Or.inl ⟨by rfl, ?hy57⟩) hHeld ?rest57
  case hy57 => (intro w' hSw; (try dsimp only at hSw); go_simp; (try with_reducible rfl))
  try simp only [Act.put, List.setIfInBounds_toArray, List.set_cons_zero, List.set_cons_succ, List.getElem_toArray, List.getElem_cons_zero, List.getElem_cons_succ]
  refine wpAnyH_take (i := 57) (v := ?v58) rfl (by kernel_rfl) (by kernel_rfl) (by kernel_rfl) (fun _ _ _ h => h) (Or.inl ⟨by rfl, ?hy58⟩) hHeld ?rest58
  case hy58 => (intro w' hSw; (try dsimp only at hSw); go_simp; (try with_reducible rfl))
  try simp only [Act.put, List.setIfInBounds_toArray, List.set_cons_zero, List.set_cons_succ, List.getElem_toArray, List.getElem_cons_zero, List.getElem_cons_succ]
  refine wpAnyH_take (i := 58) (v := ?v59) rfl (by kernel_rfl) (by kernel_rfl) (by kernel_rfl) (fun _ _ _ h => h) (Or.inl ⟨by rfl, ?hy59⟩) hHeld ?rest59
  case hy59 => (intro w' hSw; (try dsimp only at hSw); go_simp; (try with_reducible rfl))
  try simp only [Act.put, List.setIfInBounds_toArray, List.set_cons_zero, List.set_cons_succ, List.getElem_toArray, List.getElem_cons_zero, List.getElem_cons_succ]
  refine wpAnyH_take (i := 59) (v := ?v60) rfl (by kernel_rfl) (by kernel_rfl) (by kernel_rfl) (fun _ _ _ h => h) (Or.inl ⟨by rfl, ?hy60⟩) hHeld ?rest60
  case hy60 => (intro w' hSw; (try dsimp only at hSw); go_simp; (try with_reducible rfl))
  try simp only [Act.put, List.setIfInBounds_toArray, List.set_cons_zero, List.set_cons_succ, List.getElem_toArray, List.getElem_cons_zero, List.getElem_cons_succ]
  refine wpAnyH_take (i := 60) (v := ?v61) rfl (by kernel_rfl) (by kernel_rfl) (by kernel_rfl) (fun _ _ _ h => h) (Or.inl ⟨by rfl, ?hy61⟩) hHeld ?rest61
  case hy61 => (intro w' hSw; (try dsimp only at hSw); go_simp; (try with_reducible rfl))
  try simp only [Act.put, List.setIfInBounds_toArray, List.set_cons_zero, List.set_cons_succ, List.getElem_toArray, List.getElem_cons_zero, List.getElem_cons_succ]
  refine wpAnyH_ready (rs := [61]) (by kernel_rfl) (by simp) ?_
  refine AllReadyH.cons rfl (fun K hK => ?_) AllReadyH.nil
  go_simp
  refine (C12.out _).mono ?_
  rintro e w21 ⟨rfl, hA⟩
  replace KC := KC.below hA KC.lt
  replace K4 := K4.below hA K4.lt
  replace K6 := K6.below hA K6.lt
  replace hc0 := (hA.cell (p := ⟨bA, oA, none⟩) hbA).trans hc0
  replace hbA := Nat.lt_of_lt_of_le hbA hA.size
  replace hB := hB.trans (hA.mono hB.size)
  clear hA
  try go_wp2_with fail
  refine hK.out _ _ (⟨KC.cell (i := 0) rfl, KC.cell (i := 1) rfl, KC.cell (i := 2) rfl, KC.cell (i := 3) rfl, KC.cell (i := 4) rfl, KC.cell (i := 5) rfl, K4.cell (i := 0) rfl, K4.cell (i := 1) rfl, K4.cell (i := 2) rfl, K4.cell (i := 3) rfl, K4.cell (i := 4) rfl, K4.cell (i := 5) rfl, K6.cell (i := 6) rfl, hc0⟩) (fun hHeld => ?_)
  clear hK K
  try simp only [Act.put, List.setIfInBounds_toArray, List.set_cons_zero, List.set_cons_succ, List.getElem_toArray, List.getElem_cons_zero, List.getElem_cons_succ]
  refine wpAnyH_take (i := 62) (v := ?v63) rfl (by kernel_rfl) (by kernel_rfl) (by kernel_rfl) (fun _ _ _ h => h) (Or.inl ⟨by rfl, ?hy63⟩) hHeld ?rest63
  case hy63 => (intro w' hSw; (try dsimp only at hSw); go_simp; (try with_reducible rfl))
  try simp only [Act.put, List.setIfInBounds_toArray, List.set_cons_zero, List.set_cons_succ, List.getElem_toArray, List.getElem_cons_zero, List.getElem_cons_succ]
  refine wpAnyH_take (i := 63) (v := ?v64) rfl (by kernel_rfl) (by kernel_rfl) (by kernel_rfl) (fun _ _ _ h => h) (Or.inl ⟨by rfl, ?hy64⟩) hHeld ?rest64
  case hy64 => (intro w' hSw; (try dsimp only at hSw); go_simp; (try with_reducible rfl))
  try simp only [Act.put, List.setIfInBounds_toArray, List.set_cons_zero, List.set_cons_succ, List.getElem_toArray, List.getElem_cons_zero, List.getElem_cons_succ]
  refine wpAnyH_take (i := 64) (v := ?v65) rfl (by kernel_rfl) (by kernel_rfl) (by kernel_rfl) (fun _ _ _ h => h) (Or.inl ⟨by rfl, ?hy65⟩) hHeld ?rest65
  case hy65 => (intro w' hSw; (try dsimp only at hSw); go_simp; (try with_reducible rfl))
  try simp only [Act.put, List.setIfInBounds_toArray, List.set_cons_zero, List.set_cons_succ, List.getElem_toArray, List.getElem_cons_zero, List.getElem_cons_succ]
  refine wpAnyH_done (by kernel_rfl) ?_ _
  go_wp2_with fail
  go_ret
  exact ⟨rfl, hB⟩
end Go.Proofs.Ytdknnfineommoaa
