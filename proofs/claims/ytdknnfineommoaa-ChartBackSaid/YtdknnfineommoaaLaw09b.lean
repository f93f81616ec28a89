/-
  ChartBack: the walk.
-/
import Derived.Test.YtdknnfineommoaaLaw09a
set_option linter.unusedVariables false
set_option linter.unusedSimpArgs false
namespace Go.Proofs.Ytdknnfineommoaa
open Go Go.RowKit Go.Th Go.Th.Crc

theorem chartB_short (F : List Int) (W H cell : Nat) (ox oy : Int) (hl : F.length = W * H) (hW : W ≤ 256) (hH : H ≤ 256) : (chartB F W H cell ox oy).length ≤ 400000 := by
  have h1 := nT_le hW hH
  have h2 := bodyTo_length F W H (nT W H) hl (Nat.le_refl _)
  rw [chartB_length]
  unfold headLen
  omega

theorem chartBack_big (p q k : Nat) (ox oy : Int) (a : Option Addr) (n cap : Nat) (w : World) (hbig : 2000 < n) (hn : n ≤ 9223372036854775807) :
    Calls Try.prog 4 #[.int .u8 p, .int .u8 q, .slice a n cap, .int .u16 k, .int .i32 ox, .int .i32 oy] w fun e w' => e = .returned (.bool true) ∧ Below w.heap.size w w' := by
  have hb' : (2000 : Int) < (n : Int) := by omega
  go_enter Try.func4, Try.ntmps4
  go_wp2_with fail
  refine (works9_any w).mono ?_
  rintro e w1 ⟨rfl, hB⟩
  go_wp2_with fail
  go_ret
  exact ⟨rfl, hB⟩

set_option maxRecDepth 20000 in
set_option maxHeartbeats 3200000 in
theorem chartBack_go (p q k : Nat) (ox oy : Int) (a : Option Addr) (n cap : Nat) (z : List Int) (hp : p < 256) (hq : q < 256) (hk : k < 65536) (h1 : In32' ox) (h2 : In32' oy) (hz : z.length = n) (h16 : ∀ u ∈ z, In16 u) (hn : n ≤ 2000) (w : World) (hS : Sl w 1 (.slice a n cap) n (i16s z)) :
    Calls Try.prog 4 #[.int .u8 p, .int .u8 q, .slice a n cap, .int .u16 k, .int .i32 ox, .int .i32 oy] w fun e w' => e = .returned (.bool true) ∧ Below w.heap.size w w' := by
  have hb' : ¬ ((2000 : Int) < (n : Int)) := by omega
  obtain ⟨c, hc⟩ : ∃ c, c = 1 + k % 1000 := ⟨_, rfl⟩
  have hcC : isC c = true := isC_of (by omega)
  have C1 := Lib.hid (made9_any p q n k c ox oy a cap z hp hq hk hc hz hn h16 w hS)
  have H1 := Lib.hid h1
  have H2 := Lib.hid h2
  have HC := Lib.hid hcC
  clear hz h16 hS hp hq hc hk h1 h2 hcC
  go_enter Try.func4, Try.ntmps4
  go_wp2_with fail
  refine C1.out.mono ?_
  rintro e w2 ⟨x, y, v, F, rfl, hF, hx, hy, hl, h16, hof, hA⟩
  obtain ⟨av, cw, rfl, _, _⟩ := ownsRow_slice hof
  have hB := hA
  obtain ⟨w3, hw3⟩ : ∃ w3, w2.alloc (.cells #[.int .i64 x, .int .i64 y, .slice av (x * y) cw, .int .i64 c, .int .i32 ox, .int .i32 oy] 28) = w3 := ⟨_, rfl⟩
  have hA3 : Below w2.heap.size w2 w3 := by rw [← hw3]; exact (Below.refl _ _).alloc (Nat.le_refl _) _
  have KC : Blk w3 w2.heap.size 28 [.int .i64 x, .int .i64 y, .slice av (x * y) cw, .int .i64 c, .int .i32 ox, .int .i32 oy] := by rw [← hw3]; exact Blk.new w2 _ _
  replace hof := ownsRow_below hof hA3
  replace hB := hB.trans (hA3.mono hB.size)
  have C2 := put9_any x y c (x * y) ox oy av cw F hF rfl HC.out hl h16 w3 (Sl.of_own hof)
  have hLs := chartB_short F x y c ox oy hl (by omega) (by omega)
  have C3 := fun gb cb wx (hs : Sl wx 1 (.slice gb (chartB F x y c ox oy).length cb) (chartB F x y c ox oy).length (u8s (chartB F x y c ox oy))) => get9_back F x y c ox oy hF HC.out hl h16 H1.out H2.out _ rfl (by omega) gb cb wx hs
  have hmle : x * y ≤ 40 * 40 := Nat.mul_le_mul hx hy
  obtain ⟨BS, hBS⟩ : ∃ B, B = chartB F x y c ox oy := ⟨_, rfl⟩
  obtain ⟨L, hL⟩ : ∃ L, L = BS.length := ⟨_, rfl⟩
  obtain ⟨m, hm⟩ : ∃ m, m = x * y := ⟨_, rfl⟩
  rw [← hBS, ← hL] at C2 C3
  rw [← hBS, ← hL] at hLs
  rw [← hm] at C2 C3 hof KC hw3 hmle ⊢
  replace C2 := Lib.hid C2
  replace C3 := Lib.hid C3
  have HL := Lib.hid hl
  have HM := Lib.hid hm
  have HW3 := Lib.hid hw3
  clear C1 hA hA3 hF hl h16 hBS hL hm hw3
  go_upto_region 4 with fail
  rw [HW3.out]
  have c0 := KC.cell (i := 0) rfl
  have c1 := KC.cell (i := 1) rfl
  have c2 := KC.cell (i := 2) rfl
  have c3 := KC.cell (i := 3) rfl
  have c4 := KC.cell (i := 4) rfl
  have c5 := KC.cell (i := 5) rfl
  go_wp2_with fail
  refine C2.out.mono ?_
  rintro e w4 ⟨vb, rfl, hob, hA⟩
  obtain ⟨gb, cb, rfl, _, _⟩ := ownsRow_slice hob
  replace KC := KC.below hA KC.lt
  replace hof := ownsRow_below hof hA
  replace hB := hB.trans (hA.mono hB.size)
  have D3 := Lib.hid (C3.out gb cb w4 (Sl.of_own hob))
  clear C2 C3 hA c0 c1 c2 c3 c4 c5 HW3
  go_wp2_with fail
  refine D3.out.mono ?_
  rintro e w5 ⟨v5, rfl, ho5, hA⟩
  obtain ⟨a5, cz, rfl, _, _⟩ := ownsRow_slice ho5
  replace KC := KC.below hA KC.lt
  replace hof := ownsRow_below hof hA
  replace hB := hB.trans (hA.mono hB.size)
  obtain ⟨w6, hw6⟩ : ∃ w6, w5.alloc (.cells #[.int .i64 x, .int .i64 y, .slice a5 m cz, .int .i64 c, .int .i32 ox, .int .i32 oy] 28) = w6 := ⟨_, rfl⟩
  have hA6 : Below w5.heap.size w5 w6 := by rw [← hw6]; exact (Below.refl _ _).alloc (Nat.le_refl _) _
  have K4 : Blk w6 w5.heap.size 28 [.int .i64 x, .int .i64 y, .slice a5 m cz, .int .i64 c, .int .i32 ox, .int .i32 oy] := by rw [← hw6]; exact Blk.new w5 _ _
  replace KC := KC.below hA6 KC.lt
  replace hof := ownsRow_below hof hA6
  replace ho5 := ownsRow_below ho5 hA6
  replace hB := hB.trans (hA6.mono hB.size)
  have D4 := Lib.hid (same9_any x y m c ox oy av a5 cw cz F (by rw [HL.out, HM.out]) (by omega) w6 (Sl.of_own hof) (Sl.of_own ho5))
  have HW6 := Lib.hid hw6
  clear D3 hA hA6 hw6 hob
  go_upto_region 6 with fail
  rw [HW6.out]
  have c0 := KC.cell (i := 0) rfl
  have c1 := KC.cell (i := 1) rfl
  have c2 := KC.cell (i := 2) rfl
  have c3 := KC.cell (i := 3) rfl
  have c4 := KC.cell (i := 4) rfl
  have c5 := KC.cell (i := 5) rfl
  have d0 := K4.cell (i := 0) rfl
  have d1 := K4.cell (i := 1) rfl
  have d2 := K4.cell (i := 2) rfl
  have d3 := K4.cell (i := 3) rfl
  have d4 := K4.cell (i := 4) rfl
  have d5 := K4.cell (i := 5) rfl
  go_wp2_with fail
  refine D4.out.mono ?_
  rintro e w7 ⟨rfl, hA⟩
  replace hB := hB.trans (hA.mono hB.size)
  clear D4 hA c0 c1 c2 c3 c4 c5 d0 d1 d2 d3 d4 d5 HW6 KC K4 hof ho5
  go_wp2_with fail
  refine (works9_any w7).mono ?_
  rintro e w8 ⟨rfl, hA⟩
  go_wp2_with fail
  go_ret
  exact ⟨rfl, hB.trans (hA.mono hB.size)⟩

theorem chartBack_any (p q k : Nat) (ox oy : Int) (a : Option Addr) (n cap : Nat) (z : List Int) (hp : p < 256) (hq : q < 256) (hk : k < 65536) (h1 : In32' ox) (h2 : In32' oy) (hz : z.length = n) (h16 : ∀ u ∈ z, In16 u) (w : World) (hS : Sl w 1 (.slice a n cap) n (i16s z)) :
    Calls Try.prog 4 #[.int .u8 p, .int .u8 q, .slice a n cap, .int .u16 k, .int .i32 ox, .int .i32 oy] w fun e w' => e = .returned (.bool true) ∧ Below w.heap.size w w' := by
  have hmx := hS.max
  by_cases hbig : 2000 < n
  · exact chartBack_big p q k ox oy a n cap w hbig (by omega)
  · exact chartBack_go p q k ox oy a n cap z hp hq hk h1 h2 hz h16 (by omega) w hS
end Go.Proofs.Ytdknnfineommoaa
