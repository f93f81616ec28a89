/-
  Terrain: the metres of a place.
-/
import Derived.Test.YtlkjcamjgaecgaaGreatTerrB
set_option linter.unusedVariables false
set_option linter.unusedSimpArgs false
namespace Go.Proofs.YtlkjcamjgaecgaaGreat
open Go Go.RowKit Go.Th Go.Th.Wide

/-- The metres of a place. -/
def metresV (c ox oy x y : Int) : Value := if (-1099511627776 ≤ x ∧ x ≤ 1099511627776) ∧ -1099511627776 ≤ y ∧ y ≤ 1099511627776 then .tuple #[.int .i64 (nearQ (x * c) 256 + ox), .int .i64 (nearQ (y * c) 256 + oy), .bool true] else .tuple #[.int .i64 0, .int .i64 0, .bool false]

set_option maxRecDepth 20000 in
set_option maxHeartbeats 1600000 in
theorem metresNo_go (W H : Int) (a : Option Addr) (m cap : Nat) (c ox oy x y : Int) (b1 b2 : Bool) (hb : (b1 && b2) = false) (C1 : Ans 39 #[.int .i64 x] (.bool b1)) (C2 : Ans 39 #[.int .i64 y] (.bool b2)) :
    Ans 24 #[cv W H (.slice a m cap) c ox oy, sv x y] (.tuple #[.int .i64 0, .int .i64 0, .bool false]) := by
  intro w
  obtain ⟨w1, hw1⟩ : ∃ w1, (w.alloc (.cells #[.int .i64 W, .int .i64 H, .slice a m cap, .int .i64 c, .int .i32 ox, .int .i32 oy] 28)).alloc (.cells #[.int .i64 x, .int .i64 y] 37) = w1 := ⟨_, rfl⟩
  have hB1 : Below w.heap.size w w1 := by rw [← hw1]; exact ((Below.refl _ _).alloc (Nat.le_refl _) _).alloc (by simp) _
  have K2 : Blk w1 (w.heap.size + 1) 37 [.int .i64 x, .int .i64 y] := by
    rw [← hw1]
    have := Blk.new (w.alloc (.cells #[.int .i64 W, .int .i64 H, .slice a m cap, .int .i64 c, .int .i32 ox, .int .i32 oy] 28)) 37 [.int .i64 x, .int .i64 y]
    rw [World.size_alloc] at this
    exact this
  have d0 := K2.cell (i := 0) rfl
  have HW1 := Lib.hid hw1
  clear hw1
  go_enter Tryz.func24, Tryz.ntmps24
  go_upto_region 1 with fail
  rw [HW1.out]
  go_wp2_with fail
  refine (C1 w1).mono ?_
  rintro q w2 ⟨rfl, hA⟩
  replace K2 := K2.below hA K2.lt
  have d1 := K2.cell (i := 1) rfl
  have hB2 := hB1.trans (hA.mono hB1.size)
  clear C1 hA HW1 hB1
  cases b1
  · go_wp2_with fail
    go_ret3
    exact ⟨rfl, hB2⟩
  · cases b2
    · go_wp2_with fail
      refine (C2 w2).mono ?_
      rintro q w3 ⟨rfl, hA⟩
      go_wp2_with fail
      go_ret3
      exact ⟨rfl, hB2.trans (hA.mono hB2.size)⟩
    · cases hb
set_option maxRecDepth 20000 in
set_option maxHeartbeats 1600000 in
theorem metresOk_go (W H : Int) (a : Option Addr) (m cap : Nat) (c ox oy x y p q : Int) (C1 : Ans 39 #[.int .i64 x] (.bool true)) (C2 : Ans 39 #[.int .i64 y] (.bool true))
    (C3 : Ans 42 #[.int .i64 x, .int .i32 ox, .int .i64 c] (.tuple #[.int .i64 p, .bool true])) (C4 : Ans 42 #[.int .i64 y, .int .i32 oy, .int .i64 c] (.tuple #[.int .i64 q, .bool true])) :
    Ans 24 #[cv W H (.slice a m cap) c ox oy, sv x y] (.tuple #[.int .i64 p, .int .i64 q, .bool true]) := by
  intro w
  obtain ⟨w1, hw1⟩ : ∃ w1, (w.alloc (.cells #[.int .i64 W, .int .i64 H, .slice a m cap, .int .i64 c, .int .i32 ox, .int .i32 oy] 28)).alloc (.cells #[.int .i64 x, .int .i64 y] 37) = w1 := ⟨_, rfl⟩
  have hB1 : Below w.heap.size w w1 := by rw [← hw1]; exact ((Below.refl _ _).alloc (Nat.le_refl _) _).alloc (by simp) _
  have K1 : Blk w1 w.heap.size 28 [.int .i64 W, .int .i64 H, .slice a m cap, .int .i64 c, .int .i32 ox, .int .i32 oy] := by rw [← hw1]; exact (Blk.new w _ _).alloc _
  have K2 : Blk w1 (w.heap.size + 1) 37 [.int .i64 x, .int .i64 y] := by
    rw [← hw1]
    have := Blk.new (w.alloc (.cells #[.int .i64 W, .int .i64 H, .slice a m cap, .int .i64 c, .int .i32 ox, .int .i32 oy] 28)) 37 [.int .i64 x, .int .i64 y]
    rw [World.size_alloc] at this
    exact this
  have d0 := K2.cell (i := 0) rfl
  have HW1 := Lib.hid hw1
  clear hw1
  go_enter Tryz.func24, Tryz.ntmps24
  go_upto_region 1 with fail
  rw [HW1.out]
  go_wp2_with fail
  refine (C1 w1).mono ?_
  rintro z w2 ⟨rfl, hA⟩
  replace K1 := K1.below hA K1.lt
  replace K2 := K2.below hA K2.lt
  have d1 := K2.cell (i := 1) rfl
  have hB2 := hB1.trans (hA.mono hB1.size)
  clear C1 hA HW1 hB1 d0
  go_wp2_with fail
  refine (C2 w2).mono ?_
  rintro z w3 ⟨rfl, hA⟩
  replace K1 := K1.below hA K1.lt
  replace K2 := K2.below hA K2.lt
  have hB3 := hB2.trans (hA.mono hB2.size)
  clear C2 hA hB2 d1
  have d0 := K2.cell (i := 0) rfl
  have c3 := K1.cell (i := 3) rfl
  have c4 := K1.cell (i := 4) rfl
  go_wp2_with fail
  refine (C3 w3).mono ?_
  rintro z w4 ⟨rfl, hA⟩
  replace K1 := K1.below hA K1.lt
  replace K2 := K2.below hA K2.lt
  have hB4 := hB3.trans (hA.mono hB3.size)
  clear C3 hA hB3 d0 c3 c4
  have d1 := K2.cell (i := 1) rfl
  have c3 := K1.cell (i := 3) rfl
  have c5 := K1.cell (i := 5) rfl
  go_wp2_with fail
  refine (C4 w4).mono ?_
  rintro z w5 ⟨rfl, hA⟩
  have hB5 := hB4.trans (hA.mono hB4.size)
  clear C4 hA hB4 d1 c3 c5 K1 K2
  go_wp2_with fail
  go_ret3
  exact ⟨rfl, hB5⟩
theorem metresV_any (W H : Int) (a : Option Addr) (m cap : Nat) (c ox oy x y : Int) (hc : 1 ≤ c ∧ c ≤ 1000) (hx : -2147483648 ≤ ox ∧ ox ≤ 2147483647) (hy : -2147483648 ≤ oy ∧ oy ≤ 2147483647) :
    Ans 24 #[cv W H (.slice a m cap) c ox oy, sv x y] (metresV c ox oy x y) := by
  have C1 := isNear_any x
  have C2 := isNear_any y
  by_cases h : (-1099511627776 ≤ x ∧ x ≤ 1099511627776) ∧ -1099511627776 ≤ y ∧ y ≤ 1099511627776
  · unfold metresV
    rw [if_pos h]
    rw [decide_eq_true h.1] at C1
    rw [decide_eq_true h.2] at C2
    exact metresOk_go W H a m cap c ox oy x y _ _ C1 C2 (metres_any x ox c h.1 hx hc) (metres_any y oy c h.2 hy hc)
  · unfold metresV
    rw [if_neg h]
    exact metresNo_go W H a m cap c ox oy x y _ _ (by rw [← Bool.decide_and]; exact decide_eq_false h) C1 C2
end Go.Proofs.YtlkjcamjgaecgaaGreat
