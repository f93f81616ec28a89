/-
  Places cut out of a grid: the reference's.
-/
import Derived.Test.YtnfgogfbpggnfaaGridRB
import Derived.Test.YtnfgogfbpggnfaaGridSpecB
import Derived.Deep.Cut
import Derived.Deep.CutRange
set_option linter.unusedVariables false
set_option linter.unusedSimpArgs false
namespace Go.Proofs.Ytnfgogfbpggnfaa
open Go Go.RowKit Go.Th Go.Th.Grid Go.Th.Wide

set_option maxRecDepth 20000 in
set_option maxHeartbeats 1600000 in
theorem rcut_no (x y X Y s cx cy cw ch : Int) (a : Option Addr) (n cap : Nat) (p : List Int) (hno : (sdG cw ch && (inR cx (-64) 64 && inR cy (-64) 64)) = false) (w : World) (hS : Sl w 1 (.slice a n cap) n (i64s p)) :
    Calls Try.prog 26 #[gv x y X Y s (.slice a n cap), .int .i64 cx, .int .i64 cy, .int .i64 cw, .int .i64 ch] w (GSaid x y X Y s n p 2 w) := by
  have hn : ¬ ((1 ≤ cw ∧ cw ≤ 64) ∧ (1 ≤ ch ∧ ch ≤ 64) ∧ (-64 ≤ cx ∧ cx ≤ 64) ∧ -64 ≤ cy ∧ cy ≤ 64) := by
    rintro ⟨a1, a2, a3, a4⟩
    rw [sdG_of ⟨a1, a2⟩, inR_of a3, inR_of a4] at hno
    simp at hno
  have HS := Lib.hid hS
  have HN := Lib.hid hn
  clear hno hS hn
  by_cases h0 : cw < 1
  · (obtain ⟨w1, hw1⟩ : ∃ w1, w.alloc (.cells #[.int .i64 x, .int .i64 y, .int .i64 X, .int .i64 Y, .int .i64 s, .slice a n cap] 24) = w1 := ⟨_, rfl⟩; have M1 := (Mem.start w).alloc 24 (gc x y X Y s (.slice a n cap)); rw [show w.alloc (.cells (gc x y X Y s (.slice a n cap)).toArray 24) = w1 from hw1] at M1; obtain ⟨w2, hw2⟩ : ∃ w2, w1.alloc (.cells #[.int .i64 0, .int .i64 0, .int .i64 0, .int .i64 0, .int .i64 0, .slice none 0 0] 24) = w2 := ⟨_, rfl⟩; have M2 := M1.alloc 24 (gc 0 0 0 0 0 (.slice none 0 0)); rw [show w1.alloc (.cells (gc 0 0 0 0 0 (.slice none 0 0)).toArray 24) = w2 from hw2] at M2; have hsz : w1.heap.size = w.heap.size + 1 := (by rw [← hw1]; simp); have HW1 := Lib.hid hw1; have HW2 := Lib.hid hw2; clear hw1 hw2 M1)
    go_enter Try.func26, Try.ntmps26
    ((go_upto_region 1 with fail); rw [HW1.out, HW2.out, ← hsz]; clear HW1 HW2; obtain ⟨gB, hgB⟩ : ∃ gB, gB = w1.heap.size := ⟨_, rfl⟩; obtain ⟨gA, hgA⟩ : ∃ gA, gA = w.heap.size := ⟨_, rfl⟩; rw [← hgB] at M2 ⊢; rw [← hgA] at M2 ⊢; have hne : gA ≠ gB := (by omega); clear hgA hgB hsz)
    obtain ⟨c0, c1, c2, c3, c4, c5⟩ := gcells (M2.has (.tail _ _ _ _ _ (Has.head _ _ _ _)))
    go_wp2_with ((with_reducible refine (?_ : Go.wpList _ _ _ (_ :: _) _ _)); (first | go_skip | (refine wpL_stM (v := gv x y X Y s (.slice a n cap)) M2 rfl rfl rfl rfl (wr_g _ _ _ _ _ _ _ _ _ _ _ _ _ _) (Upd.head _ _ _ _ _) ?_; intro w4 M4 hT4)))
    ((try simp only [Exit.inBlock, Exit.then]); refine bodyPost_ret (res_cell_tmp rfl M4 rfl (Has.head _ _ _ _) (rd_g _ _ _ _ _ _) rfl) rfl ?_)
    exact ⟨_, _, rfl, HS.out.below M4.below, M4.below⟩
  by_cases h1 : 64 < cw
  · (obtain ⟨w1, hw1⟩ : ∃ w1, w.alloc (.cells #[.int .i64 x, .int .i64 y, .int .i64 X, .int .i64 Y, .int .i64 s, .slice a n cap] 24) = w1 := ⟨_, rfl⟩; have M1 := (Mem.start w).alloc 24 (gc x y X Y s (.slice a n cap)); rw [show w.alloc (.cells (gc x y X Y s (.slice a n cap)).toArray 24) = w1 from hw1] at M1; obtain ⟨w2, hw2⟩ : ∃ w2, w1.alloc (.cells #[.int .i64 0, .int .i64 0, .int .i64 0, .int .i64 0, .int .i64 0, .slice none 0 0] 24) = w2 := ⟨_, rfl⟩; have M2 := M1.alloc 24 (gc 0 0 0 0 0 (.slice none 0 0)); rw [show w1.alloc (.cells (gc 0 0 0 0 0 (.slice none 0 0)).toArray 24) = w2 from hw2] at M2; have hsz : w1.heap.size = w.heap.size + 1 := (by rw [← hw1]; simp); have HW1 := Lib.hid hw1; have HW2 := Lib.hid hw2; clear hw1 hw2 M1)
    go_enter Try.func26, Try.ntmps26
    ((go_upto_region 1 with fail); rw [HW1.out, HW2.out, ← hsz]; clear HW1 HW2; obtain ⟨gB, hgB⟩ : ∃ gB, gB = w1.heap.size := ⟨_, rfl⟩; obtain ⟨gA, hgA⟩ : ∃ gA, gA = w.heap.size := ⟨_, rfl⟩; rw [← hgB] at M2 ⊢; rw [← hgA] at M2 ⊢; have hne : gA ≠ gB := (by omega); clear hgA hgB hsz)
    obtain ⟨c0, c1, c2, c3, c4, c5⟩ := gcells (M2.has (.tail _ _ _ _ _ (Has.head _ _ _ _)))
    go_wp2_with ((with_reducible refine (?_ : Go.wpList _ _ _ (_ :: _) _ _)); (first | go_skip | (refine wpL_stM (v := gv x y X Y s (.slice a n cap)) M2 rfl rfl rfl rfl (wr_g _ _ _ _ _ _ _ _ _ _ _ _ _ _) (Upd.head _ _ _ _ _) ?_; intro w4 M4 hT4)))
    ((try simp only [Exit.inBlock, Exit.then]); refine bodyPost_ret (res_cell_tmp rfl M4 rfl (Has.head _ _ _ _) (rd_g _ _ _ _ _ _) rfl) rfl ?_)
    exact ⟨_, _, rfl, HS.out.below M4.below, M4.below⟩
  by_cases h2 : ch < 1
  · (obtain ⟨w1, hw1⟩ : ∃ w1, w.alloc (.cells #[.int .i64 x, .int .i64 y, .int .i64 X, .int .i64 Y, .int .i64 s, .slice a n cap] 24) = w1 := ⟨_, rfl⟩; have M1 := (Mem.start w).alloc 24 (gc x y X Y s (.slice a n cap)); rw [show w.alloc (.cells (gc x y X Y s (.slice a n cap)).toArray 24) = w1 from hw1] at M1; obtain ⟨w2, hw2⟩ : ∃ w2, w1.alloc (.cells #[.int .i64 0, .int .i64 0, .int .i64 0, .int .i64 0, .int .i64 0, .slice none 0 0] 24) = w2 := ⟨_, rfl⟩; have M2 := M1.alloc 24 (gc 0 0 0 0 0 (.slice none 0 0)); rw [show w1.alloc (.cells (gc 0 0 0 0 0 (.slice none 0 0)).toArray 24) = w2 from hw2] at M2; have hsz : w1.heap.size = w.heap.size + 1 := (by rw [← hw1]; simp); have HW1 := Lib.hid hw1; have HW2 := Lib.hid hw2; clear hw1 hw2 M1)
    go_enter Try.func26, Try.ntmps26
    ((go_upto_region 1 with fail); rw [HW1.out, HW2.out, ← hsz]; clear HW1 HW2; obtain ⟨gB, hgB⟩ : ∃ gB, gB = w1.heap.size := ⟨_, rfl⟩; obtain ⟨gA, hgA⟩ : ∃ gA, gA = w.heap.size := ⟨_, rfl⟩; rw [← hgB] at M2 ⊢; rw [← hgA] at M2 ⊢; have hne : gA ≠ gB := (by omega); clear hgA hgB hsz)
    obtain ⟨c0, c1, c2, c3, c4, c5⟩ := gcells (M2.has (.tail _ _ _ _ _ (Has.head _ _ _ _)))
    go_wp2_with ((with_reducible refine (?_ : Go.wpList _ _ _ (_ :: _) _ _)); (first | go_skip | (refine wpL_stM (v := gv x y X Y s (.slice a n cap)) M2 rfl rfl rfl rfl (wr_g _ _ _ _ _ _ _ _ _ _ _ _ _ _) (Upd.head _ _ _ _ _) ?_; intro w4 M4 hT4)))
    ((try simp only [Exit.inBlock, Exit.then]); refine bodyPost_ret (res_cell_tmp rfl M4 rfl (Has.head _ _ _ _) (rd_g _ _ _ _ _ _) rfl) rfl ?_)
    exact ⟨_, _, rfl, HS.out.below M4.below, M4.below⟩
  by_cases h3 : 64 < ch
  · (obtain ⟨w1, hw1⟩ : ∃ w1, w.alloc (.cells #[.int .i64 x, .int .i64 y, .int .i64 X, .int .i64 Y, .int .i64 s, .slice a n cap] 24) = w1 := ⟨_, rfl⟩; have M1 := (Mem.start w).alloc 24 (gc x y X Y s (.slice a n cap)); rw [show w.alloc (.cells (gc x y X Y s (.slice a n cap)).toArray 24) = w1 from hw1] at M1; obtain ⟨w2, hw2⟩ : ∃ w2, w1.alloc (.cells #[.int .i64 0, .int .i64 0, .int .i64 0, .int .i64 0, .int .i64 0, .slice none 0 0] 24) = w2 := ⟨_, rfl⟩; have M2 := M1.alloc 24 (gc 0 0 0 0 0 (.slice none 0 0)); rw [show w1.alloc (.cells (gc 0 0 0 0 0 (.slice none 0 0)).toArray 24) = w2 from hw2] at M2; have hsz : w1.heap.size = w.heap.size + 1 := (by rw [← hw1]; simp); have HW1 := Lib.hid hw1; have HW2 := Lib.hid hw2; clear hw1 hw2 M1)
    go_enter Try.func26, Try.ntmps26
    ((go_upto_region 1 with fail); rw [HW1.out, HW2.out, ← hsz]; clear HW1 HW2; obtain ⟨gB, hgB⟩ : ∃ gB, gB = w1.heap.size := ⟨_, rfl⟩; obtain ⟨gA, hgA⟩ : ∃ gA, gA = w.heap.size := ⟨_, rfl⟩; rw [← hgB] at M2 ⊢; rw [← hgA] at M2 ⊢; have hne : gA ≠ gB := (by omega); clear hgA hgB hsz)
    obtain ⟨c0, c1, c2, c3, c4, c5⟩ := gcells (M2.has (.tail _ _ _ _ _ (Has.head _ _ _ _)))
    go_wp2_with ((with_reducible refine (?_ : Go.wpList _ _ _ (_ :: _) _ _)); (first | go_skip | (refine wpL_stM (v := gv x y X Y s (.slice a n cap)) M2 rfl rfl rfl rfl (wr_g _ _ _ _ _ _ _ _ _ _ _ _ _ _) (Upd.head _ _ _ _ _) ?_; intro w4 M4 hT4)))
    ((try simp only [Exit.inBlock, Exit.then]); refine bodyPost_ret (res_cell_tmp rfl M4 rfl (Has.head _ _ _ _) (rd_g _ _ _ _ _ _) rfl) rfl ?_)
    exact ⟨_, _, rfl, HS.out.below M4.below, M4.below⟩
  by_cases h4 : cx < -64
  · (obtain ⟨w1, hw1⟩ : ∃ w1, w.alloc (.cells #[.int .i64 x, .int .i64 y, .int .i64 X, .int .i64 Y, .int .i64 s, .slice a n cap] 24) = w1 := ⟨_, rfl⟩; have M1 := (Mem.start w).alloc 24 (gc x y X Y s (.slice a n cap)); rw [show w.alloc (.cells (gc x y X Y s (.slice a n cap)).toArray 24) = w1 from hw1] at M1; obtain ⟨w2, hw2⟩ : ∃ w2, w1.alloc (.cells #[.int .i64 0, .int .i64 0, .int .i64 0, .int .i64 0, .int .i64 0, .slice none 0 0] 24) = w2 := ⟨_, rfl⟩; have M2 := M1.alloc 24 (gc 0 0 0 0 0 (.slice none 0 0)); rw [show w1.alloc (.cells (gc 0 0 0 0 0 (.slice none 0 0)).toArray 24) = w2 from hw2] at M2; have hsz : w1.heap.size = w.heap.size + 1 := (by rw [← hw1]; simp); have HW1 := Lib.hid hw1; have HW2 := Lib.hid hw2; clear hw1 hw2 M1)
    go_enter Try.func26, Try.ntmps26
    ((go_upto_region 1 with fail); rw [HW1.out, HW2.out, ← hsz]; clear HW1 HW2; obtain ⟨gB, hgB⟩ : ∃ gB, gB = w1.heap.size := ⟨_, rfl⟩; obtain ⟨gA, hgA⟩ : ∃ gA, gA = w.heap.size := ⟨_, rfl⟩; rw [← hgB] at M2 ⊢; rw [← hgA] at M2 ⊢; have hne : gA ≠ gB := (by omega); clear hgA hgB hsz)
    obtain ⟨c0, c1, c2, c3, c4, c5⟩ := gcells (M2.has (.tail _ _ _ _ _ (Has.head _ _ _ _)))
    go_wp2_with ((with_reducible refine (?_ : Go.wpList _ _ _ (_ :: _) _ _)); (first | go_skip | (refine wpL_stM (v := gv x y X Y s (.slice a n cap)) M2 rfl rfl rfl rfl (wr_g _ _ _ _ _ _ _ _ _ _ _ _ _ _) (Upd.head _ _ _ _ _) ?_; intro w4 M4 hT4)))
    ((try simp only [Exit.inBlock, Exit.then]); refine bodyPost_ret (res_cell_tmp rfl M4 rfl (Has.head _ _ _ _) (rd_g _ _ _ _ _ _) rfl) rfl ?_)
    exact ⟨_, _, rfl, HS.out.below M4.below, M4.below⟩
  by_cases h5 : 64 < cx
  · (obtain ⟨w1, hw1⟩ : ∃ w1, w.alloc (.cells #[.int .i64 x, .int .i64 y, .int .i64 X, .int .i64 Y, .int .i64 s, .slice a n cap] 24) = w1 := ⟨_, rfl⟩; have M1 := (Mem.start w).alloc 24 (gc x y X Y s (.slice a n cap)); rw [show w.alloc (.cells (gc x y X Y s (.slice a n cap)).toArray 24) = w1 from hw1] at M1; obtain ⟨w2, hw2⟩ : ∃ w2, w1.alloc (.cells #[.int .i64 0, .int .i64 0, .int .i64 0, .int .i64 0, .int .i64 0, .slice none 0 0] 24) = w2 := ⟨_, rfl⟩; have M2 := M1.alloc 24 (gc 0 0 0 0 0 (.slice none 0 0)); rw [show w1.alloc (.cells (gc 0 0 0 0 0 (.slice none 0 0)).toArray 24) = w2 from hw2] at M2; have hsz : w1.heap.size = w.heap.size + 1 := (by rw [← hw1]; simp); have HW1 := Lib.hid hw1; have HW2 := Lib.hid hw2; clear hw1 hw2 M1)
    go_enter Try.func26, Try.ntmps26
    ((go_upto_region 1 with fail); rw [HW1.out, HW2.out, ← hsz]; clear HW1 HW2; obtain ⟨gB, hgB⟩ : ∃ gB, gB = w1.heap.size := ⟨_, rfl⟩; obtain ⟨gA, hgA⟩ : ∃ gA, gA = w.heap.size := ⟨_, rfl⟩; rw [← hgB] at M2 ⊢; rw [← hgA] at M2 ⊢; have hne : gA ≠ gB := (by omega); clear hgA hgB hsz)
    obtain ⟨c0, c1, c2, c3, c4, c5⟩ := gcells (M2.has (.tail _ _ _ _ _ (Has.head _ _ _ _)))
    go_wp2_with ((with_reducible refine (?_ : Go.wpList _ _ _ (_ :: _) _ _)); (first | go_skip | (refine wpL_stM (v := gv x y X Y s (.slice a n cap)) M2 rfl rfl rfl rfl (wr_g _ _ _ _ _ _ _ _ _ _ _ _ _ _) (Upd.head _ _ _ _ _) ?_; intro w4 M4 hT4)))
    ((try simp only [Exit.inBlock, Exit.then]); refine bodyPost_ret (res_cell_tmp rfl M4 rfl (Has.head _ _ _ _) (rd_g _ _ _ _ _ _) rfl) rfl ?_)
    exact ⟨_, _, rfl, HS.out.below M4.below, M4.below⟩
  by_cases h6 : cy < -64
  · (obtain ⟨w1, hw1⟩ : ∃ w1, w.alloc (.cells #[.int .i64 x, .int .i64 y, .int .i64 X, .int .i64 Y, .int .i64 s, .slice a n cap] 24) = w1 := ⟨_, rfl⟩; have M1 := (Mem.start w).alloc 24 (gc x y X Y s (.slice a n cap)); rw [show w.alloc (.cells (gc x y X Y s (.slice a n cap)).toArray 24) = w1 from hw1] at M1; obtain ⟨w2, hw2⟩ : ∃ w2, w1.alloc (.cells #[.int .i64 0, .int .i64 0, .int .i64 0, .int .i64 0, .int .i64 0, .slice none 0 0] 24) = w2 := ⟨_, rfl⟩; have M2 := M1.alloc 24 (gc 0 0 0 0 0 (.slice none 0 0)); rw [show w1.alloc (.cells (gc 0 0 0 0 0 (.slice none 0 0)).toArray 24) = w2 from hw2] at M2; have hsz : w1.heap.size = w.heap.size + 1 := (by rw [← hw1]; simp); have HW1 := Lib.hid hw1; have HW2 := Lib.hid hw2; clear hw1 hw2 M1)
    go_enter Try.func26, Try.ntmps26
    ((go_upto_region 1 with fail); rw [HW1.out, HW2.out, ← hsz]; clear HW1 HW2; obtain ⟨gB, hgB⟩ : ∃ gB, gB = w1.heap.size := ⟨_, rfl⟩; obtain ⟨gA, hgA⟩ : ∃ gA, gA = w.heap.size := ⟨_, rfl⟩; rw [← hgB] at M2 ⊢; rw [← hgA] at M2 ⊢; have hne : gA ≠ gB := (by omega); clear hgA hgB hsz)
    obtain ⟨c0, c1, c2, c3, c4, c5⟩ := gcells (M2.has (.tail _ _ _ _ _ (Has.head _ _ _ _)))
    go_wp2_with ((with_reducible refine (?_ : Go.wpList _ _ _ (_ :: _) _ _)); (first | go_skip | (refine wpL_stM (v := gv x y X Y s (.slice a n cap)) M2 rfl rfl rfl rfl (wr_g _ _ _ _ _ _ _ _ _ _ _ _ _ _) (Upd.head _ _ _ _ _) ?_; intro w4 M4 hT4)))
    ((try simp only [Exit.inBlock, Exit.then]); refine bodyPost_ret (res_cell_tmp rfl M4 rfl (Has.head _ _ _ _) (rd_g _ _ _ _ _ _) rfl) rfl ?_)
    exact ⟨_, _, rfl, HS.out.below M4.below, M4.below⟩
  have h7 : 64 < cy := by
    have := HN.out
    omega
  (obtain ⟨w1, hw1⟩ : ∃ w1, w.alloc (.cells #[.int .i64 x, .int .i64 y, .int .i64 X, .int .i64 Y, .int .i64 s, .slice a n cap] 24) = w1 := ⟨_, rfl⟩; have M1 := (Mem.start w).alloc 24 (gc x y X Y s (.slice a n cap)); rw [show w.alloc (.cells (gc x y X Y s (.slice a n cap)).toArray 24) = w1 from hw1] at M1; obtain ⟨w2, hw2⟩ : ∃ w2, w1.alloc (.cells #[.int .i64 0, .int .i64 0, .int .i64 0, .int .i64 0, .int .i64 0, .slice none 0 0] 24) = w2 := ⟨_, rfl⟩; have M2 := M1.alloc 24 (gc 0 0 0 0 0 (.slice none 0 0)); rw [show w1.alloc (.cells (gc 0 0 0 0 0 (.slice none 0 0)).toArray 24) = w2 from hw2] at M2; have hsz : w1.heap.size = w.heap.size + 1 := (by rw [← hw1]; simp); have HW1 := Lib.hid hw1; have HW2 := Lib.hid hw2; clear hw1 hw2 M1)
  go_enter Try.func26, Try.ntmps26
  ((go_upto_region 1 with fail); rw [HW1.out, HW2.out, ← hsz]; clear HW1 HW2; obtain ⟨gB, hgB⟩ : ∃ gB, gB = w1.heap.size := ⟨_, rfl⟩; obtain ⟨gA, hgA⟩ : ∃ gA, gA = w.heap.size := ⟨_, rfl⟩; rw [← hgB] at M2 ⊢; rw [← hgA] at M2 ⊢; have hne : gA ≠ gB := (by omega); clear hgA hgB hsz)
  obtain ⟨c0, c1, c2, c3, c4, c5⟩ := gcells (M2.has (.tail _ _ _ _ _ (Has.head _ _ _ _)))
  go_wp2_with ((with_reducible refine (?_ : Go.wpList _ _ _ (_ :: _) _ _)); (first | go_skip | (refine wpL_stM (v := gv x y X Y s (.slice a n cap)) M2 rfl rfl rfl rfl (wr_g _ _ _ _ _ _ _ _ _ _ _ _ _ _) (Upd.head _ _ _ _ _) ?_; intro w4 M4 hT4)))
  ((try simp only [Exit.inBlock, Exit.then]); refine bodyPost_ret (res_cell_tmp rfl M4 rfl (Has.head _ _ _ _) (rd_g _ _ _ _ _ _) rfl) rfl ?_)
  exact ⟨_, _, rfl, HS.out.below M4.below, M4.below⟩

set_option maxRecDepth 20000 in
set_option maxHeartbeats 6400000 in
theorem rcut_yes (x y cw ch m s : Nat) (X Y cx cy PX PY NX NY : Int) (a : Option Addr) (n cap : Nat) (p : List Int) (hp : p.length = n) (hxy : n = x * y) (hsd : sdG x y = true) (hcd : sdG cw ch = true) (hcx : inR cx (-64) 64 = true) (hcy : inR cy (-64) 64 = true)
    (hs : s ≤ 4096) (hX : -1000000000000 ≤ X ∧ X ≤ 1000000000000) (hY : -1000000000000 ≤ Y ∧ Y ≤ 1000000000000) (hm : m = ch * cw) (hPX : cx * s = PX) (hPY : cy * s = PY) (hNX : X + PX = NX) (hNY : Y + PY = NY) (w : World) (hS : Sl w 1 (.slice a n cap) n (i64s p)) :
    Calls Try.prog 26 #[gv x y X Y s (.slice a n cap), .int .i64 cx, .int .i64 cy, .int .i64 cw, .int .i64 ch] w (GSaid cw ch NX NY s m (tab (cutAt p x y cx cy cw) m) 0 w) := by
  obtain ⟨⟨q1, q2⟩, q3, q4⟩ := sdG_t hsd
  obtain ⟨⟨q5, q6⟩, q7, q8⟩ := sdG_t hcd
  have r1 := inR_t hcx
  have r2 := inR_t hcy
  have hle : x * y ≤ 64 * 64 := Nat.mul_le_mul (by omega) (by omega)
  have hle2 : ch * cw ≤ 64 * 64 := Nat.mul_le_mul (by omega) (by omega)
  have bPX : -262144 ≤ PX ∧ PX ≤ 262144 := by
    have a1 := Int.mul_le_mul_of_nonneg_right r1.1 (by omega : (0 : Int) ≤ (s : Int))
    have a2 := Int.mul_le_mul_of_nonneg_right r1.2 (by omega : (0 : Int) ≤ (s : Int))
    rw [hPX] at a1 a2; omega
  have bPY : -262144 ≤ PY ∧ PY ≤ 262144 := by
    have a1 := Int.mul_le_mul_of_nonneg_right r2.1 (by omega : (0 : Int) ≤ (s : Int))
    have a2 := Int.mul_le_mul_of_nonneg_right r2.2 (by omega : (0 : Int) ≤ (s : Int))
    rw [hPY] at a1 a2; omega
  have wPX : IntKind.i64.wrap PX = PX := IntWalk.i64_in _ (by omega)
  have wPY : IntKind.i64.wrap PY = PY := IntWalk.i64_in _ (by omega)
  have wNX : IntKind.i64.wrap NX = NX := IntWalk.i64_in _ (by omega)
  have wNY : IntKind.i64.wrap NY = NY := IntWalk.i64_in _ (by omega)
  have wNX2 : wrap64 NX = NX := IntWalk.wrap64_in _ (by omega)
  have wNY2 : wrap64 NY = NY := IntWalk.wrap64_in _ (by omega)
  have wm : IntKind.i64.wrap (m : Int) = (m : Int) := IntWalk.i64_in _ (by omega)
  have hmul2 : (cw : Int) * (ch : Int) = (m : Int) := by rw [hm, Nat.mul_comm]; simp
  have hm2 : m ≤ 4096 := by omega
  have hx64 : x ≤ 64 := by omega
  have hy64 : y ≤ 64 := by omega
  have hr1a := r1.1
  have hr1b := r1.2
  have hr2a := r2.1
  have hr2b := r2.2
  have hn2 : n ≤ 4096 := by omega
  obtain ⟨f, hf⟩ : ∃ f, f = cutAt p x y cx cy cw := ⟨_, rfl⟩
  rw [← hf]
  have hst : ∀ i, i < m → ∃ (A B : Int) (xm ym : Nat), Hid (((i : Int) % (cw : Int) = (xm : Int) ∧ (i : Int) / (cw : Int) = (ym : Int) ∧ (i : Int).tmod (cw : Int) = (xm : Int) ∧ (i : Int).tdiv (cw : Int) = (ym : Int)) ∧ cx + (xm : Int) = A ∧ cy + (ym : Int) = B ∧ IntKind.i64.wrap (xm : Int) = (xm : Int) ∧ IntKind.i64.wrap (ym : Int) = (ym : Int) ∧ wrap64 (xm : Int) = (xm : Int) ∧ wrap64 (ym : Int) = (ym : Int) ∧ IntKind.i64.wrap A = A ∧ IntKind.i64.wrap B = B ∧ wrap64 A = A ∧ wrap64 B = B ∧ xm ≤ 64 ∧ ym ≤ 64) ∧ Hid (f i = bel p x y A B) ∧ (-64 ≤ A ∧ A ≤ 200) ∧ -64 ≤ B ∧ B ≤ 200 := by
    intro i hi
    have h1 : i % cw < cw := Nat.mod_lt _ (by omega)
    have h2 : i / cw < ch := row_lt (by rw [← hm]; exact hi)
    have hfi : f i = bel p x y (cx + ((i % cw : Nat) : Int)) (cy + ((i / cw : Nat) : Int)) := by rw [hf]; rfl
    obtain ⟨xm, hxm⟩ : ∃ xm, xm = i % cw := ⟨_, rfl⟩
    obtain ⟨ym, hym⟩ : ∃ ym, ym = i / cw := ⟨_, rfl⟩
    have em : (i : Int) % (cw : Int) = (xm : Int) := by rw [hxm]; simp
    have ed : (i : Int) / (cw : Int) = (ym : Int) := by rw [hym]; simp
    have emt : (i : Int).tmod (cw : Int) = (xm : Int) := by rw [Int.tmod_eq_emod_of_nonneg (Int.natCast_nonneg i)]; exact em
    have edt : (i : Int).tdiv (cw : Int) = (ym : Int) := by rw [Int.tdiv_eq_ediv_of_nonneg (Int.natCast_nonneg i)]; exact ed
    have HDM : ((i : Int) % (cw : Int) = (xm : Int) ∧ (i : Int) / (cw : Int) = (ym : Int) ∧ (i : Int).tmod (cw : Int) = (xm : Int) ∧ (i : Int).tdiv (cw : Int) = (ym : Int)) := ⟨em, ed, emt, edt⟩
    have HDM := Lib.hid HDM
    rw [← hxm] at h1 hfi
    rw [← hym] at h2 hfi
    clear em ed emt edt hxm hym
    have h3 : xm ≤ 64 := by omega
    have h4 : ym ≤ 64 := by omega
    exact ⟨_, _, xm, ym, Lib.hid ⟨HDM.out, rfl, rfl, IntWalk.i64_in _ (by omega), IntWalk.i64_in _ (by omega), IntWalk.wrap64_in _ (by omega), IntWalk.wrap64_in _ (by omega), IntWalk.i64_in _ (by omega), IntWalk.i64_in _ (by omega), IntWalk.wrap64_in _ (by omega), IntWalk.wrap64_in _ (by omega), h3, h4⟩, Lib.hid hfi, ⟨by omega, by omega⟩, by omega, by omega⟩
  have HST := Lib.hid hst
  have HT := Lib.hid (fun i => i64s_tab f i)
  have HP := Lib.hid hp
  have HXY := Lib.hid hxy
  have HS := Lib.hid hS
  have hmx := hS.max
  have hcw0 : ¬ ((cw : Int) = 0) := by omega
  have hcw1 : ¬ (cw = 0) := by omega
  clear hst hp hS hsd hcd hxy hle hle2 hf hm hcx hcy r1 r2
  (obtain ⟨w1, hw1⟩ : ∃ w1, w.alloc (.cells #[.int .i64 x, .int .i64 y, .int .i64 X, .int .i64 Y, .int .i64 s, .slice a n cap] 24) = w1 := ⟨_, rfl⟩; have M1 := (Mem.start w).alloc 24 (gc x y X Y s (.slice a n cap)); rw [show w.alloc (.cells (gc x y X Y s (.slice a n cap)).toArray 24) = w1 from hw1] at M1; obtain ⟨w2, hw2⟩ : ∃ w2, w1.alloc (.cells #[.int .i64 0, .int .i64 0, .int .i64 0, .int .i64 0, .int .i64 0, .slice none 0 0] 24) = w2 := ⟨_, rfl⟩; have M2 := M1.alloc 24 (gc 0 0 0 0 0 (.slice none 0 0)); rw [show w1.alloc (.cells (gc 0 0 0 0 0 (.slice none 0 0)).toArray 24) = w2 from hw2] at M2; have hsz : w1.heap.size = w.heap.size + 1 := (by rw [← hw1]; simp); have HW1 := Lib.hid hw1; have HW2 := Lib.hid hw2; clear hw1 hw2 M1)
  go_enter Try.func26, Try.ntmps26
  ((go_upto_region 1 with fail); rw [HW1.out, HW2.out, ← hsz]; clear HW1 HW2; obtain ⟨gB, hgB⟩ : ∃ gB, gB = w1.heap.size := ⟨_, rfl⟩; obtain ⟨gA, hgA⟩ : ∃ gA, gA = w.heap.size := ⟨_, rfl⟩; rw [← hgB] at M2 ⊢; rw [← hgA] at M2 ⊢; have hne : gA ≠ gB := (by omega); clear hgA hgB hsz)
  obtain ⟨c0, c1, c2, c3, c4, c5⟩ := gcells (M2.has (.tail _ _ _ _ _ (Has.head _ _ _ _)))
  obtain ⟨w3, hw3⟩ : ∃ w3, w2.alloc (.cells #[.int .i64 cw, .int .i64 ch, .int .i64 NX, .int .i64 NY, .int .i64 s, .slice none 0 0] 24) = w3 := ⟨_, rfl⟩
  have M3 := M2.alloc 24 (gc cw ch NX NY s (.slice none 0 0))
  rw [show w2.alloc (.cells (gc cw ch NX NY s (.slice none 0 0)).toArray 24) = w3 from hw3] at M3
  have HW3 := Lib.hid hw3
  clear hw3
  go_upto_region 4 with fail
  rw [HW3.out]
  clear HW3
  obtain ⟨gC, hgC⟩ : ∃ gC, gC = w2.heap.size := ⟨_, rfl⟩
  rw [← hgC] at M3 ⊢
  clear hgC M2 c0 c1 c2 c3 c4 c5
  have hown : w3.ownsRow w.heap.size 2 1 (.slice none 0 0) 0 (i64s (tab f 0)) := World.ownsRow_nil _ _ _ _
  go_wp2_with fail
  go_loopw [13] (fun c wx => ∃ (i : Nat) (v : Value), i ≤ m ∧ c = .int .i64 i ∧ wx.ownsRow w.heap.size 2 1 v i (i64s (tab f i)) ∧ Mem w wx [(gC, 24, gc cw ch NX NY s v), (gB, 24, gc 0 0 0 0 0 (.slice none 0 0)), (gA, 24, gc x y X Y s (.slice a n cap))]) (fun c _ => m - (intOf c).toNat)
  case atStart => exact ⟨0, _, Nat.zero_le _, rfl, hown, M3⟩
  case round =>
    clear hown M3
    obtain ⟨i, v, hi, rfl, ho, M⟩ := hrel
    obtain ⟨av, cv, rfl, _, _⟩ := ownsRow_slice ho
    by_cases hlt : i < m
    · obtain ⟨A, B, xm, ym, HE, HFI, ⟨hA1, hA2⟩, hB1, hB2⟩ := HST.out i hlt
      have hi1 : i + 1 ≤ m := by omega
      have hb63 : i + 1 ≤ maxLen := by unfold maxLen; omega
      have hb8 : (i + 1) * 8 ≤ 140737488355328 := by omega
      obtain ⟨⟨em, ed, emt, edt⟩, eA, eB, wxm, wym, wxm2, wym2, wA, wB, wA2, wB2, hxm, hym⟩ := HE.out
      go_upto_region 9 with fail
      try rw [eA]
      try rw [eB]
      clear em ed emt edt eA eB wxm wym wxm2 wym2 wA wB wA2 wB2 hxm hym HE
      obtain ⟨c0, c1, c2, c3, c4, c5⟩ := gcells (M.has (.tail _ _ _ _ _ (.tail _ _ _ _ _ (Has.head _ _ _ _))))
      by_cases h1 : A < 0
      · have HV := Lib.hid (HFI.out.trans (show bel p x y A B = 0 by unfold bel; rw [if_neg (by omega)]))
        have d5 := M.cell (Has.head _ _ _ _) (i := 5) rfl
        go_wp2_with (at_builtin; refine wpList_app E64 rfl (.tmp 113) (.tmp 115) rfl w.heap.size rfl (ho.alloc _) rfl (Sl.one _ _ _) (by intro u hu; simp at hu; subst hu; rfl) hb63 hb8 (by have := M.below.size; simp; omega) ?_)
        intro v9 w9 ho9 hg9 _
        have M9 := app_mem M ((Below.refl _ _).alloc (Nat.le_refl _) _) (ho.alloc _) hg9 (Nat.le_refl _) (by simp)
        obtain ⟨a9, c9, rfl, _, _⟩ := ownsRow_slice ho9
        rw [← HV.out, HT.out i] at ho9
        clear d5 ho M hg9 c0 c1 c2 c3 c4 c5
        have hf9 := M9.free (Has.head _ _ _ _) 5
        have d5 := M9.cell (Has.head _ _ _ _) (i := 5) rfl
        have ho10 := ownsRow_setCell_other (a := ⟨gC, 5, none⟩) ho9 (fun e => gown_ne (M9.has (Has.head _ _ _ _)) ho9 (by decide) _ e rfl) (.slice a9 (i + 1) c9)
        have M10 := M9.set 5 (.slice a9 (i + 1) c9) (Upd.head _ _ _ _ _) (by simp)
        clear ho9 M9
        go_wp2_with fail
        go_roundw
        case rel => exact ⟨i + 1, _, hi1, by go_num, ho10, M10⟩
        case measure => simp [intOf]; omega
      by_cases h2 : (x : Int) ≤ A
      · have HV := Lib.hid (HFI.out.trans (show bel p x y A B = 0 by unfold bel; rw [if_neg (by omega)]))
        have d5 := M.cell (Has.head _ _ _ _) (i := 5) rfl
        go_wp2_with (at_builtin; refine wpList_app E64 rfl (.tmp 113) (.tmp 115) rfl w.heap.size rfl (ho.alloc _) rfl (Sl.one _ _ _) (by intro u hu; simp at hu; subst hu; rfl) hb63 hb8 (by have := M.below.size; simp; omega) ?_)
        intro v9 w9 ho9 hg9 _
        have M9 := app_mem M ((Below.refl _ _).alloc (Nat.le_refl _) _) (ho.alloc _) hg9 (Nat.le_refl _) (by simp)
        obtain ⟨a9, c9, rfl, _, _⟩ := ownsRow_slice ho9
        rw [← HV.out, HT.out i] at ho9
        clear d5 ho M hg9 c0 c1 c2 c3 c4 c5
        have hf9 := M9.free (Has.head _ _ _ _) 5
        have d5 := M9.cell (Has.head _ _ _ _) (i := 5) rfl
        have ho10 := ownsRow_setCell_other (a := ⟨gC, 5, none⟩) ho9 (fun e => gown_ne (M9.has (Has.head _ _ _ _)) ho9 (by decide) _ e rfl) (.slice a9 (i + 1) c9)
        have M10 := M9.set 5 (.slice a9 (i + 1) c9) (Upd.head _ _ _ _ _) (by simp)
        clear ho9 M9
        go_wp2_with fail
        go_roundw
        case rel => exact ⟨i + 1, _, hi1, by go_num, ho10, M10⟩
        case measure => simp [intOf]; omega
      by_cases h3 : B < 0
      · have HV := Lib.hid (HFI.out.trans (show bel p x y A B = 0 by unfold bel; rw [if_neg (by omega)]))
        have d5 := M.cell (Has.head _ _ _ _) (i := 5) rfl
        go_wp2_with (at_builtin; refine wpList_app E64 rfl (.tmp 113) (.tmp 115) rfl w.heap.size rfl (ho.alloc _) rfl (Sl.one _ _ _) (by intro u hu; simp at hu; subst hu; rfl) hb63 hb8 (by have := M.below.size; simp; omega) ?_)
        intro v9 w9 ho9 hg9 _
        have M9 := app_mem M ((Below.refl _ _).alloc (Nat.le_refl _) _) (ho.alloc _) hg9 (Nat.le_refl _) (by simp)
        obtain ⟨a9, c9, rfl, _, _⟩ := ownsRow_slice ho9
        rw [← HV.out, HT.out i] at ho9
        clear d5 ho M hg9 c0 c1 c2 c3 c4 c5
        have hf9 := M9.free (Has.head _ _ _ _) 5
        have d5 := M9.cell (Has.head _ _ _ _) (i := 5) rfl
        have ho10 := ownsRow_setCell_other (a := ⟨gC, 5, none⟩) ho9 (fun e => gown_ne (M9.has (Has.head _ _ _ _)) ho9 (by decide) _ e rfl) (.slice a9 (i + 1) c9)
        have M10 := M9.set 5 (.slice a9 (i + 1) c9) (Upd.head _ _ _ _ _) (by simp)
        clear ho9 M9
        go_wp2_with fail
        go_roundw
        case rel => exact ⟨i + 1, _, hi1, by go_num, ho10, M10⟩
        case measure => simp [intOf]; omega
      by_cases h4 : (y : Int) ≤ B
      · have HV := Lib.hid (HFI.out.trans (show bel p x y A B = 0 by unfold bel; rw [if_neg (by omega)]))
        have d5 := M.cell (Has.head _ _ _ _) (i := 5) rfl
        go_wp2_with (at_builtin; refine wpList_app E64 rfl (.tmp 113) (.tmp 115) rfl w.heap.size rfl (ho.alloc _) rfl (Sl.one _ _ _) (by intro u hu; simp at hu; subst hu; rfl) hb63 hb8 (by have := M.below.size; simp; omega) ?_)
        intro v9 w9 ho9 hg9 _
        have M9 := app_mem M ((Below.refl _ _).alloc (Nat.le_refl _) _) (ho.alloc _) hg9 (Nat.le_refl _) (by simp)
        obtain ⟨a9, c9, rfl, _, _⟩ := ownsRow_slice ho9
        rw [← HV.out, HT.out i] at ho9
        clear d5 ho M hg9 c0 c1 c2 c3 c4 c5
        have hf9 := M9.free (Has.head _ _ _ _) 5
        have d5 := M9.cell (Has.head _ _ _ _) (i := 5) rfl
        have ho10 := ownsRow_setCell_other (a := ⟨gC, 5, none⟩) ho9 (fun e => gown_ne (M9.has (Has.head _ _ _ _)) ho9 (by decide) _ e rfl) (.slice a9 (i + 1) c9)
        have M10 := M9.set 5 (.slice a9 (i + 1) c9) (Upd.head _ _ _ _ _) (by simp)
        clear ho9 M9
        go_wp2_with fail
        go_roundw
        case rel => exact ⟨i + 1, _, hi1, by go_num, ho10, M10⟩
        case measure => simp [intOf]; omega
      · obtain ⟨aa, rfl⟩ := Int.eq_ofNat_of_zero_le (by omega : 0 ≤ A)
        obtain ⟨bb, rfl⟩ := Int.eq_ofNat_of_zero_le (by omega : 0 ≤ B)
        have haa : aa < x := by omega
        have hbb : bb < y := by omega
        have hk : bb * x + aa < n := by rw [HXY.out, Nat.mul_comm x y]; exact at_lt haa hbb
        have hval := HFI.out
        rw [bel_in p haa hbb] at hval
        obtain ⟨b, o, rfl, _, hc⟩ := cell64 (HS.out.below M.below) (bb * x + aa) (by rw [HP.out]; exact hk)
        obtain ⟨k0, hk0⟩ : ∃ k0, k0 = bb * x := ⟨_, rfl⟩
        have hmul : (bb : Int) * (x : Int) = (k0 : Int) := by rw [hk0]; simp
        rw [← hk0] at hk hc hval
        have wk0 : IntKind.i64.wrap (k0 : Int) = (k0 : Int) := IntWalk.i64_in _ (by omega)
        obtain ⟨u, hu⟩ : ∃ u, u = p.getD (k0 + aa) 0 := ⟨_, rfl⟩
        rw [← hu] at hc hval
        have HV := Lib.hid hval
        clear hu hk0 hval
        have d5 := M.cell (Has.head _ _ _ _) (i := 5) rfl
        go_wp2_with (at_builtin; refine wpList_app E64 rfl (.tmp 113) (.tmp 115) rfl w.heap.size rfl (ho.alloc _) rfl (Sl.one _ _ _) (by intro u hu; simp at hu; subst hu; rfl) hb63 hb8 (by have := M.below.size; simp; omega) ?_)
        intro v9 w9 ho9 hg9 _
        have M9 := app_mem M ((Below.refl _ _).alloc (Nat.le_refl _) _) (ho.alloc _) hg9 (Nat.le_refl _) (by simp)
        obtain ⟨a9, c9, rfl, _, _⟩ := ownsRow_slice ho9
        rw [← HV.out, HT.out i] at ho9
        clear d5 ho M hg9 c0 c1 c2 c3 c4 c5
        have hf9 := M9.free (Has.head _ _ _ _) 5
        have d5 := M9.cell (Has.head _ _ _ _) (i := 5) rfl
        have ho10 := ownsRow_setCell_other (a := ⟨gC, 5, none⟩) ho9 (fun e => gown_ne (M9.has (Has.head _ _ _ _)) ho9 (by decide) _ e rfl) (.slice a9 (i + 1) c9)
        have M10 := M9.set 5 (.slice a9 (i + 1) c9) (Upd.head _ _ _ _ _) (by simp)
        clear ho9 M9
        go_wp2_with fail
        go_roundw
        case rel => exact ⟨i + 1, _, hi1, by go_num, ho10, M10⟩
        case measure => simp [intOf]; omega
    · obtain rfl : m = i := by omega
      obtain ⟨c0, c1, c2, c3, c4, c5⟩ := gcells (M.has (Has.head _ _ _ _))
      go_wp2_with ((with_reducible refine (?_ : Go.wpList _ _ _ (_ :: _) _ _)); (first | go_skip | (refine wpL_stM (v := gv cw ch NX NY s (.slice av m cv)) M rfl rfl rfl rfl (wr_g _ _ _ _ _ _ _ _ _ _ _ _ _ _) (.tail _ _ _ _ _ _ _ (Upd.head _ _ _ _ _)) ?_; intro w6 M6 hT6)))
      have ho6 := gown_turned ho (M.has (.tail _ _ _ _ _ (Has.head _ _ _ _))) (by decide) hT6
      ((try simp only [Exit.inBlock, Exit.then]); refine bodyPost_ret (res_cell_tmp rfl M6 rfl (.tail _ _ _ _ _ (Has.head _ _ _ _)) (rd_g _ _ _ _ _ _) rfl) rfl ?_)
      exact ⟨_, _, rfl, Sl.of_own ho6, M6.below⟩
end Go.Proofs.Ytnfgogfbpggnfaa
