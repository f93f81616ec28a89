/-
  A noise that is widened: the code's; the law's own.
-/
import Derived.Test.YtolneillcdaibaaNoiseE
set_option linter.unusedVariables false
set_option linter.unusedSimpArgs false
namespace Go.Proofs.Ytolneillcdaibaa
open Go Go.RowKit Go.Th Go.Th.Noise Go.Th.Expo Go.Th.Wide

theorem rd_n (s f g : Int) : Rd Try.prog 23 0 (nc s f g) (nv s f g) := Rd.agg (ds := nc s f g) Try.underlying23 rfl (by kernel_rfl) (by intro j u h; rw [Nat.zero_add]; exact h)

set_option maxRecDepth 20000 in
set_option maxHeartbeats 1600000 in
theorem amendN_no (s f g x y z p q r : Int) (g0 : Nat) (u : FrameMode) (w0 w : World) (C1 : Ans 6 #[nv s f g] (.int .i64 2)) (M : Mem w0 w [(g0, 23, nc x y z)]) :
    CallsD Try.prog 28 #[nv s f g, .pointer (some ⟨g0, 0, none⟩), nv p q r] u w fun e u' w' => u' = u ∧ (e = .returned (.tuple #[]) ∧ Mem w0 w' [(g0, 23, nc p q r)]) := by
  obtain ⟨w1, hw1⟩ : ∃ w1, (w.alloc (.cells #[.int .i64 s, .int .i64 f, .int .i64 g] 23)).alloc (.cells #[.int .i64 p, .int .i64 q, .int .i64 r] 23) = w1 := ⟨_, rfl⟩
  have M1 : Mem w0 w1 [(w.heap.size + 1, 23, nc p q r), (w.heap.size, 23, nc s f g), (g0, 23, nc x y z)] := by
    have := (M.alloc 23 (nc s f g)).alloc 23 (nc p q r)
    rw [World.size_alloc] at this
    rw [← hw1]
    exact this
  have c0 := M1.cell (Has.tail _ _ _ _ _ (Has.head _ _ _ _)) (i := 0) rfl
  have c1 := M1.cell (Has.tail _ _ _ _ _ (Has.head _ _ _ _)) (i := 1) rfl
  have c2 := M1.cell (Has.tail _ _ _ _ _ (Has.head _ _ _ _)) (i := 2) rfl
  have HW1 := Lib.hid hw1
  clear hw1
  go_enter_d Try.func28, Try.ntmps28
  go_upto_region 1 with fail
  rw [HW1.out]
  go_wp2_with fail
  refine (C1 w1).mono ?_
  rintro e w2 ⟨rfl, hA⟩
  have M2 := M1.call hA
  clear C1 hA HW1 c0 c1 c2 M1 M
  have b0 := M2.cell (Has.head _ _ _ _) (i := 0) rfl
  have b1 := M2.cell (Has.head _ _ _ _) (i := 1) rfl
  have b2 := M2.cell (Has.head _ _ _ _) (i := 2) rfl
  have M3 := M2.pick (bs' := [(g0, 23, nc x y z)]) (by simp)
  have d0 := M3.cell (Has.head _ _ _ _) (i := 0) rfl
  have d1 := M3.cell (Has.head _ _ _ _) (i := 1) rfl
  have d2 := M3.cell (Has.head _ _ _ _) (i := 2) rfl
  have e0 := M3.free (Has.head _ _ _ _) 0
  have e1 := M3.free (Has.head _ _ _ _) 1
  have e2 := M3.free (Has.head _ _ _ _) 2
  have M4 := ((M3.set 0 (.int .i64 p) (Upd.head _ _ _ _ _) (by simp)).set 1 (.int .i64 q) (Upd.head _ _ _ _ _) (by simp)).set 2 (.int .i64 r) (Upd.head _ _ _ _ _) (by simp)
  clear M2 M3
  go_wp2_with fail
  go_end0
  exact ⟨rfl, M4⟩
set_option maxRecDepth 20000 in
set_option maxHeartbeats 1600000 in
theorem amendN_yes (s f g x y z p q r : Int) (g0 : Nat) (u : FrameMode) (w0 w : World) (C1 : Ans 6 #[nv s f g] (.int .i64 0)) (M : Mem w0 w [(g0, 23, nc x y z)]) :
    CallsD Try.prog 28 #[nv s f g, .pointer (some ⟨g0, 0, none⟩), nv p q r] u w fun e u' w' => u' = u ∧ (e = .returned (.tuple #[]) ∧ Mem w0 w' [(g0, 23, nc x y z)]) := by
  obtain ⟨w1, hw1⟩ : ∃ w1, (w.alloc (.cells #[.int .i64 s, .int .i64 f, .int .i64 g] 23)).alloc (.cells #[.int .i64 p, .int .i64 q, .int .i64 r] 23) = w1 := ⟨_, rfl⟩
  have M1 : Mem w0 w1 [(w.heap.size + 1, 23, nc p q r), (w.heap.size, 23, nc s f g), (g0, 23, nc x y z)] := by
    have := (M.alloc 23 (nc s f g)).alloc 23 (nc p q r)
    rw [World.size_alloc] at this
    rw [← hw1]
    exact this
  have c0 := M1.cell (Has.tail _ _ _ _ _ (Has.head _ _ _ _)) (i := 0) rfl
  have c1 := M1.cell (Has.tail _ _ _ _ _ (Has.head _ _ _ _)) (i := 1) rfl
  have c2 := M1.cell (Has.tail _ _ _ _ _ (Has.head _ _ _ _)) (i := 2) rfl
  have HW1 := Lib.hid hw1
  clear hw1
  go_enter_d Try.func28, Try.ntmps28
  go_upto_region 1 with fail
  rw [HW1.out]
  go_wp2_with fail
  refine (C1 w1).mono ?_
  rintro e w2 ⟨rfl, hA⟩
  have M2 := (M1.call hA).pick (bs' := [(g0, 23, nc x y z)]) (by simp)
  clear C1 hA HW1 c0 c1 c2 M1 M
  go_wp2_with fail
  go_end0
  exact ⟨rfl, M2⟩
theorem amendN_any (s f g x y z p q r : Int) (g0 : Nat) (u : FrameMode) (w0 w : World) (M : Mem w0 w [(g0, 23, nc x y z)]) :
    CallsD Try.prog 28 #[nv s f g, .pointer (some ⟨g0, 0, none⟩), nv p q r] u w fun e u' w' => u' = u ∧ (e = .returned (.tuple #[]) ∧ Mem w0 w' [(g0, 23, if okN s f g = true then nc x y z else nc p q r)]) := by
  have C := ncheck_any s f g
  unfold ncode at C
  cases h : okN s f g
  · rw [h, if_neg (by decide)] at C
    rw [if_neg (by decide)]
    exact amendN_no s f g x y z p q r g0 u w0 w C M
  · rw [h, if_pos rfl] at C
    rw [if_pos rfl]
    exact amendN_yes s f g x y z p q r g0 u w0 w C M

set_option maxRecDepth 20000 in
set_option maxHeartbeats 3200000 in
theorem widen_go (s f g r m t T x y z : Int) (hm : min (max r 0) 1048576 = m) (ht : wrap64 (s + m) = t) (hT : min t 1048576 = T)
    (C4 : ∀ (g0 : Nat) (u : FrameMode) (w0 w : World), Mem w0 w [(g0, 23, nc T f g)] →
      CallsD Try.prog 28 #[nv s f g, .pointer (some ⟨g0, 0, none⟩), nv 0 0 0] u w fun e u' w' => u' = u ∧ (e = .returned (.tuple #[]) ∧ Mem w0 w' [(g0, 23, nc x y z)])) :
    Ans 18 #[nv s f g, .int .i64 r] (nv x y z) := by
  intro w
  obtain ⟨w1, hw1⟩ : ∃ w1, (w.alloc (.cells #[.int .i64 s, .int .i64 f, .int .i64 g] 23)).alloc (.cells #[.int .i64 0, .int .i64 0, .int .i64 0] 23) = w1 := ⟨_, rfl⟩
  have M1 : Mem w w1 [(w.heap.size + 1, 23, nc 0 0 0), (w.heap.size, 23, nc s f g)] := by
    have := ((Mem.start w).alloc 23 (nc s f g)).alloc 23 (nc 0 0 0)
    rw [World.size_alloc] at this
    rw [← hw1]
    exact this
  have a0 := M1.cell (Has.tail _ _ _ _ _ (Has.head _ _ _ _)) (i := 0) rfl
  have a1 := M1.cell (Has.tail _ _ _ _ _ (Has.head _ _ _ _)) (i := 1) rfl
  have a2 := M1.cell (Has.tail _ _ _ _ _ (Has.head _ _ _ _)) (i := 2) rfl
  have b0 := M1.cell (Has.head _ _ _ _) (i := 0) rfl
  have b1 := M1.cell (Has.head _ _ _ _) (i := 1) rfl
  have b2 := M1.cell (Has.head _ _ _ _) (i := 2) rfl
  have e0 := M1.free (Has.head _ _ _ _) 0
  have e1 := M1.free (Has.head _ _ _ _) 1
  have e2 := M1.free (Has.head _ _ _ _) 2
  have HW1 := Lib.hid hw1
  clear hw1
  go_enter_defers Try.func18, Try.ntmps18
  go_upto_region 1 with fail
  rw [HW1.out]
  go_wp2_with fail
  have M5 := ((M1.set 0 (.int .i64 s) (Upd.head _ _ _ _ _) (by simp)).set 1 (.int .i64 f) (Upd.head _ _ _ _ _) (by simp)).set 2 (.int .i64 g) (Upd.head _ _ _ _ _) (by simp)
  have M6 := (((M5.set 0 (.int .i64 T) (Upd.head _ _ _ _ _) (by simp)).set 0 (.int .i64 T) (Upd.head _ _ _ _ _) (by simp)).set 1 (.int .i64 f) (Upd.head _ _ _ _ _) (by simp)).set 2 (.int .i64 g) (Upd.head _ _ _ _ _) (by simp)
  have M7 := M6.pick (bs' := [(w.heap.size + 1, 23, nc T f g)]) (by simp)
  refine leaves_cons (f := 28) (args := #[nv s f g, .pointer (some ⟨w.heap.size + 1, 0, none⟩), nv 0 0 0]) (by simp) (by simp [go_sem]) ?_
  refine (C4 _ _ _ _ M7).mono ?_
  rintro e u' w'' ⟨rfl, rfl, M8⟩
  exact ⟨_, res_cell rfl M8 rfl (Has.head _ _ _ _) (rd_n _ _ _), rfl, M8.below⟩
end Go.Proofs.Ytolneillcdaibaa
