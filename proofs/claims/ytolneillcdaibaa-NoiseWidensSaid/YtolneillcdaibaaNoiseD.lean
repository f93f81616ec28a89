/-
  How much a difference is to be believed: the code's; what it defers.
-/
import Derived.Test.YtolneillcdaibaaNoiseA
import Derived.Test.YtolneillcdaibaaPackExpoA
import Derived.Test.YtolneillcdaibaaPackWide
import Derived.Defers
import Derived.Deep.Cut
set_option linter.unusedVariables false
set_option linter.unusedSimpArgs false
namespace Go.Proofs.Ytolneillcdaibaa
open Go Go.RowKit Go.Th Go.Th.Noise Go.Th.Expo Go.Th.Wide

theorem rd_i (x : Int) : Rd Try.prog 2 0 [.int .i64 x] (.int .i64 x) := Rd.one Try.underlying2 rfl rfl

set_option maxRecDepth 20000 in
set_option maxHeartbeats 1600000 in
/-- What is deferred, of a wrong noise: what was counted is put right. -/
theorem amend_no (s f g x r : Int) (g0 : Nat) (u : FrameMode) (w0 w : World) (C1 : Ans 6 #[nv s f g] (.int .i64 2)) (M : Mem w0 w [(g0, 2, [.int .i64 x])]) :
    CallsD Try.prog 23 #[nv s f g, .pointer (some ⟨g0, 0, none⟩), .int .i64 r] u w fun e u' w' => u' = u ∧ (e = .returned (.tuple #[]) ∧ Mem w0 w' [(g0, 2, [.int .i64 r])]) := by
  obtain ⟨w1, hw1⟩ : ∃ w1, (w.alloc (.cells #[.int .i64 s, .int .i64 f, .int .i64 g] 23)) = w1 := ⟨_, rfl⟩
  have M1 := (M.alloc 23 (nc s f g)).pick (bs' := [(w.heap.size, 23, nc s f g), (g0, 2, [.int .i64 x])]) (List.Sublist.refl _)
  rw [show w.alloc (.cells (nc s f g).toArray 23) = w1 from hw1] at M1
  have K1 : Blk w1 w.heap.size 23 (nc s f g) := M1.has (Has.head _ _ _ _)
  have c0 := K1.cell (i := 0) rfl
  have c1 := K1.cell (i := 1) rfl
  have c2 := K1.cell (i := 2) rfl
  have HW1 := Lib.hid hw1
  clear hw1
  go_enter_d Try.func23, Try.ntmps23
  go_upto_region 1 with fail
  rw [HW1.out]
  go_wp2_with fail
  refine (C1 w1).mono ?_
  rintro e w2 ⟨rfl, hA⟩
  have M2 := M1.call hA
  clear C1 hA K1 HW1 c0 c1 c2 M1 M
  have d0 := M2.cell (Has.tail _ _ _ _ _ (Has.head _ _ _ _)) (i := 0) rfl
  have d1 := M2.free (Has.tail _ _ _ _ _ (Has.head _ _ _ _)) 0
  go_wp2_with fail
  go_end0
  exact ⟨rfl, (M2.set 0 (.int .i64 r) (Upd.tail _ _ _ _ _ _ _ (Upd.head _ _ _ _ _)) (by simp)).drop⟩
set_option maxRecDepth 20000 in
set_option maxHeartbeats 1600000 in
theorem amend_yes (s f g x r : Int) (g0 : Nat) (u : FrameMode) (w0 w : World) (C1 : Ans 6 #[nv s f g] (.int .i64 0)) (M : Mem w0 w [(g0, 2, [.int .i64 x])]) :
    CallsD Try.prog 23 #[nv s f g, .pointer (some ⟨g0, 0, none⟩), .int .i64 r] u w fun e u' w' => u' = u ∧ (e = .returned (.tuple #[]) ∧ Mem w0 w' [(g0, 2, [.int .i64 x])]) := by
  obtain ⟨w1, hw1⟩ : ∃ w1, (w.alloc (.cells #[.int .i64 s, .int .i64 f, .int .i64 g] 23)) = w1 := ⟨_, rfl⟩
  have M1 := (M.alloc 23 (nc s f g)).pick (bs' := [(w.heap.size, 23, nc s f g), (g0, 2, [.int .i64 x])]) (List.Sublist.refl _)
  rw [show w.alloc (.cells (nc s f g).toArray 23) = w1 from hw1] at M1
  have K1 : Blk w1 w.heap.size 23 (nc s f g) := M1.has (Has.head _ _ _ _)
  have c0 := K1.cell (i := 0) rfl
  have c1 := K1.cell (i := 1) rfl
  have c2 := K1.cell (i := 2) rfl
  have HW1 := Lib.hid hw1
  clear hw1
  go_enter_d Try.func23, Try.ntmps23
  go_upto_region 1 with fail
  rw [HW1.out]
  go_wp2_with fail
  refine (C1 w1).mono ?_
  rintro e w2 ⟨rfl, hA⟩
  have M2 := M1.call hA
  clear C1 hA K1 HW1 c0 c1 c2 M1 M
  go_wp2_with fail
  go_end0
  exact ⟨rfl, M2.drop⟩
theorem amend_any (s f g x r : Int) (g0 : Nat) (u : FrameMode) (w0 w : World) (M : Mem w0 w [(g0, 2, [.int .i64 x])]) :
    CallsD Try.prog 23 #[nv s f g, .pointer (some ⟨g0, 0, none⟩), .int .i64 r] u w fun e u' w' => u' = u ∧ (e = .returned (.tuple #[]) ∧ Mem w0 w' [(g0, 2, [.int .i64 (if okN s f g = true then x else r)])]) := by
  have C := ncheck_any s f g
  unfold ncode at C
  cases h : okN s f g
  · rw [h, if_neg (by decide)] at C
    exact amend_no s f g x r g0 u w0 w C M
  · rw [h, if_pos rfl] at C
    exact amend_yes s f g x r g0 u w0 w C M

set_option maxRecDepth 20000 in
set_option maxHeartbeats 1600000 in
/-- What Power defers. -/
theorem powerD_go (s f g d p : Int) (g0 g1 g2 : Nat) (b1 b2 : Bool) (u : FrameMode) (w0 w : World) (hb1 : decide (2621440 < p) = b1) (C1 : Ans 21 #[nv s f g, .int .i64 d, .int .i64 32] (.bool b2)) (M : Mem w0 w [(g0, 2, [.int .i64 p]), (g2, 2, [.int .i64 d]), (g1, 23, nc s f g)]) :
    CallsD Try.prog 20 #[.pointer (some ⟨g0, 0, none⟩), .pointer (some ⟨g1, 0, none⟩), .pointer (some ⟨g2, 0, none⟩)] u w fun e u' w' => u' = u ∧ (e = .returned (.tuple #[]) ∧ Mem w0 w' [(g0, 2, [.int .i64 (if (b1 || !b2) = true then 2621440 else p)])]) := by
  have sub : [(g0, 2, [Value.int .i64 p])].Sublist [(g0, 2, [.int .i64 p]), (g2, 2, [.int .i64 d]), (g1, 23, nc s f g)] := by simp
  have a0 := M.cell (Has.head _ _ _ _) (i := 0) rfl
  have f0 := M.free (Has.head _ _ _ _) 0
  have a2 := M.cell (Has.tail _ _ _ _ _ (Has.head _ _ _ _)) (i := 0) rfl
  have a10 := M.cell (Has.tail _ _ _ _ _ (Has.tail _ _ _ _ _ (Has.head _ _ _ _))) (i := 0) rfl
  have a11 := M.cell (Has.tail _ _ _ _ _ (Has.tail _ _ _ _ _ (Has.head _ _ _ _))) (i := 1) rfl
  have a12 := M.cell (Has.tail _ _ _ _ _ (Has.tail _ _ _ _ _ (Has.head _ _ _ _))) (i := 2) rfl
  go_enter_d Try.func20, Try.ntmps20
  cases b1
  · have h1 := of_decide_eq_false hb1
    clear hb1
    go_wp2_with fail
    refine (C1 w).mono ?_
    rintro e w2 ⟨rfl, hA⟩
    have M2 := (M.call hA).pick sub
    clear C1 hA a0 a2 a10 a11 a12 f0 M
    have a0 := M2.cell (Has.head _ _ _ _) (i := 0) rfl
    have f0 := M2.free (Has.head _ _ _ _) 0
    cases b2
    · go_wp2_with fail
      go_end0
      exact ⟨rfl, M2.set 0 (.int .i64 2621440) (Upd.head _ _ _ _ _) (by simp)⟩
    · go_wp2_with fail
      go_end0
      exact ⟨rfl, M2⟩
  · have h1 := of_decide_eq_true hb1
    clear hb1
    go_wp2_with fail
    go_end0
    exact ⟨rfl, (M.pick sub).set 0 (.int .i64 2621440) (Upd.head _ _ _ _ _) (by simp)⟩

set_option maxRecDepth 20000 in
set_option maxHeartbeats 3200000 in
theorem power_go (s f g d a b p c R : Int) (ha : wrap64 (d * d) = a) (hb : wrap64 (s * s) = b) (C1 : Ans 22 #[.int .i64 a, .int .i64 47274, .int .i64 b, .int .i64 2] (.tuple #[.int .i64 p, .int .i64 c]))
    (C2 : ∀ (g0 g1 g2 : Nat) (u : FrameMode) (w0 w : World), Mem w0 w [(g0, 2, [.int .i64 p]), (g2, 2, [.int .i64 d]), (g1, 23, nc s f g)] →
      CallsD Try.prog 20 #[.pointer (some ⟨g0, 0, none⟩), .pointer (some ⟨g1, 0, none⟩), .pointer (some ⟨g2, 0, none⟩)] u w fun e u' w' => u' = u ∧ (e = .returned (.tuple #[]) ∧ Mem w0 w' [(g0, 2, [.int .i64 R])])) :
    Ans 8 #[nv s f g, .int .i64 d] (.int .i64 R) := by
  intro w
  have hmf : ∀ (fn : Fn) (first cap : Array Value) (w : World), (Instr.makeFunc fn first cap).run Try.prog w = .ok (.func fn first cap) w := fun _ _ _ _ => rfl
  obtain ⟨w1, hw1⟩ : ∃ w1, ((w.alloc (.cells #[.int .i64 s, .int .i64 f, .int .i64 g] 23)).alloc (.cells #[.int .i64 d] 2)).alloc (.cells #[.int .i64 0] 2) = w1 := ⟨_, rfl⟩
  have M1 : Mem w w1 [(w.heap.size + 2, 2, [.int .i64 0]), (w.heap.size + 1, 2, [.int .i64 d]), (w.heap.size, 23, nc s f g)] := by
    have := (((Mem.start w).alloc 23 (nc s f g)).alloc 2 [.int .i64 d]).alloc 2 [.int .i64 0]
    rw [World.size_alloc, World.size_alloc] at this
    rw [← hw1]
    exact this
  have a0 := M1.cell (Has.head _ _ _ _) (i := 0) rfl
  have f0 := M1.free (Has.head _ _ _ _) 0
  have a2 := M1.cell (Has.tail _ _ _ _ _ (Has.head _ _ _ _)) (i := 0) rfl
  have a10 := M1.cell (Has.tail _ _ _ _ _ (Has.tail _ _ _ _ _ (Has.head _ _ _ _))) (i := 0) rfl
  have HW1 := Lib.hid hw1
  clear hw1
  go_enter_defers Try.func8, Try.ntmps8
  go_upto_region 1 with fail
  rw [HW1.out]
  go_wp2_with fail
  refine (C1 w1).mono ?_
  rintro e w2 ⟨rfl, hA⟩
  have M2 := M1.call hA
  clear C1 hA a0 a2 a10 f0 M1
  have a0 := M2.cell (Has.head _ _ _ _) (i := 0) rfl
  have f0 := M2.free (Has.head _ _ _ _) 0
  have M3 := (M2.set 0 (.int .i64 p) (Upd.head _ _ _ _ _) (by simp)).set 0 (.int .i64 p) (Upd.head _ _ _ _ _) (by simp)
  clear M2
  go_wp2_with fail
  refine leaves_cons (f := 20) (args := #[.pointer (some ⟨w.heap.size + 2, 0, none⟩), .pointer (some ⟨w.heap.size, 0, none⟩), .pointer (some ⟨w.heap.size + 1, 0, none⟩)]) (by simp) (by simp [go_sem]) ?_
  refine (C2 _ _ _ _ _ _ M3).mono ?_
  rintro e u' w'' ⟨rfl, rfl, M4⟩
  exact ⟨_, res_cell rfl M4 rfl (Has.head _ _ _ _) (rd_i _), rfl, M4.below⟩
end Go.Proofs.Ytolneillcdaibaa
