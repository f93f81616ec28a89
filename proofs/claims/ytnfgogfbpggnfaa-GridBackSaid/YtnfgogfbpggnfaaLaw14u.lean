/-
  What the calls of the law's example answer.
-/
import Derived.Test.YtnfgogfbpggnfaaGridD
import Derived.Test.YtnfgogfbpggnfaaGridF
import Derived.Test.YtnfgogfbpggnfaaGridH
import Derived.Test.YtnfgogfbpggnfaaGridI
import Derived.Test.YtnfgogfbpggnfaaGridJ
import Derived.Test.YtnfgogfbpggnfaaGridK
import Derived.Test.YtnfgogfbpggnfaaGridM
import Derived.Test.YtnfgogfbpggnfaaGridRA
set_option linter.unusedVariables false
set_option linter.unusedSimpArgs false
namespace Go.Proofs.Ytnfgogfbpggnfaa
open Go Go.RowKit Go.Th Go.Th.Grid Go.Th.Wide

theorem even4 : ([268435456, 268435456, 268435456, 268435456] : List Int) = even 4 := by decide
theorem ev_rng : ∀ u ∈ ([268435456, 268435456, 268435456, 268435456] : List Int), 0 ≤ u ∧ u ≤ 1073741824 := by decide
theorem sd22 : sdG ((2 : Nat) : Int) ((2 : Nat) : Int) = true := sdG_of ⟨⟨by decide, by decide⟩, by decide, by decide⟩
theorem lst_len (l : List Int) (n : Nat) (h : l.length = n) : l.length = n := h

theorem w1 (w : World) : Calls Try.prog 11 #[.int .i64 2, .int .i64 2, .int .i64 100, .int .i64 200, .int .i64 64] w (GSaid 2 2 100 200 64 4 [268435456, 268435456, 268435456, 268435456] 0 w) := by
  rw [even4]
  exact (even_yes 2 2 4 100 200 64 (by decide) rfl w).mono fun _ _ h => h.said
theorem w2 (a : Option Addr) (cap : Nat) (al : Option Addr) (capl : Nat) (w : World) (h1 : Sl w 1 (.slice a 4 cap) 4 (i64s [268435456, 268435456, 268435456, 268435456])) (h2 : Sl w 1 (.slice al 4 capl) 4 (i64s [0, 0, 0, 7])) :
    Calls Try.prog 21 #[gv 2 2 100 200 64 (.slice a 4 cap), .slice al 4 capl] w (WRes 2 2 100 200 64 4 [0, 0, 0, 1073741824] 1879048192 7 0 w) := by
  have h := weigh_any 2 2 100 200 64 a al 4 cap capl [268435456, 268435456, 268435456, 268435456] [0, 0, 0, 7] rfl rfl (by omega) ev_rng (by decide) w h1 h2
  rw [show wgh [268435456, 268435456, 268435456, 268435456] [0, 0, 0, 7] = [0, 0, 0, 1073741824] by decide +kernel, show sm (wd [268435456, 268435456, 268435456, 268435456] [0, 0, 0, 7]) = 1879048192 by decide +kernel, show mxl [0, 0, 0, 7] = 7 by decide +kernel, show normC (wd [268435456, 268435456, 268435456, 268435456] [0, 0, 0, 7]) = 0 by decide +kernel] at h
  exact h
theorem w3 (a : Option Addr) (cap : Nat) (w : World) (h1 : Sl w 1 (.slice a 4 cap) 4 (i64s [0, 0, 0, 1073741824])) : Calls Try.prog 17 #[gv 2 2 100 200 64 (.slice a 4 cap), .int .i64 64] w (GSaid 2 2 100 200 64 4 [67108864, 201326592, 201326592, 603979776] 0 w) := by
  have h := spread_yes 2 2 100 200 64 64 a 4 cap [0, 0, 0, 1073741824] rfl rfl sd22 (by decide) (by decide) w h1
  rw [show spread [0, 0, 0, 1073741824] 2 2 64 = [67108864, 201326592, 201326592, 603979776] by decide +kernel] at h
  exact h.mono fun _ _ h => h.said
theorem w4 (a : Option Addr) (cap : Nat) (w : World) (h1 : Sl w 1 (.slice a 4 cap) 4 (i64s [268435456, 268435456, 268435456, 268435456])) : Calls Try.prog 27 #[gv 2 2 100 200 64 (.slice a 4 cap)] w (GSaid 4 4 84 184 32 16 (List.replicate 16 67108864) 0 w) := by
  have h := split14_yes 2 2 4 4 16 16 32 64 100 200 84 184 a 4 cap [268435456, 268435456, 268435456, 268435456] rfl rfl sd22 (by omega) (by omega) ev_rng rfl (by omega) rfl (by omega) (by omega) rfl rfl rfl (by omega) (by omega) w h1
  rw [show tab (splitAt4 [268435456, 268435456, 268435456, 268435456] 2) 16 = List.replicate 16 67108864 by decide +kernel] at h
  exact h.mono fun _ _ h => h.said
theorem w5 (a : Option Addr) (cap : Nat) (w : World) (h1 : Sl w 1 (.slice a 16 cap) 16 (i64s (List.replicate 16 67108864))) : Calls Try.prog 29 #[gv 4 4 84 184 32 (.slice a 16 cap)] w (GSaid 2 2 100 200 64 4 [268435456, 268435456, 268435456, 268435456] 0 w) := by
  have h := join14_yes 4 4 2 2 4 16 64 32 84 184 100 200 a 16 cap (List.replicate 16 67108864) rfl rfl (sdG_of ⟨⟨by decide, by decide⟩, by decide, by decide⟩) (by decide +kernel) rfl rfl rfl (by omega) rfl (by omega) (by omega) rfl (by omega) (by omega) w h1
  rw [show tab (joinAt (List.replicate 16 67108864) 4) 4 = [268435456, 268435456, 268435456, 268435456] by decide +kernel] at h
  exact h.mono fun _ _ h => h.said
theorem w6 (a : Option Addr) (cap : Nat) (w : World) (h1 : Sl w 1 (.slice a 4 cap) 4 (i64s [268435456, 268435456, 268435456, 268435456])) : Calls Try.prog 25 #[gv 2 2 100 200 64 (.slice a 4 cap), .int .i64 1, .int .i64 1, .int .i64 2, .int .i64 1] w (GSaid 2 1 164 264 64 2 [268435456, 0] 0 w) := by
  have h := cut14_yes 2 2 2 1 2 100 200 64 1 1 64 64 164 264 a 4 cap [268435456, 268435456, 268435456, 268435456] rfl rfl sd22 (sdG_of ⟨⟨by decide, by decide⟩, by decide, by decide⟩) (by decide) (by decide) (by omega) (by omega) (by omega) rfl (by omega) (by omega) (by omega) (by omega) w h1
  rw [show tab (cutAt [268435456, 268435456, 268435456, 268435456] 2 2 1 1 2) 2 = [268435456, 0] by decide +kernel] at h
  exact h.mono fun _ _ h => h.said
theorem w7 (w : World) : Calls Try.prog 11 #[.int .i64 65, .int .i64 1, .int .i64 0, .int .i64 0, .int .i64 64] w (GSaid 0 0 0 0 0 0 [] 2 w) :=
  (even_no 65 1 0 0 64 (by decide) w).mono fun _ _ h => h.said
theorem w8 (a : Option Addr) (cap : Nat) (al : Option Addr) (capl : Nat) (w : World) (h1 : Sl w 1 (.slice a 4 cap) 4 (i64s [268435456, 268435456, 268435456, 268435456])) (h2 : Sl w 1 (.slice al 4 capl) 4 (i64s [0, 0, 0, 0])) :
    Calls Try.prog 21 #[gv 2 2 100 200 64 (.slice a 4 cap), .slice al 4 capl] w (WRes 2 2 100 200 64 4 [268435456, 268435456, 268435456, 268435456] 0 0 7 w) := by
  have h := weigh_any 2 2 100 200 64 a al 4 cap capl [268435456, 268435456, 268435456, 268435456] [0, 0, 0, 0] rfl rfl (by omega) ev_rng (by decide) w h1 h2
  rw [show wgh [268435456, 268435456, 268435456, 268435456] [0, 0, 0, 0] = [268435456, 268435456, 268435456, 268435456] by decide +kernel, show sm (wd [268435456, 268435456, 268435456, 268435456] [0, 0, 0, 0]) = 0 by decide +kernel, show mxl [0, 0, 0, 0] = 0 by decide +kernel, show normC (wd [268435456, 268435456, 268435456, 268435456] [0, 0, 0, 0]) = 7 by decide +kernel] at h
  exact h
theorem w9 (a : Option Addr) (cap : Nat) : Ans 31 #[gv 2 2 100 200 64 (.slice a 4 cap), .int .i64 3] (.tuple #[.agg #[.int .i64 164, .int .i64 264], .bool true]) :=
  at_any 2 2 64 100 200 3 164 264 true a 4 cap rfl sd22 (by omega) (by omega) (by omega) (by decide) (fun h => by cases h) (fun _ => by decide)
theorem w10 (a : Option Addr) (cap : Nat) (w : World) (h1 : Sl w 1 (.slice a 2 cap) 2 (i64s [268435456, 0])) : Calls Try.prog 14 #[gv 2 1 164 264 64 (.slice a 2 cap)] w (GSaid 2 1 164 264 64 2 [1073741824, 0] 0 w) := by
  have h := gnorm_any 2 1 164 264 64 a 2 cap [268435456, 0] rfl (by omega) (by decide) (by decide) w h1
  rw [show norm [268435456, 0] = [1073741824, 0] by decide +kernel, show normC [268435456, 0] = 0 by decide +kernel] at h
  exact h.mono fun _ _ h => h.said
theorem w11 : Ans 24 #[.int .i64 1879048192] (wv 0 1879048192) := by
  intro w
  have h := Of_any 1879048192 (by omega) w
  rw [show hiZ 1879048192 = 0 by decide +kernel, show loZ 1879048192 = 1879048192 by decide +kernel] at h
  exact h
theorem w12 (a : Option Addr) (ca : Nat) (b : Option Addr) (cb : Nat) (w : World) (h1 : Sl w 1 (.slice a 4 ca) 4 (i64s [268435456, 268435456, 268435456, 268435456])) (h2 : Sl w 1 (.slice b 4 cb) 4 (i64s [268435456, 268435456, 268435456, 268435456])) : Calls Try.prog 13 #[gv 2 2 100 200 64 (.slice a 4 ca), gv 2 2 100 200 64 (.slice b 4 cb)] w fun e w' => e = .returned (.bool true) ∧ Below w.heap.size w w' :=
  rsame_any 2 2 100 200 64 a b 4 ca cb _ rfl (by omega) w h1 h2
theorem w13 (a : Option Addr) (cap : Nat) (w : World) (h1 : Sl w 1 (.slice a 4 cap) 4 (i64s [268435456, 268435456, 268435456, 268435456])) : Calls Try.prog 9 #[gv 2 2 100 200 64 (.slice a 4 cap)] w fun e w' => e = .returned (.int .i64 0) ∧ Below w.heap.size w w' := by
  have h := gcheck_any 2 2 100 200 64 a 4 cap [268435456, 268435456, 268435456, 268435456] rfl (by omega) w h1
  rw [show chk 2 2 64 [268435456, 268435456, 268435456, 268435456] = 0 by decide +kernel] at h
  exact h
theorem w14 (a : Option Addr) (cap : Nat) (w : World) (h1 : Sl w 1 (.slice a 4 cap) 4 (i64s [268435456, 268435456, 268435456, 268435456])) : Calls Try.prog 32 #[gv 2 2 100 200 64 (.slice a 4 cap)] w fun e w' => e = .returned (.int .i64 1073741824) ∧ Below w.heap.size w w' := by
  have h := gsum_any 2 2 100 200 64 a 4 cap [268435456, 268435456, 268435456, 268435456] rfl (sm_fits (by decide) (by decide)) w h1
  rw [show sm [268435456, 268435456, 268435456, 268435456] = 1073741824 by decide +kernel] at h
  exact h
theorem w15 (a : Option Addr) (cap : Nat) (w : World) (h1 : Sl w 1 (.slice a 4 cap) 4 (i64s [268435456, 268435456, 268435456, 268435456])) : Calls Try.prog 33 #[gv 2 2 100 200 64 (.slice a 4 cap), .int .i64 1, .int .i64 2] w fun e w' => ∃ a' cap', e = .returned (gv 2 2 101 202 64 (.slice a' 4 cap')) ∧ Below w.heap.size w w' :=
  (move_any 2 2 100 200 64 1 2 101 202 a 4 cap [268435456, 268435456, 268435456, 268435456] rfl (by omega) rfl rfl (by omega) (by omega) w h1).mono fun _ _ ⟨a', c', h, _, hB⟩ => ⟨a', c', h, hB⟩
theorem w16 (a : Option Addr) (cap : Nat) : Ans 34 #[gv 2 2 100 200 64 (.slice a 4 cap)] (.int .i64 4) :=
  glen_any 2 2 100 200 64 4 a 4 cap (by decide +kernel)
end Go.Proofs.Ytnfgogfbpggnfaa
