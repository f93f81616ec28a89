/-
  Layer 14's laws: the law's grid is a right one; what comes in too long; the walks put together.
-/
import Derived.Test.YtnfgogfbpggnfaaLaw14m
import Derived.Test.YtnfgogfbpggnfaaLaw14b
import Derived.Test.YtnfgogfbpggnfaaLaw14c
import Derived.Test.YtnfgogfbpggnfaaLaw14d
import Derived.Test.YtnfgogfbpggnfaaLaw14e
import Derived.Test.YtnfgogfbpggnfaaGridD
import Derived.Test.YtnfgogfbpggnfaaGridF
import Derived.Test.YtnfgogfbpggnfaaGridH
import Derived.Test.YtnfgogfbpggnfaaGridI
import Derived.Test.YtnfgogfbpggnfaaGridJ
import Derived.Test.YtnfgogfbpggnfaaGridM
import Derived.Test.YtnfgogfbpggnfaaGridRC
import Derived.Test.YtnfgogfbpggnfaaGridRE
import Derived.Test.YtnfgogfbpggnfaaGridRF
import Derived.Test.YtnfgogfbpggnfaaGridRG
set_option linter.unusedVariables false
set_option linter.unusedSimpArgs false
namespace Go.Proofs.Ytnfgogfbpggnfaa
open Go Go.RowKit Go.Th Go.Th.Grid Go.Th.Wide

structure Right (G : List Int) (x y n S : Nat) : Prop where
  len : G.length = n
  rng : ∀ u ∈ G, 0 ≤ u ∧ u ≤ 1073741824
  sum : 0 ≤ sm G ∧ sm G ≤ 1073741824
  chk : chk x y S G = 0
  sd : sdG x y = true
theorem right_made {z : List Int} (hz : ∀ u ∈ z, 0 ≤ u ∧ u ≤ 65535) {x y n S : Nat} (hx : 1 ≤ x ∧ x ≤ 8) (hy : 1 ≤ y ∧ y ≤ 8) (hn : n = x * y) (hS : 16 ≤ S ∧ S ≤ 4096) : Right (norm (madeL z n)) x y n S := by
  have hpos : 0 < x * y := Nat.mul_pos (by omega) (by omega)
  have hl : (norm (madeL z n)).length = n := by rw [norm_length, madeL_length]
  have hs := madeL_sm hz (n := n) (by omega)
  have hc : chk x y S (norm (madeL z n)) = 0 := chk_norm (sidesG_iff.2 ⟨by omega, by omega, by omega⟩) (by rw [madeL_length, hn]; simp) (fun u hu => (madeL_rng hz n u hu).1) (by omega)
  obtain ⟨_, _, h3, h4, h5⟩ := chk_ok hc
  exact ⟨hl, h3, ⟨sm_pos (fun u hu => (h3 u hu).1), h5⟩, hc, sdG_of ⟨⟨by omega, by omega⟩, by omega, by omega⟩⟩
theorem stepN_rng (st : Nat) : (16 ≤ stepN st ∧ stepN st ≤ 4096) ∧ stepN st = 4 * (stepN st / 4) ∧ stepN st = 2 * (stepN st / 2) := by
  unfold stepN
  have h9 : st % 9 < 9 := Nat.mod_lt _ (by omega)
  obtain ⟨r, hr⟩ : ∃ r, r = st % 9 := ⟨_, rfl⟩
  rw [← hr] at h9 ⊢
  match r, h9 with
  | 0, _ => decide
  | 1, _ => decide
  | 2, _ => decide
  | 3, _ => decide
  | 4, _ => decide
  | 5, _ => decide
  | 6, _ => decide
  | 7, _ => decide
  | 8, _ => decide
theorem sums_of {G : List Int} {n : Nat} (hl : G.length = n) (h0 : ∀ u ∈ G, 0 ≤ u) (hs : sm G ≤ 9223372036854775807) : ∀ a cap w, Sl w 1 (.slice a n cap) n (i64s G) → Calls Try.prog 19 #[.slice a n cap] w fun e w' => e = .returned (.int .i64 (sm G)) ∧ w = w' :=
  fun a cap w hS => refSumG_any a n cap G hl (sm_fits h0 hs) w hS

section
variable (C0 : Ans 8 #[] (.bool true))
include C0
theorem spreads_big (p q k capl : Nat) (al : Option Addr) (Q : Int) (hk : (100 : Int) < (k : Int)) (hk2 : k ≤ 9223372036854775807) (w : World) :
    Calls Try.prog 4 #[.int .u8 p, .int .u8 q, .slice al k capl, .int .i64 Q] w fun e w' => e = .returned (.bool true) ∧ Below w.heap.size w w' := by
  go_enter Try.func4, Try.ntmps4
  go_wp2_with fail
  refine (C0 _).mono ?_
  rintro e w1 ⟨rfl, hB⟩
  go_wp2_with fail
  go_ret
  exact ⟨rfl, hB⟩
theorem back_big (p q st k capl : Nat) (al : Option Addr) (hk : (100 : Int) < (k : Int)) (hk2 : k ≤ 9223372036854775807) (w : World) :
    Calls Try.prog 7 #[.int .u8 p, .int .u8 q, .slice al k capl, .int .u8 st] w fun e w' => e = .returned (.bool true) ∧ Below w.heap.size w w' := by
  go_enter Try.func7, Try.ntmps7
  go_wp2_with fail
  refine (C0 _).mono ?_
  rintro e w1 ⟨rfl, hB⟩
  go_wp2_with fail
  go_ret
  exact ⟨rfl, hB⟩
theorem cuts_big (p q st k capl : Nat) (al : Option Addr) (cx cy cw ch i : Int) (hk : (100 : Int) < (k : Int)) (hk2 : k ≤ 9223372036854775807) (w : World) :
    Calls Try.prog 6 #[.int .u8 p, .int .u8 q, .slice al k capl, .int .u8 st, .int .i64 cx, .int .i64 cy, .int .i64 cw, .int .i64 ch, .int .i64 i] w fun e w' => e = .returned (.bool true) ∧ Below w.heap.size w w' := by
  go_enter Try.func6, Try.ntmps6
  go_wp2_with fail
  refine (C0 _).mono ?_
  rintro e w1 ⟨rfl, hB⟩
  go_wp2_with fail
  go_ret
  exact ⟨rfl, hB⟩
theorem checks_big (x y X Y s W H X2 Y2 S2 : Int) (n cap : Nat) (a : Option Addr) (hn : (5000 : Int) < (n : Int)) (hn2 : n ≤ 9223372036854775807) (w : World) :
    Calls Try.prog 3 #[gv x y X Y s (.slice a n cap), .int .i64 W, .int .i64 H, .int .i64 X2, .int .i64 Y2, .int .i64 S2] w fun e w' => e = .returned (.bool true) ∧ Below w.heap.size w w' := by
  (obtain ⟨w1, hw1⟩ : ∃ w1, w.alloc (.cells #[.int .i64 x, .int .i64 y, .int .i64 X, .int .i64 Y, .int .i64 s, .slice a n cap] 24) = w1 := ⟨_, rfl⟩; have M1 := (Mem.start w).alloc 24 (gc x y X Y s (.slice a n cap)); rw [show w.alloc (.cells (gc x y X Y s (.slice a n cap)).toArray 24) = w1 from hw1] at M1; have HW1 := Lib.hid hw1; clear hw1)
  go_enter Try.func3, Try.ntmps3
  ((go_upto_region 1 with fail); rw [HW1.out]; clear HW1; obtain ⟨gA, hgA⟩ : ∃ gA, gA = w.heap.size := ⟨_, rfl⟩; rw [← hgA] at M1 ⊢; clear hgA)
  have c5 := M1.cell (Has.head _ _ _ _) (i := 5) rfl
  go_wp2_with fail
  refine (C0 _).mono ?_
  rintro e w1 ⟨rfl, hB⟩
  go_wp2_with fail
  go_ret
  exact ⟨rfl, (M1.call hB).below⟩

theorem spreads_any (p q k capl : Nat) (al : Option Addr) (z : List Int) (Q : Int) (hp : p < 256) (hq : q < 256) (hz : z.length = k) (hz0 : ∀ u ∈ z, 0 ≤ u ∧ u ≤ 65535) (w : World) (hT : Sl w 1 (.slice al k capl) k (u16s z)) :
    Calls Try.prog 4 #[.int .u8 p, .int .u8 q, .slice al k capl, .int .i64 Q] w fun e w' => e = .returned (.bool true) ∧ Below w.heap.size w w' := by
  have hmy := hT.max
  by_cases hk : (100 : Int) < (k : Int)
  · exact spreads_big C0 p q k capl al Q hk (by omega) w
  obtain ⟨x, hx⟩ : ∃ x, x = 1 + p % 8 := ⟨_, rfl⟩
  obtain ⟨y, hy⟩ : ∃ y, y = 1 + q % 8 := ⟨_, rfl⟩
  obtain ⟨n, hn⟩ : ∃ n, n = x * y := ⟨_, rfl⟩
  have hx8 : 1 ≤ x ∧ x ≤ 8 := by omega
  have hy8 : 1 ≤ y ∧ y ≤ 8 := by omega
  have hle : x * y ≤ 8 * 8 := Nat.mul_le_mul (by omega) (by omega)
  have hn64 : n ≤ 64 := by omega
  have hyx : n = y * x := by rw [hn, Nat.mul_comm]
  have R := right_made hz0 hx8 hy8 hn (S := 128) (by omega)
  have CM := fun w hT => made14_any p q 3 x y n 128 k capl al z hp hq (by omega) hx hy hn rfl hz (by omega) hz0 w hT
  obtain ⟨G, hG⟩ : ∃ G, G = norm (madeL z n) := ⟨_, rfl⟩
  rw [← hG] at CM R
  have T1 := sums_of R.len (fun u hu => (R.rng u hu).1) (by have := R.sum; omega)
  cases hQ : inR Q 0 85
  · exact spreads_go p q 3 x y 128 n k capl al z G G Q 2 (sm G) (sm G) 0 hk hn64 R.len (fun i hi => (getD_mem (P := fun u => 0 ≤ u ∧ u ≤ 1073741824) R.rng (by rw [R.len]; exact hi : i < G.length)).1) (by omega) (by omega) CM
      (fun a cap w hS => (spread_no x y 1000 (-1000) _ Q a n cap G R.len (by omega) hQ w hS).mono fun _ _ h => h.said) (fun a cap w hS => rspread_no x y 1000 (-1000) _ Q a n cap G R.len hQ w hS)
      (fun a ca b cb w h1 h2 => rsame_any x y 1000 (-1000) _ a b n ca cb G R.len (by omega) w h1 h2) T1 T1 C0 w hT
  · obtain ⟨h1, h2⟩ := inR_t hQ
    obtain ⟨qn, rfl⟩ := Int.eq_ofNat_of_zero_le h1
    have hl := spread_length G x y (qn : Int)
    have hl2 : (spread G x y (qn : Int)).length = n := by rw [hl, hyx]
    have hr := spread_rng (M := 1073741824) (q := (qn : Int)) (by omega) (by rw [R.len, hyx] : G.length = y * x) R.rng
    have hs := spread_sum (q := (qn : Int)) (by rw [R.len, hyx] : G.length = y * x)
    rw [← hyx] at hs
    have hsr := sm_pos (fun u hu => (hr u hu).1)
    have hG2 := R.sum
    exact spreads_go p q 3 x y 128 n k capl al z G (spread G x y (qn : Int)) (qn : Int) 0 (sm G) (sm (spread G x y (qn : Int))) _ hk hn64 hl2 (fun i hi => (getD_mem (P := fun u => 0 ≤ u ∧ u ≤ 1073741824) hr (by rw [hl2]; exact hi)).1) rfl hs CM
      (fun a cap w hS => (spread_yes x y 1000 (-1000) _ (qn : Int) a n cap G R.len hn R.sd R.rng hQ w hS).mono fun _ _ h => h.said) (fun a cap w hS => rspread_yes x y qn 1000 (-1000) _ a n cap G R.len hn R.sd R.rng (by omega) w hS)
      (fun a ca b cb w h1 h2 => rsame_any x y 1000 (-1000) _ a b n ca cb _ hl2 (by omega) w h1 h2) T1 (sums_of hl2 (fun u hu => (hr u hu).1) (by omega)) C0 w hT
end
end Go.Proofs.Ytnfgogfbpggnfaa
