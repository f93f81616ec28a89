/-
  MomentMeans, walked.
-/
import Derived.Test.YtbjhbbiahmhdeaaLaw15a
import Derived.Test.YtbjhbbiahmhdeaaLaw14m
import Derived.Laws.StructEq
set_option linter.unusedVariables false
set_option linter.unusedSimpArgs false
namespace Go.Proofs.Ytbjhbbiahmhdeaa
open Go Go.RowKit Go.Shelf Go.Th Go.Th.Grid Go.Th.Moment Go.Th.Wide

/-- What the law's grid is made of. -/
abbrev MadeC (p q st : Nat) (k capl : Nat) (al : Option Addr) (z : List Int) (x y S : Int) (n : Nat) (G : List Int) : Prop :=
  ∀ w, Sl w 1 (.slice al k capl) k (u16s z) → Calls Try.prog 8 #[.int .u8 p, .int .u8 q, .slice al k capl, .int .u8 st] w fun e w' => ∃ a cap, e = .returned (gv x y 1000 (-1000) S (.slice a n cap)) ∧ Sl w' 1 (.slice a n cap) n (i64s G) ∧ Below w.heap.size w w'

set_option maxRecDepth 20000 in
set_option maxHeartbeats 6400000 in
theorem means_go (p q st k capl n : Nat) (al : Option Addr) (z G : List Int) (x y S U V x1 y1 m1 m2 X2 Y2 : Int) (hk : ¬ ((100 : Int) < (k : Int)))
    (CM : MadeC p q st k capl al z x y S n G) (C1 : OfG 9 x y 1000 (-1000) S n G (fun g => #[g]) (.tuple #[spv U V, .bool true])) (C2 : OfG 10 x y 1000 (-1000) S n G (fun g => #[g]) (.tuple #[spv U V, .bool true]))
    (C0 : Ans 7 #[] (.bool true)) (w1 : IntKind.i64.wrap (x - 1) = x1) (w2 : IntKind.i64.wrap (y - 1) = y1) (w3 : IntKind.i64.wrap (x1 * S) = m1) (w4 : IntKind.i64.wrap (y1 * S) = m2) (w5 : IntKind.i64.wrap (1000 + m1) = X2) (w6 : IntKind.i64.wrap (-1000 + m2) = Y2)
    (h1 : 1000 ≤ U) (h2 : U ≤ X2) (h3 : -1000 ≤ V) (h4 : V ≤ Y2) (hx1 : wrap64 x1 = x1) (hy1 : wrap64 y1 = y1) (w : World) (hT : Sl w 1 (.slice al k capl) k (u16s z)) :
    Calls Try.prog 3 #[.int .u8 p, .int .u8 q, .slice al k capl, .int .u8 st] w fun e w' => e = .returned (.bool true) ∧ Below w.heap.size w w' := by
  have hmy := hT.max
  have CM := Lib.hid CM
  have C1 := Lib.hid C1
  have C2 := Lib.hid C2
  have C0 := Lib.hid C0
  have hT := Lib.hid hT
  have M0 := Mem.start w
  go_enter Try.func3, Try.ntmps3
  go_wp2_with ((with_reducible refine (?_ : Go.wpList _ _ _ (_ :: _) _ _)); (first | go_skip | (refine wpL_ldc M0 rfl rfl rfl ?_) | (refine wpL_lgc M0 rfl rfl rfl ?_) | (refine wpL_stc M0 rfl rfl rfl rfl ?_; clear M0; intro w' M0) | (refine wpL_sti M0 rfl rfl rfl rfl ?_; clear M0; intro w' M0) | (refine wpL_sth M0 rfl rfl rfl rfl (wr_minus _ _ _) ?_; clear M0; intro w' M0)))
  refine (CM.out _ hT.out).mono ?_
  rintro e wG ⟨a, cap, rfl, s1, hB⟩
  have HB := Lib.hid hB
  have HS := Lib.hid s1
  clear hB CM hT s1 M0
  have M0 := Mem.start wG
  go_wp2_with ((with_reducible refine (?_ : Go.wpList _ _ _ (_ :: _) _ _)); (first | go_skip | (refine wpL_bx M0 rfl rfl rfl rfl ?_; clear M0; intro g1 w1 M1) | (refine wpL_alc M0 rfl rfl ?_; clear M0; intro g1 w1 M1) | (refine wpL_ldc M0 rfl rfl rfl ?_) | (refine wpL_lgc M0 rfl rfl rfl ?_) | (refine wpL_stc M0 rfl rfl rfl rfl ?_; clear M0; intro w' M0) | (refine wpL_sti M0 rfl rfl rfl rfl ?_; clear M0; intro w' M0) | (refine wpL_sth M0 rfl rfl rfl rfl (wr_minus _ _ _) ?_; clear M0; intro w' M0) | (refine wpL_ldc M1 rfl rfl rfl ?_) | (refine wpL_lgc M1 rfl rfl rfl ?_) | (refine wpL_stc M1 rfl rfl rfl rfl ?_; clear M1; intro w' M1) | (refine wpL_sti M1 rfl rfl rfl rfl ?_; clear M1; intro w' M1) | (refine wpL_sth M1 rfl rfl rfl rfl (wr_minus _ _ _) ?_; clear M1; intro w' M1)))
  refine (C1.out _ _ _ (HS.out.below M1.below)).mono ?_
  rintro e wx ⟨rfl, hA⟩
  replace M1 := M1.call hA
  clear hA C1
  go_wp2_with ((with_reducible refine (?_ : Go.wpList _ _ _ (_ :: _) _ _)); (first | go_skip | (refine wpL_bx M1 rfl rfl rfl rfl ?_; clear M1; intro g2 w2 M2) | (refine wpL_alc M1 rfl rfl ?_; clear M1; intro g2 w2 M2) | (refine wpL_ldc M1 rfl rfl rfl ?_) | (refine wpL_lgc M1 rfl rfl rfl ?_) | (refine wpL_stc M1 rfl rfl rfl rfl ?_; clear M1; intro w' M1) | (refine wpL_sti M1 rfl rfl rfl rfl ?_; clear M1; intro w' M1) | (refine wpL_sth M1 rfl rfl rfl rfl (wr_minus _ _ _) ?_; clear M1; intro w' M1) | (refine wpL_ldc M2 rfl rfl rfl ?_) | (refine wpL_lgc M2 rfl rfl rfl ?_) | (refine wpL_stc M2 rfl rfl rfl rfl ?_; clear M2; intro w' M2) | (refine wpL_sti M2 rfl rfl rfl rfl ?_; clear M2; intro w' M2) | (refine wpL_sth M2 rfl rfl rfl rfl (wr_minus _ _ _) ?_; clear M2; intro w' M2)))
  refine (C2.out _ _ _ (HS.out.below M2.below)).mono ?_
  rintro e wx ⟨rfl, hA⟩
  replace M2 := M2.call hA
  clear hA C2
  go_wp2_with ((with_reducible refine (?_ : Go.wpList _ _ _ (_ :: _) _ _)); (first | go_skip | (refine wpL_bx M2 rfl rfl rfl rfl ?_; clear M2; intro g3 w3 M3) | (refine wpL_alc M2 rfl rfl ?_; clear M2; intro g3 w3 M3) | (refine wpL_ldc M2 rfl rfl rfl ?_) | (refine wpL_lgc M2 rfl rfl rfl ?_) | (refine wpL_stc M2 rfl rfl rfl rfl ?_; clear M2; intro w' M2) | (refine wpL_sti M2 rfl rfl rfl rfl ?_; clear M2; intro w' M2) | (refine wpL_sth M2 rfl rfl rfl rfl (wr_minus _ _ _) ?_; clear M2; intro w' M2) | (refine wpL_ldc M3 rfl rfl rfl ?_) | (refine wpL_lgc M3 rfl rfl rfl ?_) | (refine wpL_stc M3 rfl rfl rfl rfl ?_; clear M3; intro w' M3) | (refine wpL_sti M3 rfl rfl rfl rfl ?_; clear M3; intro w' M3) | (refine wpL_sth M3 rfl rfl rfl rfl (wr_minus _ _ _) ?_; clear M3; intro w' M3)))
  refine (C0.out _).mono ?_
  rintro e wx ⟨rfl, hA⟩
  replace M3 := M3.call hA
  clear hA C0
  go_wp2_with ((with_reducible refine (?_ : Go.wpList _ _ _ (_ :: _) _ _)); (first | go_skip | (refine wpL_ldc M3 rfl rfl rfl ?_) | (refine wpL_lgc M3 rfl rfl rfl ?_) | (refine wpL_stc M3 rfl rfl rfl rfl ?_; clear M3; intro w' M3) | (refine wpL_sti M3 rfl rfl rfl rfl ?_; clear M3; intro w' M3) | (refine wpL_sth M3 rfl rfl rfl rfl (wr_minus _ _ _) ?_; clear M3; intro w' M3)))
  go_ret
  exact ⟨rfl, HB.out.trans (M3.below.mono HB.out.size)⟩
end Go.Proofs.Ytbjhbbiahmhdeaa
