/-
  Where a grid is believed on the whole, and how far about: the code's.
-/
import Derived.Test.YtbjhbbiahmhdeaaMomentF
import Derived.Test.YtbjhbbiahmhdeaaMomentG
import Derived.Test.YtbjhbbiahmhdeaaPackWide
set_option linter.unusedVariables false
set_option linter.unusedSimpArgs false
namespace Go.Proofs.Ytbjhbbiahmhdeaa
open Go Go.RowKit Go.Shelf Go.Th Go.Th.Grid Go.Th.Moment Go.Th.Wide

/-- What this grid's sums are. -/
abbrev SumsAt (x y n : Nat) (X Y s : Int) (a : Option Addr) (cap : Nat) (p : List Int) (v : Value) : Prop :=
  ∀ w, Sl w 1 (.slice a n cap) n (i64s p) → Calls Try.prog 29 #[gv x y X Y s (.slice a n cap)] w fun e w' => e = .returned v ∧ Below w.heap.size w w'

section
variable (x y n : Nat) (X Y s : Int) (a : Option Addr) (cap : Nat) (p : List Int) (S A B D E F : Int)
set_option maxRecDepth 20000 in
set_option maxHeartbeats 1600000 in
theorem mean_no (CS : SumsAt x y n X Y s a cap p (suv 0 A B D E F)) (w : World) (hS : Sl w 1 (.slice a n cap) n (i64s p)) :
    Calls Try.prog 9 #[gv x y X Y s (.slice a n cap)] w fun e w' => e = .returned (.tuple #[spv 0 0, .bool false]) ∧ Below w.heap.size w w' := by
  have HC := Lib.hid CS
  have HS := Lib.hid hS
  clear CS hS
  have M0 := Mem.start w
  go_enter Try.func9, Try.ntmps9
  go_wp2_with ((with_reducible refine (?_ : Go.wpList _ _ _ (_ :: _) _ _)); (first | go_skip | (refine wpL_bx M0 rfl rfl rfl rfl ?_; clear M0; intro g1 w1 M1) | (refine wpL_alc M0 rfl rfl ?_; clear M0; intro g1 w1 M1) | (refine wpL_ldc M0 rfl rfl rfl ?_) | (refine wpL_lgc M0 rfl rfl rfl ?_) | (refine wpL_stc M0 rfl rfl rfl rfl ?_; clear M0; intro w' M0) | (refine wpL_sti M0 rfl rfl rfl rfl ?_; clear M0; intro w' M0) | (refine wpL_sth M0 rfl rfl rfl rfl (wr_minus _ _ _) ?_; clear M0; intro w' M0) | (refine wpL_bx M1 rfl rfl rfl rfl ?_; clear M1; intro g2 w2 M2) | (refine wpL_alc M1 rfl rfl ?_; clear M1; intro g2 w2 M2) | (refine wpL_ldc M1 rfl rfl rfl ?_) | (refine wpL_lgc M1 rfl rfl rfl ?_) | (refine wpL_stc M1 rfl rfl rfl rfl ?_; clear M1; intro w' M1) | (refine wpL_sti M1 rfl rfl rfl rfl ?_; clear M1; intro w' M1) | (refine wpL_sth M1 rfl rfl rfl rfl (wr_minus _ _ _) ?_; clear M1; intro w' M1) | (refine wpL_ldc M2 rfl rfl rfl ?_) | (refine wpL_lgc M2 rfl rfl rfl ?_) | (refine wpL_stc M2 rfl rfl rfl rfl ?_; clear M2; intro w' M2) | (refine wpL_sti M2 rfl rfl rfl rfl ?_; clear M2; intro w' M2) | (refine wpL_sth M2 rfl rfl rfl rfl (wr_minus _ _ _) ?_; clear M2; intro w' M2)))
  refine (HC.out _ (HS.out.below M2.below)).mono ?_
  rintro e w3 ⟨rfl, hB⟩
  replace M2 := M2.call hB
  clear HC hB
  go_wp2_with ((with_reducible refine (?_ : Go.wpList _ _ _ (_ :: _) _ _)); (first | go_skip | (refine wpL_bx M2 rfl rfl rfl rfl ?_; clear M2; intro g3 w3 M3) | (refine wpL_alc M2 rfl rfl ?_; clear M2; intro g3 w3 M3) | (refine wpL_ldc M2 rfl rfl rfl ?_) | (refine wpL_lgc M2 rfl rfl rfl ?_) | (refine wpL_stc M2 rfl rfl rfl rfl ?_; clear M2; intro w' M2) | (refine wpL_sti M2 rfl rfl rfl rfl ?_; clear M2; intro w' M2) | (refine wpL_sth M2 rfl rfl rfl rfl (wr_minus _ _ _) ?_; clear M2; intro w' M2) | (refine wpL_ldc M3 rfl rfl rfl ?_) | (refine wpL_lgc M3 rfl rfl rfl ?_) | (refine wpL_stc M3 rfl rfl rfl rfl ?_; clear M3; intro w' M3) | (refine wpL_sti M3 rfl rfl rfl rfl ?_; clear M3; intro w' M3) | (refine wpL_sth M3 rfl rfl rfl rfl (wr_minus _ _ _) ?_; clear M3; intro w' M3)))
  ((try simp only [Exit.inBlock, Exit.then]); refine bodyPost_ret (res_cell_tmp rfl M3 rfl (.tail _ _ _ _ _ (Has.head _ _ _ _)) (rd_sp _ _) rfl) rfl ?_)
  exact ⟨rfl, M3.below⟩
set_option maxRecDepth 20000 in
set_option maxHeartbeats 3200000 in
theorem mean_go (u v e1 e2 U V : Int) (CS : SumsAt x y n X Y s a cap p (suv S A B D E F)) (h0 : (S == 0) = false) (C1 : Ans 30 #[.int .i64 s, .int .i64 A, .int .i64 S, .int .i64 2] (.tuple #[.int .i64 u, .int .i64 e1]))
    (C2 : Ans 30 #[.int .i64 s, .int .i64 B, .int .i64 S, .int .i64 2] (.tuple #[.int .i64 v, .int .i64 e2])) (hU : X + u = U) (hV : Y + v = V) (wU : IntKind.i64.wrap U = U) (wV : IntKind.i64.wrap V = V) (w : World) (hS : Sl w 1 (.slice a n cap) n (i64s p)) :
    Calls Try.prog 9 #[gv x y X Y s (.slice a n cap)] w fun e w' => e = .returned (.tuple #[spv U V, .bool true]) ∧ Below w.heap.size w w' := by
  have HC := Lib.hid CS
  have HC1 := Lib.hid C1
  have HC2 := Lib.hid C2
  have HS := Lib.hid hS
  clear CS C1 C2 hS
  have M0 := Mem.start w
  go_enter Try.func9, Try.ntmps9
  go_wp2_with ((with_reducible refine (?_ : Go.wpList _ _ _ (_ :: _) _ _)); (first | go_skip | (refine wpL_bx M0 rfl rfl rfl rfl ?_; clear M0; intro g1 w1 M1) | (refine wpL_alc M0 rfl rfl ?_; clear M0; intro g1 w1 M1) | (refine wpL_ldc M0 rfl rfl rfl ?_) | (refine wpL_lgc M0 rfl rfl rfl ?_) | (refine wpL_stc M0 rfl rfl rfl rfl ?_; clear M0; intro w' M0) | (refine wpL_sti M0 rfl rfl rfl rfl ?_; clear M0; intro w' M0) | (refine wpL_sth M0 rfl rfl rfl rfl (wr_minus _ _ _) ?_; clear M0; intro w' M0) | (refine wpL_bx M1 rfl rfl rfl rfl ?_; clear M1; intro g2 w2 M2) | (refine wpL_alc M1 rfl rfl ?_; clear M1; intro g2 w2 M2) | (refine wpL_ldc M1 rfl rfl rfl ?_) | (refine wpL_lgc M1 rfl rfl rfl ?_) | (refine wpL_stc M1 rfl rfl rfl rfl ?_; clear M1; intro w' M1) | (refine wpL_sti M1 rfl rfl rfl rfl ?_; clear M1; intro w' M1) | (refine wpL_sth M1 rfl rfl rfl rfl (wr_minus _ _ _) ?_; clear M1; intro w' M1) | (refine wpL_ldc M2 rfl rfl rfl ?_) | (refine wpL_lgc M2 rfl rfl rfl ?_) | (refine wpL_stc M2 rfl rfl rfl rfl ?_; clear M2; intro w' M2) | (refine wpL_sti M2 rfl rfl rfl rfl ?_; clear M2; intro w' M2) | (refine wpL_sth M2 rfl rfl rfl rfl (wr_minus _ _ _) ?_; clear M2; intro w' M2)))
  refine (HC.out _ (HS.out.below M2.below)).mono ?_
  rintro e w3 ⟨rfl, hB⟩
  replace M2 := M2.call hB
  clear HC hB
  go_wp2_with ((with_reducible refine (?_ : Go.wpList _ _ _ (_ :: _) _ _)); (first | go_skip | (refine wpL_bx M2 rfl rfl rfl rfl ?_; clear M2; intro g3 w3 M3) | (refine wpL_alc M2 rfl rfl ?_; clear M2; intro g3 w3 M3) | (refine wpL_ldc M2 rfl rfl rfl ?_) | (refine wpL_lgc M2 rfl rfl rfl ?_) | (refine wpL_stc M2 rfl rfl rfl rfl ?_; clear M2; intro w' M2) | (refine wpL_sti M2 rfl rfl rfl rfl ?_; clear M2; intro w' M2) | (refine wpL_sth M2 rfl rfl rfl rfl (wr_minus _ _ _) ?_; clear M2; intro w' M2) | (refine wpL_ldc M3 rfl rfl rfl ?_) | (refine wpL_lgc M3 rfl rfl rfl ?_) | (refine wpL_stc M3 rfl rfl rfl rfl ?_; clear M3; intro w' M3) | (refine wpL_sti M3 rfl rfl rfl rfl ?_; clear M3; intro w' M3) | (refine wpL_sth M3 rfl rfl rfl rfl (wr_minus _ _ _) ?_; clear M3; intro w' M3)))
  refine (HC1.out _).mono ?_
  rintro e w3 ⟨rfl, hB⟩
  replace M3 := M3.call hB
  clear HC1 hB
  go_wp2_with ((with_reducible refine (?_ : Go.wpList _ _ _ (_ :: _) _ _)); (first | go_skip | (refine wpL_ldc M3 rfl rfl rfl ?_) | (refine wpL_lgc M3 rfl rfl rfl ?_) | (refine wpL_stc M3 rfl rfl rfl rfl ?_; clear M3; intro w' M3) | (refine wpL_sti M3 rfl rfl rfl rfl ?_; clear M3; intro w' M3) | (refine wpL_sth M3 rfl rfl rfl rfl (wr_minus _ _ _) ?_; clear M3; intro w' M3)))
  refine (HC2.out _).mono ?_
  rintro e w3 ⟨rfl, hB⟩
  replace M3 := M3.call hB
  clear HC2 hB
  go_wp2_with ((with_reducible refine (?_ : Go.wpList _ _ _ (_ :: _) _ _)); (first | go_skip | (refine wpL_ldc M3 rfl rfl rfl ?_) | (refine wpL_lgc M3 rfl rfl rfl ?_) | (refine wpL_stc M3 rfl rfl rfl rfl ?_; clear M3; intro w' M3) | (refine wpL_sti M3 rfl rfl rfl rfl ?_; clear M3; intro w' M3) | (refine wpL_sth M3 rfl rfl rfl rfl (wr_minus _ _ _) ?_; clear M3; intro w' M3)))
  ((try simp only [Exit.inBlock, Exit.then]); refine bodyPost_ret (res_cell_tmp rfl M3 rfl (.tail _ _ _ _ _ (Has.head _ _ _ _)) (rd_sp _ _) rfl) rfl ?_)
  exact ⟨rfl, M3.below⟩

set_option maxRecDepth 20000 in
set_option maxHeartbeats 1600000 in
theorem vary_no (CS : SumsAt x y n X Y s a cap p (suv 0 A B D E F)) (w : World) (hS : Sl w 1 (.slice a n cap) n (i64s p)) :
    Calls Try.prog 11 #[gv x y X Y s (.slice a n cap)] w fun e w' => e = .returned (.tuple #[srv 0 0 0, .bool false]) ∧ Below w.heap.size w w' := by
  have HC := Lib.hid CS
  have HS := Lib.hid hS
  clear CS hS
  have M0 := Mem.start w
  go_enter Try.func11, Try.ntmps11
  go_wp2_with ((with_reducible refine (?_ : Go.wpList _ _ _ (_ :: _) _ _)); (first | go_skip | (refine wpL_bx M0 rfl rfl rfl rfl ?_; clear M0; intro g1 w1 M1) | (refine wpL_alc M0 rfl rfl ?_; clear M0; intro g1 w1 M1) | (refine wpL_ldc M0 rfl rfl rfl ?_) | (refine wpL_lgc M0 rfl rfl rfl ?_) | (refine wpL_stc M0 rfl rfl rfl rfl ?_; clear M0; intro w' M0) | (refine wpL_sti M0 rfl rfl rfl rfl ?_; clear M0; intro w' M0) | (refine wpL_sth M0 rfl rfl rfl rfl (wr_minus _ _ _) ?_; clear M0; intro w' M0) | (refine wpL_bx M1 rfl rfl rfl rfl ?_; clear M1; intro g2 w2 M2) | (refine wpL_alc M1 rfl rfl ?_; clear M1; intro g2 w2 M2) | (refine wpL_ldc M1 rfl rfl rfl ?_) | (refine wpL_lgc M1 rfl rfl rfl ?_) | (refine wpL_stc M1 rfl rfl rfl rfl ?_; clear M1; intro w' M1) | (refine wpL_sti M1 rfl rfl rfl rfl ?_; clear M1; intro w' M1) | (refine wpL_sth M1 rfl rfl rfl rfl (wr_minus _ _ _) ?_; clear M1; intro w' M1) | (refine wpL_ldc M2 rfl rfl rfl ?_) | (refine wpL_lgc M2 rfl rfl rfl ?_) | (refine wpL_stc M2 rfl rfl rfl rfl ?_; clear M2; intro w' M2) | (refine wpL_sti M2 rfl rfl rfl rfl ?_; clear M2; intro w' M2) | (refine wpL_sth M2 rfl rfl rfl rfl (wr_minus _ _ _) ?_; clear M2; intro w' M2)))
  refine (HC.out _ (HS.out.below M2.below)).mono ?_
  rintro e w3 ⟨rfl, hB⟩
  replace M2 := M2.call hB
  clear HC hB
  go_wp2_with ((with_reducible refine (?_ : Go.wpList _ _ _ (_ :: _) _ _)); (first | go_skip | (refine wpL_bx M2 rfl rfl rfl rfl ?_; clear M2; intro g3 w3 M3) | (refine wpL_alc M2 rfl rfl ?_; clear M2; intro g3 w3 M3) | (refine wpL_ldc M2 rfl rfl rfl ?_) | (refine wpL_lgc M2 rfl rfl rfl ?_) | (refine wpL_stc M2 rfl rfl rfl rfl ?_; clear M2; intro w' M2) | (refine wpL_sti M2 rfl rfl rfl rfl ?_; clear M2; intro w' M2) | (refine wpL_sth M2 rfl rfl rfl rfl (wr_minus _ _ _) ?_; clear M2; intro w' M2) | (refine wpL_ldc M3 rfl rfl rfl ?_) | (refine wpL_lgc M3 rfl rfl rfl ?_) | (refine wpL_stc M3 rfl rfl rfl rfl ?_; clear M3; intro w' M3) | (refine wpL_sti M3 rfl rfl rfl rfl ?_; clear M3; intro w' M3) | (refine wpL_sth M3 rfl rfl rfl rfl (wr_minus _ _ _) ?_; clear M3; intro w' M3)))
  ((try simp only [Exit.inBlock, Exit.then]); refine bodyPost_ret (res_cell_tmp rfl M3 rfl (.tail _ _ _ _ _ (Has.head _ _ _ _)) (rd_spread _ _ _) rfl) rfl ?_)
  exact ⟨rfl, M3.below⟩
end

/-! ### By how much the middle of products is more than the product of both middles -/
theorem Add_z (z1 z2 : Int) (h1 : -170141183460469231731687303715884105728 ≤ z1 ∧ z1 < 170141183460469231731687303715884105728) (h2 : -170141183460469231731687303715884105728 ≤ z2 ∧ z2 < 170141183460469231731687303715884105728) (h3 : -170141183460469231731687303715884105728 ≤ z1 + z2 ∧ z1 + z2 < 170141183460469231731687303715884105728) :
    Ans 53 #[wv (hiZ z1) (loZ z1), wv (hiZ z2) (loZ z2)] (.tuple #[wv (hiZ (z1 + z2)) (loZ (z1 + z2)), .bool true]) := by
  intro w
  have C := Add_ok (hiZ z1) (loZ z1) (hiZ z2) (loZ z2) (by unfold hiZ; omega) (by unfold loZ; omega) (by unfold hiZ; omega) (by unfold loZ; omega) (by unfold addF hiZ loZ; omega) w
  have e1 : hiZ z1 + hiZ z2 + (loZ z1 + loZ z2) / 18446744073709551616 = hiZ (z1 + z2) := by unfold hiZ loZ; omega
  have e2 : (loZ z1 + loZ z2) % 18446744073709551616 = loZ (z1 + z2) := by unfold loZ; omega
  rw [e1, e2] at C
  exact C

set_option maxRecDepth 20000 in
set_option maxHeartbeats 3200000 in
theorem varied_go (s p a b us ua q h1 l1 h2 l2 h3 l3 h4 l4 v e : Int) (f : Bool) (ws : IntKind.i64.wrap (65536 * s) = us) (wa : IntKind.i64.wrap (65536 * a) = ua) (wq : IntKind.i64.wrap (s * s) = q)
    (C1 : Ans 52 #[.int .i64 us, .int .i64 p] (wv h1 l1)) (C2 : Ans 52 #[.int .i64 ua, .int .i64 b] (wv h2 l2)) (C3 : Ans 54 #[wv h2 l2] (wv h3 l3))
    (C4 : Ans 53 #[wv h1 l1, wv h3 l3] (.tuple #[wv h4 l4, .bool f])) (C5 : Ans 51 #[wv h4 l4, .int .i64 q, .int .i64 0] (.tuple #[.int .i64 v, .int .i64 e])) :
    Ans 31 #[.int .i64 s, .int .i64 p, .int .i64 a, .int .i64 b] (.int .i64 v) := by
  intro w
  have M0 := Mem.start w
  go_enter Try.func31, Try.ntmps31
  go_wp2_with ((with_reducible refine (?_ : Go.wpList _ _ _ (_ :: _) _ _)); (first | go_skip | (refine wpL_ldc M0 rfl rfl rfl ?_) | (refine wpL_lgc M0 rfl rfl rfl ?_) | (refine wpL_stc M0 rfl rfl rfl rfl ?_; clear M0; intro w' M0) | (refine wpL_sti M0 rfl rfl rfl rfl ?_; clear M0; intro w' M0) | (refine wpL_sth M0 rfl rfl rfl rfl (wr_minus _ _ _) ?_; clear M0; intro w' M0)))
  (refine (C1 _).mono ?_; rintro e w2 ⟨rfl, hBl⟩; replace M0 := M0.call hBl; clear hBl C1)
  go_wp2_with ((with_reducible refine (?_ : Go.wpList _ _ _ (_ :: _) _ _)); (first | go_skip | (refine wpL_ldc M0 rfl rfl rfl ?_) | (refine wpL_lgc M0 rfl rfl rfl ?_) | (refine wpL_stc M0 rfl rfl rfl rfl ?_; clear M0; intro w' M0) | (refine wpL_sti M0 rfl rfl rfl rfl ?_; clear M0; intro w' M0) | (refine wpL_sth M0 rfl rfl rfl rfl (wr_minus _ _ _) ?_; clear M0; intro w' M0)))
  (refine (C2 _).mono ?_; rintro e w2 ⟨rfl, hBl⟩; replace M0 := M0.call hBl; clear hBl C2)
  go_wp2_with ((with_reducible refine (?_ : Go.wpList _ _ _ (_ :: _) _ _)); (first | go_skip | (refine wpL_ldc M0 rfl rfl rfl ?_) | (refine wpL_lgc M0 rfl rfl rfl ?_) | (refine wpL_stc M0 rfl rfl rfl rfl ?_; clear M0; intro w' M0) | (refine wpL_sti M0 rfl rfl rfl rfl ?_; clear M0; intro w' M0) | (refine wpL_sth M0 rfl rfl rfl rfl (wr_minus _ _ _) ?_; clear M0; intro w' M0)))
  (refine (C3 _).mono ?_; rintro e w2 ⟨rfl, hBl⟩; replace M0 := M0.call hBl; clear hBl C3)
  go_wp2_with ((with_reducible refine (?_ : Go.wpList _ _ _ (_ :: _) _ _)); (first | go_skip | (refine wpL_ldc M0 rfl rfl rfl ?_) | (refine wpL_lgc M0 rfl rfl rfl ?_) | (refine wpL_stc M0 rfl rfl rfl rfl ?_; clear M0; intro w' M0) | (refine wpL_sti M0 rfl rfl rfl rfl ?_; clear M0; intro w' M0) | (refine wpL_sth M0 rfl rfl rfl rfl (wr_minus _ _ _) ?_; clear M0; intro w' M0)))
  (refine (C4 _).mono ?_; rintro e w2 ⟨rfl, hBl⟩; replace M0 := M0.call hBl; clear hBl C4)
  go_wp2_with ((with_reducible refine (?_ : Go.wpList _ _ _ (_ :: _) _ _)); (first | go_skip | (refine wpL_bx M0 rfl rfl rfl rfl ?_; clear M0; intro g1 w1 M1) | (refine wpL_alc M0 rfl rfl ?_; clear M0; intro g1 w1 M1) | (refine wpL_ldc M0 rfl rfl rfl ?_) | (refine wpL_lgc M0 rfl rfl rfl ?_) | (refine wpL_stc M0 rfl rfl rfl rfl ?_; clear M0; intro w' M0) | (refine wpL_sti M0 rfl rfl rfl rfl ?_; clear M0; intro w' M0) | (refine wpL_sth M0 rfl rfl rfl rfl (wr_minus _ _ _) ?_; clear M0; intro w' M0) | (refine wpL_ldc M1 rfl rfl rfl ?_) | (refine wpL_lgc M1 rfl rfl rfl ?_) | (refine wpL_stc M1 rfl rfl rfl rfl ?_; clear M1; intro w' M1) | (refine wpL_sti M1 rfl rfl rfl rfl ?_; clear M1; intro w' M1) | (refine wpL_sth M1 rfl rfl rfl rfl (wr_minus _ _ _) ?_; clear M1; intro w' M1)))
  (refine (C5 _).mono ?_; rintro e w2 ⟨rfl, hBl⟩; replace M1 := M1.call hBl; clear hBl C5)
  go_wp2_with ((with_reducible refine (?_ : Go.wpList _ _ _ (_ :: _) _ _)); (first | go_skip | (refine wpL_ldc M1 rfl rfl rfl ?_) | (refine wpL_lgc M1 rfl rfl rfl ?_) | (refine wpL_stc M1 rfl rfl rfl rfl ?_; clear M1; intro w' M1) | (refine wpL_sti M1 rfl rfl rfl rfl ?_; clear M1; intro w' M1) | (refine wpL_sth M1 rfl rfl rfl rfl (wr_minus _ _ _) ?_; clear M1; intro w' M1)))
  go_ret
  exact ⟨rfl, M1.below⟩
end Go.Proofs.Ytbjhbbiahmhdeaa
