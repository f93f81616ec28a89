/-
  The law's example.
-/
import Derived.Test.YtbjhbbiahmhdeaaMomentO
import Derived.Test.YtbjhbbiahmhdeaaI64s
import Derived.Laws.StructEq
set_option linter.unusedVariables false
set_option linter.unusedSimpArgs false
namespace Go.Proofs.Ytbjhbbiahmhdeaa
open Go Go.RowKit Go.Shelf Go.Th Go.Th.Grid Go.Th.Moment Go.Th.Wide

/-- What a call answers of a grid of these numbers, wherever they lie. -/
abbrev OfG (f : Nat) (x y X Y s : Int) (n : Nat) (p : List Int) (args : Value → Array Value) (v : Value) : Prop :=
  ∀ a cap w, Sl w 1 (.slice a n cap) n (i64s p) → Calls Try.prog f (args (gv x y X Y s (.slice a n cap))) w fun e w' => e = .returned v ∧ Below w.heap.size w w'

def pE : List Int := [268435456, 0, 805306368]
theorem blk_sl {w : World} {g n : Nat} {p : List Int} (K : Blk w g 2 (i64s p)) (hn : n = p.length) (hm : n ≤ maxLen) : Sl w 1 (.slice (some ⟨g, 0, none⟩) n n) n (i64s p) := by
  refine ⟨_, _, rfl, by simp [i64s, hn], Nat.le_refl _, hm, fun h => (by cases h), fun j u hj => ⟨g, 0, rfl, ?_⟩⟩
  rw [Nat.zero_add]
  exact K.cell hj

set_option maxRecDepth 20000 in
set_option maxHeartbeats 16000000 in
theorem works15_go (C1 : OfG 9 3 1 100 50 64 3 pE (fun g => #[g]) (.tuple #[spv 196 50, .bool true])) (C2 : OfG 11 3 1 100 50 64 3 pE (fun g => #[g]) (.tuple #[srv 49152 0 0, .bool true]))
    (C3 : OfG 9 1 1 0 0 64 1 [0] (fun g => #[g]) (.tuple #[spv 0 0, .bool false])) (C4 : OfG 15 3 1 100 50 64 3 pE (fun g => #[g]) (.int .i64 2))
    (C5 : OfG 16 3 1 100 50 64 3 pE (fun g => #[g, .int .i64 1]) (.int .i64 0)) (C6 : OfG 16 3 1 100 50 64 3 pE (fun g => #[g, .int .i64 2]) (.int .i64 (-1)))
    (C7 : OfG 19 3 1 100 50 64 3 pE (fun g => #[g, .int .i64 2, .int .i64 1]) (.int .i64 805306368)) (C8 : OfG 21 3 1 100 50 64 3 pE (fun g => #[g]) (.int .i64 1073741824)) (C9 : OfG 23 3 1 100 50 64 3 pE (fun g => #[g]) (.int .i64 1)) :
    Ans 7 #[] (.bool true) := by
  intro w
  have C1 := Lib.hid C1
  have C2 := Lib.hid C2
  have C3 := Lib.hid C3
  have C4 := Lib.hid C4
  have C5 := Lib.hid C5
  have C6 := Lib.hid C6
  have C7 := Lib.hid C7
  have C8 := Lib.hid C8
  have C9 := Lib.hid C9
  have HP : Hid (3 = pE.length) := Lib.hid rfl
  have HP1 : Hid (1 = ([0] : List Int).length) := Lib.hid rfl
  obtain ⟨w1, hw1⟩ : ∃ w1, w.alloc (.cells #[.int .i64 268435456, .int .i64 0, .int .i64 805306368] 2) = w1 := ⟨_, rfl⟩
  have M1 := (Mem.start w).alloc 2 (i64s pE)
  rw [show w.alloc (.cells (i64s pE).toArray 2) = w1 from hw1] at M1
  obtain ⟨w2, hw2⟩ : ∃ w2, w1.alloc (.cells #[.int .i64 3, .int .i64 1, .int .i64 100, .int .i64 50, .int .i64 64, .slice (some ⟨w.heap.size, 0, none⟩) 3 3] 26) = w2 := ⟨_, rfl⟩
  have M2 := M1.alloc 26 (gc 3 1 100 50 64 (.slice (some ⟨w.heap.size, 0, none⟩) 3 3))
  rw [show w1.alloc (.cells (gc 3 1 100 50 64 (.slice (some ⟨w.heap.size, 0, none⟩) 3 3)).toArray 26) = w2 from hw2] at M2
  have hsz : w1.heap.size = w.heap.size + 1 := by rw [← hw1]; simp
  have HW1 := Lib.hid hw1
  have HW2 := Lib.hid hw2
  clear hw1 hw2 M1
  go_enter Try.func7, Try.ntmps7
  go_upto_region 2 with fail
  rw [HW1.out, HW2.out, ← hsz]
  clear HW1 HW2
  obtain ⟨g2, hg2⟩ : ∃ g2, g2 = w1.heap.size := ⟨_, rfl⟩
  obtain ⟨g1, hg1⟩ : ∃ g1, g1 = w.heap.size := ⟨_, rfl⟩
  rw [← hg1] at M2 ⊢
  rw [← hg2] at M2 ⊢
  clear hg1 hg2 hsz
  have SL := Lib.hid (fun W (K : Blk W g1 2 (i64s pE)) => blk_sl K HP.out (by unfold maxLen; omega))
  go_wp2_with ((with_reducible refine (?_ : Go.wpList _ _ _ (_ :: _) _ _)); (first | go_skip | (refine wpL_ldc M2 rfl rfl rfl ?_) | (refine wpL_lgc M2 rfl rfl rfl ?_) | (refine wpL_stc M2 rfl rfl rfl rfl ?_; clear M2; intro w' M2) | (refine wpL_sti M2 rfl rfl rfl rfl ?_; clear M2; intro w' M2) | (refine wpL_sth M2 rfl rfl rfl rfl (wr_minus _ _ _) ?_; clear M2; intro w' M2)))
  refine (C1.out _ _ _ (SL.out _ (M2.has (.tail _ _ _ _ _ (Has.head _ _ _ _))))).mono ?_
  rintro e w9 ⟨rfl, hB⟩
  replace M2 := M2.call hB
  clear hB C1
  go_wp2_with ((with_reducible refine (?_ : Go.wpList _ _ _ (_ :: _) _ _)); (first | go_skip | (refine wpL_bx M2 rfl rfl rfl rfl ?_; clear M2; intro g3 w3 M3) | (refine wpL_alc M2 rfl rfl ?_; clear M2; intro g3 w3 M3) | (refine wpL_ldc M2 rfl rfl rfl ?_) | (refine wpL_lgc M2 rfl rfl rfl ?_) | (refine wpL_stc M2 rfl rfl rfl rfl ?_; clear M2; intro w' M2) | (refine wpL_sti M2 rfl rfl rfl rfl ?_; clear M2; intro w' M2) | (refine wpL_sth M2 rfl rfl rfl rfl (wr_minus _ _ _) ?_; clear M2; intro w' M2) | (refine wpL_ldc M3 rfl rfl rfl ?_) | (refine wpL_lgc M3 rfl rfl rfl ?_) | (refine wpL_stc M3 rfl rfl rfl rfl ?_; clear M3; intro w' M3) | (refine wpL_sti M3 rfl rfl rfl rfl ?_; clear M3; intro w' M3) | (refine wpL_sth M3 rfl rfl rfl rfl (wr_minus _ _ _) ?_; clear M3; intro w' M3)))
  refine (C2.out _ _ _ (SL.out _ (M3.has (.tail _ _ _ _ _ (.tail _ _ _ _ _ (Has.head _ _ _ _)))))).mono ?_
  rintro e w9 ⟨rfl, hB⟩
  replace M3 := M3.call hB
  clear hB C2
  go_upto_region 4 with (((with_reducible refine (?_ : Go.wpList _ _ _ (_ :: _) _ _)); (first | go_skip | (refine wpL_bx M3 rfl rfl rfl rfl ?_; clear M3; intro g4 w4 M4) | (refine wpL_alc M3 rfl rfl ?_; clear M3; intro g4 w4 M4) | (refine wpL_ldc M3 rfl rfl rfl ?_) | (refine wpL_lgc M3 rfl rfl rfl ?_) | (refine wpL_stc M3 rfl rfl rfl rfl ?_; clear M3; intro w' M3) | (refine wpL_sti M3 rfl rfl rfl rfl ?_; clear M3; intro w' M3) | (refine wpL_sth M3 rfl rfl rfl rfl (wr_minus _ _ _) ?_; clear M3; intro w' M3) | (refine wpL_ldc M4 rfl rfl rfl ?_) | (refine wpL_lgc M4 rfl rfl rfl ?_) | (refine wpL_stc M4 rfl rfl rfl rfl ?_; clear M4; intro w' M4) | (refine wpL_sti M4 rfl rfl rfl rfl ?_; clear M4; intro w' M4) | (refine wpL_sth M4 rfl rfl rfl rfl (wr_minus _ _ _) ?_; clear M4; intro w' M4))))
  try simp only [Act.put, List.setIfInBounds_toArray, List.set_cons_zero, List.set_cons_succ]
  obtain ⟨w5, hw5⟩ : ∃ w5, w'.alloc (.cells #[.int .i64 0] 2) = w5 := ⟨_, rfl⟩
  have M5 := M4.alloc 2 (i64s [0])
  rw [show w'.alloc (.cells (i64s [0]).toArray 2) = w5 from hw5] at M5
  have HW5 := Lib.hid hw5
  clear hw5
  go_wp2_with fail
  rw [HW5.out]
  clear HW5
  obtain ⟨g5, hg5⟩ : ∃ g5, g5 = w'.heap.size := ⟨_, rfl⟩
  rw [← hg5] at M5 ⊢
  clear hg5 M4
  have SL5 := Lib.hid (fun W (K : Blk W g5 2 (i64s [0])) => blk_sl K HP1.out (by unfold maxLen; omega))
  refine (C3.out _ _ _ (SL5.out _ (M5.has (Has.head _ _ _ _)))).mono ?_
  rintro e w9 ⟨rfl, hB⟩
  replace M5 := M5.call hB
  clear hB C3 SL5
  go_wp2_with ((with_reducible refine (?_ : Go.wpList _ _ _ (_ :: _) _ _)); (first | go_skip | (refine wpL_bx M5 rfl rfl rfl rfl ?_; clear M5; intro g6 w6 M6) | (refine wpL_alc M5 rfl rfl ?_; clear M5; intro g6 w6 M6) | (refine wpL_ldc M5 rfl rfl rfl ?_) | (refine wpL_lgc M5 rfl rfl rfl ?_) | (refine wpL_stc M5 rfl rfl rfl rfl ?_; clear M5; intro w' M5) | (refine wpL_sti M5 rfl rfl rfl rfl ?_; clear M5; intro w' M5) | (refine wpL_sth M5 rfl rfl rfl rfl (wr_minus _ _ _) ?_; clear M5; intro w' M5) | (refine wpL_ldc M6 rfl rfl rfl ?_) | (refine wpL_lgc M6 rfl rfl rfl ?_) | (refine wpL_stc M6 rfl rfl rfl rfl ?_; clear M6; intro w' M6) | (refine wpL_sti M6 rfl rfl rfl rfl ?_; clear M6; intro w' M6) | (refine wpL_sth M6 rfl rfl rfl rfl (wr_minus _ _ _) ?_; clear M6; intro w' M6)))
  refine (C4.out _ _ _ (SL.out _ (M6.has (by repeat (first | exact Has.head _ _ _ _ | apply Has.tail))))).mono ?_
  rintro e w9 ⟨rfl, hB⟩
  replace M6 := M6.call hB
  clear hB C4
  go_wp2_with ((with_reducible refine (?_ : Go.wpList _ _ _ (_ :: _) _ _)); (first | go_skip | (refine wpL_ldc M6 rfl rfl rfl ?_) | (refine wpL_lgc M6 rfl rfl rfl ?_) | (refine wpL_stc M6 rfl rfl rfl rfl ?_; clear M6; intro w' M6) | (refine wpL_sti M6 rfl rfl rfl rfl ?_; clear M6; intro w' M6) | (refine wpL_sth M6 rfl rfl rfl rfl (wr_minus _ _ _) ?_; clear M6; intro w' M6)))
  refine (C5.out _ _ _ (SL.out _ (M6.has (by repeat (first | exact Has.head _ _ _ _ | apply Has.tail))))).mono ?_
  rintro e w9 ⟨rfl, hB⟩
  replace M6 := M6.call hB
  clear hB C5
  go_wp2_with ((with_reducible refine (?_ : Go.wpList _ _ _ (_ :: _) _ _)); (first | go_skip | (refine wpL_ldc M6 rfl rfl rfl ?_) | (refine wpL_lgc M6 rfl rfl rfl ?_) | (refine wpL_stc M6 rfl rfl rfl rfl ?_; clear M6; intro w' M6) | (refine wpL_sti M6 rfl rfl rfl rfl ?_; clear M6; intro w' M6) | (refine wpL_sth M6 rfl rfl rfl rfl (wr_minus _ _ _) ?_; clear M6; intro w' M6)))
  refine (C6.out _ _ _ (SL.out _ (M6.has (by repeat (first | exact Has.head _ _ _ _ | apply Has.tail))))).mono ?_
  rintro e w9 ⟨rfl, hB⟩
  replace M6 := M6.call hB
  clear hB C6
  go_wp2_with ((with_reducible refine (?_ : Go.wpList _ _ _ (_ :: _) _ _)); (first | go_skip | (refine wpL_ldc M6 rfl rfl rfl ?_) | (refine wpL_lgc M6 rfl rfl rfl ?_) | (refine wpL_stc M6 rfl rfl rfl rfl ?_; clear M6; intro w' M6) | (refine wpL_sti M6 rfl rfl rfl rfl ?_; clear M6; intro w' M6) | (refine wpL_sth M6 rfl rfl rfl rfl (wr_minus _ _ _) ?_; clear M6; intro w' M6)))
  refine (C7.out _ _ _ (SL.out _ (M6.has (by repeat (first | exact Has.head _ _ _ _ | apply Has.tail))))).mono ?_
  rintro e w9 ⟨rfl, hB⟩
  replace M6 := M6.call hB
  clear hB C7
  go_wp2_with ((with_reducible refine (?_ : Go.wpList _ _ _ (_ :: _) _ _)); (first | go_skip | (refine wpL_ldc M6 rfl rfl rfl ?_) | (refine wpL_lgc M6 rfl rfl rfl ?_) | (refine wpL_stc M6 rfl rfl rfl rfl ?_; clear M6; intro w' M6) | (refine wpL_sti M6 rfl rfl rfl rfl ?_; clear M6; intro w' M6) | (refine wpL_sth M6 rfl rfl rfl rfl (wr_minus _ _ _) ?_; clear M6; intro w' M6)))
  refine (C8.out _ _ _ (SL.out _ (M6.has (by repeat (first | exact Has.head _ _ _ _ | apply Has.tail))))).mono ?_
  rintro e w9 ⟨rfl, hB⟩
  replace M6 := M6.call hB
  clear hB C8
  go_wp2_with ((with_reducible refine (?_ : Go.wpList _ _ _ (_ :: _) _ _)); (first | go_skip | (refine wpL_ldc M6 rfl rfl rfl ?_) | (refine wpL_lgc M6 rfl rfl rfl ?_) | (refine wpL_stc M6 rfl rfl rfl rfl ?_; clear M6; intro w' M6) | (refine wpL_sti M6 rfl rfl rfl rfl ?_; clear M6; intro w' M6) | (refine wpL_sth M6 rfl rfl rfl rfl (wr_minus _ _ _) ?_; clear M6; intro w' M6)))
  refine (C9.out _ _ _ (SL.out _ (M6.has (by repeat (first | exact Has.head _ _ _ _ | apply Has.tail))))).mono ?_
  rintro e w9 ⟨rfl, hB⟩
  replace M6 := M6.call hB
  clear hB C9
  go_wp2_with ((with_reducible refine (?_ : Go.wpList _ _ _ (_ :: _) _ _)); (first | go_skip | (refine wpL_ldc M6 rfl rfl rfl ?_) | (refine wpL_lgc M6 rfl rfl rfl ?_) | (refine wpL_stc M6 rfl rfl rfl rfl ?_; clear M6; intro w' M6) | (refine wpL_sti M6 rfl rfl rfl rfl ?_; clear M6; intro w' M6) | (refine wpL_sth M6 rfl rfl rfl rfl (wr_minus _ _ _) ?_; clear M6; intro w' M6)))
  go_ret
  exact ⟨rfl, M6.below⟩
end Go.Proofs.Ytbjhbbiahmhdeaa
