/-
  Units: sums of rows, products side by side; slices that are built.
-/
import Derived.Test.YtggmjdaolekgmaaFxpB
import Derived.Deep.Cut
set_option linter.unusedVariables false
set_option linter.unusedSimpArgs false
namespace Go.Th
open Go Go.RowKit
theorem wpL_bs {P : Program} {ops : Array Oper} {rest : List Oper} {o : Oper} {a : Act} {w w0 : World} {Q : Exit → Act → World → Prop} {bs : List (Nat × TypeId × List Value)} {t e : TypeId} {n : Nat} {parts : Array (Nat × Operand)} {vs : Array (Nat × Value)} {cs : List Value}
    (M : Mem w0 w bs) (hr : ∀ w : World, (Instr.buildSlice t n vs).run P w = .ok (.slice (some ⟨w.heap.size, 0, none⟩) n n) (w.alloc (.cells cs.toArray e)))
    (hgd : o.guard = none) (ho : o.op = .buildSlice t n parts) (hv : parts.map (fun (x : Nat × Operand) => (x.1, a.eval x.2)) = vs)
    (h : ∀ g w', Mem w0 w' ((g, e, cs) :: bs) → wpList P ops Q rest (a.put o.dst (.slice (some ⟨g, 0, none⟩) n n)) w') : wpList P ops Q (o :: rest) a w :=
  wpList_plain hgd fun K hK => by
    unfold Oper.wp execOp
    simp only [ho, hv, Sem.run_bind, hr, Result.andThen_ok]
    exact hK _ _ (h _ _ (M.alloc _ _))
end Go.Th

namespace Go.Th.Wide
def sumStep (p : Int × Bool) (x : Int) : Int × Bool := (cutV (p.1 + x), p.2 || cutS (p.1 + x))
def sumF (xs : List Int) : Int × Bool := xs.foldl sumStep (0, false)
def dotStep (q m : Int) (p : Int × Bool) (x : Int × Int) : Int × Bool := (cutV (p.1 + mulV x.1 x.2 q m), p.2 || mulS x.1 x.2 q m || cutS (p.1 + mulV x.1 x.2 q m))
def dotF (q m : Int) (xs : List (Int × Int)) : Int × Bool := xs.foldl (dotStep q m) (0, false)
theorem take_next {α : Type} (xs : List α) (i : Nat) (h : i < xs.length) : xs.take (i + 1) = xs.take i ++ [xs[i]] := by
  rw [List.take_add_one, List.getElem?_eq_getElem h]; rfl
theorem sumF_next (xs : List Int) (i : Nat) (h : i < xs.length) : sumF (xs.take (i + 1)) = sumStep (sumF (xs.take i)) xs[i] := by
  unfold sumF
  rw [take_next xs i h, List.foldl_append]; rfl
theorem dotF_next (q m : Int) (xs : List (Int × Int)) (i : Nat) (h : i < xs.length) : dotF q m (xs.take (i + 1)) = dotStep q m (dotF q m (xs.take i)) xs[i] := by
  unfold dotF
  rw [take_next xs i h, List.foldl_append]; rfl
theorem sumF_range (xs : List Int) : -9223372036854775808 ≤ (sumF xs).1 ∧ (sumF xs).1 ≤ 9223372036854775807 := by
  rcases List.eq_nil_or_concat xs with rfl | ⟨ys, y, rfl⟩
  · decide
  · unfold sumF
    rw [List.concat_eq_append, List.foldl_append]
    exact cutV_range _
theorem dotF_range (q m : Int) (xs : List (Int × Int)) : -9223372036854775808 ≤ (dotF q m xs).1 ∧ (dotF q m xs).1 ≤ 9223372036854775807 := by
  rcases List.eq_nil_or_concat xs with rfl | ⟨ys, y, rfl⟩
  · exact (show -9223372036854775808 ≤ (0 : Int) ∧ (0 : Int) ≤ 9223372036854775807 by decide)
  · unfold dotF
    rw [List.concat_eq_append, List.foldl_append]
    exact cutV_range _
theorem mulV_range (a b q m : Int) : -9223372036854775808 ≤ mulV a b q m ∧ mulV a b q m ≤ 9223372036854775807 := partV_range _ _ _ _
end Go.Th.Wide

namespace Go.Proofs.Ytggmjdaolekgmaa
open Go Go.RowKit Go.Th Go.Th.Wide

def i64s (xs : List Int) : List Value := xs.map (.int .i64)
theorem i64s_at (xs : List Int) (i : Nat) (h : i < xs.length) : (i64s xs)[i]? = some (.int .i64 xs[i]) := by simp [i64s, h]
def In64 (x : Int) : Prop := -9223372036854775808 ≤ x ∧ x ≤ 9223372036854775807
theorem in64_def {x : Int} (h : In64 x) : -9223372036854775808 ≤ x ∧ x ≤ 9223372036854775807 := h
set_option maxRecDepth 20000 in
set_option maxHeartbeats 1600000 in
theorem sum_int (g : Nat) (s : Bool) (c : Int) (h0 : 0 ≤ c ∧ c ≤ 900000) (xs : List Int) (hx : ∀ x ∈ xs, In64 x) (hn : xs.length ≤ 100000) (a : Option Addr) (cap : Nat) (w0 w : World) (r : List (Nat × TypeId × List Value))
    (hS : ∀ (wx : World) (cs : List Value), Mem w0 wx ((g, 28, cs) :: r) → Sl wx 1 (.slice a xs.length cap) xs.length (i64s xs)) (M0 : Mem w0 w ((g, 28, [.bool s, .int .i64 c]) :: r)) :
    Calls Try.prog 34 #[.pointer (some ⟨g, 0, none⟩), .slice a xs.length cap] w fun e w' => e = .returned (.int .i64 (sumF xs).1) ∧ Mem w0 w' ((g, 28, [.bool (s || (sumF xs).2), .int .i64 (c + xs.length)]) :: r) := by
  have HS := Lib.hid hS
  have HX := Lib.hid hx
  have HR := Lib.hid h0
  clear hS hx h0
  go_enter Try.func34, Try.ntmps34
  go_wp2_with ((with_reducible refine (?_ : Go.wpList _ _ _ (_ :: _) _ _)); (first | go_skip | (refine wpL_ld M0 rfl rfl rfl (by repeat (first | exact Has.head _ _ _ _ | apply Has.tail)) (by first | exact rd_sat _ _ | exact rd_cnt _ _ | exact rd_unit _ _ | exact rd_num _ _ | exact rd_minus _ _ | exact rd_w _ _ | exact rd_hi _ _ | exact rd_lo _ _ | assumption) ?_) | (refine wpL_ldg M0 rfl rfl rfl (by repeat (first | exact Has.head _ _ _ _ | apply Has.tail)) (by first | exact rd_sat _ _ | exact rd_cnt _ _ | exact rd_unit _ _ | exact rd_num _ _ | exact rd_minus _ _ | exact rd_w _ _ | exact rd_hi _ _ | exact rd_lo _ _ | assumption) ?_) | (refine wpN_1 rfl rfl rfl ?_) | (refine wpN_0 rfl rfl ?_) | (refine wpU_0 rfl rfl ?_) | (refine wpN_2 rfl rfl rfl rfl ?_) | (refine wpL_st M0 rfl rfl rfl rfl (by repeat (first | exact Has.head _ _ _ _ | apply Has.tail)) (by first | exact wr_sat _ _ _ | exact wr_cnt _ _ _ | exact wr_unit _ rfl _ _ | exact wr_num _ (numC_len _ _) _ _ | exact wr_minus _ _ _ | exact wr_w _ rfl _ _ | exact wr_hi _ _ _ | assumption) (by repeat (first | exact Upd.head _ _ _ _ _ | apply Upd.tail)) ?_; clear M0; intro w' M0)))
  go_loopw [5, 10] (fun v i wx => ∃ k : Nat, k ≤ xs.length ∧ i = .int .i64 k ∧ v = .int .i64 (sumF (xs.take k)).1 ∧ Mem w0 wx ((g, 28, [.bool (s || (sumF (xs.take k)).2), .int .i64 (c + k)]) :: r)) (fun _ i _ => xs.length - (intOf i).toNat)
  case atStart => exact ⟨0, by omega, rfl, rfl, by rw [List.take_zero, show sumF [] = (0, false) from rfl, Bool.or_false, show c + ((0 : Nat) : Int) = c by omega]; exact M0⟩
  case round =>
    clear M0
    obtain ⟨k, hk, rfl, rfl, M1⟩ := hrel
    by_cases hlt : k < xs.length
    · obtain ⟨a', c', he, _, _, _, _, h5⟩ := HS.out _ _ M1
      cases he
      obtain ⟨b, o, rfl, hc⟩ := h5 k _ (i64s_at xs k hlt)
      clear h5
      have hi0 : (0 : Int) ≤ k := by omega
      have hi1 : (k : Int) < xs.length := by omega
      have C1 := uAdd g (s || (sumF (xs.take k)).2) (c + k) (sumF (xs.take k)).1 xs[k] (by have := HR.out; omega) (sumF_range _) (HX.out _ (List.getElem_mem _))
      have HN := Lib.hid (sumF_next xs k hlt)
      obtain ⟨x, hxe⟩ : ∃ x, x = xs[k] := ⟨_, rfl⟩
      obtain ⟨p, hp⟩ : ∃ p, p = sumF (xs.take k) := ⟨_, rfl⟩
      obtain ⟨d, hd⟩ : ∃ d, d = c + (k : Int) := ⟨_, rfl⟩
      rw [← hxe] at hc C1 HN
      rw [← hp] at M1 C1 HN ⊢
      rw [← hd] at M1 C1
      have HD := Lib.hid hd
      clear hxe hp hd
      go_wp2_with ((with_reducible refine (?_ : Go.wpList _ _ _ (_ :: _) _ _)); (first | go_skip | (refine wpL_ld M1 rfl rfl rfl (by repeat (first | exact Has.head _ _ _ _ | apply Has.tail)) (by first | exact rd_sat _ _ | exact rd_cnt _ _ | exact rd_unit _ _ | exact rd_num _ _ | exact rd_minus _ _ | exact rd_w _ _ | exact rd_hi _ _ | exact rd_lo _ _ | assumption) ?_) | (refine wpL_ldg M1 rfl rfl rfl (by repeat (first | exact Has.head _ _ _ _ | apply Has.tail)) (by first | exact rd_sat _ _ | exact rd_cnt _ _ | exact rd_unit _ _ | exact rd_num _ _ | exact rd_minus _ _ | exact rd_w _ _ | exact rd_hi _ _ | exact rd_lo _ _ | assumption) ?_) | (refine wpN_1 rfl rfl rfl ?_) | (refine wpN_0 rfl rfl ?_) | (refine wpU_0 rfl rfl ?_) | (refine wpN_2 rfl rfl rfl rfl ?_) | (refine wpL_st M1 rfl rfl rfl rfl (by repeat (first | exact Has.head _ _ _ _ | apply Has.tail)) (by first | exact wr_sat _ _ _ | exact wr_cnt _ _ _ | exact wr_unit _ rfl _ _ | exact wr_num _ (numC_len _ _) _ _ | exact wr_minus _ _ _ | exact wr_w _ rfl _ _ | exact wr_hi _ _ _ | assumption) (by repeat (first | exact Upd.head _ _ _ _ _ | apply Upd.tail)) ?_; clear M1; intro w' M1)))
      (refine (C1 _ _ _ _ M1 (by repeat (first | exact Upd.head _ _ _ _ _ | apply Upd.tail))).mono ?_; clear M1; rintro e w2 ⟨rfl, M1⟩; clear C1)
      go_wp2_with ((with_reducible refine (?_ : Go.wpList _ _ _ (_ :: _) _ _)); (first | go_skip | (refine wpL_ld M1 rfl rfl rfl (by repeat (first | exact Has.head _ _ _ _ | apply Has.tail)) (by first | exact rd_sat _ _ | exact rd_cnt _ _ | exact rd_unit _ _ | exact rd_num _ _ | exact rd_minus _ _ | exact rd_w _ _ | exact rd_hi _ _ | exact rd_lo _ _ | assumption) ?_) | (refine wpL_ldg M1 rfl rfl rfl (by repeat (first | exact Has.head _ _ _ _ | apply Has.tail)) (by first | exact rd_sat _ _ | exact rd_cnt _ _ | exact rd_unit _ _ | exact rd_num _ _ | exact rd_minus _ _ | exact rd_w _ _ | exact rd_hi _ _ | exact rd_lo _ _ | assumption) ?_) | (refine wpN_1 rfl rfl rfl ?_) | (refine wpN_0 rfl rfl ?_) | (refine wpU_0 rfl rfl ?_) | (refine wpN_2 rfl rfl rfl rfl ?_) | (refine wpL_st M1 rfl rfl rfl rfl (by repeat (first | exact Has.head _ _ _ _ | apply Has.tail)) (by first | exact wr_sat _ _ _ | exact wr_cnt _ _ _ | exact wr_unit _ rfl _ _ | exact wr_num _ (numC_len _ _) _ _ | exact wr_minus _ _ _ | exact wr_w _ rfl _ _ | exact wr_hi _ _ _ | assumption) (by repeat (first | exact Upd.head _ _ _ _ _ | apply Upd.tail)) ?_; clear M1; intro w' M1)))
      go_roundw
      case rel => exact ⟨k + 1, by omega, by go_num, by rw [HN.out]; rfl, by
        rw [HN.out]
        have e : d + 1 = c + ((k + 1 : Nat) : Int) := by have := HD.out; omega
        rw [← e]
        unfold sumStep
        rw [← Bool.or_assoc]
        exact M1⟩
      case measure => simp [intOf]; omega
    · obtain rfl : k = xs.length := by omega
      rw [List.take_length] at *
      go_wp2_with ((with_reducible refine (?_ : Go.wpList _ _ _ (_ :: _) _ _)); (first | go_skip | (refine wpL_ld M1 rfl rfl rfl (by repeat (first | exact Has.head _ _ _ _ | apply Has.tail)) (by first | exact rd_sat _ _ | exact rd_cnt _ _ | exact rd_unit _ _ | exact rd_num _ _ | exact rd_minus _ _ | exact rd_w _ _ | exact rd_hi _ _ | exact rd_lo _ _ | assumption) ?_) | (refine wpL_ldg M1 rfl rfl rfl (by repeat (first | exact Has.head _ _ _ _ | apply Has.tail)) (by first | exact rd_sat _ _ | exact rd_cnt _ _ | exact rd_unit _ _ | exact rd_num _ _ | exact rd_minus _ _ | exact rd_w _ _ | exact rd_hi _ _ | exact rd_lo _ _ | assumption) ?_) | (refine wpN_1 rfl rfl rfl ?_) | (refine wpN_0 rfl rfl ?_) | (refine wpU_0 rfl rfl ?_) | (refine wpN_2 rfl rfl rfl rfl ?_) | (refine wpL_st M1 rfl rfl rfl rfl (by repeat (first | exact Has.head _ _ _ _ | apply Has.tail)) (by first | exact wr_sat _ _ _ | exact wr_cnt _ _ _ | exact wr_unit _ rfl _ _ | exact wr_num _ (numC_len _ _) _ _ | exact wr_minus _ _ _ | exact wr_w _ rfl _ _ | exact wr_hi _ _ _ | assumption) (by repeat (first | exact Upd.head _ _ _ _ _ | apply Upd.tail)) ?_; clear M1; intro w' M1)))
      go_ret
      exact ⟨rfl, M1⟩
set_option maxRecDepth 20000 in
set_option maxHeartbeats 1600000 in
theorem sum_i64 (g : Nat) (s : Bool) (c : Int) (h0 : 0 ≤ c ∧ c ≤ 900000) (xs : List Int) (hx : ∀ x ∈ xs, In64 x) (hn : xs.length ≤ 100000) (a : Option Addr) (cap : Nat) (w0 w : World) (r : List (Nat × TypeId × List Value))
    (hS : ∀ (wx : World) (cs : List Value), Mem w0 wx ((g, 28, cs) :: r) → Sl wx 1 (.slice a xs.length cap) xs.length (i64s xs)) (M0 : Mem w0 w ((g, 28, [.bool s, .int .i64 c]) :: r)) :
    Calls Try.prog 24 #[.pointer (some ⟨g, 0, none⟩), .slice a xs.length cap] w fun e w' => e = .returned (.int .i64 (sumF xs).1) ∧ Mem w0 w' ((g, 28, [.bool (s || (sumF xs).2), .int .i64 (c + xs.length)]) :: r) := by
  have HS := Lib.hid hS
  have HX := Lib.hid hx
  have HR := Lib.hid h0
  clear hS hx h0
  go_enter Try.func24, Try.ntmps24
  go_wp2_with ((with_reducible refine (?_ : Go.wpList _ _ _ (_ :: _) _ _)); (first | go_skip | (refine wpL_ld M0 rfl rfl rfl (by repeat (first | exact Has.head _ _ _ _ | apply Has.tail)) (by first | exact rd_sat _ _ | exact rd_cnt _ _ | exact rd_unit _ _ | exact rd_num _ _ | exact rd_minus _ _ | exact rd_w _ _ | exact rd_hi _ _ | exact rd_lo _ _ | assumption) ?_) | (refine wpL_ldg M0 rfl rfl rfl (by repeat (first | exact Has.head _ _ _ _ | apply Has.tail)) (by first | exact rd_sat _ _ | exact rd_cnt _ _ | exact rd_unit _ _ | exact rd_num _ _ | exact rd_minus _ _ | exact rd_w _ _ | exact rd_hi _ _ | exact rd_lo _ _ | assumption) ?_) | (refine wpN_1 rfl rfl rfl ?_) | (refine wpN_0 rfl rfl ?_) | (refine wpU_0 rfl rfl ?_) | (refine wpN_2 rfl rfl rfl rfl ?_) | (refine wpL_st M0 rfl rfl rfl rfl (by repeat (first | exact Has.head _ _ _ _ | apply Has.tail)) (by first | exact wr_sat _ _ _ | exact wr_cnt _ _ _ | exact wr_unit _ rfl _ _ | exact wr_num _ (numC_len _ _) _ _ | exact wr_minus _ _ _ | exact wr_w _ rfl _ _ | exact wr_hi _ _ _ | assumption) (by repeat (first | exact Upd.head _ _ _ _ _ | apply Upd.tail)) ?_; clear M0; intro w' M0)))
  go_loopw [5, 10] (fun v i wx => ∃ k : Nat, k ≤ xs.length ∧ i = .int .i64 k ∧ v = .int .i64 (sumF (xs.take k)).1 ∧ Mem w0 wx ((g, 28, [.bool (s || (sumF (xs.take k)).2), .int .i64 (c + k)]) :: r)) (fun _ i _ => xs.length - (intOf i).toNat)
  case atStart => exact ⟨0, by omega, rfl, rfl, by rw [List.take_zero, show sumF [] = (0, false) from rfl, Bool.or_false, show c + ((0 : Nat) : Int) = c by omega]; exact M0⟩
  case round =>
    clear M0
    obtain ⟨k, hk, rfl, rfl, M1⟩ := hrel
    by_cases hlt : k < xs.length
    · obtain ⟨a', c', he, _, _, _, _, h5⟩ := HS.out _ _ M1
      cases he
      obtain ⟨b, o, rfl, hc⟩ := h5 k _ (i64s_at xs k hlt)
      clear h5
      have hi0 : (0 : Int) ≤ k := by omega
      have hi1 : (k : Int) < xs.length := by omega
      have C1 := uAdd g (s || (sumF (xs.take k)).2) (c + k) (sumF (xs.take k)).1 xs[k] (by have := HR.out; omega) (sumF_range _) (HX.out _ (List.getElem_mem _))
      have HN := Lib.hid (sumF_next xs k hlt)
      obtain ⟨x, hxe⟩ : ∃ x, x = xs[k] := ⟨_, rfl⟩
      obtain ⟨p, hp⟩ : ∃ p, p = sumF (xs.take k) := ⟨_, rfl⟩
      obtain ⟨d, hd⟩ : ∃ d, d = c + (k : Int) := ⟨_, rfl⟩
      rw [← hxe] at hc C1 HN
      rw [← hp] at M1 C1 HN ⊢
      rw [← hd] at M1 C1
      have HD := Lib.hid hd
      clear hxe hp hd
      go_wp2_with ((with_reducible refine (?_ : Go.wpList _ _ _ (_ :: _) _ _)); (first | go_skip | (refine wpL_ld M1 rfl rfl rfl (by repeat (first | exact Has.head _ _ _ _ | apply Has.tail)) (by first | exact rd_sat _ _ | exact rd_cnt _ _ | exact rd_unit _ _ | exact rd_num _ _ | exact rd_minus _ _ | exact rd_w _ _ | exact rd_hi _ _ | exact rd_lo _ _ | assumption) ?_) | (refine wpL_ldg M1 rfl rfl rfl (by repeat (first | exact Has.head _ _ _ _ | apply Has.tail)) (by first | exact rd_sat _ _ | exact rd_cnt _ _ | exact rd_unit _ _ | exact rd_num _ _ | exact rd_minus _ _ | exact rd_w _ _ | exact rd_hi _ _ | exact rd_lo _ _ | assumption) ?_) | (refine wpN_1 rfl rfl rfl ?_) | (refine wpN_0 rfl rfl ?_) | (refine wpU_0 rfl rfl ?_) | (refine wpN_2 rfl rfl rfl rfl ?_) | (refine wpL_st M1 rfl rfl rfl rfl (by repeat (first | exact Has.head _ _ _ _ | apply Has.tail)) (by first | exact wr_sat _ _ _ | exact wr_cnt _ _ _ | exact wr_unit _ rfl _ _ | exact wr_num _ (numC_len _ _) _ _ | exact wr_minus _ _ _ | exact wr_w _ rfl _ _ | exact wr_hi _ _ _ | assumption) (by repeat (first | exact Upd.head _ _ _ _ _ | apply Upd.tail)) ?_; clear M1; intro w' M1)))
      (refine (C1 _ _ _ _ M1 (by repeat (first | exact Upd.head _ _ _ _ _ | apply Upd.tail))).mono ?_; clear M1; rintro e w2 ⟨rfl, M1⟩; clear C1)
      go_wp2_with ((with_reducible refine (?_ : Go.wpList _ _ _ (_ :: _) _ _)); (first | go_skip | (refine wpL_ld M1 rfl rfl rfl (by repeat (first | exact Has.head _ _ _ _ | apply Has.tail)) (by first | exact rd_sat _ _ | exact rd_cnt _ _ | exact rd_unit _ _ | exact rd_num _ _ | exact rd_minus _ _ | exact rd_w _ _ | exact rd_hi _ _ | exact rd_lo _ _ | assumption) ?_) | (refine wpL_ldg M1 rfl rfl rfl (by repeat (first | exact Has.head _ _ _ _ | apply Has.tail)) (by first | exact rd_sat _ _ | exact rd_cnt _ _ | exact rd_unit _ _ | exact rd_num _ _ | exact rd_minus _ _ | exact rd_w _ _ | exact rd_hi _ _ | exact rd_lo _ _ | assumption) ?_) | (refine wpN_1 rfl rfl rfl ?_) | (refine wpN_0 rfl rfl ?_) | (refine wpU_0 rfl rfl ?_) | (refine wpN_2 rfl rfl rfl rfl ?_) | (refine wpL_st M1 rfl rfl rfl rfl (by repeat (first | exact Has.head _ _ _ _ | apply Has.tail)) (by first | exact wr_sat _ _ _ | exact wr_cnt _ _ _ | exact wr_unit _ rfl _ _ | exact wr_num _ (numC_len _ _) _ _ | exact wr_minus _ _ _ | exact wr_w _ rfl _ _ | exact wr_hi _ _ _ | assumption) (by repeat (first | exact Upd.head _ _ _ _ _ | apply Upd.tail)) ?_; clear M1; intro w' M1)))
      go_roundw
      case rel => exact ⟨k + 1, by omega, by go_num, by rw [HN.out]; rfl, by
        rw [HN.out]
        have e : d + 1 = c + ((k + 1 : Nat) : Int) := by have := HD.out; omega
        rw [← e]
        unfold sumStep
        rw [← Bool.or_assoc]
        exact M1⟩
      case measure => simp [intOf]; omega
    · obtain rfl : k = xs.length := by omega
      rw [List.take_length] at *
      go_wp2_with ((with_reducible refine (?_ : Go.wpList _ _ _ (_ :: _) _ _)); (first | go_skip | (refine wpL_ld M1 rfl rfl rfl (by repeat (first | exact Has.head _ _ _ _ | apply Has.tail)) (by first | exact rd_sat _ _ | exact rd_cnt _ _ | exact rd_unit _ _ | exact rd_num _ _ | exact rd_minus _ _ | exact rd_w _ _ | exact rd_hi _ _ | exact rd_lo _ _ | assumption) ?_) | (refine wpL_ldg M1 rfl rfl rfl (by repeat (first | exact Has.head _ _ _ _ | apply Has.tail)) (by first | exact rd_sat _ _ | exact rd_cnt _ _ | exact rd_unit _ _ | exact rd_num _ _ | exact rd_minus _ _ | exact rd_w _ _ | exact rd_hi _ _ | exact rd_lo _ _ | assumption) ?_) | (refine wpN_1 rfl rfl rfl ?_) | (refine wpN_0 rfl rfl ?_) | (refine wpU_0 rfl rfl ?_) | (refine wpN_2 rfl rfl rfl rfl ?_) | (refine wpL_st M1 rfl rfl rfl rfl (by repeat (first | exact Has.head _ _ _ _ | apply Has.tail)) (by first | exact wr_sat _ _ _ | exact wr_cnt _ _ _ | exact wr_unit _ rfl _ _ | exact wr_num _ (numC_len _ _) _ _ | exact wr_minus _ _ _ | exact wr_w _ rfl _ _ | exact wr_hi _ _ _ | assumption) (by repeat (first | exact Upd.head _ _ _ _ _ | apply Upd.tail)) ?_; clear M1; intro w' M1)))
      go_ret
      exact ⟨rfl, M1⟩
set_option maxRecDepth 20000 in
set_option maxHeartbeats 1600000 in
theorem dot_any (g : Nat) (s : Bool) (c q mode : Int) (h0 : 0 ≤ c ∧ c ≤ 700000) (xs ys : List Int) (hx : ∀ x ∈ xs, In64 x) (hy : ∀ x ∈ ys, In64 x) (hn : xs.length ≤ 100000) (hm : ys.length ≤ 100000) (a b : Option Addr) (cap cap2 : Nat) (w0 w : World) (r : List (Nat × TypeId × List Value))
    (hS : ∀ (wx : World) (cs : List Value), Mem w0 wx ((g, 28, cs) :: r) → Sl wx 1 (.slice a xs.length cap) xs.length (i64s xs))
    (hT : ∀ (wx : World) (cs : List Value), Mem w0 wx ((g, 28, cs) :: r) → Sl wx 1 (.slice b ys.length cap2) ys.length (i64s ys)) (M0 : Mem w0 w ((g, 28, [.bool s, .int .i64 c]) :: r)) :
    Calls Try.prog 25 #[.pointer (some ⟨g, 0, none⟩), .slice a xs.length cap, .slice b ys.length cap2, .int .i64 q, .int .i64 mode] w fun e w' =>
      e = .returned (.int .i64 (dotF q mode (xs.zip ys)).1) ∧ Mem w0 w' ((g, 28, [.bool (s || (dotF q mode (xs.zip ys)).2), .int .i64 (c + 2 * (min xs.length ys.length : Nat))]) :: r) := by
  have HS := Lib.hid hS
  have HT := Lib.hid hT
  have HX := Lib.hid hx
  have HY := Lib.hid hy
  have HR := Lib.hid h0
  have HZ := Lib.hid (List.length_zip (l₁ := xs) (l₂ := ys))
  clear hS hT hx hy h0
  obtain ⟨n, hne⟩ : ∃ n, n = min xs.length ys.length := ⟨_, rfl⟩
  have hmin : min (xs.length : Int) (ys.length : Int) = (n : Int) := by omega
  have HNE := Lib.hid hne
  rw [← hne] at HZ ⊢
  clear hne
  go_enter Try.func25, Try.ntmps25
  go_wp2_with ((with_reducible refine (?_ : Go.wpList _ _ _ (_ :: _) _ _)); (first | go_skip | (refine wpL_ld M0 rfl rfl rfl (by repeat (first | exact Has.head _ _ _ _ | apply Has.tail)) (by first | exact rd_sat _ _ | exact rd_cnt _ _ | exact rd_unit _ _ | exact rd_num _ _ | exact rd_minus _ _ | exact rd_w _ _ | exact rd_hi _ _ | exact rd_lo _ _ | assumption) ?_) | (refine wpL_ldg M0 rfl rfl rfl (by repeat (first | exact Has.head _ _ _ _ | apply Has.tail)) (by first | exact rd_sat _ _ | exact rd_cnt _ _ | exact rd_unit _ _ | exact rd_num _ _ | exact rd_minus _ _ | exact rd_w _ _ | exact rd_hi _ _ | exact rd_lo _ _ | assumption) ?_) | (refine wpN_1 rfl rfl rfl ?_) | (refine wpN_0 rfl rfl ?_) | (refine wpU_0 rfl rfl ?_) | (refine wpN_2 rfl rfl rfl rfl ?_) | (refine wpL_st M0 rfl rfl rfl rfl (by repeat (first | exact Has.head _ _ _ _ | apply Has.tail)) (by first | exact wr_sat _ _ _ | exact wr_cnt _ _ _ | exact wr_unit _ rfl _ _ | exact wr_num _ (numC_len _ _) _ _ | exact wr_minus _ _ _ | exact wr_w _ rfl _ _ | exact wr_hi _ _ _ | assumption) (by repeat (first | exact Upd.head _ _ _ _ _ | apply Upd.tail)) ?_; clear M0; intro w' M0)))
  go_loopw [11, 18] (fun v i wx => ∃ k : Nat, k ≤ n ∧ i = .int .i64 k ∧ v = .int .i64 (dotF q mode ((xs.zip ys).take k)).1 ∧ Mem w0 wx ((g, 28, [.bool (s || (dotF q mode ((xs.zip ys).take k)).2), .int .i64 (c + 2 * k)]) :: r)) (fun _ i _ => n - (intOf i).toNat)
  case atStart => exact ⟨0, by omega, rfl, rfl, by rw [List.take_zero, show dotF q mode [] = (0, false) from rfl, Bool.or_false, show c + 2 * ((0 : Nat) : Int) = c by omega]; exact M0⟩
  case round =>
    clear M0
    obtain ⟨k, hk, rfl, rfl, M1⟩ := hrel
    by_cases hlt : k < n
    · have hk1 : k < xs.length := by have := HNE.out; omega
      have hk2 : k < ys.length := by have := HNE.out; omega
      have hA : ∀ (wx : World) (cs : List Value), Mem w0 wx ((g, 28, cs) :: r) → ∃ b o, a = some ⟨b, o, none⟩ ∧ wx.cell? ⟨b, o + k, none⟩ = some (.int .i64 xs[k]) := fun wx cs M => by
        obtain ⟨a', c', he, _, _, _, _, h5⟩ := HS.out _ _ M
        cases he
        exact h5 k _ (i64s_at xs k hk1)
      have hB : ∀ (wx : World) (cs : List Value), Mem w0 wx ((g, 28, cs) :: r) → ∃ b' o, b = some ⟨b', o, none⟩ ∧ wx.cell? ⟨b', o + k, none⟩ = some (.int .i64 ys[k]) := fun wx cs M => by
        obtain ⟨a', c', he, _, _, _, _, h5⟩ := HT.out _ _ M
        cases he
        exact h5 k _ (i64s_at ys k hk2)
      obtain ⟨a1, o1, ea, _⟩ := hA _ _ M1
      obtain ⟨b1, p1, eb, _⟩ := hB _ _ M1
      subst ea eb
      replace hA : ∀ (wx : World) (cs : List Value), Mem w0 wx ((g, 28, cs) :: r) → wx.cell? ⟨a1, o1 + k, none⟩ = some (.int .i64 xs[k]) := fun wx cs M => by
        obtain ⟨b', o', he, hc⟩ := hA wx cs M
        cases he
        exact hc
      replace hB : ∀ (wx : World) (cs : List Value), Mem w0 wx ((g, 28, cs) :: r) → wx.cell? ⟨b1, p1 + k, none⟩ = some (.int .i64 ys[k]) := fun wx cs M => by
        obtain ⟨b', o', he, hc⟩ := hB wx cs M
        cases he
        exact hc
      have hi0 : (0 : Int) ≤ k := by omega
      have hi1 : (k : Int) < xs.length := by omega
      have hi2 : (k : Int) < ys.length := by omega
      have C1 := uMul g (s || (dotF q mode ((xs.zip ys).take k)).2) (c + 2 * k) xs[k] ys[k] q mode (by have := HR.out; omega) (HX.out _ (List.getElem_mem _)) (HY.out _ (List.getElem_mem _))
      have C2 := uAdd g ((s || (dotF q mode ((xs.zip ys).take k)).2) || mulS xs[k] ys[k] q mode) (c + 2 * k + 1) (dotF q mode ((xs.zip ys).take k)).1 (mulV xs[k] ys[k] q mode) (by have := HR.out; omega) (dotF_range _ _ _) (mulV_range _ _ _ _)
      have hz : k < (xs.zip ys).length := by have := HZ.out; omega
      have HN := Lib.hid (dotF_next q mode (xs.zip ys) k hz)
      rw [List.getElem_zip] at HN
      obtain ⟨x, hxe⟩ : ∃ x, x = xs[k] := ⟨_, rfl⟩
      obtain ⟨y, hye⟩ : ∃ y, y = ys[k] := ⟨_, rfl⟩
      obtain ⟨p, hp⟩ : ∃ p, p = dotF q mode ((xs.zip ys).take k) := ⟨_, rfl⟩
      obtain ⟨d, hd⟩ : ∃ d, d = c + 2 * (k : Int) := ⟨_, rfl⟩
      rw [← hxe] at hA C1 C2 HN
      rw [← hye] at hB C1 C2 HN
      rw [← hp] at M1 C1 C2 HN ⊢
      rw [← hd] at M1 C1 C2
      have HD := Lib.hid hd
      have HA := Lib.hid hA
      have HB := Lib.hid hB
      clear hxe hye hp hd hz hA hB
      go_upto_region 5 with ((with_reducible refine (?_ : Go.wpList _ _ _ (_ :: _) _ _)); (first | go_skip | (refine wpL_ld M1 rfl rfl rfl (by repeat (first | exact Has.head _ _ _ _ | apply Has.tail)) (by first | exact rd_sat _ _ | exact rd_cnt _ _ | exact rd_unit _ _ | exact rd_num _ _ | exact rd_minus _ _ | exact rd_w _ _ | exact rd_hi _ _ | exact rd_lo _ _ | assumption) ?_) | (refine wpL_ldg M1 rfl rfl rfl (by repeat (first | exact Has.head _ _ _ _ | apply Has.tail)) (by first | exact rd_sat _ _ | exact rd_cnt _ _ | exact rd_unit _ _ | exact rd_num _ _ | exact rd_minus _ _ | exact rd_w _ _ | exact rd_hi _ _ | exact rd_lo _ _ | assumption) ?_) | (refine wpN_1 rfl rfl rfl ?_) | (refine wpN_0 rfl rfl ?_) | (refine wpU_0 rfl rfl ?_) | (refine wpN_2 rfl rfl rfl rfl ?_) | (refine wpL_st M1 rfl rfl rfl rfl (by repeat (first | exact Has.head _ _ _ _ | apply Has.tail)) (by first | exact wr_sat _ _ _ | exact wr_cnt _ _ _ | exact wr_unit _ rfl _ _ | exact wr_num _ (numC_len _ _) _ _ | exact wr_minus _ _ _ | exact wr_w _ rfl _ _ | exact wr_hi _ _ _ | assumption) (by repeat (first | exact Upd.head _ _ _ _ _ | apply Upd.tail)) ?_; clear M1; intro w' M1)))
      have M5 := M1.drew
      clear M1
      try dsimp only [Act.put]
      refine wp_region_held_drew (S := (fun w' : World => w'.cell? ⟨a1, o1 + k, none⟩ = some (.int .i64 x) ∧ w'.cell? ⟨b1, p1 + k, none⟩ = some (.int .i64 y))) (by kernel_rfl) ((⟨HA.out _ _ M5, HB.out _ _ M5⟩)) (fun hHeld => ?_)
      refine wpAnyH_take (i := 0) (v := ?v21) rfl (by kernel_rfl) (by kernel_rfl) (by kernel_rfl) (fun _ _ _ h => h) (Or.inl ⟨by rfl, ?hy21⟩) hHeld ?rest21
      case hy21 => (intro w' hSw; (try dsimp only at hSw); go_simp; (try with_reducible rfl))
      try simp only [Act.put, List.setIfInBounds_toArray, List.set_cons_zero, List.set_cons_succ, List.getElem_toArray, List.getElem_cons_zero, List.getElem_cons_succ]
      refine wpAnyH_take (i := 1) (v := ?v22) rfl (by kernel_rfl) (by kernel_rfl) (by kernel_rfl) (fun _ _ _ h => h) (Or.inl ⟨by rfl, ?hy22⟩) hHeld ?rest22
      case hy22 => (intro w' hSw; (try dsimp only at hSw); go_simp; (try with_reducible rfl))
      try simp only [Act.put, List.setIfInBounds_toArray, List.set_cons_zero, List.set_cons_succ, List.getElem_toArray, List.getElem_cons_zero, List.getElem_cons_succ]
      refine wpAnyH_take (i := 2) (v := ?v23) rfl (by kernel_rfl) (by kernel_rfl) (by kernel_rfl) (fun _ _ _ h => h) (Or.inl ⟨by rfl, ?hy23⟩) hHeld ?rest23
      case hy23 => (intro w' hSw; (try dsimp only at hSw); go_simp; (try with_reducible rfl))
      try simp only [Act.put, List.setIfInBounds_toArray, List.set_cons_zero, List.set_cons_succ, List.getElem_toArray, List.getElem_cons_zero, List.getElem_cons_succ]
      refine wpAnyH_take (i := 3) (v := ?v24) rfl (by kernel_rfl) (by kernel_rfl) (by kernel_rfl) (fun _ _ _ h => h) (Or.inl ⟨by rfl, ?hy24⟩) hHeld ?rest24
      case hy24 => (intro w' hSw; (try dsimp only at hSw); go_simp; (try with_reducible rfl))
      try simp only [Act.put, List.setIfInBounds_toArray, List.set_cons_zero, List.set_cons_succ, List.getElem_toArray, List.getElem_cons_zero, List.getElem_cons_succ]
      refine wpAnyH_take (i := 4) (v := ?v25) rfl (by kernel_rfl) (by kernel_rfl) (by kernel_rfl) (fun _ _ _ h => h) (Or.inl ⟨by rfl, ?hy25⟩) hHeld ?rest25
      case hy25 => (intro w' hSw; (try dsimp only at hSw); go_simp; (try with_reducible rfl))
      try simp only [Act.put, List.setIfInBounds_toArray, List.set_cons_zero, List.set_cons_succ, List.getElem_toArray, List.getElem_cons_zero, List.getElem_cons_succ]
      refine wpAnyH_take (i := 5) (v := ?v26) rfl (by kernel_rfl) (by kernel_rfl) (by kernel_rfl) (fun _ _ _ h => h) (Or.inl ⟨by rfl, ?hy26⟩) hHeld ?rest26
      case hy26 => (intro w' hSw; (try dsimp only at hSw); go_simp; (try with_reducible rfl))
      try simp only [Act.put, List.setIfInBounds_toArray, List.set_cons_zero, List.set_cons_succ, List.getElem_toArray, List.getElem_cons_zero, List.getElem_cons_succ]
      refine wpAnyH_take (i := 6) (v := ?v27) rfl (by kernel_rfl) (by kernel_rfl) (by kernel_rfl) (fun _ _ _ h => h) (Or.inl ⟨by rfl, ?hy27⟩) hHeld ?rest27
      case hy27 => (intro w' hSw; (try dsimp only at hSw); go_simp; (try with_reducible rfl))
      try simp only [Act.put, List.setIfInBounds_toArray, List.set_cons_zero, List.set_cons_succ, List.getElem_toArray, List.getElem_cons_zero, List.getElem_cons_succ]
      refine wpAnyH_take (i := 7) (v := ?v28) rfl (by kernel_rfl) (by kernel_rfl) (by kernel_rfl) (fun _ _ _ h => h) (Or.inl ⟨by rfl, ?hy28⟩) hHeld ?rest28
      case hy28 => (intro w' hSw; (try dsimp only at hSw); go_simp; (try with_reducible rfl))
      try simp only [Act.put, List.setIfInBounds_toArray, List.set_cons_zero, List.set_cons_succ, List.getElem_toArray, List.getElem_cons_zero, List.getElem_cons_succ]
      refine wpAnyH_take (i := 8) (v := ?v29) rfl (by kernel_rfl) (by kernel_rfl) (by kernel_rfl) (fun _ _ _ h => h) (Or.inl ⟨by rfl, ?hy29⟩) hHeld ?rest29
      case hy29 => (intro w' hSw; (try dsimp only at hSw); go_simp; (try with_reducible rfl))
      try simp only [Act.put, List.setIfInBounds_toArray, List.set_cons_zero, List.set_cons_succ, List.getElem_toArray, List.getElem_cons_zero, List.getElem_cons_succ]
      refine wpAnyH_take (i := 9) (v := ?v30) rfl (by kernel_rfl) (by kernel_rfl) (by kernel_rfl) (fun _ _ _ h => h) (Or.inl ⟨by rfl, ?hy30⟩) hHeld ?rest30
      case hy30 => (intro w' hSw; (try dsimp only at hSw); go_simp; (try with_reducible rfl))
      try simp only [Act.put, List.setIfInBounds_toArray, List.set_cons_zero, List.set_cons_succ, List.getElem_toArray, List.getElem_cons_zero, List.getElem_cons_succ]
      refine wpAnyH_take (i := 10) (v := ?v31) rfl (by kernel_rfl) (by kernel_rfl) (by kernel_rfl) (fun _ _ _ h => h) (Or.inl ⟨by rfl, ?hy31⟩) hHeld ?rest31
      case hy31 => (intro w' hSw; (try dsimp only at hSw); go_simp; (try with_reducible rfl))
      try simp only [Act.put, List.setIfInBounds_toArray, List.set_cons_zero, List.set_cons_succ, List.getElem_toArray, List.getElem_cons_zero, List.getElem_cons_succ]
      refine wpAnyH_take (i := 11) (v := ?v32) rfl (by kernel_rfl) (by kernel_rfl) (by kernel_rfl) (fun _ _ _ h => h) (Or.inl ⟨by rfl, ?hy32⟩) hHeld ?rest32
      case hy32 => (intro w' hSw; (try dsimp only at hSw); go_simp; (try with_reducible rfl))
      try simp only [Act.put, List.setIfInBounds_toArray, List.set_cons_zero, List.set_cons_succ, List.getElem_toArray, List.getElem_cons_zero, List.getElem_cons_succ]
      refine wpAnyH_take (i := 12) (v := ?v33) rfl (by kernel_rfl) (by kernel_rfl) (by kernel_rfl) (fun _ _ _ h => h) (Or.inl ⟨by rfl, ?hy33⟩) hHeld ?rest33
      case hy33 => (intro w' hSw; (try dsimp only at hSw); go_simp; (try with_reducible rfl))
      try simp only [Act.put, List.setIfInBounds_toArray, List.set_cons_zero, List.set_cons_succ, List.getElem_toArray, List.getElem_cons_zero, List.getElem_cons_succ]
      refine wpAnyH_ready (rs := [13]) (by kernel_rfl) (by simp) ?_
      refine AllReadyH.cons rfl (fun K hK => ?_) AllReadyH.nil
      go_simp
      (refine (C1 _ _ _ _ M5 (by repeat (first | exact Upd.head _ _ _ _ _ | apply Upd.tail))).mono ?_; clear M5; rintro e w2 ⟨rfl, M5⟩; clear C1)
      try go_wp2_with fail
      refine hK.out _ _ (⟨HA.out _ _ M5, HB.out _ _ M5⟩) (fun hHeld => ?_)
      clear hK K
      try simp only [Act.put, List.setIfInBounds_toArray, List.set_cons_zero, List.set_cons_succ, List.getElem_toArray, List.getElem_cons_zero, List.getElem_cons_succ]
      refine wpAnyH_ready (rs := [14]) (by kernel_rfl) (by simp) ?_
      refine AllReadyH.cons rfl (fun K hK => ?_) AllReadyH.nil
      go_simp
      (refine (C2 _ _ _ _ M5 (by repeat (first | exact Upd.head _ _ _ _ _ | apply Upd.tail))).mono ?_; clear M5; rintro e w2 ⟨rfl, M5⟩; clear C2)
      try go_wp2_with fail
      refine hK.out _ _ (⟨HA.out _ _ M5, HB.out _ _ M5⟩) (fun hHeld => ?_)
      clear hK K
      try simp only [Act.put, List.setIfInBounds_toArray, List.set_cons_zero, List.set_cons_succ, List.getElem_toArray, List.getElem_cons_zero, List.getElem_cons_succ]
      refine wpAnyH_take (i := 15) (v := ?v36) rfl (by kernel_rfl) (by kernel_rfl) (by kernel_rfl) (fun _ _ _ h => h) (Or.inl ⟨by rfl, ?hy36⟩) hHeld ?rest36
      case hy36 => (intro w' hSw; (try dsimp only at hSw); go_simp; (try with_reducible rfl))
      try simp only [Act.put, List.setIfInBounds_toArray, List.set_cons_zero, List.set_cons_succ, List.getElem_toArray, List.getElem_cons_zero, List.getElem_cons_succ]
      refine wpAnyH_done (by kernel_rfl) ?_ _
      go_wp2_with ((with_reducible refine (?_ : Go.wpList _ _ _ (_ :: _) _ _)); (first | go_skip | (refine wpL_ld M5 rfl rfl rfl (by repeat (first | exact Has.head _ _ _ _ | apply Has.tail)) (by first | exact rd_sat _ _ | exact rd_cnt _ _ | exact rd_unit _ _ | exact rd_num _ _ | exact rd_minus _ _ | exact rd_w _ _ | exact rd_hi _ _ | exact rd_lo _ _ | assumption) ?_) | (refine wpL_ldg M5 rfl rfl rfl (by repeat (first | exact Has.head _ _ _ _ | apply Has.tail)) (by first | exact rd_sat _ _ | exact rd_cnt _ _ | exact rd_unit _ _ | exact rd_num _ _ | exact rd_minus _ _ | exact rd_w _ _ | exact rd_hi _ _ | exact rd_lo _ _ | assumption) ?_) | (refine wpN_1 rfl rfl rfl ?_) | (refine wpN_0 rfl rfl ?_) | (refine wpU_0 rfl rfl ?_) | (refine wpN_2 rfl rfl rfl rfl ?_) | (refine wpL_st M5 rfl rfl rfl rfl (by repeat (first | exact Has.head _ _ _ _ | apply Has.tail)) (by first | exact wr_sat _ _ _ | exact wr_cnt _ _ _ | exact wr_unit _ rfl _ _ | exact wr_num _ (numC_len _ _) _ _ | exact wr_minus _ _ _ | exact wr_w _ rfl _ _ | exact wr_hi _ _ _ | assumption) (by repeat (first | exact Upd.head _ _ _ _ _ | apply Upd.tail)) ?_; clear M5; intro w' M5)))
      go_roundw
      case rel => exact ⟨k + 1, by omega, by go_num, by rw [HN.out]; rfl, by
        rw [HN.out]
        have e : d + 1 + 1 = c + 2 * ((k + 1 : Nat) : Int) := by have := HD.out; omega
        rw [← e]
        unfold dotStep
        rw [← Bool.or_assoc, ← Bool.or_assoc]
        exact M5⟩
      case measure => simp [intOf]; omega
    · obtain rfl : k = n := by omega
      have HE : (xs.zip ys).take k = xs.zip ys := List.take_of_length_le (by have := HZ.out; omega)
      rw [HE] at M1 ⊢
      go_wp2_with ((with_reducible refine (?_ : Go.wpList _ _ _ (_ :: _) _ _)); (first | go_skip | (refine wpL_ld M1 rfl rfl rfl (by repeat (first | exact Has.head _ _ _ _ | apply Has.tail)) (by first | exact rd_sat _ _ | exact rd_cnt _ _ | exact rd_unit _ _ | exact rd_num _ _ | exact rd_minus _ _ | exact rd_w _ _ | exact rd_hi _ _ | exact rd_lo _ _ | assumption) ?_) | (refine wpL_ldg M1 rfl rfl rfl (by repeat (first | exact Has.head _ _ _ _ | apply Has.tail)) (by first | exact rd_sat _ _ | exact rd_cnt _ _ | exact rd_unit _ _ | exact rd_num _ _ | exact rd_minus _ _ | exact rd_w _ _ | exact rd_hi _ _ | exact rd_lo _ _ | assumption) ?_) | (refine wpN_1 rfl rfl rfl ?_) | (refine wpN_0 rfl rfl ?_) | (refine wpU_0 rfl rfl ?_) | (refine wpN_2 rfl rfl rfl rfl ?_) | (refine wpL_st M1 rfl rfl rfl rfl (by repeat (first | exact Has.head _ _ _ _ | apply Has.tail)) (by first | exact wr_sat _ _ _ | exact wr_cnt _ _ _ | exact wr_unit _ rfl _ _ | exact wr_num _ (numC_len _ _) _ _ | exact wr_minus _ _ _ | exact wr_w _ rfl _ _ | exact wr_hi _ _ _ | assumption) (by repeat (first | exact Upd.head _ _ _ _ _ | apply Upd.tail)) ?_; clear M1; intro w' M1)))
      go_ret
      exact ⟨rfl, M1⟩
end Go.Proofs.Ytggmjdaolekgmaa
