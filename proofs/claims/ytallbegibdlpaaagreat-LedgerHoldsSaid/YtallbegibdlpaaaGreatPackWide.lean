/-
  Texts in one: WideSpec, WideN, WideA, WideB, WideC, DivSpec, WideD, WideG, WideH, WideI, WideE, DivPlain.
-/
import Derived.Test.YtallbegibdlpaaaGreatRows
import Derived.Test.YtallbegibdlpaaaGreatPackBits
import Derived.Shelf.Spec.BitsCarry
import Derived.Lib.Mul64
import Derived.Laws.Bits64b
import Derived.Test.YtallbegibdlpaaaGreatLen
set_option linter.unusedVariables false
set_option linter.unusedSimpArgs false

/-
  Numbers of bits, rounded quotients: plain.
-/
namespace Go.Th.Wide

/-- The bit of a number. -/
def bt (n i : Nat) : Nat := n / 2 ^ i % 2
/-! ### added, taken off -/
/-! ### compared -/
/-! ### divided -/
/-- Is the quotient's magnitude one more? -/
def moreS (r d : Nat) (minus : Bool) (mode : Int) : Bool :=
  if r = 0 ∨ mode = 3 then false else if mode = 0 then minus else if mode = 1 then !minus else decide (d < 2 * r) || (decide (2 * r = d) && !minus)
def fitsS (m : Bool) (n k : Nat) : Bool := decide (n < 2 ^ k) || (decide (n = 2 ^ k) && m)
/-- The magnitude of a rounded quotient. -/
def magS (N : Nat) (minus : Bool) (D : Nat) (mode : Int) : Nat := N / D + if moreS (N % D) D minus mode then 1 else 0
def signed (m : Bool) (n : Nat) : Int := if m then -(n : Int) else n
/-- A rounded quotient, and its code. -/
def divV (z b : Int) (mode : Int) : Int :=
  if b = 0 ∨ mode < 0 ∨ 3 < mode then 0 else
    let m := decide (z < 0) != decide (b < 0)
    let q := magS z.natAbs m b.natAbs mode
    if q = 0 then 0 else if fitsS m q 63 then signed m q else 0
def divE (z b : Int) (mode : Int) : Int :=
  if b = 0 ∨ mode < 0 ∨ 3 < mode then 1 else
    let m := decide (z < 0) != decide (b < 0)
    let q := magS z.natAbs m b.natAbs mode
    if q = 0 then 0 else if fitsS m q 63 then 0 else 10
end Go.Th.Wide

/-
  Numbers of 128 bits, as values; reading and writing them.
-/
namespace Go.Proofs.YtallbegibdlpaaaGreat
open Go Go.RowKit Go.Th Go.Th.Wide

def hiZ (z : Int) : Int := z / 18446744073709551616
def loZ (z : Int) : Int := z % 18446744073709551616

theorem zero25 : (Tryz.prog.info? 51).map (·.zero) = some (some (.agg #[.int .i64 0, .int .u64 0])) := by kernel_rfl
theorem size25 : (Tryz.prog.info? 51).map (·.size) = some 2 := by kernel_rfl
theorem size2 : (Tryz.prog.info? 2).map (·.size) = some 1 := by kernel_rfl
theorem rd_w (h l : Int) : Rd Tryz.prog 51 0 [.int .i64 h, .int .u64 l] (.agg #[.int .i64 h, .int .u64 l]) :=
  Rd.agg (ds := [.int .i64 h, .int .u64 l]) Tryz.underlying51 rfl size25 (fun j u hj => by rw [Nat.zero_add]; exact hj)
theorem rd_hi (h l : Int) : Rd Tryz.prog 2 0 [.int .i64 h, .int .u64 l] (.int .i64 h) := Rd.one Tryz.underlying2 rfl rfl
theorem rd_lo (h l : Int) : Rd Tryz.prog 49 1 [.int .i64 h, .int .u64 l] (.int .u64 l) := Rd.one Tryz.underlying49 rfl rfl
theorem wr_w (cs : List Value) (hc : cs.length = 2) (h l : Int) : Wr Tryz.prog 51 0 cs (.agg #[.int .i64 h, .int .u64 l]) [.int .i64 h, .int .u64 l] :=
  Wr.whole (ds := [.int .i64 h, .int .u64 l]) size25 hc.symm (by intro u hu; simp at hu; rcases hu with rfl | rfl <;> rfl)
theorem wr_hi (h l h' : Int) : Wr Tryz.prog 2 0 [.int .i64 h, .int .u64 l] (.int .i64 h') [.int .i64 h', .int .u64 l] := by
  constructor
  intro w g t hb
  have hc := hb.cell (i := 0) (u := .int .i64 h) rfl
  have hf := hb.free 0
  have e : w.setCell ⟨g, 0, none⟩ (.int .i64 h') = w.setRow g [Value.int .i64 h', .int .u64 l].toArray := by
    rw [setCell_eq_setRow w g 0 _ t (0, 0) _ hb]
    congr 1
  cases hq : Tryz.prog.info? 2 with
  | none => have := size2; simp [hq] at this
  | some j =>
    have hz : j.size = 1 := by have := size2; simpa [hq] using this
    rw [← e]
    have hst := run_store Tryz.prog w ⟨g, 0, none⟩ (.int .i64 h') .plain rfl
    rw [hc] at hst
    simp only [hf, Bool.false_eq_true, if_false] at hst
    simp [storeVar, sizeOf, typeInfo, hq, hz, Value.cells, storeCells, hst, add_none]
theorem ret_agg {h l h' l' : Int} (e1 : h = h') (e2 : l = l') : Ending.returned (.agg #[.int .i64 h, .int .u64 l]) = Ending.returned (.agg #[.int .i64 h', .int .u64 l']) := by rw [e1, e2]

instance bI64 : BsI Tryz.prog 2 := ⟨fun h => Rd.one Tryz.underlying2 rfl h⟩
instance bU64 : BsI Tryz.prog 49 := ⟨fun h => Rd.one Tryz.underlying49 rfl h⟩
instance bInt : BsI Tryz.prog 3 := ⟨fun h => Rd.one Tryz.underlying3 rfl h⟩
instance bBool : BsI Tryz.prog 4 := ⟨fun h => Rd.one Tryz.underlying4 rfl h⟩
instance rW (h l : Int) : RdI Tryz.prog 51 0 [.int .i64 h, .int .u64 l] (.agg #[.int .i64 h, .int .u64 l]) := ⟨rd_w h l⟩
instance kW : SzI Tryz.prog 51 2 := ⟨size25⟩
instance kI64 : SzI Tryz.prog 2 1 := ⟨size2⟩
instance zW : ZrI Tryz.prog 51 (.agg #[.int .i64 0, .int .u64 0]) [.int .i64 0, .int .u64 0] := ⟨zero25, rfl⟩
end Go.Proofs.YtallbegibdlpaaaGreat

/-
  Numbers of 128 bits: of one of 64, the sign turned, the sum, which is greater.
-/
namespace Go.Proofs.YtallbegibdlpaaaGreat
open Go Go.RowKit Go.Th Go.Th.Wide

theorem Of_any (x : Int) (hx : -9223372036854775808 ≤ x ∧ x ≤ 9223372036854775807) (w : World) :
    Calls Tryz.prog 13 #[.int .i64 x] w fun e w' => e = .returned (.agg #[.int .i64 (hiZ x), .int .u64 (loZ x)]) ∧ Below w.heap.size w w' := by
  have M0 := Mem.start w
  go_enter Tryz.func13, Tryz.ntmps13
  go_wp2_with ((with_reducible refine (?_ : Go.wpList _ _ _ (_ :: _) _ _)); (first | go_skip | (refine wpL_bx M0 rfl rfl rfl rfl ?_; clear M0; intro g1 w1 M1) | (refine wpL_alc M0 rfl rfl ?_; clear M0; intro g1 w1 M1) | (refine wpL_ldc M0 rfl rfl rfl ?_) | (refine wpL_lgc M0 rfl rfl rfl ?_) | (refine wpL_stc M0 rfl rfl rfl rfl ?_; clear M0; intro w' M0) | (refine wpL_sti M0 rfl rfl rfl rfl ?_; clear M0; intro w' M0) | (refine wpL_ldc M1 rfl rfl rfl ?_) | (refine wpL_lgc M1 rfl rfl rfl ?_) | (refine wpL_stc M1 rfl rfl rfl rfl ?_; clear M1; intro w' M1) | (refine wpL_sti M1 rfl rfl rfl rfl ?_; clear M1; intro w' M1)))
  ((try simp only [Exit.inBlock, Exit.then]); refine bodyPost_ret (res_cell rfl M1 rfl (by repeat (first | exact Has.head _ _ _ _ | apply Has.tail)) (by first | exact rd_w _ _ | exact rd_hi _ _ | exact rd_lo _ _ | assumption)) rfl ?_)
  exact ⟨ret_agg (by unfold hiZ; omega) (by unfold loZ; rw [IntKind.wrap_u64]), M1.below⟩

theorem add64n (x y c : Nat) (hx : x < 18446744073709551616) (hy : y < 18446744073709551616) (hc : c ≤ 1) (w : World) :
    (callFunc 112 #[.int .u64 x, .int .u64 y, .int .u64 c]).run Tryz.prog w =
      .ok (.value (.tuple #[.int .u64 (((x + y + c) % 18446744073709551616 : Nat) : Int), .int .u64 (((x + y + c) / 18446744073709551616 : Nat) : Int)])) w := by
  rw [run_callFunc_extern Tryz.func112 (by kernel_rfl) (by kernel_rfl) (by kernel_rfl) (e := add64Entry) (by kernel_rfl), run_add64 x y c (by omega) (by omega) (by omega) (by omega)]
  simp only [Result.andThen]
  congr 5 <;> omega
theorem add64_0 (x y : Int) (hx : 0 ≤ x ∧ x < 18446744073709551616) (hy : 0 ≤ y ∧ y < 18446744073709551616) (w : World) :
    (callFunc 112 #[.int .u64 x, .int .u64 y, .int .u64 0]).run Tryz.prog w =
      .ok (.value (.tuple #[.int .u64 ((x + y) % 18446744073709551616), .int .u64 ((x + y) / 18446744073709551616)])) w := by
  obtain ⟨x, rfl⟩ := Int.eq_ofNat_of_zero_le hx.1
  obtain ⟨y, rfl⟩ := Int.eq_ofNat_of_zero_le hy.1
  refine (add64n x y 0 (by omega) (by omega) (by omega) w).trans ?_
  congr 5 <;> omega
theorem sub64n (x y b : Nat) (hb : b ≤ 1) (w : World) :
    (callFunc 113 #[.int .u64 x, .int .u64 y, .int .u64 b]).run Tryz.prog w =
      .ok (.value (.tuple #[.int .u64 (((x + 18446744073709551616 - y - b) % 18446744073709551616 : Nat) : Int), .int .u64 ((if x < y + b then 1 else 0 : Nat) : Int)])) w := by
  rw [run_callFunc_extern Tryz.func113 (by kernel_rfl) (by kernel_rfl) (by kernel_rfl) (e := sub64Entry) (by kernel_rfl), run_sub64 x y b hb]
  rfl
/-- 0 less a number: what is left, and whether one was borrowed. -/
def bor (y : Int) : Int := if y = 0 then 0 else 1
theorem sub64_0 (y : Int) (hy : 0 ≤ y ∧ y < 18446744073709551616) (w : World) :
    (callFunc 113 #[.int .u64 0, .int .u64 y, .int .u64 0]).run Tryz.prog w =
      .ok (.value (.tuple #[.int .u64 ((-y) % 18446744073709551616), .int .u64 (bor y)])) w := by
  obtain ⟨y, rfl⟩ := Int.eq_ofNat_of_zero_le hy.1
  refine (sub64n 0 y 0 (by omega) w).trans ?_
  have e1 : (((0 + 18446744073709551616 - y - 0) % 18446744073709551616 : Nat) : Int) = (-(y : Int)) % 18446744073709551616 := by omega
  have e2 : ((if 0 < y + 0 then 1 else 0 : Nat) : Int) = bor (y : Int) := by unfold bor; split <;> split <;> omega
  rw [e1, e2]

/-- The sign turned, modulo 2^128. -/
theorem Neg_any (h l : Int) (hh : -9223372036854775808 ≤ h ∧ h ≤ 9223372036854775807) (hl : 0 ≤ l ∧ l < 18446744073709551616) (w : World) :
    Calls Tryz.prog 93 #[.agg #[.int .i64 h, .int .u64 l]] w fun e w' =>
      e = .returned (.agg #[.int .i64 (wrap64 (-h - bor l)), .int .u64 ((-l) % 18446744073709551616)]) ∧ Below w.heap.size w w' := by
  have hb : 0 ≤ bor l ∧ bor l ≤ 1 := by unfold bor; split <;> omega
  have S1 := sub64_0 l hl
  have M0 := Mem.start w
  go_enter Tryz.func93, Tryz.ntmps93
  go_wp2_with (first | ((with_reducible refine (?_ : Go.wpList _ _ _ (_ :: _) _ _)); (first | go_skip | (refine wpL_bx M0 rfl rfl rfl rfl ?_; clear M0; intro g1 w1 M1) | (refine wpL_alc M0 rfl rfl ?_; clear M0; intro g1 w1 M1) | (refine wpL_ldc M0 rfl rfl rfl ?_) | (refine wpL_lgc M0 rfl rfl rfl ?_) | (refine wpL_stc M0 rfl rfl rfl rfl ?_; clear M0; intro w' M0) | (refine wpL_sti M0 rfl rfl rfl rfl ?_; clear M0; intro w' M0) | (refine wpL_bx M1 rfl rfl rfl rfl ?_; clear M1; intro g2 w2 M2) | (refine wpL_alc M1 rfl rfl ?_; clear M1; intro g2 w2 M2) | (refine wpL_ldc M1 rfl rfl rfl ?_) | (refine wpL_lgc M1 rfl rfl rfl ?_) | (refine wpL_stc M1 rfl rfl rfl rfl ?_; clear M1; intro w' M1) | (refine wpL_sti M1 rfl rfl rfl rfl ?_; clear M1; intro w' M1) | (refine wpL_ldc M2 rfl rfl rfl ?_) | (refine wpL_lgc M2 rfl rfl rfl ?_) | (refine wpL_stc M2 rfl rfl rfl rfl ?_; clear M2; intro w' M2) | (refine wpL_sti M2 rfl rfl rfl rfl ?_; clear M2; intro w' M2))) | simp only [S1])
  ((try simp only [Exit.inBlock, Exit.then]); refine bodyPost_ret (res_cell rfl M2 rfl (by repeat (first | exact Has.head _ _ _ _ | apply Has.tail)) (by first | exact rd_w _ _ | exact rd_hi _ _ | exact rd_lo _ _ | assumption)) rfl ?_)
  exact ⟨ret_agg (by simp only [wrap64]; omega) rfl, M2.below⟩

def addF (h l h' l' : Int) : Prop := -9223372036854775808 ≤ h + h' + (l + l') / 18446744073709551616 ∧ h + h' + (l + l') / 18446744073709551616 ≤ 9223372036854775807
/-- The sum. -/
theorem Add_ok (h l h' l' : Int) (hh : -9223372036854775808 ≤ h ∧ h ≤ 9223372036854775807) (hl : 0 ≤ l ∧ l < 18446744073709551616) (hh' : -9223372036854775808 ≤ h' ∧ h' ≤ 9223372036854775807) (hl' : 0 ≤ l' ∧ l' < 18446744073709551616)
    (hf : addF h l h' l') (w : World) :
    Calls Tryz.prog 92 #[.agg #[.int .i64 h, .int .u64 l], .agg #[.int .i64 h', .int .u64 l']] w fun e w' =>
      e = .returned (.tuple #[.agg #[.int .i64 (h + h' + (l + l') / 18446744073709551616), .int .u64 ((l + l') % 18446744073709551616)], .bool true]) ∧ Below w.heap.size w w' := by
  have S1 := add64_0 l l' hl hl'
  unfold addF at hf
  have e0 : wrap64 (wrap64 (h + h') + (l + l') / 18446744073709551616) = h + h' + (l + l') / 18446744073709551616 := by simp only [wrap64]; omega
  obtain ⟨s, hs⟩ : ∃ s, s = h + h' + (l + l') / 18446744073709551616 := ⟨_, rfl⟩
  rw [← hs] at e0 hf ⊢
  obtain ⟨b1, hb1⟩ : ∃ b, b = decide (h < 0) := ⟨_, rfl⟩
  obtain ⟨b2, hb2⟩ : ∃ b, b = decide (h' < 0) := ⟨_, rfl⟩
  obtain ⟨b3, hb3⟩ : ∃ b, b = decide (s < 0) := ⟨_, rfl⟩
  have hc : (b1 == b2) = false ∨ (b1 = b2 ∧ b3 = b1) := by
    rw [hb1, hb2, hb3]
    by_cases h1 : h < 0 <;> by_cases h2 : h' < 0 <;> by_cases h3 : s < 0 <;> simp [h1, h2, h3] <;> omega
  have k0 : 0 ≤ (l + l') / 18446744073709551616 := by omega
  have k1 : (l + l') / 18446744073709551616 ≤ 1 := by omega
  have M0 := Mem.start w
  rcases hc with hc | ⟨rfl, rfl⟩
  · have d1 := hb1.symm
    have d2 := hb2.symm
    clear hf hs hb1 hb2 hb3
    go_enter Tryz.func92, Tryz.ntmps92
    go_wp2_with (first | ((with_reducible refine (?_ : Go.wpList _ _ _ (_ :: _) _ _)); (first | go_skip | (refine wpL_bx M0 rfl rfl rfl rfl ?_; clear M0; intro g1 w1 M1) | (refine wpL_alc M0 rfl rfl ?_; clear M0; intro g1 w1 M1) | (refine wpL_ldc M0 rfl rfl rfl ?_) | (refine wpL_lgc M0 rfl rfl rfl ?_) | (refine wpL_stc M0 rfl rfl rfl rfl ?_; clear M0; intro w' M0) | (refine wpL_sti M0 rfl rfl rfl rfl ?_; clear M0; intro w' M0) | (refine wpL_bx M1 rfl rfl rfl rfl ?_; clear M1; intro g2 w2 M2) | (refine wpL_alc M1 rfl rfl ?_; clear M1; intro g2 w2 M2) | (refine wpL_ldc M1 rfl rfl rfl ?_) | (refine wpL_lgc M1 rfl rfl rfl ?_) | (refine wpL_stc M1 rfl rfl rfl rfl ?_; clear M1; intro w' M1) | (refine wpL_sti M1 rfl rfl rfl rfl ?_; clear M1; intro w' M1) | (refine wpL_bx M2 rfl rfl rfl rfl ?_; clear M2; intro g3 w3 M3) | (refine wpL_alc M2 rfl rfl ?_; clear M2; intro g3 w3 M3) | (refine wpL_ldc M2 rfl rfl rfl ?_) | (refine wpL_lgc M2 rfl rfl rfl ?_) | (refine wpL_stc M2 rfl rfl rfl rfl ?_; clear M2; intro w' M2) | (refine wpL_sti M2 rfl rfl rfl rfl ?_; clear M2; intro w' M2) | (refine wpL_ldc M3 rfl rfl rfl ?_) | (refine wpL_lgc M3 rfl rfl rfl ?_) | (refine wpL_stc M3 rfl rfl rfl rfl ?_; clear M3; intro w' M3) | (refine wpL_sti M3 rfl rfl rfl rfl ?_; clear M3; intro w' M3))) | simp only [S1])
    ((try simp only [Exit.inBlock, Exit.then]); refine bodyPost_ret (res_cell_tmp rfl M3 rfl (by repeat (first | exact Has.head _ _ _ _ | apply Has.tail)) (by first | exact rd_w _ _ | exact rd_hi _ _ | exact rd_lo _ _ | assumption) rfl) rfl ?_)
    exact ⟨rfl, M3.below⟩
  · have d1 := hb1.symm
    have d2 := hb2.symm
    have d3 := hb3.symm
    have d4 : (b3 == b3) = true := by cases b3 <;> rfl
    clear hf hs hb1 hb2 hb3
    go_enter Tryz.func92, Tryz.ntmps92
    go_wp2_with (first | ((with_reducible refine (?_ : Go.wpList _ _ _ (_ :: _) _ _)); (first | go_skip | (refine wpL_bx M0 rfl rfl rfl rfl ?_; clear M0; intro g1 w1 M1) | (refine wpL_alc M0 rfl rfl ?_; clear M0; intro g1 w1 M1) | (refine wpL_ldc M0 rfl rfl rfl ?_) | (refine wpL_lgc M0 rfl rfl rfl ?_) | (refine wpL_stc M0 rfl rfl rfl rfl ?_; clear M0; intro w' M0) | (refine wpL_sti M0 rfl rfl rfl rfl ?_; clear M0; intro w' M0) | (refine wpL_bx M1 rfl rfl rfl rfl ?_; clear M1; intro g2 w2 M2) | (refine wpL_alc M1 rfl rfl ?_; clear M1; intro g2 w2 M2) | (refine wpL_ldc M1 rfl rfl rfl ?_) | (refine wpL_lgc M1 rfl rfl rfl ?_) | (refine wpL_stc M1 rfl rfl rfl rfl ?_; clear M1; intro w' M1) | (refine wpL_sti M1 rfl rfl rfl rfl ?_; clear M1; intro w' M1) | (refine wpL_bx M2 rfl rfl rfl rfl ?_; clear M2; intro g3 w3 M3) | (refine wpL_alc M2 rfl rfl ?_; clear M2; intro g3 w3 M3) | (refine wpL_ldc M2 rfl rfl rfl ?_) | (refine wpL_lgc M2 rfl rfl rfl ?_) | (refine wpL_stc M2 rfl rfl rfl rfl ?_; clear M2; intro w' M2) | (refine wpL_sti M2 rfl rfl rfl rfl ?_; clear M2; intro w' M2) | (refine wpL_ldc M3 rfl rfl rfl ?_) | (refine wpL_lgc M3 rfl rfl rfl ?_) | (refine wpL_stc M3 rfl rfl rfl rfl ?_; clear M3; intro w' M3) | (refine wpL_sti M3 rfl rfl rfl rfl ?_; clear M3; intro w' M3))) | simp only [S1])
    ((try simp only [Exit.inBlock, Exit.then]); refine bodyPost_ret (res_cell_tmp rfl M3 rfl (by repeat (first | exact Has.head _ _ _ _ | apply Has.tail)) (by first | exact rd_w _ _ | exact rd_hi _ _ | exact rd_lo _ _ | assumption) rfl) rfl ?_)
    exact ⟨rfl, M3.below⟩
end Go.Proofs.YtallbegibdlpaaaGreat

/-
  Numbers of 128 bits: which is greater, the sign, the next one, without the sign.
-/
namespace Go.Proofs.YtallbegibdlpaaaGreat
open Go Go.RowKit Go.Th Go.Th.Wide

def cmpZ (a b : Int) : Int := if a < b then -1 else if a = b then 0 else 1

set_option maxRecDepth 20000 in
set_option maxHeartbeats 1600000 in
theorem Cmp_any (h l h' l' : Int) (hl : 0 ≤ l ∧ l < 18446744073709551616) (hl' : 0 ≤ l' ∧ l' < 18446744073709551616) (w : World) :
    Calls Tryz.prog 90 #[.agg #[.int .i64 h, .int .u64 l], .agg #[.int .i64 h', .int .u64 l']] w fun e w' =>
      e = .returned (.int .i64 (cmpZ (h * 18446744073709551616 + l) (h' * 18446744073709551616 + l'))) ∧ Below w.heap.size w w' := by
  obtain ⟨R, hR⟩ : ∃ R, R = cmpZ (h * 18446744073709551616 + l) (h' * 18446744073709551616 + l') := ⟨_, rfl⟩
  rw [← hR]
  unfold cmpZ at hR
  have M0 := Mem.start w
  by_cases he : h = h'
  · subst he
    have e1 : (h == h) = true := by simp
    have e2 : decide (h < h) = false := by simp
    by_cases hle : l = l'
    · subst hle
      have e3 : (l == l) = true := by simp
      obtain rfl : R = 0 := by rw [hR, if_neg (by omega), if_pos rfl]
      clear hR
      go_enter Tryz.func90, Tryz.ntmps90
      go_wp2_with ((with_reducible refine (?_ : Go.wpList _ _ _ (_ :: _) _ _)); (first | go_skip | (refine wpL_bx M0 rfl rfl rfl rfl ?_; clear M0; intro g1 w1 M1) | (refine wpL_alc M0 rfl rfl ?_; clear M0; intro g1 w1 M1) | (refine wpL_ldc M0 rfl rfl rfl ?_) | (refine wpL_lgc M0 rfl rfl rfl ?_) | (refine wpL_stc M0 rfl rfl rfl rfl ?_; clear M0; intro w' M0) | (refine wpL_sti M0 rfl rfl rfl rfl ?_; clear M0; intro w' M0) | (refine wpL_bx M1 rfl rfl rfl rfl ?_; clear M1; intro g2 w2 M2) | (refine wpL_alc M1 rfl rfl ?_; clear M1; intro g2 w2 M2) | (refine wpL_ldc M1 rfl rfl rfl ?_) | (refine wpL_lgc M1 rfl rfl rfl ?_) | (refine wpL_stc M1 rfl rfl rfl rfl ?_; clear M1; intro w' M1) | (refine wpL_sti M1 rfl rfl rfl rfl ?_; clear M1; intro w' M1) | (refine wpL_ldc M2 rfl rfl rfl ?_) | (refine wpL_lgc M2 rfl rfl rfl ?_) | (refine wpL_stc M2 rfl rfl rfl rfl ?_; clear M2; intro w' M2) | (refine wpL_sti M2 rfl rfl rfl rfl ?_; clear M2; intro w' M2)))
      go_ret
      exact ⟨rfl, M2.below⟩
    · have e3 : (l == l') = false := by rw [beq_eq_false_iff_ne]; exact hle
      by_cases hlt : l < l'
      · have e4 : decide (l < l') = true := by simpa using hlt
        obtain rfl : R = -1 := by rw [hR, if_pos (by omega)]
        clear hR hlt hle
        go_enter Tryz.func90, Tryz.ntmps90
        go_wp2_with ((with_reducible refine (?_ : Go.wpList _ _ _ (_ :: _) _ _)); (first | go_skip | (refine wpL_bx M0 rfl rfl rfl rfl ?_; clear M0; intro g1 w1 M1) | (refine wpL_alc M0 rfl rfl ?_; clear M0; intro g1 w1 M1) | (refine wpL_ldc M0 rfl rfl rfl ?_) | (refine wpL_lgc M0 rfl rfl rfl ?_) | (refine wpL_stc M0 rfl rfl rfl rfl ?_; clear M0; intro w' M0) | (refine wpL_sti M0 rfl rfl rfl rfl ?_; clear M0; intro w' M0) | (refine wpL_bx M1 rfl rfl rfl rfl ?_; clear M1; intro g2 w2 M2) | (refine wpL_alc M1 rfl rfl ?_; clear M1; intro g2 w2 M2) | (refine wpL_ldc M1 rfl rfl rfl ?_) | (refine wpL_lgc M1 rfl rfl rfl ?_) | (refine wpL_stc M1 rfl rfl rfl rfl ?_; clear M1; intro w' M1) | (refine wpL_sti M1 rfl rfl rfl rfl ?_; clear M1; intro w' M1) | (refine wpL_ldc M2 rfl rfl rfl ?_) | (refine wpL_lgc M2 rfl rfl rfl ?_) | (refine wpL_stc M2 rfl rfl rfl rfl ?_; clear M2; intro w' M2) | (refine wpL_sti M2 rfl rfl rfl rfl ?_; clear M2; intro w' M2)))
        go_ret
        exact ⟨rfl, M2.below⟩
      · have e4 : decide (l < l') = false := by simpa using hlt
        obtain rfl : R = 1 := by rw [hR, if_neg (by omega), if_neg (by omega)]
        clear hR hlt hle
        go_enter Tryz.func90, Tryz.ntmps90
        go_wp2_with ((with_reducible refine (?_ : Go.wpList _ _ _ (_ :: _) _ _)); (first | go_skip | (refine wpL_bx M0 rfl rfl rfl rfl ?_; clear M0; intro g1 w1 M1) | (refine wpL_alc M0 rfl rfl ?_; clear M0; intro g1 w1 M1) | (refine wpL_ldc M0 rfl rfl rfl ?_) | (refine wpL_lgc M0 rfl rfl rfl ?_) | (refine wpL_stc M0 rfl rfl rfl rfl ?_; clear M0; intro w' M0) | (refine wpL_sti M0 rfl rfl rfl rfl ?_; clear M0; intro w' M0) | (refine wpL_bx M1 rfl rfl rfl rfl ?_; clear M1; intro g2 w2 M2) | (refine wpL_alc M1 rfl rfl ?_; clear M1; intro g2 w2 M2) | (refine wpL_ldc M1 rfl rfl rfl ?_) | (refine wpL_lgc M1 rfl rfl rfl ?_) | (refine wpL_stc M1 rfl rfl rfl rfl ?_; clear M1; intro w' M1) | (refine wpL_sti M1 rfl rfl rfl rfl ?_; clear M1; intro w' M1) | (refine wpL_ldc M2 rfl rfl rfl ?_) | (refine wpL_lgc M2 rfl rfl rfl ?_) | (refine wpL_stc M2 rfl rfl rfl rfl ?_; clear M2; intro w' M2) | (refine wpL_sti M2 rfl rfl rfl rfl ?_; clear M2; intro w' M2)))
        go_ret
        exact ⟨rfl, M2.below⟩
  · have e1 : (h == h') = false := by rw [beq_eq_false_iff_ne]; exact he
    by_cases hlt : h < h'
    · have e4 : decide (h < h') = true := by simpa using hlt
      obtain rfl : R = -1 := by rw [hR, if_pos (by omega)]
      clear hR hlt he
      go_enter Tryz.func90, Tryz.ntmps90
      go_wp2_with ((with_reducible refine (?_ : Go.wpList _ _ _ (_ :: _) _ _)); (first | go_skip | (refine wpL_bx M0 rfl rfl rfl rfl ?_; clear M0; intro g1 w1 M1) | (refine wpL_alc M0 rfl rfl ?_; clear M0; intro g1 w1 M1) | (refine wpL_ldc M0 rfl rfl rfl ?_) | (refine wpL_lgc M0 rfl rfl rfl ?_) | (refine wpL_stc M0 rfl rfl rfl rfl ?_; clear M0; intro w' M0) | (refine wpL_sti M0 rfl rfl rfl rfl ?_; clear M0; intro w' M0) | (refine wpL_bx M1 rfl rfl rfl rfl ?_; clear M1; intro g2 w2 M2) | (refine wpL_alc M1 rfl rfl ?_; clear M1; intro g2 w2 M2) | (refine wpL_ldc M1 rfl rfl rfl ?_) | (refine wpL_lgc M1 rfl rfl rfl ?_) | (refine wpL_stc M1 rfl rfl rfl rfl ?_; clear M1; intro w' M1) | (refine wpL_sti M1 rfl rfl rfl rfl ?_; clear M1; intro w' M1) | (refine wpL_ldc M2 rfl rfl rfl ?_) | (refine wpL_lgc M2 rfl rfl rfl ?_) | (refine wpL_stc M2 rfl rfl rfl rfl ?_; clear M2; intro w' M2) | (refine wpL_sti M2 rfl rfl rfl rfl ?_; clear M2; intro w' M2)))
      go_ret
      exact ⟨rfl, M2.below⟩
    · have e4 : decide (h < h') = false := by simpa using hlt
      obtain rfl : R = 1 := by rw [hR, if_neg (by omega), if_neg (by omega)]
      clear hR hlt he
      go_enter Tryz.func90, Tryz.ntmps90
      go_wp2_with ((with_reducible refine (?_ : Go.wpList _ _ _ (_ :: _) _ _)); (first | go_skip | (refine wpL_bx M0 rfl rfl rfl rfl ?_; clear M0; intro g1 w1 M1) | (refine wpL_alc M0 rfl rfl ?_; clear M0; intro g1 w1 M1) | (refine wpL_ldc M0 rfl rfl rfl ?_) | (refine wpL_lgc M0 rfl rfl rfl ?_) | (refine wpL_stc M0 rfl rfl rfl rfl ?_; clear M0; intro w' M0) | (refine wpL_sti M0 rfl rfl rfl rfl ?_; clear M0; intro w' M0) | (refine wpL_bx M1 rfl rfl rfl rfl ?_; clear M1; intro g2 w2 M2) | (refine wpL_alc M1 rfl rfl ?_; clear M1; intro g2 w2 M2) | (refine wpL_ldc M1 rfl rfl rfl ?_) | (refine wpL_lgc M1 rfl rfl rfl ?_) | (refine wpL_stc M1 rfl rfl rfl rfl ?_; clear M1; intro w' M1) | (refine wpL_sti M1 rfl rfl rfl rfl ?_; clear M1; intro w' M1) | (refine wpL_ldc M2 rfl rfl rfl ?_) | (refine wpL_lgc M2 rfl rfl rfl ?_) | (refine wpL_stc M2 rfl rfl rfl rfl ?_; clear M2; intro w' M2) | (refine wpL_sti M2 rfl rfl rfl rfl ?_; clear M2; intro w' M2)))
      go_ret
      exact ⟨rfl, M2.below⟩

theorem Sign_any (h l : Int) (hl : 0 ≤ l ∧ l < 18446744073709551616) (w : World) :
    Calls Tryz.prog 53 #[.agg #[.int .i64 h, .int .u64 l]] w fun e w' =>
      e = .returned (.int .i64 (cmpZ (h * 18446744073709551616 + l) 0)) ∧ Below w.heap.size w w' := by
  have C := Cmp_any h l 0 0 hl (by decide)
  rw [Int.zero_mul, Int.zero_add] at C
  have M0 := Mem.start w
  go_enter Tryz.func53, Tryz.ntmps53
  go_wp2_with ((with_reducible refine (?_ : Go.wpList _ _ _ (_ :: _) _ _)); (first | go_skip | (refine wpL_bx M0 rfl rfl rfl rfl ?_; clear M0; intro g1 w1 M1) | (refine wpL_alc M0 rfl rfl ?_; clear M0; intro g1 w1 M1) | (refine wpL_ldc M0 rfl rfl rfl ?_) | (refine wpL_lgc M0 rfl rfl rfl ?_) | (refine wpL_stc M0 rfl rfl rfl rfl ?_; clear M0; intro w' M0) | (refine wpL_sti M0 rfl rfl rfl rfl ?_; clear M0; intro w' M0) | (refine wpL_ldc M1 rfl rfl rfl ?_) | (refine wpL_lgc M1 rfl rfl rfl ?_) | (refine wpL_stc M1 rfl rfl rfl rfl ?_; clear M1; intro w' M1) | (refine wpL_sti M1 rfl rfl rfl rfl ?_; clear M1; intro w' M1)))
  refine (C _).mono ?_
  rintro e w2 ⟨rfl, hBl⟩
  replace M1 := M1.call hBl
  clear hBl C
  go_wp2_with ((with_reducible refine (?_ : Go.wpList _ _ _ (_ :: _) _ _)); (first | go_skip | (refine wpL_ldc M1 rfl rfl rfl ?_) | (refine wpL_lgc M1 rfl rfl rfl ?_) | (refine wpL_stc M1 rfl rfl rfl rfl ?_; clear M1; intro w' M1) | (refine wpL_sti M1 rfl rfl rfl rfl ?_; clear M1; intro w' M1)))
  go_ret
  exact ⟨rfl, M1.below⟩

set_option maxRecDepth 20000 in
/-- A number that is one more. -/
theorem next_any (z : Int) (hz : -170141183460469231731687303715884105728 ≤ z ∧ z < 170141183460469231731687303715884105727) (w : World) :
    Calls Tryz.prog 110 #[.agg #[.int .i64 (hiZ z), .int .u64 (loZ z)]] w fun e w' =>
      e = .returned (.agg #[.int .i64 (hiZ (z + 1)), .int .u64 (loZ (z + 1))]) ∧ Below w.heap.size w w' := by
  have C1 := Of_any 1 (by decide)
  rw [show hiZ 1 = 0 by decide, show loZ 1 = 1 by decide] at C1
  have C2 := Add_ok (hiZ z) (loZ z) 0 1 (by unfold hiZ; omega) (by unfold loZ; omega) (by decide) (by decide) (by unfold addF hiZ loZ; omega)
  rw [show hiZ z + 0 + (loZ z + 1) / 18446744073709551616 = hiZ (z + 1) by unfold hiZ loZ; omega, show (loZ z + 1) % 18446744073709551616 = loZ (z + 1) by unfold loZ; omega] at C2
  obtain ⟨h, hh⟩ : ∃ h, h = hiZ z := ⟨_, rfl⟩
  obtain ⟨l, hl⟩ : ∃ l, l = loZ z := ⟨_, rfl⟩
  rw [← hh, ← hl] at C2 ⊢
  obtain ⟨h', hh'⟩ : ∃ h', h' = hiZ (z + 1) := ⟨_, rfl⟩
  obtain ⟨l', hl'⟩ : ∃ l', l' = loZ (z + 1) := ⟨_, rfl⟩
  rw [← hh', ← hl'] at C2 ⊢
  clear hh hl hh' hl' hz
  have M0 := Mem.start w
  go_enter Tryz.func110, Tryz.ntmps110
  go_wp2_with ((with_reducible refine (?_ : Go.wpList _ _ _ (_ :: _) _ _)); (first | go_skip | (refine wpL_bx M0 rfl rfl rfl rfl ?_; clear M0; intro g1 w1 M1) | (refine wpL_alc M0 rfl rfl ?_; clear M0; intro g1 w1 M1) | (refine wpL_ldc M0 rfl rfl rfl ?_) | (refine wpL_lgc M0 rfl rfl rfl ?_) | (refine wpL_stc M0 rfl rfl rfl rfl ?_; clear M0; intro w' M0) | (refine wpL_sti M0 rfl rfl rfl rfl ?_; clear M0; intro w' M0) | (refine wpL_bx M1 rfl rfl rfl rfl ?_; clear M1; intro g2 w2 M2) | (refine wpL_alc M1 rfl rfl ?_; clear M1; intro g2 w2 M2) | (refine wpL_ldc M1 rfl rfl rfl ?_) | (refine wpL_lgc M1 rfl rfl rfl ?_) | (refine wpL_stc M1 rfl rfl rfl rfl ?_; clear M1; intro w' M1) | (refine wpL_sti M1 rfl rfl rfl rfl ?_; clear M1; intro w' M1) | (refine wpL_ldc M2 rfl rfl rfl ?_) | (refine wpL_lgc M2 rfl rfl rfl ?_) | (refine wpL_stc M2 rfl rfl rfl rfl ?_; clear M2; intro w' M2) | (refine wpL_sti M2 rfl rfl rfl rfl ?_; clear M2; intro w' M2)))
  have M5 := M2.drew
  clear M2
  try dsimp only [Act.put]
  refine wp_region_held_drew (S := fun _ : World => True) (by kernel_rfl) trivial (fun hHeld => ?_)
  refine wpAnyH_ready (rs := [0, 1]) (by kernel_rfl) (by simp) ?_
  refine AllReadyH.cons rfl (fun K hK => ?_) (AllReadyH.cons rfl (fun K hK => ?_) AllReadyH.nil)
  · rw [if_pos (by rfl)]
    refine wp_ld M5 rfl rfl (by repeat (first | exact Has.head _ _ _ _ | apply Has.tail)) (by first | exact rd_w _ _ | exact rd_hi _ _ | exact rd_lo _ _ | assumption) ?_
    refine hK.out _ _ (trivial) (fun hHeld => ?_)
    clear hK K
    try simp only [Act.put, List.setIfInBounds_toArray, List.set_cons_zero, List.set_cons_succ, List.getElem_toArray, List.getElem_cons_zero, List.getElem_cons_succ]
    refine wpAnyH_ready (rs := [1]) (by kernel_rfl) (by simp) ?_
    refine AllReadyH.cons rfl (fun K hK => ?_) AllReadyH.nil
    go_simp
    refine (C1 _).mono ?_
    rintro e w2 ⟨rfl, hBl⟩
    replace M5 := M5.call hBl
    clear hBl C1
    try go_wp2_with fail
    refine hK.out _ _ (trivial) (fun hHeld => ?_)
    clear hK K
    try simp only [Act.put, List.setIfInBounds_toArray, List.set_cons_zero, List.set_cons_succ, List.getElem_toArray, List.getElem_cons_zero, List.getElem_cons_succ]
    refine wpAnyH_ready (rs := [2]) (by kernel_rfl) (by simp) ?_
    refine AllReadyH.cons rfl (fun K hK => ?_) AllReadyH.nil
    go_simp
    refine (C2 _).mono ?_
    rintro e w2 ⟨rfl, hBl⟩
    replace M5 := M5.call hBl
    clear hBl C2
    try go_wp2_with fail
    refine hK.out _ _ (trivial) (fun hHeld => ?_)
    clear hK K
    try simp only [Act.put, List.setIfInBounds_toArray, List.set_cons_zero, List.set_cons_succ, List.getElem_toArray, List.getElem_cons_zero, List.getElem_cons_succ]
    refine wpAnyH_take (i := 3) (v := ?v4) rfl (by kernel_rfl) (by kernel_rfl) (by kernel_rfl) (fun _ _ _ h => h) (Or.inl ⟨by rfl, ?hy4⟩) hHeld ?rest4
    case hy4 => (intro w' hSw; (try dsimp only at hSw); go_simp; (try with_reducible rfl))
    try simp only [Act.put, List.setIfInBounds_toArray, List.set_cons_zero, List.set_cons_succ, List.getElem_toArray, List.getElem_cons_zero, List.getElem_cons_succ]
    refine wpAnyH_take (i := 4) (v := ?v5) rfl (by kernel_rfl) (by kernel_rfl) (by kernel_rfl) (fun _ _ _ h => h) (Or.inl ⟨by rfl, ?hy5⟩) hHeld ?rest5
    case hy5 => (intro w' hSw; (try dsimp only at hSw); go_simp; (try with_reducible rfl))
    try simp only [Act.put, List.setIfInBounds_toArray, List.set_cons_zero, List.set_cons_succ, List.getElem_toArray, List.getElem_cons_zero, List.getElem_cons_succ]
    refine wpAnyH_take (i := 5) (v := ?v6) rfl (by kernel_rfl) (by kernel_rfl) (by kernel_rfl) (fun _ _ _ h => h) (Or.inl ⟨by rfl, ?hy6⟩) hHeld ?rest6
    case hy6 => (intro w' hSw; (try dsimp only at hSw); go_simp; (try with_reducible rfl))
    try simp only [Act.put, List.setIfInBounds_toArray, List.set_cons_zero, List.set_cons_succ, List.getElem_toArray, List.getElem_cons_zero, List.getElem_cons_succ]
    refine wpAnyH_ready (rs := [6]) (by kernel_rfl) (by simp) ?_
    refine AllReadyH.cons rfl (fun K hK => ?_) AllReadyH.nil
    rw [if_pos (by rfl)]
    refine wp_st M5 rfl rfl rfl (by repeat (first | exact Has.head _ _ _ _ | apply Has.tail)) (by first | exact wr_w _ rfl _ _ | exact wr_hi _ _ _ | assumption) (by repeat (first | exact Upd.head _ _ _ _ _ | apply Upd.tail)) ?_
    clear M5
    intro w2 M5
    refine hK.out _ _ (trivial) (fun hHeld => ?_)
    clear hK K
    try simp only [Act.put, List.setIfInBounds_toArray, List.set_cons_zero, List.set_cons_succ, List.getElem_toArray, List.getElem_cons_zero, List.getElem_cons_succ]
    refine wpAnyH_done (by kernel_rfl) ?_ _
    go_wp2_with ((with_reducible refine (?_ : Go.wpList _ _ _ (_ :: _) _ _)); (first | go_skip | (refine wpL_ldc M5 rfl rfl rfl ?_) | (refine wpL_lgc M5 rfl rfl rfl ?_) | (refine wpL_stc M5 rfl rfl rfl rfl ?_; clear M5; intro w' M5) | (refine wpL_sti M5 rfl rfl rfl rfl ?_; clear M5; intro w' M5)))
    ((try simp only [Exit.inBlock, Exit.then]); refine bodyPost_ret (res_cell rfl M5 rfl (by repeat (first | exact Has.head _ _ _ _ | apply Has.tail)) (by first | exact rd_w _ _ | exact rd_hi _ _ | exact rd_lo _ _ | assumption)) rfl ?_)
    exact ⟨rfl, M5.below⟩
  · go_simp
    refine (C1 _).mono ?_
    rintro e w2 ⟨rfl, hBl⟩
    replace M5 := M5.call hBl
    clear hBl C1
    try go_wp2_with fail
    refine hK.out _ _ (trivial) (fun hHeld => ?_)
    clear hK K
    try simp only [Act.put, List.setIfInBounds_toArray, List.set_cons_zero, List.set_cons_succ, List.getElem_toArray, List.getElem_cons_zero, List.getElem_cons_succ]
    refine wpAnyH_ready (rs := [0]) (by kernel_rfl) (by simp) ?_
    refine AllReadyH.cons rfl (fun K hK => ?_) AllReadyH.nil
    rw [if_pos (by rfl)]
    refine wp_ld M5 rfl rfl (by repeat (first | exact Has.head _ _ _ _ | apply Has.tail)) (by first | exact rd_w _ _ | exact rd_hi _ _ | exact rd_lo _ _ | assumption) ?_
    refine hK.out _ _ (trivial) (fun hHeld => ?_)
    clear hK K
    try simp only [Act.put, List.setIfInBounds_toArray, List.set_cons_zero, List.set_cons_succ, List.getElem_toArray, List.getElem_cons_zero, List.getElem_cons_succ]
    refine wpAnyH_ready (rs := [2]) (by kernel_rfl) (by simp) ?_
    refine AllReadyH.cons rfl (fun K hK => ?_) AllReadyH.nil
    go_simp
    refine (C2 _).mono ?_
    rintro e w2 ⟨rfl, hBl⟩
    replace M5 := M5.call hBl
    clear hBl C2
    try go_wp2_with fail
    refine hK.out _ _ (trivial) (fun hHeld => ?_)
    clear hK K
    try simp only [Act.put, List.setIfInBounds_toArray, List.set_cons_zero, List.set_cons_succ, List.getElem_toArray, List.getElem_cons_zero, List.getElem_cons_succ]
    refine wpAnyH_take (i := 3) (v := ?v11) rfl (by kernel_rfl) (by kernel_rfl) (by kernel_rfl) (fun _ _ _ h => h) (Or.inl ⟨by rfl, ?hy11⟩) hHeld ?rest11
    case hy11 => (intro w' hSw; (try dsimp only at hSw); go_simp; (try with_reducible rfl))
    try simp only [Act.put, List.setIfInBounds_toArray, List.set_cons_zero, List.set_cons_succ, List.getElem_toArray, List.getElem_cons_zero, List.getElem_cons_succ]
    refine wpAnyH_take (i := 4) (v := ?v12) rfl (by kernel_rfl) (by kernel_rfl) (by kernel_rfl) (fun _ _ _ h => h) (Or.inl ⟨by rfl, ?hy12⟩) hHeld ?rest12
    case hy12 => (intro w' hSw; (try dsimp only at hSw); go_simp; (try with_reducible rfl))
    try simp only [Act.put, List.setIfInBounds_toArray, List.set_cons_zero, List.set_cons_succ, List.getElem_toArray, List.getElem_cons_zero, List.getElem_cons_succ]
    refine wpAnyH_take (i := 5) (v := ?v13) rfl (by kernel_rfl) (by kernel_rfl) (by kernel_rfl) (fun _ _ _ h => h) (Or.inl ⟨by rfl, ?hy13⟩) hHeld ?rest13
    case hy13 => (intro w' hSw; (try dsimp only at hSw); go_simp; (try with_reducible rfl))
    try simp only [Act.put, List.setIfInBounds_toArray, List.set_cons_zero, List.set_cons_succ, List.getElem_toArray, List.getElem_cons_zero, List.getElem_cons_succ]
    refine wpAnyH_ready (rs := [6]) (by kernel_rfl) (by simp) ?_
    refine AllReadyH.cons rfl (fun K hK => ?_) AllReadyH.nil
    rw [if_pos (by rfl)]
    refine wp_st M5 rfl rfl rfl (by repeat (first | exact Has.head _ _ _ _ | apply Has.tail)) (by first | exact wr_w _ rfl _ _ | exact wr_hi _ _ _ | assumption) (by repeat (first | exact Upd.head _ _ _ _ _ | apply Upd.tail)) ?_
    clear M5
    intro w2 M5
    refine hK.out _ _ (trivial) (fun hHeld => ?_)
    clear hK K
    try simp only [Act.put, List.setIfInBounds_toArray, List.set_cons_zero, List.set_cons_succ, List.getElem_toArray, List.getElem_cons_zero, List.getElem_cons_succ]
    refine wpAnyH_done (by kernel_rfl) ?_ _
    go_wp2_with ((with_reducible refine (?_ : Go.wpList _ _ _ (_ :: _) _ _)); (first | go_skip | (refine wpL_ldc M5 rfl rfl rfl ?_) | (refine wpL_lgc M5 rfl rfl rfl ?_) | (refine wpL_stc M5 rfl rfl rfl rfl ?_; clear M5; intro w' M5) | (refine wpL_sti M5 rfl rfl rfl rfl ?_; clear M5; intro w' M5)))
    ((try simp only [Exit.inBlock, Exit.then]); refine bodyPost_ret (res_cell rfl M5 rfl (by repeat (first | exact Has.head _ _ _ _ | apply Has.tail)) (by first | exact rd_w _ _ | exact rd_hi _ _ | exact rd_lo _ _ | assumption)) rfl ?_)
    exact ⟨rfl, M5.below⟩

/-- Without the sign: as one of 128 bits that has none. -/
theorem away_any (z : Int) (hz : -170141183460469231731687303715884105728 ≤ z ∧ z < 170141183460469231731687303715884105728) (w : World) :
    Calls Tryz.prog 106 #[.agg #[.int .i64 (hiZ z), .int .u64 (loZ z)]] w fun e w' =>
      e = .returned (.agg #[.int .i64 (wrap64 ((z.natAbs : Int) / 18446744073709551616)), .int .u64 ((z.natAbs : Int) % 18446744073709551616)]) ∧ Below w.heap.size w w' := by
  have M0 := Mem.start w
  by_cases hn : z < 0
  · have C1 := Neg_any (hiZ z) (loZ z) (by unfold hiZ; omega) (by unfold loZ; omega)
    have e1 : wrap64 (-hiZ z - bor (loZ z)) = wrap64 ((z.natAbs : Int) / 18446744073709551616) := by unfold bor hiZ loZ; simp only [wrap64]; split <;> omega
    have e2 : (-loZ z) % 18446744073709551616 = (z.natAbs : Int) % 18446744073709551616 := by unfold loZ; omega
    rw [e1, e2] at C1
    have hd : decide (hiZ z < 0) = true := by simp only [decide_eq_true_eq]; unfold hiZ; omega
    obtain ⟨h, hh⟩ : ∃ h, h = hiZ z := ⟨_, rfl⟩
    obtain ⟨l, hl⟩ : ∃ l, l = loZ z := ⟨_, rfl⟩
    rw [← hh, ← hl] at C1 ⊢
    rw [← hh] at hd
    obtain ⟨h', hh'⟩ : ∃ h', h' = wrap64 ((z.natAbs : Int) / 18446744073709551616) := ⟨_, rfl⟩
    obtain ⟨l', hl'⟩ : ∃ l', l' = (z.natAbs : Int) % 18446744073709551616 := ⟨_, rfl⟩
    rw [← hh', ← hl'] at C1 ⊢
    clear hh hl hh' hl' hz hn e1 e2
    go_enter Tryz.func106, Tryz.ntmps106
    go_wp2_with ((with_reducible refine (?_ : Go.wpList _ _ _ (_ :: _) _ _)); (first | go_skip | (refine wpL_bx M0 rfl rfl rfl rfl ?_; clear M0; intro g1 w1 M1) | (refine wpL_alc M0 rfl rfl ?_; clear M0; intro g1 w1 M1) | (refine wpL_ldc M0 rfl rfl rfl ?_) | (refine wpL_lgc M0 rfl rfl rfl ?_) | (refine wpL_stc M0 rfl rfl rfl rfl ?_; clear M0; intro w' M0) | (refine wpL_sti M0 rfl rfl rfl rfl ?_; clear M0; intro w' M0) | (refine wpL_bx M1 rfl rfl rfl rfl ?_; clear M1; intro g2 w2 M2) | (refine wpL_alc M1 rfl rfl ?_; clear M1; intro g2 w2 M2) | (refine wpL_ldc M1 rfl rfl rfl ?_) | (refine wpL_lgc M1 rfl rfl rfl ?_) | (refine wpL_stc M1 rfl rfl rfl rfl ?_; clear M1; intro w' M1) | (refine wpL_sti M1 rfl rfl rfl rfl ?_; clear M1; intro w' M1) | (refine wpL_ldc M2 rfl rfl rfl ?_) | (refine wpL_lgc M2 rfl rfl rfl ?_) | (refine wpL_stc M2 rfl rfl rfl rfl ?_; clear M2; intro w' M2) | (refine wpL_sti M2 rfl rfl rfl rfl ?_; clear M2; intro w' M2)))
    refine (C1 _).mono ?_
    rintro e w2 ⟨rfl, hBl⟩
    replace M2 := M2.call hBl
    clear hBl C1
    go_wp2_with ((with_reducible refine (?_ : Go.wpList _ _ _ (_ :: _) _ _)); (first | go_skip | (refine wpL_ldc M2 rfl rfl rfl ?_) | (refine wpL_lgc M2 rfl rfl rfl ?_) | (refine wpL_stc M2 rfl rfl rfl rfl ?_; clear M2; intro w' M2) | (refine wpL_sti M2 rfl rfl rfl rfl ?_; clear M2; intro w' M2)))
    ((try simp only [Exit.inBlock, Exit.then]); refine bodyPost_ret (res_cell rfl M2 rfl (by repeat (first | exact Has.head _ _ _ _ | apply Has.tail)) (by first | exact rd_w _ _ | exact rd_hi _ _ | exact rd_lo _ _ | assumption)) rfl ?_)
    exact ⟨rfl, M2.below⟩
  · have e1 : wrap64 ((z.natAbs : Int) / 18446744073709551616) = hiZ z := by unfold hiZ; simp only [wrap64]; omega
    have e2 : (z.natAbs : Int) % 18446744073709551616 = loZ z := by unfold loZ; omega
    rw [e1, e2]
    have hd : decide (hiZ z < 0) = false := by simp only [decide_eq_false_iff_not]; unfold hiZ; omega
    obtain ⟨h, hh⟩ : ∃ h, h = hiZ z := ⟨_, rfl⟩
    obtain ⟨l, hl⟩ : ∃ l, l = loZ z := ⟨_, rfl⟩
    rw [← hh, ← hl]
    rw [← hh] at hd
    clear hh hl hz hn e1 e2
    go_enter Tryz.func106, Tryz.ntmps106
    go_wp2_with ((with_reducible refine (?_ : Go.wpList _ _ _ (_ :: _) _ _)); (first | go_skip | (refine wpL_bx M0 rfl rfl rfl rfl ?_; clear M0; intro g1 w1 M1) | (refine wpL_alc M0 rfl rfl ?_; clear M0; intro g1 w1 M1) | (refine wpL_ldc M0 rfl rfl rfl ?_) | (refine wpL_lgc M0 rfl rfl rfl ?_) | (refine wpL_stc M0 rfl rfl rfl rfl ?_; clear M0; intro w' M0) | (refine wpL_sti M0 rfl rfl rfl rfl ?_; clear M0; intro w' M0) | (refine wpL_bx M1 rfl rfl rfl rfl ?_; clear M1; intro g2 w2 M2) | (refine wpL_alc M1 rfl rfl ?_; clear M1; intro g2 w2 M2) | (refine wpL_ldc M1 rfl rfl rfl ?_) | (refine wpL_lgc M1 rfl rfl rfl ?_) | (refine wpL_stc M1 rfl rfl rfl rfl ?_; clear M1; intro w' M1) | (refine wpL_sti M1 rfl rfl rfl rfl ?_; clear M1; intro w' M1) | (refine wpL_ldc M2 rfl rfl rfl ?_) | (refine wpL_lgc M2 rfl rfl rfl ?_) | (refine wpL_stc M2 rfl rfl rfl rfl ?_; clear M2; intro w' M2) | (refine wpL_sti M2 rfl rfl rfl rfl ?_; clear M2; intro w' M2)))
    ((try simp only [Exit.inBlock, Exit.then]); refine bodyPost_ret (res_cell rfl M2 rfl (by repeat (first | exact Has.head _ _ _ _ | apply Has.tail)) (by first | exact rd_w _ _ | exact rd_hi _ _ | exact rd_lo _ _ | assumption)) rfl ?_)
    exact ⟨rfl, M2.below⟩

end Go.Proofs.YtallbegibdlpaaaGreat

/-
  Numbers of 128 bits: the product.
-/
namespace Go.Proofs.YtallbegibdlpaaaGreat
open Go Go.RowKit Go.Th Go.Th.Wide

theorem low32 (a : Nat) (ha : a < 18446744073709551616) : bits .and .u64 (a : Int) 4294967295 = ((a % 4294967296 : Nat) : Int) := by
  have h := bits_and_u64_nat a 4294967295 ha (by omega)
  have e : a &&& 4294967295 = a % 4294967296 := Nat.and_two_pow_sub_one_eq_mod a 32
  rw [e] at h
  exact h
theorem high32 (a : Nat) : (a : Int) / 4294967296 = ((a / 4294967296 : Nat) : Int) := by omega
theorem times (a b : Nat) : (a : Int) * (b : Int) = ((a * b : Nat) : Int) := (Int.natCast_mul a b).symm
theorem plus (a b : Nat) : (a : Int) + (b : Int) = ((a + b : Nat) : Int) := (Int.natCast_add a b).symm
theorem held (a : Nat) (ha : a < 18446744073709551616) : IntKind.u64.wrap (a : Int) = (a : Int) := by rw [IntKind.wrap_u64]; omega
theorem turnedW (a : Nat) : IntKind.u64.wrap (a : Int) = ((a % 18446744073709551616 : Nat) : Int) := by rw [IntKind.wrap_u64]; omega

set_option maxHeartbeats 1600000 in
theorem Mul64_any (x y : Nat) (hx : x < 18446744073709551616) (hy : y < 18446744073709551616) (w : World) :
    Calls Tryz.prog 94 #[.int .u64 x, .int .u64 y] w fun e w' => e = .returned (.tuple #[.int .u64 ((x * y / 18446744073709551616 : Nat) : Int), .int .u64 ((x * y % 18446744073709551616 : Nat) : Int)]) ∧ w = w' := by
  obtain ⟨bd, bt, bw, hhi⟩ := Lib.mul64_hi x y hx hy
  have ba := Lib.half_mul_le (a := x / 4294967296) (b := y / 4294967296) (by omega) (by omega)
  have bb := Lib.half_mul_le (a := x / 4294967296) (b := y % 4294967296) (by omega) (by omega)
  have bc := Lib.half_mul_le (a := x % 4294967296) (b := y / 4294967296) (by omega) (by omega)
  have ba' : x / 4294967296 * (y / 4294967296) < 18446744073709551616 := by omega
  have bb' : x / 4294967296 * (y % 4294967296) < 18446744073709551616 := by omega
  have bc' : x % 4294967296 * (y / 4294967296) < 18446744073709551616 := by omega
  have bh1 : x / 4294967296 * (y / 4294967296) + (x / 4294967296 * (y % 4294967296) + x % 4294967296 * (y % 4294967296) / 4294967296) / 4294967296 < 18446744073709551616 := by omega
  have bh : x / 4294967296 * (y / 4294967296) + (x / 4294967296 * (y % 4294967296) + x % 4294967296 * (y % 4294967296) / 4294967296) / 4294967296 + ((x / 4294967296 * (y % 4294967296) + x % 4294967296 * (y % 4294967296) / 4294967296) % 4294967296 + x % 4294967296 * (y / 4294967296)) / 4294967296 < 18446744073709551616 := by omega
  go_enter Tryz.func94, Tryz.ntmps94
  go_wp2
  simp only [low32 x hx, low32 y hy, high32, times, plus, held _ bd, held _ bb', held _ bt, low32 _ bt, held _ bc', held _ bw, held _ ba', held _ bh1, held _ bh, turnedW (x * y)]
  rw [hhi]
  go_ret2
  exact ⟨rfl, rfl⟩

/-- The product's upper half: by the factors as words without a sign. -/
theorem mul_hi (a b : Int) (ha : -9223372036854775808 ≤ a ∧ a ≤ 9223372036854775807) (hb : -9223372036854775808 ≤ b ∧ b ≤ 9223372036854775807) (A B : Nat)
    (hA : (A : Int) = a % 18446744073709551616) (hB : (B : Int) = b % 18446744073709551616) :
    wrap64 (((A * B / 18446744073709551616 : Nat) : Int) - (if a < 0 then b else 0) - (if b < 0 then a else 0)) = a * b / 18446744073709551616 ∧
      ((A * B % 18446744073709551616 : Nat) : Int) = a * b % 18446744073709551616 := by
  have ea : (A : Int) = a + 18446744073709551616 * (if a < 0 then 1 else 0) := by split <;> omega
  have eb : (B : Int) = b + 18446744073709551616 * (if b < 0 then 1 else 0) := by split <;> omega
  have hp : ((A * B : Nat) : Int) = a * b + 18446744073709551616 * ((if a < 0 then b else 0) + (if b < 0 then a else 0)) + 18446744073709551616 * (18446744073709551616 * (if a < 0 ∧ b < 0 then 1 else 0)) := by
    rw [Int.natCast_mul, ea, eb]
    by_cases h1 : a < 0 <;> by_cases h2 : b < 0
    · simp only [h1, h2, if_true, and_self]; rw [Int.add_mul, Int.mul_add]; omega
    · simp only [h1, h2, if_true, if_false, and_false]; rw [Int.add_mul, Int.mul_add]; omega
    · simp only [h1, h2, if_true, if_false, false_and]; rw [Int.add_mul, Int.mul_add]; omega
    · simp only [h1, h2, if_false, false_and]; rw [Int.add_mul, Int.mul_add]; omega
  have bnd : -85070591730234615865843651857942052864 ≤ a * b ∧ a * b ≤ 85070591730234615865843651857942052864 := by
    have h := Nat.mul_le_mul (show a.natAbs ≤ 9223372036854775808 by omega) (show b.natAbs ≤ 9223372036854775808 by omega)
    rw [← Int.natAbs_mul] at h
    omega
  generalize a * b = p at *
  generalize A * B = P at *
  simp only [wrap64]
  refine ⟨?_, ?_⟩
  · by_cases h1 : a < 0 <;> by_cases h2 : b < 0 <;> simp only [h1, h2, if_true, if_false, and_self, and_false, false_and] at hp ⊢ <;> omega
  · by_cases h1 : a < 0 <;> by_cases h2 : b < 0 <;> simp only [h1, h2, if_true, if_false, and_self, and_false, false_and] at hp ⊢ <;> omega

theorem wrap_sub (x y : Int) : wrap64 (wrap64 x - y) = wrap64 (x - y) := by simp only [wrap64]; omega
set_option maxRecDepth 20000 in
set_option maxHeartbeats 1600000 in
theorem Mul_any (a b : Int) (ha : -9223372036854775808 ≤ a ∧ a ≤ 9223372036854775807) (hb : -9223372036854775808 ≤ b ∧ b ≤ 9223372036854775807) (w : World) :
    Calls Tryz.prog 55 #[.int .i64 a, .int .i64 b] w fun e w' => e = .returned (.agg #[.int .i64 (hiZ (a * b)), .int .u64 (loZ (a * b))]) ∧ Below w.heap.size w w' := by
  obtain ⟨A, hA⟩ := Int.eq_ofNat_of_zero_le (show 0 ≤ a % 18446744073709551616 by omega)
  obtain ⟨B, hB⟩ := Int.eq_ofNat_of_zero_le (show 0 ≤ b % 18446744073709551616 by omega)
  obtain ⟨e1, e2⟩ := mul_hi a b ha hb A B hA.symm hB.symm
  have C := Mul64_any A B (by omega) (by omega)
  have hP : A * B / 18446744073709551616 < 18446744073709551616 := by
    rw [Nat.div_lt_iff_lt_mul (by decide)]
    exact Nat.lt_of_le_of_lt (Nat.mul_le_mul (show A ≤ 18446744073709551615 by omega) (show B ≤ 18446744073709551615 by omega)) (by decide)
  obtain ⟨H, hH⟩ : ∃ H, H = A * B / 18446744073709551616 := ⟨_, rfl⟩
  obtain ⟨L, hL⟩ : ∃ L, L = A * B % 18446744073709551616 := ⟨_, rfl⟩
  have hL2 : L < 18446744073709551616 := by rw [hL]; exact Nat.mod_lt _ (by decide)
  rw [← hH] at e1 C hP
  rw [← hL] at e2 C
  unfold hiZ loZ
  rw [← e1, ← e2]
  have wa : IntKind.u64.wrap a = (A : Int) := by rw [IntKind.wrap_u64]; exact hA
  have wb : IntKind.u64.wrap b = (B : Int) := by rw [IntKind.wrap_u64]; exact hB
  clear hA hB e1 e2 hH hL
  have M0 := Mem.start w
  by_cases h1 : a < 0 <;> by_cases h2 : b < 0
  · have d1 : decide (a < 0) = true := by simpa using h1
    have d2 : decide (b < 0) = true := by simpa using h2
    rw [if_pos h1, if_pos h2]
    clear h1 h2
    go_enter Tryz.func55, Tryz.ntmps55
    go_wp2_with ((with_reducible refine (?_ : Go.wpList _ _ _ (_ :: _) _ _)); (first | go_skip | (refine wpL_bx M0 rfl rfl rfl rfl ?_; clear M0; intro g1 w1 M1) | (refine wpL_alc M0 rfl rfl ?_; clear M0; intro g1 w1 M1) | (refine wpL_ldc M0 rfl rfl rfl ?_) | (refine wpL_lgc M0 rfl rfl rfl ?_) | (refine wpL_stc M0 rfl rfl rfl rfl ?_; clear M0; intro w' M0) | (refine wpL_sti M0 rfl rfl rfl rfl ?_; clear M0; intro w' M0) | (refine wpL_ldc M1 rfl rfl rfl ?_) | (refine wpL_lgc M1 rfl rfl rfl ?_) | (refine wpL_stc M1 rfl rfl rfl rfl ?_; clear M1; intro w' M1) | (refine wpL_sti M1 rfl rfl rfl rfl ?_; clear M1; intro w' M1)))
    refine (C _).mono ?_
    rintro e w2 ⟨rfl, rfl⟩
    clear C
    go_wp2_with ((with_reducible refine (?_ : Go.wpList _ _ _ (_ :: _) _ _)); (first | go_skip | (refine wpL_bx M1 rfl rfl rfl rfl ?_; clear M1; intro g2 w2 M2) | (refine wpL_alc M1 rfl rfl ?_; clear M1; intro g2 w2 M2) | (refine wpL_ldc M1 rfl rfl rfl ?_) | (refine wpL_lgc M1 rfl rfl rfl ?_) | (refine wpL_stc M1 rfl rfl rfl rfl ?_; clear M1; intro w' M1) | (refine wpL_sti M1 rfl rfl rfl rfl ?_; clear M1; intro w' M1) | (refine wpL_ldc M2 rfl rfl rfl ?_) | (refine wpL_lgc M2 rfl rfl rfl ?_) | (refine wpL_stc M2 rfl rfl rfl rfl ?_; clear M2; intro w' M2) | (refine wpL_sti M2 rfl rfl rfl rfl ?_; clear M2; intro w' M2)))
    ((try simp only [Exit.inBlock, Exit.then]); refine bodyPost_ret (res_cell rfl M2 rfl (by repeat (first | exact Has.head _ _ _ _ | apply Has.tail)) (by first | exact rd_w _ _ | exact rd_hi _ _ | exact rd_lo _ _ | assumption)) rfl ?_)
    exact ⟨ret_agg (by simp only [wrap_sub, Int.sub_zero]) rfl, M2.below⟩
  · have d1 : decide (a < 0) = true := by simpa using h1
    have d2 : decide (b < 0) = false := by simpa using h2
    rw [if_pos h1, if_neg h2]
    clear h1 h2
    go_enter Tryz.func55, Tryz.ntmps55
    go_wp2_with ((with_reducible refine (?_ : Go.wpList _ _ _ (_ :: _) _ _)); (first | go_skip | (refine wpL_bx M0 rfl rfl rfl rfl ?_; clear M0; intro g1 w1 M1) | (refine wpL_alc M0 rfl rfl ?_; clear M0; intro g1 w1 M1) | (refine wpL_ldc M0 rfl rfl rfl ?_) | (refine wpL_lgc M0 rfl rfl rfl ?_) | (refine wpL_stc M0 rfl rfl rfl rfl ?_; clear M0; intro w' M0) | (refine wpL_sti M0 rfl rfl rfl rfl ?_; clear M0; intro w' M0) | (refine wpL_ldc M1 rfl rfl rfl ?_) | (refine wpL_lgc M1 rfl rfl rfl ?_) | (refine wpL_stc M1 rfl rfl rfl rfl ?_; clear M1; intro w' M1) | (refine wpL_sti M1 rfl rfl rfl rfl ?_; clear M1; intro w' M1)))
    refine (C _).mono ?_
    rintro e w2 ⟨rfl, rfl⟩
    clear C
    go_wp2_with ((with_reducible refine (?_ : Go.wpList _ _ _ (_ :: _) _ _)); (first | go_skip | (refine wpL_bx M1 rfl rfl rfl rfl ?_; clear M1; intro g2 w2 M2) | (refine wpL_alc M1 rfl rfl ?_; clear M1; intro g2 w2 M2) | (refine wpL_ldc M1 rfl rfl rfl ?_) | (refine wpL_lgc M1 rfl rfl rfl ?_) | (refine wpL_stc M1 rfl rfl rfl rfl ?_; clear M1; intro w' M1) | (refine wpL_sti M1 rfl rfl rfl rfl ?_; clear M1; intro w' M1) | (refine wpL_ldc M2 rfl rfl rfl ?_) | (refine wpL_lgc M2 rfl rfl rfl ?_) | (refine wpL_stc M2 rfl rfl rfl rfl ?_; clear M2; intro w' M2) | (refine wpL_sti M2 rfl rfl rfl rfl ?_; clear M2; intro w' M2)))
    ((try simp only [Exit.inBlock, Exit.then]); refine bodyPost_ret (res_cell rfl M2 rfl (by repeat (first | exact Has.head _ _ _ _ | apply Has.tail)) (by first | exact rd_w _ _ | exact rd_hi _ _ | exact rd_lo _ _ | assumption)) rfl ?_)
    exact ⟨ret_agg (by simp only [wrap_sub, Int.sub_zero]) rfl, M2.below⟩
  · have d1 : decide (a < 0) = false := by simpa using h1
    have d2 : decide (b < 0) = true := by simpa using h2
    rw [if_neg h1, if_pos h2]
    clear h1 h2
    go_enter Tryz.func55, Tryz.ntmps55
    go_wp2_with ((with_reducible refine (?_ : Go.wpList _ _ _ (_ :: _) _ _)); (first | go_skip | (refine wpL_bx M0 rfl rfl rfl rfl ?_; clear M0; intro g1 w1 M1) | (refine wpL_alc M0 rfl rfl ?_; clear M0; intro g1 w1 M1) | (refine wpL_ldc M0 rfl rfl rfl ?_) | (refine wpL_lgc M0 rfl rfl rfl ?_) | (refine wpL_stc M0 rfl rfl rfl rfl ?_; clear M0; intro w' M0) | (refine wpL_sti M0 rfl rfl rfl rfl ?_; clear M0; intro w' M0) | (refine wpL_ldc M1 rfl rfl rfl ?_) | (refine wpL_lgc M1 rfl rfl rfl ?_) | (refine wpL_stc M1 rfl rfl rfl rfl ?_; clear M1; intro w' M1) | (refine wpL_sti M1 rfl rfl rfl rfl ?_; clear M1; intro w' M1)))
    refine (C _).mono ?_
    rintro e w2 ⟨rfl, rfl⟩
    clear C
    go_wp2_with ((with_reducible refine (?_ : Go.wpList _ _ _ (_ :: _) _ _)); (first | go_skip | (refine wpL_bx M1 rfl rfl rfl rfl ?_; clear M1; intro g2 w2 M2) | (refine wpL_alc M1 rfl rfl ?_; clear M1; intro g2 w2 M2) | (refine wpL_ldc M1 rfl rfl rfl ?_) | (refine wpL_lgc M1 rfl rfl rfl ?_) | (refine wpL_stc M1 rfl rfl rfl rfl ?_; clear M1; intro w' M1) | (refine wpL_sti M1 rfl rfl rfl rfl ?_; clear M1; intro w' M1) | (refine wpL_ldc M2 rfl rfl rfl ?_) | (refine wpL_lgc M2 rfl rfl rfl ?_) | (refine wpL_stc M2 rfl rfl rfl rfl ?_; clear M2; intro w' M2) | (refine wpL_sti M2 rfl rfl rfl rfl ?_; clear M2; intro w' M2)))
    ((try simp only [Exit.inBlock, Exit.then]); refine bodyPost_ret (res_cell rfl M2 rfl (by repeat (first | exact Has.head _ _ _ _ | apply Has.tail)) (by first | exact rd_w _ _ | exact rd_hi _ _ | exact rd_lo _ _ | assumption)) rfl ?_)
    exact ⟨ret_agg (by simp only [wrap_sub, Int.sub_zero]) rfl, M2.below⟩
  · have d1 : decide (a < 0) = false := by simpa using h1
    have d2 : decide (b < 0) = false := by simpa using h2
    rw [if_neg h1, if_neg h2]
    clear h1 h2
    go_enter Tryz.func55, Tryz.ntmps55
    go_wp2_with ((with_reducible refine (?_ : Go.wpList _ _ _ (_ :: _) _ _)); (first | go_skip | (refine wpL_bx M0 rfl rfl rfl rfl ?_; clear M0; intro g1 w1 M1) | (refine wpL_alc M0 rfl rfl ?_; clear M0; intro g1 w1 M1) | (refine wpL_ldc M0 rfl rfl rfl ?_) | (refine wpL_lgc M0 rfl rfl rfl ?_) | (refine wpL_stc M0 rfl rfl rfl rfl ?_; clear M0; intro w' M0) | (refine wpL_sti M0 rfl rfl rfl rfl ?_; clear M0; intro w' M0) | (refine wpL_ldc M1 rfl rfl rfl ?_) | (refine wpL_lgc M1 rfl rfl rfl ?_) | (refine wpL_stc M1 rfl rfl rfl rfl ?_; clear M1; intro w' M1) | (refine wpL_sti M1 rfl rfl rfl rfl ?_; clear M1; intro w' M1)))
    refine (C _).mono ?_
    rintro e w2 ⟨rfl, rfl⟩
    clear C
    go_wp2_with ((with_reducible refine (?_ : Go.wpList _ _ _ (_ :: _) _ _)); (first | go_skip | (refine wpL_bx M1 rfl rfl rfl rfl ?_; clear M1; intro g2 w2 M2) | (refine wpL_alc M1 rfl rfl ?_; clear M1; intro g2 w2 M2) | (refine wpL_ldc M1 rfl rfl rfl ?_) | (refine wpL_lgc M1 rfl rfl rfl ?_) | (refine wpL_stc M1 rfl rfl rfl rfl ?_; clear M1; intro w' M1) | (refine wpL_sti M1 rfl rfl rfl rfl ?_; clear M1; intro w' M1) | (refine wpL_ldc M2 rfl rfl rfl ?_) | (refine wpL_lgc M2 rfl rfl rfl ?_) | (refine wpL_stc M2 rfl rfl rfl rfl ?_; clear M2; intro w' M2) | (refine wpL_sti M2 rfl rfl rfl rfl ?_; clear M2; intro w' M2)))
    ((try simp only [Exit.inBlock, Exit.then]); refine bodyPost_ret (res_cell rfl M2 rfl (by repeat (first | exact Has.head _ _ _ _ | apply Has.tail)) (by first | exact rd_w _ _ | exact rd_hi _ _ | exact rd_lo _ _ | assumption)) rfl ?_)
    exact ⟨ret_agg (by simp only [wrap_sub, Int.sub_zero]) rfl, M2.below⟩
end Go.Proofs.YtallbegibdlpaaaGreat

/-
  A number of two words divided by one, as the library does it: plain.
-/
namespace Go.Th.Wide

/-- One digit of the quotient: what is tried is not too small; where the test says it is too great, it is. -/
theorem digit_more {U u0 y1 y0 q r : Nat} (hq : q * y1 + r = U) (h : q * y0 > 4294967296 * r + u0) (D : Nat) (hD : D = (U * 4294967296 + u0) / (y1 * 4294967296 + y0)) (hy : 0 < y1) : D + 1 ≤ q := by
  have hY : 0 < y1 * 4294967296 + y0 := by omega
  have h2 : U * 4294967296 + u0 < q * (y1 * 4294967296 + y0) := by
    rw [Nat.mul_add, ← Nat.mul_assoc]
    omega
  have h3 : D * (y1 * 4294967296 + y0) ≤ U * 4294967296 + u0 := by rw [hD]; exact Nat.div_mul_le_self _ _
  rcases Nat.lt_or_ge D q with h4 | h4
  · exact h4
  · have := Nat.mul_le_mul_right (y1 * 4294967296 + y0) h4
    omega
/-- Where the test says it is not, it is the digit. -/
theorem digit_done {U u0 y1 y0 q r D : Nat} (hq : q * y1 + r = U) (h : q * y0 ≤ 4294967296 * r + u0) (hD : D = (U * 4294967296 + u0) / (y1 * 4294967296 + y0)) (hy : 0 < y1) (hle : D ≤ q) : q = D := by
  have hY : 0 < y1 * 4294967296 + y0 := by omega
  have h2 : q * (y1 * 4294967296 + y0) ≤ U * 4294967296 + u0 := by
    rw [Nat.mul_add, ← Nat.mul_assoc]
    omega
  have h3 : q ≤ D := by rw [hD, Nat.le_div_iff_mul_le hY]; exact h2
  omega
/-- The first trial. -/
theorem digit_first {U u0 y1 y0 D : Nat} (hD : D = (U * 4294967296 + u0) / (y1 * 4294967296 + y0)) (hu : u0 < 4294967296) (hy : 0 < y1) : D ≤ U / y1 := by
  have hY : 0 < y1 * 4294967296 + y0 := by omega
  have h3 : D * (y1 * 4294967296 + y0) ≤ U * 4294967296 + u0 := by rw [hD]; exact Nat.div_mul_le_self _ _
  rw [Nat.le_div_iff_mul_le hy]
  rw [Nat.mul_add, ← Nat.mul_assoc] at h3
  omega
/-- The digit is one. -/
theorem digit_lt {U u0 y1 y0 D : Nat} (hD : D = (U * 4294967296 + u0) / (y1 * 4294967296 + y0)) (hu : u0 < 4294967296) (hU : U < y1 * 4294967296 + y0) : D < 4294967296 := by
  rw [hD, Nat.div_lt_iff_lt_mul (by omega)]
  omega
/-- Where the rest is a digit or more, so is nothing left to try. -/
theorem digit_big {U y1 y0 q r : Nat} (hq : q * y1 + r = U) (hr : 4294967296 ≤ r) (hU : U < y1 * 4294967296 + y0) (hy0 : y0 < 4294967296) : q < 4294967296 := by
  rcases Nat.lt_or_ge q 4294967296 with h | h
  · exact h
  · have := Nat.mul_le_mul_right y1 h
    omega
theorem digit_small {q y0 : Nat} (hq : q < 4294967296) (hy0 : y0 < 4294967296) : q * y0 < 18446744073709551616 := Nat.lt_of_le_of_lt (Nat.mul_le_mul (show q ≤ 4294967295 by omega) (show y0 ≤ 4294967295 by omega)) (by decide)
/-- One trial less. -/
theorem digit_next {U y1 q r : Nat} (hq : q * y1 + r = U) (h : 0 < q) : (q - 1) * y1 + (r + y1) = U := by
  obtain ⟨p, rfl⟩ : ∃ p, q = p + 1 := ⟨q - 1, by omega⟩
  rw [Nat.add_mul, Nat.one_mul] at hq
  rw [Nat.add_sub_cancel]
  omega
/-- What is left. -/
theorem left_plain (A u0 P R Y : Nat) (h : P + R = A + u0) (hR : R < Y) (hY : Y < 18446744073709551616) :
    ((A % 18446744073709551616 + u0) % 18446744073709551616 + 18446744073709551616 - P % 18446744073709551616) % 18446744073709551616 = R := by omega
theorem digit_left {U u0 Y D : Nat} (hD : D = (U * 4294967296 + u0) / Y) (hY : 0 < Y) (hlt : Y < 18446744073709551616) :
    ((U * 4294967296 % 18446744073709551616 + u0) % 18446744073709551616 + 18446744073709551616 - D * Y % 18446744073709551616) % 18446744073709551616 = (U * 4294967296 + u0) % Y := by
  have h1 := Nat.div_add_mod (U * 4294967296 + u0) Y
  rw [← hD, Nat.mul_comm] at h1
  exact left_plain _ _ _ _ Y h1 (Nat.mod_lt _ hY) hlt
/-- Both digits. -/
theorem two_digits (U u1 u0 Y : Nat) (hY : 0 < Y) (h0 : u0 < 4294967296) :
    (U * 4294967296 + u1) / Y * 4294967296 + ((U * 4294967296 + u1) % Y * 4294967296 + u0) / Y = (U * 18446744073709551616 + (u1 * 4294967296 + u0)) / Y ∧
      ((U * 4294967296 + u1) % Y * 4294967296 + u0) % Y = (U * 18446744073709551616 + (u1 * 4294967296 + u0)) % Y := by
  have h1 := Nat.div_add_mod (U * 4294967296 + u1) Y
  have e : U * 18446744073709551616 + (u1 * 4294967296 + u0) = ((U * 4294967296 + u1) % Y * 4294967296 + u0) + Y * ((U * 4294967296 + u1) / Y * 4294967296) := by
    rw [← Nat.mul_assoc]
    generalize Y * ((U * 4294967296 + u1) / Y) = P at *
    omega
  rw [e, Nat.add_mul_div_left _ _ hY, Nat.add_mul_mod_self_left]
  exact ⟨Nat.add_comm _ _, rfl⟩
/-- Shifted by as much, the quotient is the same, and the rest as much greater. -/
theorem shifted (N y s : Nat) : N * 2 ^ s / (y * 2 ^ s) = N / y ∧ N * 2 ^ s % (y * 2 ^ s) / 2 ^ s = N % y := by
  have h := Nat.two_pow_pos s
  exact ⟨Nat.mul_div_mul_right _ _ h, by rw [Nat.mul_mod_mul_right, Nat.mul_div_cancel _ h]⟩
end Go.Th.Wide

/-
  The library's quotient of a number of two words.
-/
namespace Go.Proofs.YtallbegibdlpaaaGreat
open Go Go.RowKit Go.Th Go.Th.Wide

theorem bitLen_most (x : Nat) (h : x < 18446744073709551616) (h0 : x ≠ 0) : 1 ≤ Lib.bitLen x ∧ Lib.bitLen x ≤ 64 ∧ 2 ^ (Lib.bitLen x - 1) ≤ x ∧ x < 2 ^ Lib.bitLen x := by
  have key : ∀ n x, x < 2 ^ n → n ≤ 64 → x ≠ 0 → 1 ≤ Lib.bitLen x ∧ 2 ^ (Lib.bitLen x - 1) ≤ x ∧ x < 2 ^ Lib.bitLen x := by
    intro n
    induction n with
    | zero => intro x hx _ h0; simp at hx; exact absurd hx h0
    | succ n ih =>
      intro x hx hn h0
      rw [Nat.pow_succ] at hx
      have hx64 : x < 2 ^ 64 := by
        have := Nat.pow_le_pow_right (n := 2) (by decide) (show n + 1 ≤ 64 by omega)
        rw [Nat.pow_succ] at this
        omega
      rw [Lib.bitLen_half x h0 hx64]
      by_cases h2 : x / 2 = 0
      · have : x = 1 := by omega
        subst this
        decide
      · obtain ⟨a, b, c⟩ := ih (x / 2) (by omega) (by omega) h2
        refine ⟨by omega, ?_, ?_⟩
        · rw [show 1 + Lib.bitLen (x / 2) - 1 = (Lib.bitLen (x / 2) - 1) + 1 by omega, Nat.pow_succ]; omega
        · rw [Nat.add_comm, Nat.pow_succ]; omega
  obtain ⟨a, b, c⟩ := key 64 x h (by decide) h0
  exact ⟨a, Lib.bitLen_le x 64 (by decide) h, b, c⟩

/-- So many noughts a word begins with. -/
theorem Lz64_any (y : Nat) (hy : y < 18446744073709551616) (h0 : y ≠ 0) (w : World) :
    Calls Tryz.prog 115 #[.int .u64 y] w fun e w' => (∃ s : Nat, e = .returned (.int .i64 s) ∧ s ≤ 63 ∧ 9223372036854775808 ≤ y * 2 ^ s ∧ y * 2 ^ s < 18446744073709551616) ∧ w = w' := by
  obtain ⟨h1, h2, h3, h4⟩ := bitLen_most y hy h0
  have C := Len64_any (y : Int) w (by omega) (by omega)
  rw [Int.toNat_natCast] at C
  obtain ⟨b, hb⟩ : ∃ b, b = Lib.bitLen y := ⟨_, rfl⟩
  rw [← hb] at C h1 h2 h3 h4
  have hp1 : 2 ^ (b - 1) * 2 ^ (64 - b) = 9223372036854775808 := by rw [← Nat.pow_add, show b - 1 + (64 - b) = 63 by omega]
  have hp2 : 2 ^ b * 2 ^ (64 - b) = 18446744073709551616 := by rw [← Nat.pow_add, show b + (64 - b) = 64 by omega]
  have k1 := Nat.mul_le_mul_right (2 ^ (64 - b)) h3
  have k2 := Nat.mul_lt_mul_of_pos_right h4 (Nat.two_pow_pos (64 - b))
  rw [hp1] at k1
  rw [hp2] at k2
  have K1 := Lib.hid k1
  have K2 := Lib.hid k2
  clear h3 h4 hp1 hp2 hb k1 k2
  go_enter Tryz.func115, Tryz.ntmps115
  go_wp2_with fail
  refine C.mono ?_
  rintro e w1 ⟨rfl, rfl⟩
  go_wp2
  go_ret
  exact ⟨⟨64 - b, ret_int (by omega), by omega, K1.out, K2.out⟩, rfl⟩

theorem ret_two {k k' : IntKind} {a b a' b' : Int} (h : a = a') (h' : b = b') : Ending.returned (.tuple #[.int k a, .int k' b]) = Ending.returned (.tuple #[.int k a', .int k' b']) := by rw [h, h']
theorem shift_two (hi lo y s : Nat) (hs : s ≤ 63) (hlo : lo < 18446744073709551616) (hlt : hi < y) (hY : y * 2 ^ s < 18446744073709551616) :
    bits BinOp.or IntKind.u64 (IntKind.u64.wrap ((hi : Int) * 2 ^ s)) ((lo : Int) / 2 ^ (64 - s)) = ((hi * 2 ^ s + lo / 2 ^ (64 - s) : Nat) : Int) ∧
      IntKind.u64.wrap ((lo : Int) * 2 ^ s) = ((lo * 2 ^ s % 18446744073709551616 : Nat) : Int) ∧
      (hi * 18446744073709551616 + lo) * 2 ^ s = (hi * 2 ^ s + lo / 2 ^ (64 - s)) * 18446744073709551616 + lo * 2 ^ s % 18446744073709551616 := by
  have hp : 2 ^ s * 2 ^ (64 - s) = 18446744073709551616 := by rw [← Nat.pow_add, show s + (64 - s) = 64 by omega]
  have hH : hi * 2 ^ s < 18446744073709551616 := Nat.lt_of_le_of_lt (Nat.mul_le_mul_right _ (Nat.le_of_lt hlt)) hY
  have hL : lo / 2 ^ (64 - s) < 2 ^ s := by rw [Nat.div_lt_iff_lt_mul (Nat.two_pow_pos _), hp]; exact hlo
  have hLow : lo * 2 ^ s % 18446744073709551616 = lo % 2 ^ (64 - s) * 2 ^ s := by rw [← hp, Nat.mul_comm (2 ^ s), Nat.mul_mod_mul_right]
  refine ⟨?_, ?_, ?_⟩
  · have e1 : IntKind.u64.wrap ((hi : Int) * 2 ^ s) = ((hi * 2 ^ s : Nat) : Int) := by
      rw [show (hi : Int) * 2 ^ s = ((hi * 2 ^ s : Nat) : Int) by simp]; exact held _ hH
    have e2 : (lo : Int) / 2 ^ (64 - s) = ((lo / 2 ^ (64 - s) : Nat) : Int) := by simp
    rw [e1, e2, bits_or_u64_nat _ _ hH (Nat.lt_of_lt_of_le hL (by have := Nat.pow_le_pow_right (n := 2) (by decide) (show s ≤ 64 by omega); omega))]
    rw [Nat.mul_comm hi, Nat.two_pow_add_eq_or_of_lt hL]
  · rw [show (lo : Int) * 2 ^ s = ((lo * 2 ^ s : Nat) : Int) by simp]; exact turnedW _
  · rw [hLow, Nat.add_mul, Nat.add_mul, Nat.mul_right_comm]
    have h := Nat.div_add_mod lo (2 ^ (64 - s))
    have h2 : lo * 2 ^ s = lo / 2 ^ (64 - s) * 18446744073709551616 + lo % 2 ^ (64 - s) * 2 ^ s := by
      conv => lhs; rw [← h, Nat.add_mul, Nat.mul_comm (2 ^ (64 - s)), Nat.mul_assoc, Nat.mul_comm (2 ^ (64 - s)), hp]
    omega
theorem shift_less (hi lo y s : Nat) (hs : s ≤ 63) (hlo : lo < 18446744073709551616) (hlt : hi < y) : hi * 2 ^ s + lo / 2 ^ (64 - s) < y * 2 ^ s := by
  have hp : 2 ^ s * 2 ^ (64 - s) = 18446744073709551616 := by rw [← Nat.pow_add, show s + (64 - s) = 64 by omega]
  have hL : lo / 2 ^ (64 - s) < 2 ^ s := by rw [Nat.div_lt_iff_lt_mul (Nat.two_pow_pos _), hp]; exact hlo
  have h := Nat.mul_le_mul_right (2 ^ s) (show hi + 1 ≤ y from hlt)
  rw [Nat.add_mul, Nat.one_mul] at h
  omega

set_option maxRecDepth 200000 in
set_option maxHeartbeats 1600000 in
theorem Div64_small (lo y : Nat) (hlo : lo < 18446744073709551616) (hy : y < 18446744073709551616) (h0 : 0 < y) (w : World) :
    Calls Tryz.prog 107 #[.int .u64 0, .int .u64 lo, .int .u64 y] w fun e w' =>
      e = .returned (.tuple #[.int .u64 ((lo / y : Nat) : Int), .int .u64 ((lo % y : Nat) : Int)]) ∧ Below w.heap.size w w' := by
  obtain ⟨QV, hQV⟩ : ∃ QV, QV = lo / y := ⟨_, rfl⟩
  obtain ⟨RV, hRV⟩ : ∃ RV, RV = lo % y := ⟨_, rfl⟩
  rw [← hQV, ← hRV]
  have hQ2 : QV < 18446744073709551616 := by have := Nat.div_le_self lo y; omega
  have e3 : (lo : Int) / y = (QV : Int) := by rw [hQV]; simp
  have e4 : (lo : Int) % y = (RV : Int) := by rw [hRV]; simp
  clear hQV hRV
  have e1 : ((y : Int) == 0) = false := by rw [beq_eq_false_iff_ne]; omega
  have e2 : decide ((y : Int) ≤ 0) = false := by simp only [decide_eq_false_iff_not]; omega
  have e5 : (y : Int) ≠ 0 := by omega
  go_enter Tryz.func107, Tryz.ntmps107
  go_wp2
  go_quiet (fail)
  go_wp2
  go_ret2
  exact ⟨ret_two (by first | rfl | (rw [IntKind.wrap_u64]; omega)) (by first | rfl | exact e4 | (rw [IntKind.wrap_u64]; omega)), below_dN (Below.refl _ _) _⟩

set_option maxRecDepth 200000 in
set_option maxHeartbeats 6400000 in
theorem Div64_great (hi lo y : Nat) (hlo : lo < 18446744073709551616) (hy : y < 18446744073709551616) (h0 : 0 < hi) (hlt : hi < y) (w : World) :
    Calls Tryz.prog 107 #[.int .u64 hi, .int .u64 lo, .int .u64 y] w fun e w' =>
      e = .returned (.tuple #[.int .u64 (((hi * 18446744073709551616 + lo) / y : Nat) : Int), .int .u64 (((hi * 18446744073709551616 + lo) % y : Nat) : Int)]) ∧ Below w.heap.size w w' := by
  obtain ⟨QV, hQV⟩ : ∃ QV, QV = (hi * 18446744073709551616 + lo) / y := ⟨_, rfl⟩
  obtain ⟨RV, hRV⟩ : ∃ RV, RV = (hi * 18446744073709551616 + lo) % y := ⟨_, rfl⟩
  rw [← hQV, ← hRV]
  have HQV := Lib.hid hQV
  have HRV := Lib.hid hRV
  clear hQV hRV
  have e1 : ((y : Int) == 0) = false := by rw [beq_eq_false_iff_ne]; omega
  have e2 : decide ((y : Int) ≤ hi) = false := by simp only [decide_eq_false_iff_not]; omega
  have e3 : ((hi : Int) == 0) = false := by rw [beq_eq_false_iff_ne]; omega
  have C := Lz64_any y hy (by omega)
  go_enter Tryz.func107, Tryz.ntmps107
  go_wp2_with fail
  refine (C _).mono ?_
  rintro e w1 ⟨⟨s, rfl, hs, hY1, hY2⟩, rfl⟩
  clear C e1 e2 e3
  have hs2 : (s : Int) ≤ 63 := by omega
  have hYc : (y : Int) * 2 ^ s = ((y * 2 ^ s : Nat) : Int) := by simp
  -- what is shifted
  obtain ⟨hU, hV, hUV⟩ := shift_two hi lo y s hs hlo hlt hY2
  obtain ⟨U, hUe⟩ : ∃ U, U = hi * 2 ^ s + lo / 2 ^ (64 - s) := ⟨_, rfl⟩
  obtain ⟨V, hVe⟩ : ∃ V, V = lo * 2 ^ s % 18446744073709551616 := ⟨_, rfl⟩
  obtain ⟨hsh1, hsh2⟩ := shifted (hi * 18446744073709551616 + lo) y s
  rw [hUV] at hsh1 hsh2
  rw [← HQV.out] at hsh1
  rw [← HRV.out] at hsh2
  obtain ⟨Y, hY⟩ : ∃ Y, Y = y * 2 ^ s := ⟨_, rfl⟩
  rw [← hY] at hY1 hY2 hYc hsh1 hsh2
  have hUY : U < Y := by rw [hUe, hY]; exact shift_less hi lo y s hs hlo hlt
  have hVlt : V < 18446744073709551616 := by rw [hVe]; exact Nat.mod_lt _ (by decide)
  rw [← hUe] at hU hsh1 hsh2
  rw [← hVe] at hV hsh1 hsh2
  have HS1 := Lib.hid hsh1
  have HS2 := Lib.hid hsh2
  clear hUV hUe hVe hY hsh1 hsh2
  -- halves
  have hm := low32 Y hY2
  have hv0 := low32 V hVlt
  have hy1 : (Y : Int) / 4294967296 = ((Y / 4294967296 : Nat) : Int) := by omega
  have hv1 : (V : Int) / 4294967296 = ((V / 4294967296 : Nat) : Int) := by omega
  have hYd : Y = Y / 4294967296 * 4294967296 + Y % 4294967296 := by omega
  have hVd : V = V / 4294967296 * 4294967296 + V % 4294967296 := by omega
  obtain ⟨y1, hy1e⟩ : ∃ y1, y1 = Y / 4294967296 := ⟨_, rfl⟩
  obtain ⟨y0, hy0e⟩ : ∃ y0, y0 = Y % 4294967296 := ⟨_, rfl⟩
  obtain ⟨u1, hu1e⟩ : ∃ u1, u1 = V / 4294967296 := ⟨_, rfl⟩
  obtain ⟨u0, hu0e⟩ : ∃ u0, u0 = V % 4294967296 := ⟨_, rfl⟩
  rw [← hy1e] at hy1 hYd
  rw [← hy0e] at hm hYd
  rw [← hu1e] at hv1 hVd
  rw [← hu0e] at hv0 hVd
  have hy0lt : y0 < 4294967296 := by omega
  have hy1lt : y1 < 4294967296 := by omega
  have hy1pos : 0 < y1 := by omega
  have hu0lt : u0 < 4294967296 := by omega
  have hu1lt : u1 < 4294967296 := by omega
  have HUY : Hid (U < y1 * 4294967296 + y0) := by show _ < _; omega
  have HYD := Lib.hid hYd
  have HVD := Lib.hid hVd
  -- the first digit
  obtain ⟨D, hDe⟩ : ∃ D, D = (U * 4294967296 + u1) / (y1 * 4294967296 + y0) := ⟨_, rfl⟩
  have HD := Lib.hid hDe
  have HDl := Lib.hid (digit_lt hDe hu1lt HUY.out)
  have hD1 := digit_first hDe hu1lt hy1pos
  have hUlt : U < 18446744073709551616 := by omega
  have hqd : (U : Int).tdiv (y1 : Int) = ((U / y1 : Nat) : Int) := by rw [Int.tdiv_eq_ediv_of_nonneg (by omega)]; simp
  have hq1 := Nat.div_add_mod U y1
  have hq2 := Nat.mod_lt U hy1pos
  have hq3 : U / y1 ≤ U := Nat.div_le_self _ _
  rw [Nat.mul_comm] at hq1
  obtain ⟨q1, hq1e⟩ : ∃ q1, q1 = U / y1 := ⟨_, rfl⟩
  obtain ⟨r1, hr1e⟩ : ∃ r1, r1 = U % y1 := ⟨_, rfl⟩
  rw [← hq1e] at hqd hq1 hq3 hD1
  rw [← hr1e] at hq1 hq2
  have hP : IntKind.u64.wrap ((q1 : Int) * (y1 : Int)) = ((q1 * y1 : Nat) : Int) := by rw [← Int.natCast_mul]; exact held _ (by omega)
  have hR : IntKind.u64.wrap ((U : Int) - ((q1 * y1 : Nat) : Int)) = (r1 : Int) := by rw [IntKind.wrap_u64]; omega
  have hqw : IntKind.u64.wrap (q1 : Int) = (q1 : Int) := held _ (by omega)
  have HQ1 := Lib.hid hq1
  have HD1' := Lib.hid hD1
  obtain ⟨P1, hP1e⟩ : ∃ P1, P1 = q1 * y1 := ⟨_, rfl⟩
  rw [← hP1e] at hP hR
  -- what is left, and the second digit
  have hYpos : 0 < y1 * 4294967296 + y0 := by omega
  have hl1 := digit_left hDe hYpos (by omega)
  have hRlt := Nat.mod_lt (U * 4294967296 + u1) hYpos
  obtain ⟨A1, hA1⟩ : ∃ A1, A1 = U * 4294967296 % 18446744073709551616 := ⟨_, rfl⟩
  obtain ⟨A2, hA2⟩ : ∃ A2, A2 = (A1 + u1) % 18446744073709551616 := ⟨_, rfl⟩
  rw [← hYd] at hl1 hRlt
  obtain ⟨A3, hA3⟩ : ∃ A3, A3 = D * Y % 18446744073709551616 := ⟨_, rfl⟩
  obtain ⟨R1, hR1⟩ : ∃ R1, R1 = (U * 4294967296 + u1) % Y := ⟨_, rfl⟩
  rw [← hA1, ← hA2, ← hA3, ← hR1] at hl1
  rw [← hR1] at hRlt
  have a1 : IntKind.u64.wrap ((U : Int) * 4294967296) = (A1 : Int) := by rw [IntKind.wrap_u64, hA1]; omega
  have a2 : IntKind.u64.wrap ((A1 : Int) + u1) = (A2 : Int) := by rw [IntKind.wrap_u64, hA2]; omega
  have a3 : IntKind.u64.wrap ((D : Int) * Y) = (A3 : Int) := by rw [← Int.natCast_mul, hA3]; exact turnedW _
  have hA2lt : A2 < 18446744073709551616 := by omega
  have hA3lt : A3 < 18446744073709551616 := by rw [hA3]; exact Nat.mod_lt _ (by decide)
  have a4 : IntKind.u64.wrap ((A2 : Int) - A3) = (R1 : Int) := by rw [IntKind.wrap_u64]; omega
  obtain ⟨E, hEe⟩ : ∃ E, E = (R1 * 4294967296 + u0) / (y1 * 4294967296 + y0) := ⟨_, rfl⟩
  have HE := Lib.hid hEe
  have HR1Y : Hid (R1 < y1 * 4294967296 + y0) := by show _ < _; omega
  have HEl := Lib.hid (digit_lt hEe hu0lt HR1Y.out)
  have hE1 := digit_first hEe hu0lt hy1pos
  have hRd : (R1 : Int).tdiv (y1 : Int) = ((R1 / y1 : Nat) : Int) := by rw [Int.tdiv_eq_ediv_of_nonneg (by omega)]; simp
  have hp1 := Nat.div_add_mod R1 y1
  have hp2 := Nat.mod_lt R1 hy1pos
  have hp3 : R1 / y1 ≤ R1 := Nat.div_le_self _ _
  rw [Nat.mul_comm] at hp1
  obtain ⟨q2, hq2e⟩ : ∃ q2, q2 = R1 / y1 := ⟨_, rfl⟩
  obtain ⟨r2, hr2e⟩ : ∃ r2, r2 = R1 % y1 := ⟨_, rfl⟩
  rw [← hq2e] at hRd hp1 hp3 hE1
  rw [← hr2e] at hp1 hp2
  have hP2 : IntKind.u64.wrap ((q2 : Int) * (y1 : Int)) = ((q2 * y1 : Nat) : Int) := by rw [← Int.natCast_mul]; exact held _ (by omega)
  have hR2 : IntKind.u64.wrap ((R1 : Int) - ((q2 * y1 : Nat) : Int)) = (r2 : Int) := by rw [IntKind.wrap_u64]; omega
  have hqw2 : IntKind.u64.wrap (q2 : Int) = (q2 : Int) := held _ (by omega)
  have HP2 := Lib.hid hp1
  have HE1' := Lib.hid hE1
  obtain ⟨P2, hP2e⟩ : ∃ P2, P2 = q2 * y1 := ⟨_, rfl⟩
  rw [← hP2e] at hP2 hR2
  have hq2lt : q2 < 18446744073709551616 := by omega
  have hr2lt : r2 < 4294967296 := by omega
  have hq1lt : q1 < 18446744073709551616 := by omega
  have hr1lt : r1 < 4294967296 := by omega
  -- the end
  have hl2 := digit_left hEe hYpos (by omega)
  rw [← hYd] at hl2
  obtain ⟨B1, hB1⟩ : ∃ B1, B1 = R1 * 4294967296 % 18446744073709551616 := ⟨_, rfl⟩
  obtain ⟨B2, hB2⟩ : ∃ B2, B2 = (B1 + u0) % 18446744073709551616 := ⟨_, rfl⟩
  obtain ⟨B3, hB3⟩ : ∃ B3, B3 = E * Y % 18446744073709551616 := ⟨_, rfl⟩
  obtain ⟨R2, hR2e⟩ : ∃ R2, R2 = (R1 * 4294967296 + u0) % Y := ⟨_, rfl⟩
  rw [← hB1, ← hB2, ← hB3, ← hR2e] at hl2
  have b1 : IntKind.u64.wrap ((R1 : Int) * 4294967296) = (B1 : Int) := by rw [IntKind.wrap_u64, hB1]; omega
  have b2 : IntKind.u64.wrap ((B1 : Int) + u0) = (B2 : Int) := by rw [IntKind.wrap_u64, hB2]; omega
  have b3 : IntKind.u64.wrap ((E : Int) * Y) = (B3 : Int) := by rw [← Int.natCast_mul, hB3]; exact turnedW _
  have hB2lt : B2 < 18446744073709551616 := by omega
  have hB3lt : B3 < 18446744073709551616 := by rw [hB3]; exact Nat.mod_lt _ (by decide)
  have hR2lt : R2 < 18446744073709551616 := by rw [hR2e]; exact Nat.lt_of_lt_of_le (Nat.mod_lt _ (by omega)) (by omega)
  have b4 : IntKind.u64.wrap ((B2 : Int) - B3) = (R2 : Int) := by rw [IntKind.wrap_u64]; omega
  have hDl := HDl.out
  have hEl := HEl.out
  have c1 : IntKind.u64.wrap ((D : Int) * 4294967296) = ((D * 4294967296 : Nat) : Int) := by rw [IntKind.wrap_u64]; omega
  obtain ⟨D2, hD2⟩ : ∃ D2, D2 = D * 4294967296 := ⟨_, rfl⟩
  rw [← hD2] at c1
  have c2 : IntKind.u64.wrap ((D2 : Int) + E) = ((D2 + E : Nat) : Int) := by rw [IntKind.wrap_u64]; omega
  have hT := two_digits U u1 u0 Y (by omega) hu0lt
  rw [← hR1, ← hR2e, ← hVd] at hT
  have hT1 := hT.1
  have hDY : D = (U * 4294967296 + u1) / Y := by rw [hDe, ← hYd]
  have hEY : E = (R1 * 4294967296 + u0) / Y := by rw [hEe, ← hYd]
  rw [← hDY, ← hEY, HS1.out, ← hD2] at hT1
  have HQ := Lib.hid hT1
  have hT2 := hT.2
  have HT2 : Hid (R2 / 2 ^ s = RV) := by show _ = _; rw [hT2]; exact HS2.out
  obtain ⟨Z, hZ⟩ : ∃ Z, Z = D2 + E := ⟨_, rfl⟩
  rw [← hZ] at c2 HQ
  clear hq1 hD1 hDe hYd hVd hy1e hy0e hu1e hu0e hq1e hr1e hP1e hl1 hA1 hA2 hA3 hR1 hEe hE1 hp1 hq2e hr2e hP2e hl2 hB1 hB2 hB3 hR2e hT hT1 hT2 hDY hEY hD2 hZ hDl hEl hq3 hp3 hUY hRlt hq2 hp2 hlt h0 hYpos hY1
  have HPOS := Lib.hid hy1pos
  go_wp2
  go_loop [15, 16] (fun a b => ∃ q r : Nat, a = .int .u64 q ∧ b = .int .u64 r ∧ Hid (q * y1 + r = U ∧ r < 4294967296 ∧ D ≤ q ∧ q < 18446744073709551616)) (fun _ b => 4294967296 - (intOf b).toNat)
  case atStart => exact ⟨_, _, rfl, rfl, ⟨HQ1.out, hr1lt, HD1'.out, hq1lt⟩⟩
  case round =>
    obtain ⟨q, r, rfl, rfl, HREL⟩ := hrel
    have HQR := Lib.hid HREL.out.1
    have hr := HREL.out.2.1
    have HLE := Lib.hid HREL.out.2.2.1
    have hq64 := HREL.out.2.2.2
    clear HREL
    by_cases hq : 4294967296 ≤ q
    · have hqi : decide ((4294967296 : Int) ≤ (q : Int)) = true := by simp only [decide_eq_true_eq]; omega
      have hD1 : D + 1 ≤ q := by have := HDl.out; omega
      have h1 : IntKind.u64.wrap ((q : Int) - 1) = ((q - 1 : Nat) : Int) := by rw [IntKind.wrap_u64]; omega
      have hN := Lib.hid (digit_next HQR.out (show 0 < q by omega))
      have HD1 := Lib.hid (show D ≤ q - 1 by omega)
      obtain ⟨t, ht⟩ : ∃ t, t = r + y1 := ⟨_, rfl⟩
      have hti : (r : Int) + (y1 : Int) = (t : Int) := by omega
      have htl : t < 18446744073709551616 := by omega
      by_cases hbig : 4294967296 ≤ r + y1
      · have hbi : decide ((4294967296 : Int) ≤ (t : Int)) = true := by simp only [decide_eq_true_eq]; omega
        have hqd : q - 1 = D := digit_done hN.out (Nat.le_trans (Nat.le_of_lt (digit_small (digit_big hN.out hbig HUY.out hy0lt) hy0lt)) (by omega)) HD.out HPOS.out HD1.out
        rw [hqd] at h1
        clear hqd hD1 hbig hq ht
        go_wp2
        go_loop [18, 16] (fun a b => ∃ q r : Nat, a = .int .u64 q ∧ b = .int .u64 r ∧ Hid (q * y1 + r = R1 ∧ r < 4294967296 ∧ E ≤ q ∧ q < 18446744073709551616)) (fun _ b => 4294967296 - (intOf b).toNat)
        case atStart => exact ⟨_, _, rfl, rfl, ⟨HP2.out, hr2lt, HE1'.out, hq2lt⟩⟩
        case round =>
          obtain ⟨q, r, rfl, rfl, HREL⟩ := hrel
          have HQR := Lib.hid HREL.out.1
          have hr := HREL.out.2.1
          have HLE := Lib.hid HREL.out.2.2.1
          have hq64 := HREL.out.2.2.2
          clear HREL
          by_cases hq : 4294967296 ≤ q
          · have hqi : decide ((4294967296 : Int) ≤ (q : Int)) = true := by simp only [decide_eq_true_eq]; omega
            have hD1 : E + 1 ≤ q := by have := HEl.out; omega
            have h1 : IntKind.u64.wrap ((q : Int) - 1) = ((q - 1 : Nat) : Int) := by rw [IntKind.wrap_u64]; omega
            have hN := Lib.hid (digit_next HQR.out (show 0 < q by omega))
            have HD1 := Lib.hid (show E ≤ q - 1 by omega)
            obtain ⟨t, ht⟩ : ∃ t, t = r + y1 := ⟨_, rfl⟩
            have hti : (r : Int) + (y1 : Int) = (t : Int) := by omega
            have htl : t < 18446744073709551616 := by omega
            by_cases hbig : 4294967296 ≤ r + y1
            · have hbi : decide ((4294967296 : Int) ≤ (t : Int)) = true := by simp only [decide_eq_true_eq]; omega
              have hqd : q - 1 = E := digit_done hN.out (Nat.le_trans (Nat.le_of_lt (digit_small (digit_big hN.out hbig HR1Y.out hy0lt) hy0lt)) (by omega)) HE.out HPOS.out HD1.out
              rw [hqd] at h1
              clear hqd hD1 hbig hq ht
              go_wp2
              go_ret2
              exact ⟨ret_two (by rw [HQ.out]) (by rw [← HT2.out]; simp), Below.refl _ _⟩
            · have hbi : decide ((4294967296 : Int) ≤ (t : Int)) = false := by simp only [decide_eq_false_iff_not]; omega
              have HTL := Lib.hid (show t < 4294967296 ∧ r < t by omega)
              obtain ⟨p, hp⟩ : ∃ p, p = q - 1 := ⟨_, rfl⟩
              have hp64 : p < 18446744073709551616 := by omega
              rw [← hp] at h1 hN HD1
              rw [← ht] at hN
              clear hD1 hq hp hbig ht
              go_wp2
              go_round
              case rel => exact ⟨_, _, rfl, by go_num, ⟨hN.out, HTL.out.1, HD1.out, hp64⟩⟩
              case measure => have := HTL.out; simp [intOf] <;> omega
          · have hqi : decide ((4294967296 : Int) ≤ (q : Int)) = false := by simp only [decide_eq_false_iff_not]; omega
            have hT := digit_small (show q < 4294967296 by omega) hy0lt
            have hTe : IntKind.u64.wrap ((q : Int) * (y0 : Int)) = ((q * y0 : Nat) : Int) := by rw [← Int.natCast_mul]; exact held _ hT
            obtain ⟨T, hTd⟩ : ∃ T, T = q * y0 := ⟨_, rfl⟩
            rw [← hTd] at hTe hT
            have hW1 : IntKind.u64.wrap (4294967296 * (r : Int)) = 4294967296 * (r : Int) := by rw [IntKind.wrap_u64]; omega
            have hW2 : IntKind.u64.wrap (4294967296 * (r : Int) + (u0 : Int)) = 4294967296 * (r : Int) + (u0 : Int) := by rw [IntKind.wrap_u64]; omega
            by_cases hc : 4294967296 * r + u0 < T
            · have hci : decide (4294967296 * (r : Int) + (u0 : Int) < (T : Int)) = true := by simp only [decide_eq_true_eq]; omega
              have hD1 : E + 1 ≤ q := digit_more HQR.out (by rw [← hTd]; exact hc) _ HE.out HPOS.out
              have h1 : IntKind.u64.wrap ((q : Int) - 1) = ((q - 1 : Nat) : Int) := by rw [IntKind.wrap_u64]; omega
              have hN := Lib.hid (digit_next HQR.out (show 0 < q by omega))
              have HD1 := Lib.hid (show E ≤ q - 1 by omega)
              obtain ⟨t, ht⟩ : ∃ t, t = r + y1 := ⟨_, rfl⟩
              have hti : (r : Int) + (y1 : Int) = (t : Int) := by omega
              have htl : t < 18446744073709551616 := by omega
              by_cases hbig : 4294967296 ≤ r + y1
              · have hbi : decide ((4294967296 : Int) ≤ (t : Int)) = true := by simp only [decide_eq_true_eq]; omega
                have hqd : q - 1 = E := digit_done hN.out (Nat.le_trans (Nat.le_of_lt (digit_small (digit_big hN.out hbig HR1Y.out hy0lt) hy0lt)) (by omega)) HE.out HPOS.out HD1.out
                rw [hqd] at h1
                clear hqd hD1 hbig hq hc hTd ht
                go_wp2
                go_ret2
                exact ⟨ret_two (by rw [HQ.out]) (by rw [← HT2.out]; simp), Below.refl _ _⟩
              · have hbi : decide ((4294967296 : Int) ≤ (t : Int)) = false := by simp only [decide_eq_false_iff_not]; omega
                have HTL := Lib.hid (show t < 4294967296 ∧ r < t by omega)
                obtain ⟨p, hp⟩ : ∃ p, p = q - 1 := ⟨_, rfl⟩
                have hp64 : p < 18446744073709551616 := by omega
                rw [← hp] at h1 hN HD1
                rw [← ht] at hN
                clear hD1 hq hc hTd hp hbig ht
                go_wp2
                go_round
                case rel => exact ⟨_, _, rfl, by go_num, ⟨hN.out, HTL.out.1, HD1.out, hp64⟩⟩
                case measure => have := HTL.out; simp [intOf] <;> omega
            · have hci : decide (4294967296 * (r : Int) + (u0 : Int) < (T : Int)) = false := by simp only [decide_eq_false_iff_not]; omega
              have hqd : q = E := digit_done HQR.out (by rw [← hTd]; omega) HE.out HPOS.out HLE.out
              rw [hqd] at hTe hqi ⊢
              clear hqd hq hc hTd hT
              go_wp2
              go_ret2
              exact ⟨ret_two (by rw [HQ.out]) (by rw [← HT2.out]; simp), Below.refl _ _⟩
      · have hbi : decide ((4294967296 : Int) ≤ (t : Int)) = false := by simp only [decide_eq_false_iff_not]; omega
        have HTL := Lib.hid (show t < 4294967296 ∧ r < t by omega)
        obtain ⟨p, hp⟩ : ∃ p, p = q - 1 := ⟨_, rfl⟩
        have hp64 : p < 18446744073709551616 := by omega
        rw [← hp] at h1 hN HD1
        rw [← ht] at hN
        clear hD1 hq hp hbig ht
        go_wp2
        go_round
        case rel => exact ⟨_, _, rfl, by go_num, ⟨hN.out, HTL.out.1, HD1.out, hp64⟩⟩
        case measure => have := HTL.out; simp [intOf] <;> omega
    · have hqi : decide ((4294967296 : Int) ≤ (q : Int)) = false := by simp only [decide_eq_false_iff_not]; omega
      have hT := digit_small (show q < 4294967296 by omega) hy0lt
      have hTe : IntKind.u64.wrap ((q : Int) * (y0 : Int)) = ((q * y0 : Nat) : Int) := by rw [← Int.natCast_mul]; exact held _ hT
      obtain ⟨T, hTd⟩ : ∃ T, T = q * y0 := ⟨_, rfl⟩
      rw [← hTd] at hTe hT
      have hW1 : IntKind.u64.wrap (4294967296 * (r : Int)) = 4294967296 * (r : Int) := by rw [IntKind.wrap_u64]; omega
      have hW2 : IntKind.u64.wrap (4294967296 * (r : Int) + (u1 : Int)) = 4294967296 * (r : Int) + (u1 : Int) := by rw [IntKind.wrap_u64]; omega
      by_cases hc : 4294967296 * r + u1 < T
      · have hci : decide (4294967296 * (r : Int) + (u1 : Int) < (T : Int)) = true := by simp only [decide_eq_true_eq]; omega
        have hD1 : D + 1 ≤ q := digit_more HQR.out (by rw [← hTd]; exact hc) _ HD.out HPOS.out
        have h1 : IntKind.u64.wrap ((q : Int) - 1) = ((q - 1 : Nat) : Int) := by rw [IntKind.wrap_u64]; omega
        have hN := Lib.hid (digit_next HQR.out (show 0 < q by omega))
        have HD1 := Lib.hid (show D ≤ q - 1 by omega)
        obtain ⟨t, ht⟩ : ∃ t, t = r + y1 := ⟨_, rfl⟩
        have hti : (r : Int) + (y1 : Int) = (t : Int) := by omega
        have htl : t < 18446744073709551616 := by omega
        by_cases hbig : 4294967296 ≤ r + y1
        · have hbi : decide ((4294967296 : Int) ≤ (t : Int)) = true := by simp only [decide_eq_true_eq]; omega
          have hqd : q - 1 = D := digit_done hN.out (Nat.le_trans (Nat.le_of_lt (digit_small (digit_big hN.out hbig HUY.out hy0lt) hy0lt)) (by omega)) HD.out HPOS.out HD1.out
          rw [hqd] at h1
          clear hqd hD1 hbig hq hc hTd ht
          go_wp2
          go_loop [18, 16] (fun a b => ∃ q r : Nat, a = .int .u64 q ∧ b = .int .u64 r ∧ Hid (q * y1 + r = R1 ∧ r < 4294967296 ∧ E ≤ q ∧ q < 18446744073709551616)) (fun _ b => 4294967296 - (intOf b).toNat)
          case atStart => exact ⟨_, _, rfl, rfl, ⟨HP2.out, hr2lt, HE1'.out, hq2lt⟩⟩
          case round =>
            obtain ⟨q, r, rfl, rfl, HREL⟩ := hrel
            have HQR := Lib.hid HREL.out.1
            have hr := HREL.out.2.1
            have HLE := Lib.hid HREL.out.2.2.1
            have hq64 := HREL.out.2.2.2
            clear HREL
            by_cases hq : 4294967296 ≤ q
            · have hqi : decide ((4294967296 : Int) ≤ (q : Int)) = true := by simp only [decide_eq_true_eq]; omega
              have hD1 : E + 1 ≤ q := by have := HEl.out; omega
              have h1 : IntKind.u64.wrap ((q : Int) - 1) = ((q - 1 : Nat) : Int) := by rw [IntKind.wrap_u64]; omega
              have hN := Lib.hid (digit_next HQR.out (show 0 < q by omega))
              have HD1 := Lib.hid (show E ≤ q - 1 by omega)
              obtain ⟨t, ht⟩ : ∃ t, t = r + y1 := ⟨_, rfl⟩
              have hti : (r : Int) + (y1 : Int) = (t : Int) := by omega
              have htl : t < 18446744073709551616 := by omega
              by_cases hbig : 4294967296 ≤ r + y1
              · have hbi : decide ((4294967296 : Int) ≤ (t : Int)) = true := by simp only [decide_eq_true_eq]; omega
                have hqd : q - 1 = E := digit_done hN.out (Nat.le_trans (Nat.le_of_lt (digit_small (digit_big hN.out hbig HR1Y.out hy0lt) hy0lt)) (by omega)) HE.out HPOS.out HD1.out
                rw [hqd] at h1
                clear hqd hD1 hbig hq ht
                go_wp2
                go_ret2
                exact ⟨ret_two (by rw [HQ.out]) (by rw [← HT2.out]; simp), Below.refl _ _⟩
              · have hbi : decide ((4294967296 : Int) ≤ (t : Int)) = false := by simp only [decide_eq_false_iff_not]; omega
                have HTL := Lib.hid (show t < 4294967296 ∧ r < t by omega)
                obtain ⟨p, hp⟩ : ∃ p, p = q - 1 := ⟨_, rfl⟩
                have hp64 : p < 18446744073709551616 := by omega
                rw [← hp] at h1 hN HD1
                rw [← ht] at hN
                clear hD1 hq hp hbig ht
                go_wp2
                go_round
                case rel => exact ⟨_, _, rfl, by go_num, ⟨hN.out, HTL.out.1, HD1.out, hp64⟩⟩
                case measure => have := HTL.out; simp [intOf] <;> omega
            · have hqi : decide ((4294967296 : Int) ≤ (q : Int)) = false := by simp only [decide_eq_false_iff_not]; omega
              have hT := digit_small (show q < 4294967296 by omega) hy0lt
              have hTe : IntKind.u64.wrap ((q : Int) * (y0 : Int)) = ((q * y0 : Nat) : Int) := by rw [← Int.natCast_mul]; exact held _ hT
              obtain ⟨T, hTd⟩ : ∃ T, T = q * y0 := ⟨_, rfl⟩
              rw [← hTd] at hTe hT
              have hW1 : IntKind.u64.wrap (4294967296 * (r : Int)) = 4294967296 * (r : Int) := by rw [IntKind.wrap_u64]; omega
              have hW2 : IntKind.u64.wrap (4294967296 * (r : Int) + (u0 : Int)) = 4294967296 * (r : Int) + (u0 : Int) := by rw [IntKind.wrap_u64]; omega
              by_cases hc : 4294967296 * r + u0 < T
              · have hci : decide (4294967296 * (r : Int) + (u0 : Int) < (T : Int)) = true := by simp only [decide_eq_true_eq]; omega
                have hD1 : E + 1 ≤ q := digit_more HQR.out (by rw [← hTd]; exact hc) _ HE.out HPOS.out
                have h1 : IntKind.u64.wrap ((q : Int) - 1) = ((q - 1 : Nat) : Int) := by rw [IntKind.wrap_u64]; omega
                have hN := Lib.hid (digit_next HQR.out (show 0 < q by omega))
                have HD1 := Lib.hid (show E ≤ q - 1 by omega)
                obtain ⟨t, ht⟩ : ∃ t, t = r + y1 := ⟨_, rfl⟩
                have hti : (r : Int) + (y1 : Int) = (t : Int) := by omega
                have htl : t < 18446744073709551616 := by omega
                by_cases hbig : 4294967296 ≤ r + y1
                · have hbi : decide ((4294967296 : Int) ≤ (t : Int)) = true := by simp only [decide_eq_true_eq]; omega
                  have hqd : q - 1 = E := digit_done hN.out (Nat.le_trans (Nat.le_of_lt (digit_small (digit_big hN.out hbig HR1Y.out hy0lt) hy0lt)) (by omega)) HE.out HPOS.out HD1.out
                  rw [hqd] at h1
                  clear hqd hD1 hbig hq hc hTd ht
                  go_wp2
                  go_ret2
                  exact ⟨ret_two (by rw [HQ.out]) (by rw [← HT2.out]; simp), Below.refl _ _⟩
                · have hbi : decide ((4294967296 : Int) ≤ (t : Int)) = false := by simp only [decide_eq_false_iff_not]; omega
                  have HTL := Lib.hid (show t < 4294967296 ∧ r < t by omega)
                  obtain ⟨p, hp⟩ : ∃ p, p = q - 1 := ⟨_, rfl⟩
                  have hp64 : p < 18446744073709551616 := by omega
                  rw [← hp] at h1 hN HD1
                  rw [← ht] at hN
                  clear hD1 hq hc hTd hp hbig ht
                  go_wp2
                  go_round
                  case rel => exact ⟨_, _, rfl, by go_num, ⟨hN.out, HTL.out.1, HD1.out, hp64⟩⟩
                  case measure => have := HTL.out; simp [intOf] <;> omega
              · have hci : decide (4294967296 * (r : Int) + (u0 : Int) < (T : Int)) = false := by simp only [decide_eq_false_iff_not]; omega
                have hqd : q = E := digit_done HQR.out (by rw [← hTd]; omega) HE.out HPOS.out HLE.out
                rw [hqd] at hTe hqi ⊢
                clear hqd hq hc hTd hT
                go_wp2
                go_ret2
                exact ⟨ret_two (by rw [HQ.out]) (by rw [← HT2.out]; simp), Below.refl _ _⟩
        · have hbi : decide ((4294967296 : Int) ≤ (t : Int)) = false := by simp only [decide_eq_false_iff_not]; omega
          have HTL := Lib.hid (show t < 4294967296 ∧ r < t by omega)
          obtain ⟨p, hp⟩ : ∃ p, p = q - 1 := ⟨_, rfl⟩
          have hp64 : p < 18446744073709551616 := by omega
          rw [← hp] at h1 hN HD1
          rw [← ht] at hN
          clear hD1 hq hc hTd hp hbig ht
          go_wp2
          go_round
          case rel => exact ⟨_, _, rfl, by go_num, ⟨hN.out, HTL.out.1, HD1.out, hp64⟩⟩
          case measure => have := HTL.out; simp [intOf] <;> omega
      · have hci : decide (4294967296 * (r : Int) + (u1 : Int) < (T : Int)) = false := by simp only [decide_eq_false_iff_not]; omega
        have hqd : q = D := digit_done HQR.out (by rw [← hTd]; omega) HD.out HPOS.out HLE.out
        rw [hqd] at hTe hqi ⊢
        clear hqd hq hc hTd hT
        go_wp2
        go_loop [18, 16] (fun a b => ∃ q r : Nat, a = .int .u64 q ∧ b = .int .u64 r ∧ Hid (q * y1 + r = R1 ∧ r < 4294967296 ∧ E ≤ q ∧ q < 18446744073709551616)) (fun _ b => 4294967296 - (intOf b).toNat)
        case atStart => exact ⟨_, _, rfl, rfl, ⟨HP2.out, hr2lt, HE1'.out, hq2lt⟩⟩
        case round =>
          obtain ⟨q, r, rfl, rfl, HREL⟩ := hrel
          have HQR := Lib.hid HREL.out.1
          have hr := HREL.out.2.1
          have HLE := Lib.hid HREL.out.2.2.1
          have hq64 := HREL.out.2.2.2
          clear HREL
          by_cases hq : 4294967296 ≤ q
          · have hqi : decide ((4294967296 : Int) ≤ (q : Int)) = true := by simp only [decide_eq_true_eq]; omega
            have hD1 : E + 1 ≤ q := by have := HEl.out; omega
            have h1 : IntKind.u64.wrap ((q : Int) - 1) = ((q - 1 : Nat) : Int) := by rw [IntKind.wrap_u64]; omega
            have hN := Lib.hid (digit_next HQR.out (show 0 < q by omega))
            have HD1 := Lib.hid (show E ≤ q - 1 by omega)
            obtain ⟨t, ht⟩ : ∃ t, t = r + y1 := ⟨_, rfl⟩
            have hti : (r : Int) + (y1 : Int) = (t : Int) := by omega
            have htl : t < 18446744073709551616 := by omega
            by_cases hbig : 4294967296 ≤ r + y1
            · have hbi : decide ((4294967296 : Int) ≤ (t : Int)) = true := by simp only [decide_eq_true_eq]; omega
              have hqd : q - 1 = E := digit_done hN.out (Nat.le_trans (Nat.le_of_lt (digit_small (digit_big hN.out hbig HR1Y.out hy0lt) hy0lt)) (by omega)) HE.out HPOS.out HD1.out
              rw [hqd] at h1
              clear hqd hD1 hbig hq ht
              go_wp2
              go_ret2
              exact ⟨ret_two (by rw [HQ.out]) (by rw [← HT2.out]; simp), Below.refl _ _⟩
            · have hbi : decide ((4294967296 : Int) ≤ (t : Int)) = false := by simp only [decide_eq_false_iff_not]; omega
              have HTL := Lib.hid (show t < 4294967296 ∧ r < t by omega)
              obtain ⟨p, hp⟩ : ∃ p, p = q - 1 := ⟨_, rfl⟩
              have hp64 : p < 18446744073709551616 := by omega
              rw [← hp] at h1 hN HD1
              rw [← ht] at hN
              clear hD1 hq hp hbig ht
              go_wp2
              go_round
              case rel => exact ⟨_, _, rfl, by go_num, ⟨hN.out, HTL.out.1, HD1.out, hp64⟩⟩
              case measure => have := HTL.out; simp [intOf] <;> omega
          · have hqi : decide ((4294967296 : Int) ≤ (q : Int)) = false := by simp only [decide_eq_false_iff_not]; omega
            have hT := digit_small (show q < 4294967296 by omega) hy0lt
            have hTe : IntKind.u64.wrap ((q : Int) * (y0 : Int)) = ((q * y0 : Nat) : Int) := by rw [← Int.natCast_mul]; exact held _ hT
            obtain ⟨T, hTd⟩ : ∃ T, T = q * y0 := ⟨_, rfl⟩
            rw [← hTd] at hTe hT
            have hW1 : IntKind.u64.wrap (4294967296 * (r : Int)) = 4294967296 * (r : Int) := by rw [IntKind.wrap_u64]; omega
            have hW2 : IntKind.u64.wrap (4294967296 * (r : Int) + (u0 : Int)) = 4294967296 * (r : Int) + (u0 : Int) := by rw [IntKind.wrap_u64]; omega
            by_cases hc : 4294967296 * r + u0 < T
            · have hci : decide (4294967296 * (r : Int) + (u0 : Int) < (T : Int)) = true := by simp only [decide_eq_true_eq]; omega
              have hD1 : E + 1 ≤ q := digit_more HQR.out (by rw [← hTd]; exact hc) _ HE.out HPOS.out
              have h1 : IntKind.u64.wrap ((q : Int) - 1) = ((q - 1 : Nat) : Int) := by rw [IntKind.wrap_u64]; omega
              have hN := Lib.hid (digit_next HQR.out (show 0 < q by omega))
              have HD1 := Lib.hid (show E ≤ q - 1 by omega)
              obtain ⟨t, ht⟩ : ∃ t, t = r + y1 := ⟨_, rfl⟩
              have hti : (r : Int) + (y1 : Int) = (t : Int) := by omega
              have htl : t < 18446744073709551616 := by omega
              by_cases hbig : 4294967296 ≤ r + y1
              · have hbi : decide ((4294967296 : Int) ≤ (t : Int)) = true := by simp only [decide_eq_true_eq]; omega
                have hqd : q - 1 = E := digit_done hN.out (Nat.le_trans (Nat.le_of_lt (digit_small (digit_big hN.out hbig HR1Y.out hy0lt) hy0lt)) (by omega)) HE.out HPOS.out HD1.out
                rw [hqd] at h1
                clear hqd hD1 hbig hq hc hTd ht
                go_wp2
                go_ret2
                exact ⟨ret_two (by rw [HQ.out]) (by rw [← HT2.out]; simp), Below.refl _ _⟩
              · have hbi : decide ((4294967296 : Int) ≤ (t : Int)) = false := by simp only [decide_eq_false_iff_not]; omega
                have HTL := Lib.hid (show t < 4294967296 ∧ r < t by omega)
                obtain ⟨p, hp⟩ : ∃ p, p = q - 1 := ⟨_, rfl⟩
                have hp64 : p < 18446744073709551616 := by omega
                rw [← hp] at h1 hN HD1
                rw [← ht] at hN
                clear hD1 hq hc hTd hp hbig ht
                go_wp2
                go_round
                case rel => exact ⟨_, _, rfl, by go_num, ⟨hN.out, HTL.out.1, HD1.out, hp64⟩⟩
                case measure => have := HTL.out; simp [intOf] <;> omega
            · have hci : decide (4294967296 * (r : Int) + (u0 : Int) < (T : Int)) = false := by simp only [decide_eq_false_iff_not]; omega
              have hqd : q = E := digit_done HQR.out (by rw [← hTd]; omega) HE.out HPOS.out HLE.out
              rw [hqd] at hTe hqi ⊢
              clear hqd hq hc hTd hT
              go_wp2
              go_ret2
              exact ⟨ret_two (by rw [HQ.out]) (by rw [← HT2.out]; simp), Below.refl _ _⟩
end Go.Proofs.YtallbegibdlpaaaGreat

/-
  Numbers of 128 bits: turned, rounded up, made narrow.
-/
namespace Go.Proofs.YtallbegibdlpaaaGreat
open Go Go.RowKit Go.Th Go.Th.Wide

theorem Neg_z (z : Int) (hz : -170141183460469231731687303715884105728 < z ∧ z < 170141183460469231731687303715884105728) (w : World) :
    Calls Tryz.prog 93 #[.agg #[.int .i64 (hiZ z), .int .u64 (loZ z)]] w fun e w' =>
      e = .returned (.agg #[.int .i64 (hiZ (-z)), .int .u64 (loZ (-z))]) ∧ Below w.heap.size w w' := by
  have C := Neg_any (hiZ z) (loZ z) (by unfold hiZ; omega) (by unfold loZ; omega) w
  have e1 : wrap64 (-hiZ z - bor (loZ z)) = hiZ (-z) := by unfold bor hiZ loZ; simp only [wrap64]; split <;> omega
  have e2 : (-loZ z) % 18446744073709551616 = loZ (-z) := by unfold loZ; omega
  rw [e1, e2] at C
  exact C

theorem turn_0 (z : Int) (hz : 0 ≤ z ∧ z < 18446744073709551616) (d : Nat) (w : World) :
    Calls Tryz.prog 108 #[.agg #[.int .i64 (hiZ z), .int .u64 (loZ z)], .int .u64 0, .int .u64 d] w fun e w' =>
      e = .returned (.tuple #[.agg #[.int .i64 (hiZ (-z)), .int .u64 (loZ (-z))], .int .u64 0]) ∧ Below w.heap.size w w' := by
  have C := Neg_z z (by omega)
  obtain ⟨h, hh⟩ : ∃ h, h = hiZ z := ⟨_, rfl⟩
  obtain ⟨l, hl⟩ : ∃ l, l = loZ z := ⟨_, rfl⟩
  obtain ⟨h', hh'⟩ : ∃ h', h' = hiZ (-z) := ⟨_, rfl⟩
  obtain ⟨l', hl'⟩ : ∃ l', l' = loZ (-z) := ⟨_, rfl⟩
  rw [← hh, ← hl, ← hh', ← hl'] at C ⊢
  clear hh hl hh' hl' hz
  have M0 := Mem.start w
  go_enter Tryz.func108, Tryz.ntmps108
  go_wp2_with ((with_reducible refine (?_ : Go.wpList _ _ _ (_ :: _) _ _)); (first | go_skip | (refine wpL_bx M0 rfl rfl rfl rfl ?_; clear M0; intro g1 w1 M1) | (refine wpL_alc M0 rfl rfl ?_; clear M0; intro g1 w1 M1) | (refine wpL_ldc M0 rfl rfl rfl ?_) | (refine wpL_lgc M0 rfl rfl rfl ?_) | (refine wpL_stc M0 rfl rfl rfl rfl ?_; clear M0; intro w' M0) | (refine wpL_sti M0 rfl rfl rfl rfl ?_; clear M0; intro w' M0) | (refine wpL_bx M1 rfl rfl rfl rfl ?_; clear M1; intro g2 w2 M2) | (refine wpL_alc M1 rfl rfl ?_; clear M1; intro g2 w2 M2) | (refine wpL_ldc M1 rfl rfl rfl ?_) | (refine wpL_lgc M1 rfl rfl rfl ?_) | (refine wpL_stc M1 rfl rfl rfl rfl ?_; clear M1; intro w' M1) | (refine wpL_sti M1 rfl rfl rfl rfl ?_; clear M1; intro w' M1) | (refine wpL_ldc M2 rfl rfl rfl ?_) | (refine wpL_lgc M2 rfl rfl rfl ?_) | (refine wpL_stc M2 rfl rfl rfl rfl ?_; clear M2; intro w' M2) | (refine wpL_sti M2 rfl rfl rfl rfl ?_; clear M2; intro w' M2)))
  refine (C _).mono ?_
  rintro e w2 ⟨rfl, hBl⟩
  replace M2 := M2.call hBl
  clear hBl C
  go_wp2_with ((with_reducible refine (?_ : Go.wpList _ _ _ (_ :: _) _ _)); (first | go_skip | (refine wpL_ldc M2 rfl rfl rfl ?_) | (refine wpL_lgc M2 rfl rfl rfl ?_) | (refine wpL_stc M2 rfl rfl rfl rfl ?_; clear M2; intro w' M2) | (refine wpL_sti M2 rfl rfl rfl rfl ?_; clear M2; intro w' M2)))
  ((try simp only [Exit.inBlock, Exit.then]); refine bodyPost_ret (res_cell_tmp rfl M2 rfl (by repeat (first | exact Has.head _ _ _ _ | apply Has.tail)) (by first | exact rd_w _ _ | exact rd_hi _ _ | exact rd_lo _ _ | assumption) rfl) rfl ?_)
  exact ⟨rfl, M2.below⟩

theorem turn_1 (z : Int) (hz : 0 ≤ z ∧ z < 18446744073709551616) (r d : Nat) (h0 : r ≠ 0) (hd : r < d) (hd2 : d < 18446744073709551616) (w : World) :
    Calls Tryz.prog 108 #[.agg #[.int .i64 (hiZ z), .int .u64 (loZ z)], .int .u64 r, .int .u64 d] w fun e w' =>
      e = .returned (.tuple #[.agg #[.int .i64 (hiZ (-(z + 1))), .int .u64 (loZ (-(z + 1)))], .int .u64 ((d - r : Nat) : Int)]) ∧ Below w.heap.size w w' := by
  have C1 := next_any z (by omega)
  have C2 := Neg_z (z + 1) (by omega)
  obtain ⟨h, hh⟩ : ∃ h, h = hiZ z := ⟨_, rfl⟩
  obtain ⟨l, hl⟩ : ∃ l, l = loZ z := ⟨_, rfl⟩
  obtain ⟨h1, hh1⟩ : ∃ h', h' = hiZ (z + 1) := ⟨_, rfl⟩
  obtain ⟨l1, hl1⟩ : ∃ l', l' = loZ (z + 1) := ⟨_, rfl⟩
  obtain ⟨h2, hh2⟩ : ∃ h', h' = hiZ (-(z + 1)) := ⟨_, rfl⟩
  obtain ⟨l2, hl2⟩ : ∃ l', l' = loZ (-(z + 1)) := ⟨_, rfl⟩
  rw [← hh, ← hl, ← hh1, ← hl1] at C1
  rw [← hh1, ← hl1, ← hh2, ← hl2] at C2
  rw [← hh, ← hl, ← hh2, ← hl2]
  clear hh hl hh1 hl1 hh2 hl2 hz
  have e0 : ((r : Int) == 0) = false := by rw [beq_eq_false_iff_ne]; omega
  have e1 : IntKind.u64.wrap ((d : Int) - r) = ((d - r : Nat) : Int) := by rw [IntKind.wrap_u64]; omega
  obtain ⟨x, hx⟩ : ∃ x, x = d - r := ⟨_, rfl⟩
  rw [← hx] at e1 ⊢
  have e2 : (d : Int) - r = (x : Int) := by omega
  have e3 : IntKind.u64.wrap (x : Int) = (x : Int) := by rw [IntKind.wrap_u64]; omega
  clear hx hd hd2 h0
  have M0 := Mem.start w
  go_enter Tryz.func108, Tryz.ntmps108
  go_wp2_with ((with_reducible refine (?_ : Go.wpList _ _ _ (_ :: _) _ _)); (first | go_skip | (refine wpL_bx M0 rfl rfl rfl rfl ?_; clear M0; intro g1 w1 M1) | (refine wpL_alc M0 rfl rfl ?_; clear M0; intro g1 w1 M1) | (refine wpL_ldc M0 rfl rfl rfl ?_) | (refine wpL_lgc M0 rfl rfl rfl ?_) | (refine wpL_stc M0 rfl rfl rfl rfl ?_; clear M0; intro w' M0) | (refine wpL_sti M0 rfl rfl rfl rfl ?_; clear M0; intro w' M0) | (refine wpL_bx M1 rfl rfl rfl rfl ?_; clear M1; intro g2 w2 M2) | (refine wpL_alc M1 rfl rfl ?_; clear M1; intro g2 w2 M2) | (refine wpL_ldc M1 rfl rfl rfl ?_) | (refine wpL_lgc M1 rfl rfl rfl ?_) | (refine wpL_stc M1 rfl rfl rfl rfl ?_; clear M1; intro w' M1) | (refine wpL_sti M1 rfl rfl rfl rfl ?_; clear M1; intro w' M1) | (refine wpL_ldc M2 rfl rfl rfl ?_) | (refine wpL_lgc M2 rfl rfl rfl ?_) | (refine wpL_stc M2 rfl rfl rfl rfl ?_; clear M2; intro w' M2) | (refine wpL_sti M2 rfl rfl rfl rfl ?_; clear M2; intro w' M2)))
  refine (C1 _).mono ?_
  rintro e w2 ⟨rfl, hBl⟩
  replace M2 := M2.call hBl
  clear hBl C1
  go_wp2_with ((with_reducible refine (?_ : Go.wpList _ _ _ (_ :: _) _ _)); (first | go_skip | (refine wpL_ldc M2 rfl rfl rfl ?_) | (refine wpL_lgc M2 rfl rfl rfl ?_) | (refine wpL_stc M2 rfl rfl rfl rfl ?_; clear M2; intro w' M2) | (refine wpL_sti M2 rfl rfl rfl rfl ?_; clear M2; intro w' M2)))
  refine (C2 _).mono ?_
  rintro e w2 ⟨rfl, hBl⟩
  replace M2 := M2.call hBl
  clear hBl C2
  go_wp2_with ((with_reducible refine (?_ : Go.wpList _ _ _ (_ :: _) _ _)); (first | go_skip | (refine wpL_ldc M2 rfl rfl rfl ?_) | (refine wpL_lgc M2 rfl rfl rfl ?_) | (refine wpL_stc M2 rfl rfl rfl rfl ?_; clear M2; intro w' M2) | (refine wpL_sti M2 rfl rfl rfl rfl ?_; clear M2; intro w' M2)))
  ((try simp only [Exit.inBlock, Exit.then]); refine bodyPost_ret (res_cell_tmp rfl M2 rfl (by repeat (first | exact Has.head _ _ _ _ | apply Has.tail)) (by first | exact rd_w _ _ | exact rd_hi _ _ | exact rd_lo _ _ | assumption) rfl) rfl ?_)
  exact ⟨rfl, M2.below⟩

def isUpS (mode X : Int) (r d : Nat) : Bool := if mode = 1 then true else if mode = 2 then decide (d - r ≤ r) else if mode = 3 then decide (X < 0) else false
theorem isUp_any (mode X : Int) (hX : -170141183460469231731687303715884105728 ≤ X ∧ X < 170141183460469231731687303715884105728) (r d : Nat) (hr : r < d) (hd : d < 18446744073709551616) (w : World) :
    Calls Tryz.prog 109 #[.int .i64 mode, .agg #[.int .i64 (hiZ X), .int .u64 (loZ X)], .int .u64 r, .int .u64 d] w fun e w' =>
      e = .returned (.bool (isUpS mode X r d)) ∧ Below w.heap.size w w' := by
  have C := Sign_any (hiZ X) (loZ X) (by unfold loZ; omega)
  have eX : hiZ X * 18446744073709551616 + loZ X = X := by unfold hiZ loZ; omega
  rw [eX] at C
  obtain ⟨h, hh⟩ : ∃ h, h = hiZ X := ⟨_, rfl⟩
  obtain ⟨l, hl⟩ : ∃ l, l = loZ X := ⟨_, rfl⟩
  rw [← hh, ← hl] at C ⊢
  clear hh hl eX hX
  have M0 := Mem.start w
  unfold isUpS
  by_cases h1 : mode = 1
  · subst h1
    rw [if_pos rfl]
    go_enter Tryz.func109, Tryz.ntmps109
    go_wp2_with ((with_reducible refine (?_ : Go.wpList _ _ _ (_ :: _) _ _)); (first | go_skip | (refine wpL_bx M0 rfl rfl rfl rfl ?_; clear M0; intro g1 w1 M1) | (refine wpL_alc M0 rfl rfl ?_; clear M0; intro g1 w1 M1) | (refine wpL_ldc M0 rfl rfl rfl ?_) | (refine wpL_lgc M0 rfl rfl rfl ?_) | (refine wpL_stc M0 rfl rfl rfl rfl ?_; clear M0; intro w' M0) | (refine wpL_sti M0 rfl rfl rfl rfl ?_; clear M0; intro w' M0) | (refine wpL_ldc M1 rfl rfl rfl ?_) | (refine wpL_lgc M1 rfl rfl rfl ?_) | (refine wpL_stc M1 rfl rfl rfl rfl ?_; clear M1; intro w' M1) | (refine wpL_sti M1 rfl rfl rfl rfl ?_; clear M1; intro w' M1)))
    go_ret
    exact ⟨rfl, M1.below⟩
  · rw [if_neg h1]
    have e1 : (mode == 1) = false := by rw [beq_eq_false_iff_ne]; exact h1
    by_cases h2 : mode = 2
    · subst h2
      rw [if_pos rfl]
      have e2 : IntKind.u64.wrap ((d : Int) - r) = ((d - r : Nat) : Int) := by rw [IntKind.wrap_u64]; omega
      obtain ⟨x, hx⟩ : ∃ x, x = d - r := ⟨_, rfl⟩
      have e3 : (d : Int) - r = (x : Int) := by omega
      have e5 : IntKind.u64.wrap (x : Int) = (x : Int) := by rw [IntKind.wrap_u64]; omega
      rw [← hx] at e2 ⊢
      have e4 : decide ((x : Int) ≤ (r : Int)) = decide (x ≤ r) := by simp
      obtain ⟨b, hb⟩ : ∃ b, b = decide (x ≤ r) := ⟨_, rfl⟩
      rw [← hb]
      have HB := Lib.hid hb
      clear hx hb hr hd e4
      go_enter Tryz.func109, Tryz.ntmps109
      go_wp2_with ((with_reducible refine (?_ : Go.wpList _ _ _ (_ :: _) _ _)); (first | go_skip | (refine wpL_bx M0 rfl rfl rfl rfl ?_; clear M0; intro g1 w1 M1) | (refine wpL_alc M0 rfl rfl ?_; clear M0; intro g1 w1 M1) | (refine wpL_ldc M0 rfl rfl rfl ?_) | (refine wpL_lgc M0 rfl rfl rfl ?_) | (refine wpL_stc M0 rfl rfl rfl rfl ?_; clear M0; intro w' M0) | (refine wpL_sti M0 rfl rfl rfl rfl ?_; clear M0; intro w' M0) | (refine wpL_ldc M1 rfl rfl rfl ?_) | (refine wpL_lgc M1 rfl rfl rfl ?_) | (refine wpL_stc M1 rfl rfl rfl rfl ?_; clear M1; intro w' M1) | (refine wpL_sti M1 rfl rfl rfl rfl ?_; clear M1; intro w' M1)))
      go_ret
      exact ⟨ret_bool HB.out.symm, M1.below⟩
    · rw [if_neg h2]
      have e2 : (mode == 2) = false := by rw [beq_eq_false_iff_ne]; exact h2
      by_cases h3 : mode = 3
      · subst h3
        rw [if_pos rfl]
        have e4 : decide (cmpZ X 0 < 0) = decide (X < 0) := by unfold cmpZ; by_cases hx : X < 0 <;> by_cases hx0 : X = 0 <;> simp [hx, hx0]
        obtain ⟨b, hb⟩ : ∃ b, b = decide (X < 0) := ⟨_, rfl⟩
        obtain ⟨c, hc⟩ : ∃ c, c = cmpZ X 0 := ⟨_, rfl⟩
        rw [← hb] at e4 ⊢
        rw [← hc] at e4 C
        clear hb hc
        go_enter Tryz.func109, Tryz.ntmps109
        go_wp2_with ((with_reducible refine (?_ : Go.wpList _ _ _ (_ :: _) _ _)); (first | go_skip | (refine wpL_bx M0 rfl rfl rfl rfl ?_; clear M0; intro g1 w1 M1) | (refine wpL_alc M0 rfl rfl ?_; clear M0; intro g1 w1 M1) | (refine wpL_ldc M0 rfl rfl rfl ?_) | (refine wpL_lgc M0 rfl rfl rfl ?_) | (refine wpL_stc M0 rfl rfl rfl rfl ?_; clear M0; intro w' M0) | (refine wpL_sti M0 rfl rfl rfl rfl ?_; clear M0; intro w' M0) | (refine wpL_ldc M1 rfl rfl rfl ?_) | (refine wpL_lgc M1 rfl rfl rfl ?_) | (refine wpL_stc M1 rfl rfl rfl rfl ?_; clear M1; intro w' M1) | (refine wpL_sti M1 rfl rfl rfl rfl ?_; clear M1; intro w' M1)))
        refine (C _).mono ?_
        rintro e w2 ⟨rfl, hBl⟩
        replace M1 := M1.call hBl
        clear hBl C
        go_wp2_with ((with_reducible refine (?_ : Go.wpList _ _ _ (_ :: _) _ _)); (first | go_skip | (refine wpL_ldc M1 rfl rfl rfl ?_) | (refine wpL_lgc M1 rfl rfl rfl ?_) | (refine wpL_stc M1 rfl rfl rfl rfl ?_; clear M1; intro w' M1) | (refine wpL_sti M1 rfl rfl rfl rfl ?_; clear M1; intro w' M1)))
        go_ret
        exact ⟨rfl, M1.below⟩
      · rw [if_neg h3]
        have e3 : (mode == 3) = false := by rw [beq_eq_false_iff_ne]; exact h3
        clear h1 h2 h3
        go_enter Tryz.func109, Tryz.ntmps109
        go_wp2_with ((with_reducible refine (?_ : Go.wpList _ _ _ (_ :: _) _ _)); (first | go_skip | (refine wpL_bx M0 rfl rfl rfl rfl ?_; clear M0; intro g1 w1 M1) | (refine wpL_alc M0 rfl rfl ?_; clear M0; intro g1 w1 M1) | (refine wpL_ldc M0 rfl rfl rfl ?_) | (refine wpL_lgc M0 rfl rfl rfl ?_) | (refine wpL_stc M0 rfl rfl rfl rfl ?_; clear M0; intro w' M0) | (refine wpL_sti M0 rfl rfl rfl rfl ?_; clear M0; intro w' M0) | (refine wpL_ldc M1 rfl rfl rfl ?_) | (refine wpL_lgc M1 rfl rfl rfl ?_) | (refine wpL_stc M1 rfl rfl rfl rfl ?_; clear M1; intro w' M1) | (refine wpL_sti M1 rfl rfl rfl rfl ?_; clear M1; intro w' M1)))
        go_ret
        exact ⟨rfl, M1.below⟩

/-- A number in 64 bits. -/
theorem narrow_any (X : Int) (hX : -170141183460469231731687303715884105728 ≤ X ∧ X < 170141183460469231731687303715884105728) (V E : Int)
    (hV : V = if -9223372036854775808 ≤ X ∧ X ≤ 9223372036854775807 then X else 0) (hE : E = if -9223372036854775808 ≤ X ∧ X ≤ 9223372036854775807 then 0 else 10) (w : World) :
    Calls Tryz.prog 111 #[.agg #[.int .i64 (hiZ X), .int .u64 (loZ X)]] w fun e w' =>
      e = .returned (.tuple #[.int .i64 V, .int .i64 E]) ∧ Below w.heap.size w w' := by
  obtain ⟨x, hx⟩ : ∃ x, x = wrap64 (loZ X) := ⟨_, rfl⟩
  have hxr : -9223372036854775808 ≤ x ∧ x ≤ 9223372036854775807 := by rw [hx]; simp only [wrap64]; omega
  have C := Of_any x hxr
  have ex := hx.symm
  have hl2 : loZ x = loZ X := by rw [hx]; unfold loZ; simp only [wrap64]; omega
  have hh2 : (hiZ x == hiZ X) = decide (-9223372036854775808 ≤ X ∧ X ≤ 9223372036854775807) := by
    rw [Bool.eq_iff_iff, beq_iff_eq, decide_eq_true_iff]
    simp only [wrap64] at hx
    unfold hiZ
    unfold loZ at hx
    omega
  have hxX : -9223372036854775808 ≤ X ∧ X ≤ 9223372036854775807 → x = X := by
    intro h
    rw [hx]; unfold loZ; simp only [wrap64]; omega
  rw [hl2] at C
  have e2 : (loZ X == loZ X) = true := by simp
  obtain ⟨h, hh⟩ : ∃ h, h = hiZ X := ⟨_, rfl⟩
  obtain ⟨l, hl⟩ : ∃ l, l = loZ X := ⟨_, rfl⟩
  obtain ⟨h', hh'⟩ : ∃ h', h' = hiZ x := ⟨_, rfl⟩
  rw [← hh'] at C hh2
  rw [← hh] at hh2 ⊢
  rw [← hl] at C ex e2 ⊢
  clear hh hl hh' hl2
  have M0 := Mem.start w
  by_cases hf : -9223372036854775808 ≤ X ∧ X ≤ 9223372036854775807
  · rw [if_pos hf] at hV hE
    rw [decide_eq_true hf] at hh2
    have hV2 : V = x := by rw [hV, hxX hf]
    subst hV2 hE
    clear hV hf hxX hX hx hxr
    go_enter Tryz.func111, Tryz.ntmps111
    go_wp2_with ((with_reducible refine (?_ : Go.wpList _ _ _ (_ :: _) _ _)); (first | go_skip | (refine wpL_bx M0 rfl rfl rfl rfl ?_; clear M0; intro g1 w1 M1) | (refine wpL_alc M0 rfl rfl ?_; clear M0; intro g1 w1 M1) | (refine wpL_ldc M0 rfl rfl rfl ?_) | (refine wpL_lgc M0 rfl rfl rfl ?_) | (refine wpL_stc M0 rfl rfl rfl rfl ?_; clear M0; intro w' M0) | (refine wpL_sti M0 rfl rfl rfl rfl ?_; clear M0; intro w' M0) | (refine wpL_ldc M1 rfl rfl rfl ?_) | (refine wpL_lgc M1 rfl rfl rfl ?_) | (refine wpL_stc M1 rfl rfl rfl rfl ?_; clear M1; intro w' M1) | (refine wpL_sti M1 rfl rfl rfl rfl ?_; clear M1; intro w' M1)))
    have M5 := M1.drew
    clear M1
    try dsimp only [Act.put]
    refine wp_region_held_drew (S := (fun w' : World => Mem w w' [(g1, 51, [.int .i64 h, .int .u64 l])])) (by kernel_rfl) ((M5)) (fun hHeld => ?_)
    refine tkT 0 ?v1 ?hy1 hHeld ?rest1
    case hy1 => (intro w' hSw; (try dsimp only at hSw); go_simp; (try with_reducible rfl))
    try simp only [Act.put, puts]
    refine wpAnyH_take (i := 2) rfl (by kernel_rfl) (by kernel_rfl) (by kernel_rfl) (fun _ _ _ h => h) (yi_ld (fun _ h => ⟨_, h⟩) (by rfl) rfl rfl (by repeat (first | exact Has.head _ _ _ _ | apply Has.tail)) (by first | exact rd_w _ _ | exact rd_hi _ _ | exact rd_lo _ _ | assumption)) hHeld ?_
    try simp only [Act.put, puts]
    refine wpAnyH_ready (rs := [1]) (by kernel_rfl) (by simp) ?_
    refine AllReadyH.cons rfl (fun K hK => ?_) AllReadyH.nil
    go_simp
    refine (C _).mono ?_
    rintro e w2 ⟨rfl, hBl⟩
    replace M5 := M5.call hBl
    clear hBl C
    try go_wp2_with fail
    refine hK.out _ _ (M5) (fun hHeld => ?_)
    clear hK K
    try simp only [Act.put, puts]
    refine tkT 3 ?v4 ?hy4 hHeld ?rest4
    case hy4 => (intro w' hSw; (try dsimp only at hSw); go_simp; (try with_reducible rfl))
    try simp only [Act.put, puts]
    refine wpAnyH_done (by kernel_rfl) ?_ _
    go_wp2_with ((with_reducible refine (?_ : Go.wpList _ _ _ (_ :: _) _ _)); (first | go_skip | (refine wpL_ldc M5 rfl rfl rfl ?_) | (refine wpL_lgc M5 rfl rfl rfl ?_) | (refine wpL_stc M5 rfl rfl rfl rfl ?_; clear M5; intro w' M5) | (refine wpL_sti M5 rfl rfl rfl rfl ?_; clear M5; intro w' M5)))
    go_ret2
    exact ⟨rfl, M5.below⟩
  · rw [if_neg hf] at hV hE
    rw [decide_eq_false hf] at hh2
    subst hV hE
    clear hf hxX hX hx hxr
    go_enter Tryz.func111, Tryz.ntmps111
    go_wp2_with ((with_reducible refine (?_ : Go.wpList _ _ _ (_ :: _) _ _)); (first | go_skip | (refine wpL_bx M0 rfl rfl rfl rfl ?_; clear M0; intro g1 w1 M1) | (refine wpL_alc M0 rfl rfl ?_; clear M0; intro g1 w1 M1) | (refine wpL_ldc M0 rfl rfl rfl ?_) | (refine wpL_lgc M0 rfl rfl rfl ?_) | (refine wpL_stc M0 rfl rfl rfl rfl ?_; clear M0; intro w' M0) | (refine wpL_sti M0 rfl rfl rfl rfl ?_; clear M0; intro w' M0) | (refine wpL_ldc M1 rfl rfl rfl ?_) | (refine wpL_lgc M1 rfl rfl rfl ?_) | (refine wpL_stc M1 rfl rfl rfl rfl ?_; clear M1; intro w' M1) | (refine wpL_sti M1 rfl rfl rfl rfl ?_; clear M1; intro w' M1)))
    have M5 := M1.drew
    clear M1
    try dsimp only [Act.put]
    refine wp_region_held_drew (S := (fun w' : World => Mem w w' [(g1, 51, [.int .i64 h, .int .u64 l])])) (by kernel_rfl) ((M5)) (fun hHeld => ?_)
    refine tkT 0 ?v5 ?hy5 hHeld ?rest5
    case hy5 => (intro w' hSw; (try dsimp only at hSw); go_simp; (try with_reducible rfl))
    try simp only [Act.put, puts]
    refine wpAnyH_take (i := 2) rfl (by kernel_rfl) (by kernel_rfl) (by kernel_rfl) (fun _ _ _ h => h) (yi_ld (fun _ h => ⟨_, h⟩) (by rfl) rfl rfl (by repeat (first | exact Has.head _ _ _ _ | apply Has.tail)) (by first | exact rd_w _ _ | exact rd_hi _ _ | exact rd_lo _ _ | assumption)) hHeld ?_
    try simp only [Act.put, puts]
    refine wpAnyH_ready (rs := [1]) (by kernel_rfl) (by simp) ?_
    refine AllReadyH.cons rfl (fun K hK => ?_) AllReadyH.nil
    go_simp
    refine (C _).mono ?_
    rintro e w2 ⟨rfl, hBl⟩
    replace M5 := M5.call hBl
    clear hBl C
    try go_wp2_with fail
    refine hK.out _ _ (M5) (fun hHeld => ?_)
    clear hK K
    try simp only [Act.put, puts]
    refine tkT 3 ?v8 ?hy8 hHeld ?rest8
    case hy8 => (intro w' hSw; (try dsimp only at hSw); go_simp; (try with_reducible rfl))
    try simp only [Act.put, puts]
    refine wpAnyH_done (by kernel_rfl) ?_ _
    go_wp2_with ((with_reducible refine (?_ : Go.wpList _ _ _ (_ :: _) _ _)); (first | go_skip | (refine wpL_ldc M5 rfl rfl rfl ?_) | (refine wpL_lgc M5 rfl rfl rfl ?_) | (refine wpL_stc M5 rfl rfl rfl rfl ?_; clear M5; intro w' M5) | (refine wpL_sti M5 rfl rfl rfl rfl ?_; clear M5; intro w' M5)))
    go_ret2
    exact ⟨rfl, M5.below⟩
end Go.Proofs.YtallbegibdlpaaaGreat

/-
  Numbers of 128 bits: the rounded quotient.
-/
namespace Go.Proofs.YtallbegibdlpaaaGreat
open Go Go.RowKit Go.Th Go.Th.Wide

set_option maxRecDepth 20000 in
set_option maxHeartbeats 1600000 in
theorem Div_arg (h l b mode : Int) (ha : b = 0 ∨ mode < 0 ∨ 3 < mode) (w : World) :
    Calls Tryz.prog 89 #[.agg #[.int .i64 h, .int .u64 l], .int .i64 b, .int .i64 mode] w fun e w' =>
      e = .returned (.tuple #[.int .i64 0, .int .i64 1]) ∧ Below w.heap.size w w' := by
  have M0 := Mem.start w
  by_cases hb : b = 0
  · subst hb
    clear ha
    go_enter Tryz.func89, Tryz.ntmps89
    go_wp2_with ((with_reducible refine (?_ : Go.wpList _ _ _ (_ :: _) _ _)); (first | go_skip | (refine wpL_bx M0 rfl rfl rfl rfl ?_; clear M0; intro g1 w1 M1) | (refine wpL_alc M0 rfl rfl ?_; clear M0; intro g1 w1 M1) | (refine wpL_ldc M0 rfl rfl rfl ?_) | (refine wpL_lgc M0 rfl rfl rfl ?_) | (refine wpL_stc M0 rfl rfl rfl rfl ?_; clear M0; intro w' M0) | (refine wpL_sti M0 rfl rfl rfl rfl ?_; clear M0; intro w' M0) | (refine wpL_ldc M1 rfl rfl rfl ?_) | (refine wpL_lgc M1 rfl rfl rfl ?_) | (refine wpL_stc M1 rfl rfl rfl rfl ?_; clear M1; intro w' M1) | (refine wpL_sti M1 rfl rfl rfl rfl ?_; clear M1; intro w' M1)))
    go_ret2
    exact ⟨rfl, M1.below⟩
  · have hb2 : (b == 0) = false := by rw [beq_eq_false_iff_ne]; exact hb
    by_cases h1 : mode < 0
    · have hd : decide (mode < 0) = true := by simpa using h1
      clear ha h1 hb
      go_enter Tryz.func89, Tryz.ntmps89
      go_wp2_with ((with_reducible refine (?_ : Go.wpList _ _ _ (_ :: _) _ _)); (first | go_skip | (refine wpL_bx M0 rfl rfl rfl rfl ?_; clear M0; intro g1 w1 M1) | (refine wpL_alc M0 rfl rfl ?_; clear M0; intro g1 w1 M1) | (refine wpL_ldc M0 rfl rfl rfl ?_) | (refine wpL_lgc M0 rfl rfl rfl ?_) | (refine wpL_stc M0 rfl rfl rfl rfl ?_; clear M0; intro w' M0) | (refine wpL_sti M0 rfl rfl rfl rfl ?_; clear M0; intro w' M0) | (refine wpL_ldc M1 rfl rfl rfl ?_) | (refine wpL_lgc M1 rfl rfl rfl ?_) | (refine wpL_stc M1 rfl rfl rfl rfl ?_; clear M1; intro w' M1) | (refine wpL_sti M1 rfl rfl rfl rfl ?_; clear M1; intro w' M1)))
      go_ret2
      exact ⟨rfl, M1.below⟩
    · have hd : decide (mode < 0) = false := by simpa using h1
      have hd2 : decide (3 < mode) = true := by simp only [decide_eq_true_eq]; omega
      clear ha h1 hb
      go_enter Tryz.func89, Tryz.ntmps89
      go_wp2_with ((with_reducible refine (?_ : Go.wpList _ _ _ (_ :: _) _ _)); (first | go_skip | (refine wpL_bx M0 rfl rfl rfl rfl ?_; clear M0; intro g1 w1 M1) | (refine wpL_alc M0 rfl rfl ?_; clear M0; intro g1 w1 M1) | (refine wpL_ldc M0 rfl rfl rfl ?_) | (refine wpL_lgc M0 rfl rfl rfl ?_) | (refine wpL_stc M0 rfl rfl rfl rfl ?_; clear M0; intro w' M0) | (refine wpL_sti M0 rfl rfl rfl rfl ?_; clear M0; intro w' M0) | (refine wpL_ldc M1 rfl rfl rfl ?_) | (refine wpL_lgc M1 rfl rfl rfl ?_) | (refine wpL_stc M1 rfl rfl rfl rfl ?_; clear M1; intro w' M1) | (refine wpL_sti M1 rfl rfl rfl rfl ?_; clear M1; intro w' M1)))
      go_ret2
      exact ⟨rfl, M1.below⟩

/-- The divisor without its sign. -/
theorem away_of (b : Int) (hb : -9223372036854775808 ≤ b ∧ b ≤ 9223372036854775807) (w : World) :
    Calls Tryz.prog 106 #[.agg #[.int .i64 (hiZ b), .int .u64 (loZ b)]] w fun e w' => e = .returned (.agg #[.int .i64 0, .int .u64 (b.natAbs : Nat)]) ∧ Below w.heap.size w w' := by
  have C := away_any b (by omega) w
  rw [show wrap64 ((b.natAbs : Int) / 18446744073709551616) = 0 by simp only [wrap64]; omega, show ((b.natAbs : Int) % 18446744073709551616) = (b.natAbs : Int) by omega] at C
  exact C

/-- The library's quotient, whatever the upper word is. -/
theorem Div64_any (N d : Nat) (hN : N / 18446744073709551616 < d) (hd : d < 18446744073709551616) (w : World) :
    Calls Tryz.prog 107 #[.int .u64 ((N / 18446744073709551616 : Nat) : Int), .int .u64 ((N % 18446744073709551616 : Nat) : Int), .int .u64 d] w fun e w' =>
      e = .returned (.tuple #[.int .u64 ((N / d : Nat) : Int), .int .u64 ((N % d : Nat) : Int)]) ∧ Below w.heap.size w w' := by
  have hl : N % 18446744073709551616 < 18446744073709551616 := Nat.mod_lt _ (by decide)
  by_cases h0 : N / 18446744073709551616 = 0
  · have e : N % 18446744073709551616 = N := by omega
    rw [h0, e]
    exact Div64_small N d (by omega) hd (by omega) w
  · have C := Div64_great (N / 18446744073709551616) (N % 18446744073709551616) d hl hd (by omega) hN w
    rw [show N / 18446744073709551616 * 18446744073709551616 + N % 18446744073709551616 = N by omega] at C
    exact C
theorem bne_t {a b : Bool} (h : (a != b) = true) : (a == b) = false := by cases a <;> cases b <;> first | rfl | cases h
theorem bne_f {a b : Bool} (h : (a != b) = false) : (a == b) = true := by cases a <;> cases b <;> first | rfl | cases h


set_option maxRecDepth 20000 in
set_option maxHeartbeats 1600000 in
theorem Div_big (h l b mode bh bl nh : Int) (H L D : Nat)
    (hb2 : (b == 0) = false) (hd1 : decide (mode < 0) = false) (hd2 : decide (3 < mode) = false)
    (C1 : Ans 106 #[wv h l] (wv nh L)) (C2 : Ans 13 #[.int .i64 b] (wv bh bl)) (C3 : Ans 106 #[wv bh bl] (wv 0 D))
    (hHn : IntKind.u64.wrap nh = (H : Int)) (hHlt : H < 18446744073709551616) (hLlt : L < 18446744073709551616) (hD2 : D < 18446744073709551616)
    (hgn : D ≤ H)
    (w : World) :
    Calls Tryz.prog 89 #[wv h l, .int .i64 b, .int .i64 mode] w fun e w' =>
      e = .returned (.tuple #[.int .i64 0, .int .i64 10]) ∧ Below w.heap.size w w' := by
  have hge : decide ((D : Int) ≤ (H : Int)) = true := by simp only [decide_eq_true_eq]; omega
  have hfd : ∀ w : World, (Instr.field 51 (.agg #[.int .i64 0, .int .u64 (D : Int)]) 1).run Tryz.prog w = .ok (.int .u64 (D : Int)) w := fun _ => by kernel_rfl
  have M0 := Mem.start w
  go_enter Tryz.func89, Tryz.ntmps89
  go_wp2_with ((with_reducible refine (?_ : Go.wpList _ _ _ (_ :: _) _ _)); (first | go_skip | (refine wpL_bx M0 rfl rfl rfl rfl ?_; clear M0; intro g1 w1 M1) | (refine wpL_alc M0 rfl rfl ?_; clear M0; intro g1 w1 M1) | (refine wpL_ldc M0 rfl rfl rfl ?_) | (refine wpL_lgc M0 rfl rfl rfl ?_) | (refine wpL_stc M0 rfl rfl rfl rfl ?_; clear M0; intro w' M0) | (refine wpL_sti M0 rfl rfl rfl rfl ?_; clear M0; intro w' M0) | (refine wpL_ldc M1 rfl rfl rfl ?_) | (refine wpL_lgc M1 rfl rfl rfl ?_) | (refine wpL_stc M1 rfl rfl rfl rfl ?_; clear M1; intro w' M1) | (refine wpL_sti M1 rfl rfl rfl rfl ?_; clear M1; intro w' M1)))
  refine (C1 _).mono ?_
  rintro e w2 ⟨rfl, hBl⟩
  replace M1 := M1.call hBl
  clear hBl C1
  go_wp2_with ((with_reducible refine (?_ : Go.wpList _ _ _ (_ :: _) _ _)); (first | go_skip | (refine wpL_ldc M1 rfl rfl rfl ?_) | (refine wpL_lgc M1 rfl rfl rfl ?_) | (refine wpL_stc M1 rfl rfl rfl rfl ?_; clear M1; intro w' M1) | (refine wpL_sti M1 rfl rfl rfl rfl ?_; clear M1; intro w' M1)))
  refine (C2 _).mono ?_
  rintro e w2 ⟨rfl, hBl⟩
  replace M1 := M1.call hBl
  clear hBl C2
  go_wp2_with ((with_reducible refine (?_ : Go.wpList _ _ _ (_ :: _) _ _)); (first | go_skip | (refine wpL_ldc M1 rfl rfl rfl ?_) | (refine wpL_lgc M1 rfl rfl rfl ?_) | (refine wpL_stc M1 rfl rfl rfl rfl ?_; clear M1; intro w' M1) | (refine wpL_sti M1 rfl rfl rfl rfl ?_; clear M1; intro w' M1)))
  refine (C3 _).mono ?_
  rintro e w2 ⟨rfl, hBl⟩
  replace M1 := M1.call hBl
  clear hBl C3
  go_wp2_with ((with_reducible refine (?_ : Go.wpList _ _ _ (_ :: _) _ _)); (first | go_skip | (refine wpL_bx M1 rfl rfl rfl rfl ?_; clear M1; intro g2 w2 M2) | (refine wpL_alc M1 rfl rfl ?_; clear M1; intro g2 w2 M2) | (refine wpL_ldc M1 rfl rfl rfl ?_) | (refine wpL_lgc M1 rfl rfl rfl ?_) | (refine wpL_stc M1 rfl rfl rfl rfl ?_; clear M1; intro w' M1) | (refine wpL_sti M1 rfl rfl rfl rfl ?_; clear M1; intro w' M1) | (refine wpL_ldc M2 rfl rfl rfl ?_) | (refine wpL_lgc M2 rfl rfl rfl ?_) | (refine wpL_stc M2 rfl rfl rfl rfl ?_; clear M2; intro w' M2) | (refine wpL_sti M2 rfl rfl rfl rfl ?_; clear M2; intro w' M2)))
  go_ret2
  exact ⟨rfl, M2.below⟩

set_option maxRecDepth 20000 in
set_option maxHeartbeats 1600000 in
theorem Div_same_0 (h l b mode bh bl nh : Int) (H L D : Nat)
    (hb2 : (b == 0) = false) (hd1 : decide (mode < 0) = false) (hd2 : decide (3 < mode) = false)
    (C1 : Ans 106 #[wv h l] (wv nh L)) (C2 : Ans 13 #[.int .i64 b] (wv bh bl)) (C3 : Ans 106 #[wv bh bl] (wv 0 D))
    (hHn : IntKind.u64.wrap nh = (H : Int)) (hHlt : H < 18446744073709551616) (hLlt : L < 18446744073709551616) (hD2 : D < 18446744073709551616)
    (hgn : H < D) (sz sb : Bool) (d1 : decide (h < 0) = sz) (d2 : decide (b < 0) = sb)
    (hss : (sz == sb) = true)
    (q r : Nat) (hqlt : q < 18446744073709551616) (hrlt : r < 18446744073709551616) (V E : Int)
    (C4 : Ans 107 #[.int .u64 (H : Int), .int .u64 (L : Int), .int .u64 (D : Int)] (.tuple #[.int .u64 (q : Int), .int .u64 0]))
    (C6 : Ans 111 #[wv 0 (q : Int)] (.tuple #[.int .i64 V, .int .i64 E]))
    (w : World) :
    Calls Tryz.prog 89 #[wv h l, .int .i64 b, .int .i64 mode] w fun e w' =>
      e = .returned (.tuple #[.int .i64 V, .int .i64 E]) ∧ Below w.heap.size w w' := by
  have hge : decide ((D : Int) ≤ (H : Int)) = false := by simp only [decide_eq_false_iff_not]; omega
  have hfd : ∀ w : World, (Instr.field 51 (.agg #[.int .i64 0, .int .u64 (D : Int)]) 1).run Tryz.prog w = .ok (.int .u64 (D : Int)) w := fun _ => by kernel_rfl
  have M0 := Mem.start w
  go_enter Tryz.func89, Tryz.ntmps89
  go_wp2_with ((with_reducible refine (?_ : Go.wpList _ _ _ (_ :: _) _ _)); (first | go_skip | (refine wpL_bx M0 rfl rfl rfl rfl ?_; clear M0; intro g1 w1 M1) | (refine wpL_alc M0 rfl rfl ?_; clear M0; intro g1 w1 M1) | (refine wpL_ldc M0 rfl rfl rfl ?_) | (refine wpL_lgc M0 rfl rfl rfl ?_) | (refine wpL_stc M0 rfl rfl rfl rfl ?_; clear M0; intro w' M0) | (refine wpL_sti M0 rfl rfl rfl rfl ?_; clear M0; intro w' M0) | (refine wpL_ldc M1 rfl rfl rfl ?_) | (refine wpL_lgc M1 rfl rfl rfl ?_) | (refine wpL_stc M1 rfl rfl rfl rfl ?_; clear M1; intro w' M1) | (refine wpL_sti M1 rfl rfl rfl rfl ?_; clear M1; intro w' M1)))
  refine (C1 _).mono ?_
  rintro e w2 ⟨rfl, hBl⟩
  replace M1 := M1.call hBl
  clear hBl C1
  go_wp2_with ((with_reducible refine (?_ : Go.wpList _ _ _ (_ :: _) _ _)); (first | go_skip | (refine wpL_ldc M1 rfl rfl rfl ?_) | (refine wpL_lgc M1 rfl rfl rfl ?_) | (refine wpL_stc M1 rfl rfl rfl rfl ?_; clear M1; intro w' M1) | (refine wpL_sti M1 rfl rfl rfl rfl ?_; clear M1; intro w' M1)))
  refine (C2 _).mono ?_
  rintro e w2 ⟨rfl, hBl⟩
  replace M1 := M1.call hBl
  clear hBl C2
  go_wp2_with ((with_reducible refine (?_ : Go.wpList _ _ _ (_ :: _) _ _)); (first | go_skip | (refine wpL_ldc M1 rfl rfl rfl ?_) | (refine wpL_lgc M1 rfl rfl rfl ?_) | (refine wpL_stc M1 rfl rfl rfl rfl ?_; clear M1; intro w' M1) | (refine wpL_sti M1 rfl rfl rfl rfl ?_; clear M1; intro w' M1)))
  refine (C3 _).mono ?_
  rintro e w2 ⟨rfl, hBl⟩
  replace M1 := M1.call hBl
  clear hBl C3
  go_wp2_with ((with_reducible refine (?_ : Go.wpList _ _ _ (_ :: _) _ _)); (first | go_skip | (refine wpL_bx M1 rfl rfl rfl rfl ?_; clear M1; intro g2 w2 M2) | (refine wpL_alc M1 rfl rfl ?_; clear M1; intro g2 w2 M2) | (refine wpL_ldc M1 rfl rfl rfl ?_) | (refine wpL_lgc M1 rfl rfl rfl ?_) | (refine wpL_stc M1 rfl rfl rfl rfl ?_; clear M1; intro w' M1) | (refine wpL_sti M1 rfl rfl rfl rfl ?_; clear M1; intro w' M1) | (refine wpL_ldc M2 rfl rfl rfl ?_) | (refine wpL_lgc M2 rfl rfl rfl ?_) | (refine wpL_stc M2 rfl rfl rfl rfl ?_; clear M2; intro w' M2) | (refine wpL_sti M2 rfl rfl rfl rfl ?_; clear M2; intro w' M2)))
  refine (C4 _).mono ?_
  rintro e w2 ⟨rfl, hBl⟩
  replace M2 := M2.call hBl
  clear hBl C4
  go_wp2_with ((with_reducible refine (?_ : Go.wpList _ _ _ (_ :: _) _ _)); (first | go_skip | (refine wpL_bx M2 rfl rfl rfl rfl ?_; clear M2; intro g3 w3 M3) | (refine wpL_alc M2 rfl rfl ?_; clear M2; intro g3 w3 M3) | (refine wpL_ldc M2 rfl rfl rfl ?_) | (refine wpL_lgc M2 rfl rfl rfl ?_) | (refine wpL_stc M2 rfl rfl rfl rfl ?_; clear M2; intro w' M2) | (refine wpL_sti M2 rfl rfl rfl rfl ?_; clear M2; intro w' M2) | (refine wpL_ldc M3 rfl rfl rfl ?_) | (refine wpL_lgc M3 rfl rfl rfl ?_) | (refine wpL_stc M3 rfl rfl rfl rfl ?_; clear M3; intro w' M3) | (refine wpL_sti M3 rfl rfl rfl rfl ?_; clear M3; intro w' M3)))
  refine (C6 _).mono ?_
  rintro e w2 ⟨rfl, hBl⟩
  replace M3 := M3.call hBl
  clear hBl C6
  go_wp2_with ((with_reducible refine (?_ : Go.wpList _ _ _ (_ :: _) _ _)); (first | go_skip | (refine wpL_ldc M3 rfl rfl rfl ?_) | (refine wpL_lgc M3 rfl rfl rfl ?_) | (refine wpL_stc M3 rfl rfl rfl rfl ?_; clear M3; intro w' M3) | (refine wpL_sti M3 rfl rfl rfl rfl ?_; clear M3; intro w' M3)))
  go_ret2
  exact ⟨rfl, M3.below⟩

set_option maxRecDepth 20000 in
set_option maxHeartbeats 1600000 in
theorem Div_same_up (h l b mode bh bl nh : Int) (H L D : Nat)
    (hb2 : (b == 0) = false) (hd1 : decide (mode < 0) = false) (hd2 : decide (3 < mode) = false)
    (C1 : Ans 106 #[wv h l] (wv nh L)) (C2 : Ans 13 #[.int .i64 b] (wv bh bl)) (C3 : Ans 106 #[wv bh bl] (wv 0 D))
    (hHn : IntKind.u64.wrap nh = (H : Int)) (hHlt : H < 18446744073709551616) (hLlt : L < 18446744073709551616) (hD2 : D < 18446744073709551616)
    (hgn : H < D) (sz sb : Bool) (d1 : decide (h < 0) = sz) (d2 : decide (b < 0) = sb)
    (hss : (sz == sb) = true)
    (q r : Nat) (hqlt : q < 18446744073709551616) (hrlt : r < 18446744073709551616) (V E : Int)
    (C4 : Ans 107 #[.int .u64 (H : Int), .int .u64 (L : Int), .int .u64 (D : Int)] (.tuple #[.int .u64 (q : Int), .int .u64 (r : Int)]))
    (hR0 : r ≠ 0)
    (C5 : Ans 109 #[.int .i64 mode, wv 0 (q : Int), .int .u64 (r : Int), .int .u64 (D : Int)] (.bool true))
    (yh yl : Int) (C7 : Ans 110 #[wv 0 (q : Int)] (wv yh yl))
    (C6 : Ans 111 #[wv yh yl] (.tuple #[.int .i64 V, .int .i64 E]))
    (w : World) :
    Calls Tryz.prog 89 #[wv h l, .int .i64 b, .int .i64 mode] w fun e w' =>
      e = .returned (.tuple #[.int .i64 V, .int .i64 E]) ∧ Below w.heap.size w w' := by
  have hge : decide ((D : Int) ≤ (H : Int)) = false := by simp only [decide_eq_false_iff_not]; omega
  have hR1 : ((r : Int) != 0) = true := by rw [bne_iff_ne]; omega
  have hfd : ∀ w : World, (Instr.field 51 (.agg #[.int .i64 0, .int .u64 (D : Int)]) 1).run Tryz.prog w = .ok (.int .u64 (D : Int)) w := fun _ => by kernel_rfl
  have M0 := Mem.start w
  go_enter Tryz.func89, Tryz.ntmps89
  go_wp2_with ((with_reducible refine (?_ : Go.wpList _ _ _ (_ :: _) _ _)); (first | go_skip | (refine wpL_bx M0 rfl rfl rfl rfl ?_; clear M0; intro g1 w1 M1) | (refine wpL_alc M0 rfl rfl ?_; clear M0; intro g1 w1 M1) | (refine wpL_ldc M0 rfl rfl rfl ?_) | (refine wpL_lgc M0 rfl rfl rfl ?_) | (refine wpL_stc M0 rfl rfl rfl rfl ?_; clear M0; intro w' M0) | (refine wpL_sti M0 rfl rfl rfl rfl ?_; clear M0; intro w' M0) | (refine wpL_ldc M1 rfl rfl rfl ?_) | (refine wpL_lgc M1 rfl rfl rfl ?_) | (refine wpL_stc M1 rfl rfl rfl rfl ?_; clear M1; intro w' M1) | (refine wpL_sti M1 rfl rfl rfl rfl ?_; clear M1; intro w' M1)))
  refine (C1 _).mono ?_
  rintro e w2 ⟨rfl, hBl⟩
  replace M1 := M1.call hBl
  clear hBl C1
  go_wp2_with ((with_reducible refine (?_ : Go.wpList _ _ _ (_ :: _) _ _)); (first | go_skip | (refine wpL_ldc M1 rfl rfl rfl ?_) | (refine wpL_lgc M1 rfl rfl rfl ?_) | (refine wpL_stc M1 rfl rfl rfl rfl ?_; clear M1; intro w' M1) | (refine wpL_sti M1 rfl rfl rfl rfl ?_; clear M1; intro w' M1)))
  refine (C2 _).mono ?_
  rintro e w2 ⟨rfl, hBl⟩
  replace M1 := M1.call hBl
  clear hBl C2
  go_wp2_with ((with_reducible refine (?_ : Go.wpList _ _ _ (_ :: _) _ _)); (first | go_skip | (refine wpL_ldc M1 rfl rfl rfl ?_) | (refine wpL_lgc M1 rfl rfl rfl ?_) | (refine wpL_stc M1 rfl rfl rfl rfl ?_; clear M1; intro w' M1) | (refine wpL_sti M1 rfl rfl rfl rfl ?_; clear M1; intro w' M1)))
  refine (C3 _).mono ?_
  rintro e w2 ⟨rfl, hBl⟩
  replace M1 := M1.call hBl
  clear hBl C3
  go_wp2_with ((with_reducible refine (?_ : Go.wpList _ _ _ (_ :: _) _ _)); (first | go_skip | (refine wpL_bx M1 rfl rfl rfl rfl ?_; clear M1; intro g2 w2 M2) | (refine wpL_alc M1 rfl rfl ?_; clear M1; intro g2 w2 M2) | (refine wpL_ldc M1 rfl rfl rfl ?_) | (refine wpL_lgc M1 rfl rfl rfl ?_) | (refine wpL_stc M1 rfl rfl rfl rfl ?_; clear M1; intro w' M1) | (refine wpL_sti M1 rfl rfl rfl rfl ?_; clear M1; intro w' M1) | (refine wpL_ldc M2 rfl rfl rfl ?_) | (refine wpL_lgc M2 rfl rfl rfl ?_) | (refine wpL_stc M2 rfl rfl rfl rfl ?_; clear M2; intro w' M2) | (refine wpL_sti M2 rfl rfl rfl rfl ?_; clear M2; intro w' M2)))
  refine (C4 _).mono ?_
  rintro e w2 ⟨rfl, hBl⟩
  replace M2 := M2.call hBl
  clear hBl C4
  go_wp2_with ((with_reducible refine (?_ : Go.wpList _ _ _ (_ :: _) _ _)); (first | go_skip | (refine wpL_bx M2 rfl rfl rfl rfl ?_; clear M2; intro g3 w3 M3) | (refine wpL_alc M2 rfl rfl ?_; clear M2; intro g3 w3 M3) | (refine wpL_ldc M2 rfl rfl rfl ?_) | (refine wpL_lgc M2 rfl rfl rfl ?_) | (refine wpL_stc M2 rfl rfl rfl rfl ?_; clear M2; intro w' M2) | (refine wpL_sti M2 rfl rfl rfl rfl ?_; clear M2; intro w' M2) | (refine wpL_ldc M3 rfl rfl rfl ?_) | (refine wpL_lgc M3 rfl rfl rfl ?_) | (refine wpL_stc M3 rfl rfl rfl rfl ?_; clear M3; intro w' M3) | (refine wpL_sti M3 rfl rfl rfl rfl ?_; clear M3; intro w' M3)))
  refine (C5 _).mono ?_
  rintro e w2 ⟨rfl, hBl⟩
  replace M3 := M3.call hBl
  clear hBl C5
  go_wp2_with ((with_reducible refine (?_ : Go.wpList _ _ _ (_ :: _) _ _)); (first | go_skip | (refine wpL_ldc M3 rfl rfl rfl ?_) | (refine wpL_lgc M3 rfl rfl rfl ?_) | (refine wpL_stc M3 rfl rfl rfl rfl ?_; clear M3; intro w' M3) | (refine wpL_sti M3 rfl rfl rfl rfl ?_; clear M3; intro w' M3)))
  refine (C7 _).mono ?_
  rintro e w2 ⟨rfl, hBl⟩
  replace M3 := M3.call hBl
  clear hBl C7
  go_wp2_with ((with_reducible refine (?_ : Go.wpList _ _ _ (_ :: _) _ _)); (first | go_skip | (refine wpL_ldc M3 rfl rfl rfl ?_) | (refine wpL_lgc M3 rfl rfl rfl ?_) | (refine wpL_stc M3 rfl rfl rfl rfl ?_; clear M3; intro w' M3) | (refine wpL_sti M3 rfl rfl rfl rfl ?_; clear M3; intro w' M3)))
  refine (C6 _).mono ?_
  rintro e w2 ⟨rfl, hBl⟩
  replace M3 := M3.call hBl
  clear hBl C6
  go_wp2_with ((with_reducible refine (?_ : Go.wpList _ _ _ (_ :: _) _ _)); (first | go_skip | (refine wpL_ldc M3 rfl rfl rfl ?_) | (refine wpL_lgc M3 rfl rfl rfl ?_) | (refine wpL_stc M3 rfl rfl rfl rfl ?_; clear M3; intro w' M3) | (refine wpL_sti M3 rfl rfl rfl rfl ?_; clear M3; intro w' M3)))
  go_ret2
  exact ⟨rfl, M3.below⟩

set_option maxRecDepth 20000 in
set_option maxHeartbeats 1600000 in
theorem Div_same_no (h l b mode bh bl nh : Int) (H L D : Nat)
    (hb2 : (b == 0) = false) (hd1 : decide (mode < 0) = false) (hd2 : decide (3 < mode) = false)
    (C1 : Ans 106 #[wv h l] (wv nh L)) (C2 : Ans 13 #[.int .i64 b] (wv bh bl)) (C3 : Ans 106 #[wv bh bl] (wv 0 D))
    (hHn : IntKind.u64.wrap nh = (H : Int)) (hHlt : H < 18446744073709551616) (hLlt : L < 18446744073709551616) (hD2 : D < 18446744073709551616)
    (hgn : H < D) (sz sb : Bool) (d1 : decide (h < 0) = sz) (d2 : decide (b < 0) = sb)
    (hss : (sz == sb) = true)
    (q r : Nat) (hqlt : q < 18446744073709551616) (hrlt : r < 18446744073709551616) (V E : Int)
    (C4 : Ans 107 #[.int .u64 (H : Int), .int .u64 (L : Int), .int .u64 (D : Int)] (.tuple #[.int .u64 (q : Int), .int .u64 (r : Int)]))
    (hR0 : r ≠ 0)
    (C5 : Ans 109 #[.int .i64 mode, wv 0 (q : Int), .int .u64 (r : Int), .int .u64 (D : Int)] (.bool false))
    (C6 : Ans 111 #[wv 0 (q : Int)] (.tuple #[.int .i64 V, .int .i64 E]))
    (w : World) :
    Calls Tryz.prog 89 #[wv h l, .int .i64 b, .int .i64 mode] w fun e w' =>
      e = .returned (.tuple #[.int .i64 V, .int .i64 E]) ∧ Below w.heap.size w w' := by
  have hge : decide ((D : Int) ≤ (H : Int)) = false := by simp only [decide_eq_false_iff_not]; omega
  have hR1 : ((r : Int) != 0) = true := by rw [bne_iff_ne]; omega
  have hfd : ∀ w : World, (Instr.field 51 (.agg #[.int .i64 0, .int .u64 (D : Int)]) 1).run Tryz.prog w = .ok (.int .u64 (D : Int)) w := fun _ => by kernel_rfl
  have M0 := Mem.start w
  go_enter Tryz.func89, Tryz.ntmps89
  go_wp2_with ((with_reducible refine (?_ : Go.wpList _ _ _ (_ :: _) _ _)); (first | go_skip | (refine wpL_bx M0 rfl rfl rfl rfl ?_; clear M0; intro g1 w1 M1) | (refine wpL_alc M0 rfl rfl ?_; clear M0; intro g1 w1 M1) | (refine wpL_ldc M0 rfl rfl rfl ?_) | (refine wpL_lgc M0 rfl rfl rfl ?_) | (refine wpL_stc M0 rfl rfl rfl rfl ?_; clear M0; intro w' M0) | (refine wpL_sti M0 rfl rfl rfl rfl ?_; clear M0; intro w' M0) | (refine wpL_ldc M1 rfl rfl rfl ?_) | (refine wpL_lgc M1 rfl rfl rfl ?_) | (refine wpL_stc M1 rfl rfl rfl rfl ?_; clear M1; intro w' M1) | (refine wpL_sti M1 rfl rfl rfl rfl ?_; clear M1; intro w' M1)))
  refine (C1 _).mono ?_
  rintro e w2 ⟨rfl, hBl⟩
  replace M1 := M1.call hBl
  clear hBl C1
  go_wp2_with ((with_reducible refine (?_ : Go.wpList _ _ _ (_ :: _) _ _)); (first | go_skip | (refine wpL_ldc M1 rfl rfl rfl ?_) | (refine wpL_lgc M1 rfl rfl rfl ?_) | (refine wpL_stc M1 rfl rfl rfl rfl ?_; clear M1; intro w' M1) | (refine wpL_sti M1 rfl rfl rfl rfl ?_; clear M1; intro w' M1)))
  refine (C2 _).mono ?_
  rintro e w2 ⟨rfl, hBl⟩
  replace M1 := M1.call hBl
  clear hBl C2
  go_wp2_with ((with_reducible refine (?_ : Go.wpList _ _ _ (_ :: _) _ _)); (first | go_skip | (refine wpL_ldc M1 rfl rfl rfl ?_) | (refine wpL_lgc M1 rfl rfl rfl ?_) | (refine wpL_stc M1 rfl rfl rfl rfl ?_; clear M1; intro w' M1) | (refine wpL_sti M1 rfl rfl rfl rfl ?_; clear M1; intro w' M1)))
  refine (C3 _).mono ?_
  rintro e w2 ⟨rfl, hBl⟩
  replace M1 := M1.call hBl
  clear hBl C3
  go_wp2_with ((with_reducible refine (?_ : Go.wpList _ _ _ (_ :: _) _ _)); (first | go_skip | (refine wpL_bx M1 rfl rfl rfl rfl ?_; clear M1; intro g2 w2 M2) | (refine wpL_alc M1 rfl rfl ?_; clear M1; intro g2 w2 M2) | (refine wpL_ldc M1 rfl rfl rfl ?_) | (refine wpL_lgc M1 rfl rfl rfl ?_) | (refine wpL_stc M1 rfl rfl rfl rfl ?_; clear M1; intro w' M1) | (refine wpL_sti M1 rfl rfl rfl rfl ?_; clear M1; intro w' M1) | (refine wpL_ldc M2 rfl rfl rfl ?_) | (refine wpL_lgc M2 rfl rfl rfl ?_) | (refine wpL_stc M2 rfl rfl rfl rfl ?_; clear M2; intro w' M2) | (refine wpL_sti M2 rfl rfl rfl rfl ?_; clear M2; intro w' M2)))
  refine (C4 _).mono ?_
  rintro e w2 ⟨rfl, hBl⟩
  replace M2 := M2.call hBl
  clear hBl C4
  go_wp2_with ((with_reducible refine (?_ : Go.wpList _ _ _ (_ :: _) _ _)); (first | go_skip | (refine wpL_bx M2 rfl rfl rfl rfl ?_; clear M2; intro g3 w3 M3) | (refine wpL_alc M2 rfl rfl ?_; clear M2; intro g3 w3 M3) | (refine wpL_ldc M2 rfl rfl rfl ?_) | (refine wpL_lgc M2 rfl rfl rfl ?_) | (refine wpL_stc M2 rfl rfl rfl rfl ?_; clear M2; intro w' M2) | (refine wpL_sti M2 rfl rfl rfl rfl ?_; clear M2; intro w' M2) | (refine wpL_ldc M3 rfl rfl rfl ?_) | (refine wpL_lgc M3 rfl rfl rfl ?_) | (refine wpL_stc M3 rfl rfl rfl rfl ?_; clear M3; intro w' M3) | (refine wpL_sti M3 rfl rfl rfl rfl ?_; clear M3; intro w' M3)))
  refine (C5 _).mono ?_
  rintro e w2 ⟨rfl, hBl⟩
  replace M3 := M3.call hBl
  clear hBl C5
  go_wp2_with ((with_reducible refine (?_ : Go.wpList _ _ _ (_ :: _) _ _)); (first | go_skip | (refine wpL_ldc M3 rfl rfl rfl ?_) | (refine wpL_lgc M3 rfl rfl rfl ?_) | (refine wpL_stc M3 rfl rfl rfl rfl ?_; clear M3; intro w' M3) | (refine wpL_sti M3 rfl rfl rfl rfl ?_; clear M3; intro w' M3)))
  refine (C6 _).mono ?_
  rintro e w2 ⟨rfl, hBl⟩
  replace M3 := M3.call hBl
  clear hBl C6
  go_wp2_with ((with_reducible refine (?_ : Go.wpList _ _ _ (_ :: _) _ _)); (first | go_skip | (refine wpL_ldc M3 rfl rfl rfl ?_) | (refine wpL_lgc M3 rfl rfl rfl ?_) | (refine wpL_stc M3 rfl rfl rfl rfl ?_; clear M3; intro w' M3) | (refine wpL_sti M3 rfl rfl rfl rfl ?_; clear M3; intro w' M3)))
  go_ret2
  exact ⟨rfl, M3.below⟩

set_option maxRecDepth 20000 in
set_option maxHeartbeats 1600000 in
theorem Div_diff_0 (h l b mode bh bl nh : Int) (H L D : Nat)
    (hb2 : (b == 0) = false) (hd1 : decide (mode < 0) = false) (hd2 : decide (3 < mode) = false)
    (C1 : Ans 106 #[wv h l] (wv nh L)) (C2 : Ans 13 #[.int .i64 b] (wv bh bl)) (C3 : Ans 106 #[wv bh bl] (wv 0 D))
    (hHn : IntKind.u64.wrap nh = (H : Int)) (hHlt : H < 18446744073709551616) (hLlt : L < 18446744073709551616) (hD2 : D < 18446744073709551616)
    (hgn : H < D) (sz sb : Bool) (d1 : decide (h < 0) = sz) (d2 : decide (b < 0) = sb)
    (hss : (sz == sb) = false)
    (q r : Nat) (hqlt : q < 18446744073709551616) (hrlt : r < 18446744073709551616) (V E : Int)
    (C4 : Ans 107 #[.int .u64 (H : Int), .int .u64 (L : Int), .int .u64 (D : Int)] (.tuple #[.int .u64 (q : Int), .int .u64 0]))
    (xh xl : Int) (R : Nat) (CT : Ans 108 #[wv 0 (q : Int), .int .u64 0, .int .u64 (D : Int)] (.tuple #[wv xh xl, .int .u64 0]))
    (C6 : Ans 111 #[wv xh xl] (.tuple #[.int .i64 V, .int .i64 E]))
    (w : World) :
    Calls Tryz.prog 89 #[wv h l, .int .i64 b, .int .i64 mode] w fun e w' =>
      e = .returned (.tuple #[.int .i64 V, .int .i64 E]) ∧ Below w.heap.size w w' := by
  have hge : decide ((D : Int) ≤ (H : Int)) = false := by simp only [decide_eq_false_iff_not]; omega
  have hfd : ∀ w : World, (Instr.field 51 (.agg #[.int .i64 0, .int .u64 (D : Int)]) 1).run Tryz.prog w = .ok (.int .u64 (D : Int)) w := fun _ => by kernel_rfl
  have M0 := Mem.start w
  go_enter Tryz.func89, Tryz.ntmps89
  go_wp2_with ((with_reducible refine (?_ : Go.wpList _ _ _ (_ :: _) _ _)); (first | go_skip | (refine wpL_bx M0 rfl rfl rfl rfl ?_; clear M0; intro g1 w1 M1) | (refine wpL_alc M0 rfl rfl ?_; clear M0; intro g1 w1 M1) | (refine wpL_ldc M0 rfl rfl rfl ?_) | (refine wpL_lgc M0 rfl rfl rfl ?_) | (refine wpL_stc M0 rfl rfl rfl rfl ?_; clear M0; intro w' M0) | (refine wpL_sti M0 rfl rfl rfl rfl ?_; clear M0; intro w' M0) | (refine wpL_ldc M1 rfl rfl rfl ?_) | (refine wpL_lgc M1 rfl rfl rfl ?_) | (refine wpL_stc M1 rfl rfl rfl rfl ?_; clear M1; intro w' M1) | (refine wpL_sti M1 rfl rfl rfl rfl ?_; clear M1; intro w' M1)))
  refine (C1 _).mono ?_
  rintro e w2 ⟨rfl, hBl⟩
  replace M1 := M1.call hBl
  clear hBl C1
  go_wp2_with ((with_reducible refine (?_ : Go.wpList _ _ _ (_ :: _) _ _)); (first | go_skip | (refine wpL_ldc M1 rfl rfl rfl ?_) | (refine wpL_lgc M1 rfl rfl rfl ?_) | (refine wpL_stc M1 rfl rfl rfl rfl ?_; clear M1; intro w' M1) | (refine wpL_sti M1 rfl rfl rfl rfl ?_; clear M1; intro w' M1)))
  refine (C2 _).mono ?_
  rintro e w2 ⟨rfl, hBl⟩
  replace M1 := M1.call hBl
  clear hBl C2
  go_wp2_with ((with_reducible refine (?_ : Go.wpList _ _ _ (_ :: _) _ _)); (first | go_skip | (refine wpL_ldc M1 rfl rfl rfl ?_) | (refine wpL_lgc M1 rfl rfl rfl ?_) | (refine wpL_stc M1 rfl rfl rfl rfl ?_; clear M1; intro w' M1) | (refine wpL_sti M1 rfl rfl rfl rfl ?_; clear M1; intro w' M1)))
  refine (C3 _).mono ?_
  rintro e w2 ⟨rfl, hBl⟩
  replace M1 := M1.call hBl
  clear hBl C3
  go_wp2_with ((with_reducible refine (?_ : Go.wpList _ _ _ (_ :: _) _ _)); (first | go_skip | (refine wpL_bx M1 rfl rfl rfl rfl ?_; clear M1; intro g2 w2 M2) | (refine wpL_alc M1 rfl rfl ?_; clear M1; intro g2 w2 M2) | (refine wpL_ldc M1 rfl rfl rfl ?_) | (refine wpL_lgc M1 rfl rfl rfl ?_) | (refine wpL_stc M1 rfl rfl rfl rfl ?_; clear M1; intro w' M1) | (refine wpL_sti M1 rfl rfl rfl rfl ?_; clear M1; intro w' M1) | (refine wpL_ldc M2 rfl rfl rfl ?_) | (refine wpL_lgc M2 rfl rfl rfl ?_) | (refine wpL_stc M2 rfl rfl rfl rfl ?_; clear M2; intro w' M2) | (refine wpL_sti M2 rfl rfl rfl rfl ?_; clear M2; intro w' M2)))
  refine (C4 _).mono ?_
  rintro e w2 ⟨rfl, hBl⟩
  replace M2 := M2.call hBl
  clear hBl C4
  go_wp2_with ((with_reducible refine (?_ : Go.wpList _ _ _ (_ :: _) _ _)); (first | go_skip | (refine wpL_bx M2 rfl rfl rfl rfl ?_; clear M2; intro g3 w3 M3) | (refine wpL_alc M2 rfl rfl ?_; clear M2; intro g3 w3 M3) | (refine wpL_ldc M2 rfl rfl rfl ?_) | (refine wpL_lgc M2 rfl rfl rfl ?_) | (refine wpL_stc M2 rfl rfl rfl rfl ?_; clear M2; intro w' M2) | (refine wpL_sti M2 rfl rfl rfl rfl ?_; clear M2; intro w' M2) | (refine wpL_ldc M3 rfl rfl rfl ?_) | (refine wpL_lgc M3 rfl rfl rfl ?_) | (refine wpL_stc M3 rfl rfl rfl rfl ?_; clear M3; intro w' M3) | (refine wpL_sti M3 rfl rfl rfl rfl ?_; clear M3; intro w' M3)))
  refine (CT _).mono ?_
  rintro e w2 ⟨rfl, hBl⟩
  replace M3 := M3.call hBl
  clear hBl CT
  go_wp2_with ((with_reducible refine (?_ : Go.wpList _ _ _ (_ :: _) _ _)); (first | go_skip | (refine wpL_ldc M3 rfl rfl rfl ?_) | (refine wpL_lgc M3 rfl rfl rfl ?_) | (refine wpL_stc M3 rfl rfl rfl rfl ?_; clear M3; intro w' M3) | (refine wpL_sti M3 rfl rfl rfl rfl ?_; clear M3; intro w' M3)))
  refine (C6 _).mono ?_
  rintro e w2 ⟨rfl, hBl⟩
  replace M3 := M3.call hBl
  clear hBl C6
  go_wp2_with ((with_reducible refine (?_ : Go.wpList _ _ _ (_ :: _) _ _)); (first | go_skip | (refine wpL_ldc M3 rfl rfl rfl ?_) | (refine wpL_lgc M3 rfl rfl rfl ?_) | (refine wpL_stc M3 rfl rfl rfl rfl ?_; clear M3; intro w' M3) | (refine wpL_sti M3 rfl rfl rfl rfl ?_; clear M3; intro w' M3)))
  go_ret2
  exact ⟨rfl, M3.below⟩

set_option maxRecDepth 20000 in
set_option maxHeartbeats 1600000 in
theorem Div_diff_up (h l b mode bh bl nh : Int) (H L D : Nat)
    (hb2 : (b == 0) = false) (hd1 : decide (mode < 0) = false) (hd2 : decide (3 < mode) = false)
    (C1 : Ans 106 #[wv h l] (wv nh L)) (C2 : Ans 13 #[.int .i64 b] (wv bh bl)) (C3 : Ans 106 #[wv bh bl] (wv 0 D))
    (hHn : IntKind.u64.wrap nh = (H : Int)) (hHlt : H < 18446744073709551616) (hLlt : L < 18446744073709551616) (hD2 : D < 18446744073709551616)
    (hgn : H < D) (sz sb : Bool) (d1 : decide (h < 0) = sz) (d2 : decide (b < 0) = sb)
    (hss : (sz == sb) = false)
    (q r : Nat) (hqlt : q < 18446744073709551616) (hrlt : r < 18446744073709551616) (V E : Int)
    (C4 : Ans 107 #[.int .u64 (H : Int), .int .u64 (L : Int), .int .u64 (D : Int)] (.tuple #[.int .u64 (q : Int), .int .u64 (r : Int)]))
    (xh xl : Int) (R : Nat) (CT : Ans 108 #[wv 0 (q : Int), .int .u64 (r : Int), .int .u64 (D : Int)] (.tuple #[wv xh xl, .int .u64 (R : Int)]))
    (hR0 : R ≠ 0)
    (C5 : Ans 109 #[.int .i64 mode, wv xh xl, .int .u64 (R : Int), .int .u64 (D : Int)] (.bool true))
    (yh yl : Int) (C7 : Ans 110 #[wv xh xl] (wv yh yl))
    (C6 : Ans 111 #[wv yh yl] (.tuple #[.int .i64 V, .int .i64 E]))
    (w : World) :
    Calls Tryz.prog 89 #[wv h l, .int .i64 b, .int .i64 mode] w fun e w' =>
      e = .returned (.tuple #[.int .i64 V, .int .i64 E]) ∧ Below w.heap.size w w' := by
  have hge : decide ((D : Int) ≤ (H : Int)) = false := by simp only [decide_eq_false_iff_not]; omega
  have hR1 : ((R : Int) != 0) = true := by rw [bne_iff_ne]; omega
  have hfd : ∀ w : World, (Instr.field 51 (.agg #[.int .i64 0, .int .u64 (D : Int)]) 1).run Tryz.prog w = .ok (.int .u64 (D : Int)) w := fun _ => by kernel_rfl
  have M0 := Mem.start w
  go_enter Tryz.func89, Tryz.ntmps89
  go_wp2_with ((with_reducible refine (?_ : Go.wpList _ _ _ (_ :: _) _ _)); (first | go_skip | (refine wpL_bx M0 rfl rfl rfl rfl ?_; clear M0; intro g1 w1 M1) | (refine wpL_alc M0 rfl rfl ?_; clear M0; intro g1 w1 M1) | (refine wpL_ldc M0 rfl rfl rfl ?_) | (refine wpL_lgc M0 rfl rfl rfl ?_) | (refine wpL_stc M0 rfl rfl rfl rfl ?_; clear M0; intro w' M0) | (refine wpL_sti M0 rfl rfl rfl rfl ?_; clear M0; intro w' M0) | (refine wpL_ldc M1 rfl rfl rfl ?_) | (refine wpL_lgc M1 rfl rfl rfl ?_) | (refine wpL_stc M1 rfl rfl rfl rfl ?_; clear M1; intro w' M1) | (refine wpL_sti M1 rfl rfl rfl rfl ?_; clear M1; intro w' M1)))
  refine (C1 _).mono ?_
  rintro e w2 ⟨rfl, hBl⟩
  replace M1 := M1.call hBl
  clear hBl C1
  go_wp2_with ((with_reducible refine (?_ : Go.wpList _ _ _ (_ :: _) _ _)); (first | go_skip | (refine wpL_ldc M1 rfl rfl rfl ?_) | (refine wpL_lgc M1 rfl rfl rfl ?_) | (refine wpL_stc M1 rfl rfl rfl rfl ?_; clear M1; intro w' M1) | (refine wpL_sti M1 rfl rfl rfl rfl ?_; clear M1; intro w' M1)))
  refine (C2 _).mono ?_
  rintro e w2 ⟨rfl, hBl⟩
  replace M1 := M1.call hBl
  clear hBl C2
  go_wp2_with ((with_reducible refine (?_ : Go.wpList _ _ _ (_ :: _) _ _)); (first | go_skip | (refine wpL_ldc M1 rfl rfl rfl ?_) | (refine wpL_lgc M1 rfl rfl rfl ?_) | (refine wpL_stc M1 rfl rfl rfl rfl ?_; clear M1; intro w' M1) | (refine wpL_sti M1 rfl rfl rfl rfl ?_; clear M1; intro w' M1)))
  refine (C3 _).mono ?_
  rintro e w2 ⟨rfl, hBl⟩
  replace M1 := M1.call hBl
  clear hBl C3
  go_wp2_with ((with_reducible refine (?_ : Go.wpList _ _ _ (_ :: _) _ _)); (first | go_skip | (refine wpL_bx M1 rfl rfl rfl rfl ?_; clear M1; intro g2 w2 M2) | (refine wpL_alc M1 rfl rfl ?_; clear M1; intro g2 w2 M2) | (refine wpL_ldc M1 rfl rfl rfl ?_) | (refine wpL_lgc M1 rfl rfl rfl ?_) | (refine wpL_stc M1 rfl rfl rfl rfl ?_; clear M1; intro w' M1) | (refine wpL_sti M1 rfl rfl rfl rfl ?_; clear M1; intro w' M1) | (refine wpL_ldc M2 rfl rfl rfl ?_) | (refine wpL_lgc M2 rfl rfl rfl ?_) | (refine wpL_stc M2 rfl rfl rfl rfl ?_; clear M2; intro w' M2) | (refine wpL_sti M2 rfl rfl rfl rfl ?_; clear M2; intro w' M2)))
  refine (C4 _).mono ?_
  rintro e w2 ⟨rfl, hBl⟩
  replace M2 := M2.call hBl
  clear hBl C4
  go_wp2_with ((with_reducible refine (?_ : Go.wpList _ _ _ (_ :: _) _ _)); (first | go_skip | (refine wpL_bx M2 rfl rfl rfl rfl ?_; clear M2; intro g3 w3 M3) | (refine wpL_alc M2 rfl rfl ?_; clear M2; intro g3 w3 M3) | (refine wpL_ldc M2 rfl rfl rfl ?_) | (refine wpL_lgc M2 rfl rfl rfl ?_) | (refine wpL_stc M2 rfl rfl rfl rfl ?_; clear M2; intro w' M2) | (refine wpL_sti M2 rfl rfl rfl rfl ?_; clear M2; intro w' M2) | (refine wpL_ldc M3 rfl rfl rfl ?_) | (refine wpL_lgc M3 rfl rfl rfl ?_) | (refine wpL_stc M3 rfl rfl rfl rfl ?_; clear M3; intro w' M3) | (refine wpL_sti M3 rfl rfl rfl rfl ?_; clear M3; intro w' M3)))
  refine (CT _).mono ?_
  rintro e w2 ⟨rfl, hBl⟩
  replace M3 := M3.call hBl
  clear hBl CT
  go_wp2_with ((with_reducible refine (?_ : Go.wpList _ _ _ (_ :: _) _ _)); (first | go_skip | (refine wpL_ldc M3 rfl rfl rfl ?_) | (refine wpL_lgc M3 rfl rfl rfl ?_) | (refine wpL_stc M3 rfl rfl rfl rfl ?_; clear M3; intro w' M3) | (refine wpL_sti M3 rfl rfl rfl rfl ?_; clear M3; intro w' M3)))
  refine (C5 _).mono ?_
  rintro e w2 ⟨rfl, hBl⟩
  replace M3 := M3.call hBl
  clear hBl C5
  go_wp2_with ((with_reducible refine (?_ : Go.wpList _ _ _ (_ :: _) _ _)); (first | go_skip | (refine wpL_ldc M3 rfl rfl rfl ?_) | (refine wpL_lgc M3 rfl rfl rfl ?_) | (refine wpL_stc M3 rfl rfl rfl rfl ?_; clear M3; intro w' M3) | (refine wpL_sti M3 rfl rfl rfl rfl ?_; clear M3; intro w' M3)))
  refine (C7 _).mono ?_
  rintro e w2 ⟨rfl, hBl⟩
  replace M3 := M3.call hBl
  clear hBl C7
  go_wp2_with ((with_reducible refine (?_ : Go.wpList _ _ _ (_ :: _) _ _)); (first | go_skip | (refine wpL_ldc M3 rfl rfl rfl ?_) | (refine wpL_lgc M3 rfl rfl rfl ?_) | (refine wpL_stc M3 rfl rfl rfl rfl ?_; clear M3; intro w' M3) | (refine wpL_sti M3 rfl rfl rfl rfl ?_; clear M3; intro w' M3)))
  refine (C6 _).mono ?_
  rintro e w2 ⟨rfl, hBl⟩
  replace M3 := M3.call hBl
  clear hBl C6
  go_wp2_with ((with_reducible refine (?_ : Go.wpList _ _ _ (_ :: _) _ _)); (first | go_skip | (refine wpL_ldc M3 rfl rfl rfl ?_) | (refine wpL_lgc M3 rfl rfl rfl ?_) | (refine wpL_stc M3 rfl rfl rfl rfl ?_; clear M3; intro w' M3) | (refine wpL_sti M3 rfl rfl rfl rfl ?_; clear M3; intro w' M3)))
  go_ret2
  exact ⟨rfl, M3.below⟩

set_option maxRecDepth 20000 in
set_option maxHeartbeats 1600000 in
theorem Div_diff_no (h l b mode bh bl nh : Int) (H L D : Nat)
    (hb2 : (b == 0) = false) (hd1 : decide (mode < 0) = false) (hd2 : decide (3 < mode) = false)
    (C1 : Ans 106 #[wv h l] (wv nh L)) (C2 : Ans 13 #[.int .i64 b] (wv bh bl)) (C3 : Ans 106 #[wv bh bl] (wv 0 D))
    (hHn : IntKind.u64.wrap nh = (H : Int)) (hHlt : H < 18446744073709551616) (hLlt : L < 18446744073709551616) (hD2 : D < 18446744073709551616)
    (hgn : H < D) (sz sb : Bool) (d1 : decide (h < 0) = sz) (d2 : decide (b < 0) = sb)
    (hss : (sz == sb) = false)
    (q r : Nat) (hqlt : q < 18446744073709551616) (hrlt : r < 18446744073709551616) (V E : Int)
    (C4 : Ans 107 #[.int .u64 (H : Int), .int .u64 (L : Int), .int .u64 (D : Int)] (.tuple #[.int .u64 (q : Int), .int .u64 (r : Int)]))
    (xh xl : Int) (R : Nat) (CT : Ans 108 #[wv 0 (q : Int), .int .u64 (r : Int), .int .u64 (D : Int)] (.tuple #[wv xh xl, .int .u64 (R : Int)]))
    (hR0 : R ≠ 0)
    (C5 : Ans 109 #[.int .i64 mode, wv xh xl, .int .u64 (R : Int), .int .u64 (D : Int)] (.bool false))
    (C6 : Ans 111 #[wv xh xl] (.tuple #[.int .i64 V, .int .i64 E]))
    (w : World) :
    Calls Tryz.prog 89 #[wv h l, .int .i64 b, .int .i64 mode] w fun e w' =>
      e = .returned (.tuple #[.int .i64 V, .int .i64 E]) ∧ Below w.heap.size w w' := by
  have hge : decide ((D : Int) ≤ (H : Int)) = false := by simp only [decide_eq_false_iff_not]; omega
  have hR1 : ((R : Int) != 0) = true := by rw [bne_iff_ne]; omega
  have hfd : ∀ w : World, (Instr.field 51 (.agg #[.int .i64 0, .int .u64 (D : Int)]) 1).run Tryz.prog w = .ok (.int .u64 (D : Int)) w := fun _ => by kernel_rfl
  have M0 := Mem.start w
  go_enter Tryz.func89, Tryz.ntmps89
  go_wp2_with ((with_reducible refine (?_ : Go.wpList _ _ _ (_ :: _) _ _)); (first | go_skip | (refine wpL_bx M0 rfl rfl rfl rfl ?_; clear M0; intro g1 w1 M1) | (refine wpL_alc M0 rfl rfl ?_; clear M0; intro g1 w1 M1) | (refine wpL_ldc M0 rfl rfl rfl ?_) | (refine wpL_lgc M0 rfl rfl rfl ?_) | (refine wpL_stc M0 rfl rfl rfl rfl ?_; clear M0; intro w' M0) | (refine wpL_sti M0 rfl rfl rfl rfl ?_; clear M0; intro w' M0) | (refine wpL_ldc M1 rfl rfl rfl ?_) | (refine wpL_lgc M1 rfl rfl rfl ?_) | (refine wpL_stc M1 rfl rfl rfl rfl ?_; clear M1; intro w' M1) | (refine wpL_sti M1 rfl rfl rfl rfl ?_; clear M1; intro w' M1)))
  refine (C1 _).mono ?_
  rintro e w2 ⟨rfl, hBl⟩
  replace M1 := M1.call hBl
  clear hBl C1
  go_wp2_with ((with_reducible refine (?_ : Go.wpList _ _ _ (_ :: _) _ _)); (first | go_skip | (refine wpL_ldc M1 rfl rfl rfl ?_) | (refine wpL_lgc M1 rfl rfl rfl ?_) | (refine wpL_stc M1 rfl rfl rfl rfl ?_; clear M1; intro w' M1) | (refine wpL_sti M1 rfl rfl rfl rfl ?_; clear M1; intro w' M1)))
  refine (C2 _).mono ?_
  rintro e w2 ⟨rfl, hBl⟩
  replace M1 := M1.call hBl
  clear hBl C2
  go_wp2_with ((with_reducible refine (?_ : Go.wpList _ _ _ (_ :: _) _ _)); (first | go_skip | (refine wpL_ldc M1 rfl rfl rfl ?_) | (refine wpL_lgc M1 rfl rfl rfl ?_) | (refine wpL_stc M1 rfl rfl rfl rfl ?_; clear M1; intro w' M1) | (refine wpL_sti M1 rfl rfl rfl rfl ?_; clear M1; intro w' M1)))
  refine (C3 _).mono ?_
  rintro e w2 ⟨rfl, hBl⟩
  replace M1 := M1.call hBl
  clear hBl C3
  go_wp2_with ((with_reducible refine (?_ : Go.wpList _ _ _ (_ :: _) _ _)); (first | go_skip | (refine wpL_bx M1 rfl rfl rfl rfl ?_; clear M1; intro g2 w2 M2) | (refine wpL_alc M1 rfl rfl ?_; clear M1; intro g2 w2 M2) | (refine wpL_ldc M1 rfl rfl rfl ?_) | (refine wpL_lgc M1 rfl rfl rfl ?_) | (refine wpL_stc M1 rfl rfl rfl rfl ?_; clear M1; intro w' M1) | (refine wpL_sti M1 rfl rfl rfl rfl ?_; clear M1; intro w' M1) | (refine wpL_ldc M2 rfl rfl rfl ?_) | (refine wpL_lgc M2 rfl rfl rfl ?_) | (refine wpL_stc M2 rfl rfl rfl rfl ?_; clear M2; intro w' M2) | (refine wpL_sti M2 rfl rfl rfl rfl ?_; clear M2; intro w' M2)))
  refine (C4 _).mono ?_
  rintro e w2 ⟨rfl, hBl⟩
  replace M2 := M2.call hBl
  clear hBl C4
  go_wp2_with ((with_reducible refine (?_ : Go.wpList _ _ _ (_ :: _) _ _)); (first | go_skip | (refine wpL_bx M2 rfl rfl rfl rfl ?_; clear M2; intro g3 w3 M3) | (refine wpL_alc M2 rfl rfl ?_; clear M2; intro g3 w3 M3) | (refine wpL_ldc M2 rfl rfl rfl ?_) | (refine wpL_lgc M2 rfl rfl rfl ?_) | (refine wpL_stc M2 rfl rfl rfl rfl ?_; clear M2; intro w' M2) | (refine wpL_sti M2 rfl rfl rfl rfl ?_; clear M2; intro w' M2) | (refine wpL_ldc M3 rfl rfl rfl ?_) | (refine wpL_lgc M3 rfl rfl rfl ?_) | (refine wpL_stc M3 rfl rfl rfl rfl ?_; clear M3; intro w' M3) | (refine wpL_sti M3 rfl rfl rfl rfl ?_; clear M3; intro w' M3)))
  refine (CT _).mono ?_
  rintro e w2 ⟨rfl, hBl⟩
  replace M3 := M3.call hBl
  clear hBl CT
  go_wp2_with ((with_reducible refine (?_ : Go.wpList _ _ _ (_ :: _) _ _)); (first | go_skip | (refine wpL_ldc M3 rfl rfl rfl ?_) | (refine wpL_lgc M3 rfl rfl rfl ?_) | (refine wpL_stc M3 rfl rfl rfl rfl ?_; clear M3; intro w' M3) | (refine wpL_sti M3 rfl rfl rfl rfl ?_; clear M3; intro w' M3)))
  refine (C5 _).mono ?_
  rintro e w2 ⟨rfl, hBl⟩
  replace M3 := M3.call hBl
  clear hBl C5
  go_wp2_with ((with_reducible refine (?_ : Go.wpList _ _ _ (_ :: _) _ _)); (first | go_skip | (refine wpL_ldc M3 rfl rfl rfl ?_) | (refine wpL_lgc M3 rfl rfl rfl ?_) | (refine wpL_stc M3 rfl rfl rfl rfl ?_; clear M3; intro w' M3) | (refine wpL_sti M3 rfl rfl rfl rfl ?_; clear M3; intro w' M3)))
  refine (C6 _).mono ?_
  rintro e w2 ⟨rfl, hBl⟩
  replace M3 := M3.call hBl
  clear hBl C6
  go_wp2_with ((with_reducible refine (?_ : Go.wpList _ _ _ (_ :: _) _ _)); (first | go_skip | (refine wpL_ldc M3 rfl rfl rfl ?_) | (refine wpL_lgc M3 rfl rfl rfl ?_) | (refine wpL_stc M3 rfl rfl rfl rfl ?_; clear M3; intro w' M3) | (refine wpL_sti M3 rfl rfl rfl rfl ?_; clear M3; intro w' M3)))
  go_ret2
  exact ⟨rfl, M3.below⟩

end Go.Proofs.YtallbegibdlpaaaGreat

/-
  Numbers of 128 bits: the rounded quotient, whole.
-/
namespace Go.Proofs.YtallbegibdlpaaaGreat
open Go Go.RowKit Go.Th Go.Th.Wide

theorem n_hi (N : Nat) (h : N ≤ 170141183460469231731687303715884105728) : IntKind.u64.wrap (wrap64 ((N : Int) / 18446744073709551616)) = ((N / 18446744073709551616 : Nat) : Int) := by
  rw [IntKind.wrap_u64]; simp only [wrap64]; omega
theorem n_lo (N : Nat) : (N : Int) % 18446744073709551616 = ((N % 18446744073709551616 : Nat) : Int) := by omega
theorem q_hi (q : Nat) (h : q < 18446744073709551616) : hiZ (q : Int) = 0 := by unfold hiZ; omega
theorem q_lo (q : Nat) (h : q < 18446744073709551616) : loZ (q : Int) = (q : Int) := by unfold loZ; omega
theorem hi_neg (z : Int) : decide (hiZ z < 0) = decide (z < 0) := by unfold hiZ; rw [decide_eq_decide]; omega
theorem q_lt (N D : Nat) (h : N / 18446744073709551616 < D) : N / D < 18446744073709551616 := by
  have hD : 0 < D := by omega
  rw [Nat.div_lt_iff_lt_mul hD]; omega
theorem q_ge (N D : Nat) (hD : 0 < D) (h : D ≤ N / 18446744073709551616) : 18446744073709551616 ≤ N / D := by
  rw [Nat.le_div_iff_mul_le hD]; omega

theorem wmore_0 (d : Nat) (m : Bool) (mode : Int) : moreS 0 d m mode = false := by simp [moreS]
theorem more_same (r d : Nat) (mode q : Int) (hr : r ≠ 0) (hd : r < d) (hm : 0 ≤ mode ∧ mode ≤ 3) (hq : 0 ≤ q) : moreS r d false mode = isUpS mode q r d := by
  unfold moreS isUpS
  have e : mode = 0 ∨ mode = 1 ∨ mode = 2 ∨ mode = 3 := by omega
  rcases e with rfl | rfl | rfl | rfl
  · simp [hr]
  · simp [hr]
  · simp [hr]
    rw [← Bool.decide_or]
    apply decide_eq_decide.mpr
    omega
  · simp; omega
theorem more_diff (r d : Nat) (mode X : Int) (hr : r ≠ 0) (hd : r < d) (hm : 0 ≤ mode ∧ mode ≤ 3) (hX : X < 0) : moreS r d true mode = !isUpS mode X (d - r) d := by
  unfold moreS isUpS
  have e : mode = 0 ∨ mode = 1 ∨ mode = 2 ∨ mode = 3 := by omega
  rcases e with rfl | rfl | rfl | rfl
  · simp [hr]
  · simp [hr]
  · simp [hr]
    rw [Bool.eq_iff_iff]
    simp
    omega
  · simp; exact hX

theorem signed_t (Q : Nat) : signed true Q = -(Q : Int) := rfl
theorem signed_f (Q : Nat) : signed false Q = (Q : Int) := rfl
theorem fits_t (Q : Nat) : fitsS true Q 63 = decide (Q ≤ 9223372036854775808) := by unfold fitsS; rw [Bool.and_true, ← Bool.decide_or]; exact decide_eq_decide.mpr (by omega)
theorem fits_f (Q : Nat) : fitsS false Q 63 = decide (Q < 9223372036854775808) := by unfold fitsS; rw [Bool.and_false, Bool.or_false]
theorem divV_fits (m : Bool) (Q : Nat) : (if Q = 0 then 0 else if fitsS m Q 63 then signed m Q else 0) = if -9223372036854775808 ≤ signed m Q ∧ signed m Q ≤ 9223372036854775807 then signed m Q else 0 := by
  cases m
  · rw [signed_f, fits_f]
    by_cases h0 : Q = 0
    · subst h0; simp
    · by_cases h1 : Q < 9223372036854775808
      · rw [if_neg h0, if_pos (decide_eq_true h1), if_pos (by omega)]
      · rw [if_neg h0, if_neg (by rw [decide_eq_true_eq]; exact h1), if_neg (by omega)]
  · rw [signed_t, fits_t]
    by_cases h0 : Q = 0
    · subst h0; simp
    · by_cases h1 : Q ≤ 9223372036854775808
      · rw [if_neg h0, if_pos (decide_eq_true h1), if_pos (by omega)]
      · rw [if_neg h0, if_neg (by rw [decide_eq_true_eq]; exact h1), if_neg (by omega)]
theorem divE_fits (m : Bool) (Q : Nat) : (if Q = 0 then (0 : Int) else if fitsS m Q 63 then 0 else 10) = if -9223372036854775808 ≤ signed m Q ∧ signed m Q ≤ 9223372036854775807 then 0 else 10 := by
  cases m
  · rw [signed_f, fits_f]
    by_cases h0 : Q = 0
    · subst h0; simp
    · by_cases h1 : Q < 9223372036854775808
      · rw [if_neg h0, if_pos (decide_eq_true h1), if_pos (by omega)]
      · rw [if_neg h0, if_neg (by rw [decide_eq_true_eq]; exact h1), if_neg (by omega)]
  · rw [signed_t, fits_t]
    by_cases h0 : Q = 0
    · subst h0; simp
    · by_cases h1 : Q ≤ 9223372036854775808
      · rw [if_neg h0, if_pos (decide_eq_true h1), if_pos (by omega)]
      · rw [if_neg h0, if_neg (by rw [decide_eq_true_eq]; exact h1), if_neg (by omega)]

/-- The two answers of the rounded quotient, told of the rounded number. -/
theorem divVE (z b mode : Int) (ha : ¬ (b = 0 ∨ mode < 0 ∨ 3 < mode)) (m : Bool) (hm : m = (decide (z < 0) != decide (b < 0))) (X : Int) (hX : X = signed m (magS z.natAbs m b.natAbs mode)) :
    divV z b mode = (if -9223372036854775808 ≤ X ∧ X ≤ 9223372036854775807 then X else 0) ∧ divE z b mode = (if -9223372036854775808 ≤ X ∧ X ≤ 9223372036854775807 then 0 else 10) := by
  subst hX hm
  unfold divV divE
  rw [if_neg ha, if_neg ha]
  exact ⟨divV_fits _ _, divE_fits _ _⟩

theorem decide_no {p : Prop} [Decidable p] (h : ¬ p) : decide p = false := decide_eq_false h
theorem beq_no (b : Int) (h : b ≠ 0) : (b == 0) = false := by rw [beq_eq_false_iff_ne]; exact h

theorem Div_any (z b mode : Int) (hz : -170141183460469231731687303715884105728 ≤ z ∧ z < 170141183460469231731687303715884105728) (hb : -9223372036854775808 ≤ b ∧ b ≤ 9223372036854775807) (w : World) :
    Calls Tryz.prog 89 #[.agg #[.int .i64 (hiZ z), .int .u64 (loZ z)], .int .i64 b, .int .i64 mode] w fun e w' =>
      e = .returned (.tuple #[.int .i64 (divV z b mode), .int .i64 (divE z b mode)]) ∧ Below w.heap.size w w' := by
  by_cases ha : b = 0 ∨ mode < 0 ∨ 3 < mode
  · have e1 : divV z b mode = 0 := by unfold divV; rw [if_pos ha]
    have e2 : divE z b mode = 1 := by unfold divE; rw [if_pos ha]
    rw [e1, e2]
    exact Div_arg _ _ b mode ha w
  · have hb2 : (b == 0) = false := beq_no b (fun h => ha (Or.inl h))
    have hd1 : decide (mode < 0) = false := decide_no (fun h => ha (Or.inr (Or.inl h)))
    have hd2 : decide (3 < mode) = false := decide_no (fun h => ha (Or.inr (Or.inr h)))
    have hm : 0 ≤ mode ∧ mode ≤ 3 := by omega
    have hD0 : 0 < b.natAbs := by omega
    have hD2 : b.natAbs < 18446744073709551616 := by omega
    have hNle : z.natAbs ≤ 170141183460469231731687303715884105728 := by omega
    have C1 := away_any z hz
    rw [n_lo] at C1
    have C2 := Of_any b hb
    have C3 := away_of b hb
    have hHn := n_hi z.natAbs hNle
    have hHlt : z.natAbs / 18446744073709551616 < 18446744073709551616 := by omega
    have hLlt : z.natAbs % 18446744073709551616 < 18446744073709551616 := Nat.mod_lt _ (by decide)
    obtain ⟨m, hmm⟩ : ∃ m, m = (decide (z < 0) != decide (b < 0)) := ⟨_, rfl⟩
    have K := divVE z b mode ha m hmm
    obtain ⟨D, hD⟩ : ∃ D, D = b.natAbs := ⟨_, rfl⟩
    obtain ⟨N, hN⟩ : ∃ N, N = z.natAbs := ⟨_, rfl⟩
    rw [← hD] at hD0 hD2 C3 K
    rw [← hN] at hNle C1 hHn hHlt hLlt K
    obtain ⟨V, hV⟩ : ∃ V, V = divV z b mode := ⟨_, rfl⟩
    obtain ⟨E, hE⟩ : ∃ E, E = divE z b mode := ⟨_, rfl⟩
    rw [← hV, ← hE] at K ⊢
    have d1 := hi_neg z
    clear hV hE hD hN ha hz hb
    by_cases hgn : D ≤ N / 18446744073709551616
    · have hq := q_ge N D hD0 hgn
      have hQ : 18446744073709551616 ≤ magS N m D mode := by unfold magS; omega
      obtain ⟨e1, e2⟩ := K _ rfl
      have hno : ¬ (-9223372036854775808 ≤ signed m (magS N m D mode) ∧ signed m (magS N m D mode) ≤ 9223372036854775807) := by
        unfold signed; cases m <;> simp <;> omega
      rw [if_neg hno] at e1 e2
      subst e1 e2
      exact Div_big _ _ _ _ _ _ _ _ _ _ hb2 hd1 hd2 C1 C2 C3 hHn hHlt hLlt hD2 hgn w
    · have hgn' : N / 18446744073709551616 < D := by omega
      have C4 := Div64_any N D hgn' hD2
      have hql := q_lt N D hgn'
      have hrl : N % D < D := Nat.mod_lt _ hD0
      have hrl2 : N % D < 18446744073709551616 := by omega
      have qh := q_hi _ hql
      have ql := q_lo _ hql
      unfold magS at K
      obtain ⟨q, hq⟩ : ∃ q, q = N / D := ⟨_, rfl⟩
      obtain ⟨r, hr⟩ : ∃ r, r = N % D := ⟨_, rfl⟩
      rw [← hq, ← hr] at C4 K
      rw [← hq] at hql qh ql
      rw [← hr] at hrl hrl2
      clear hq hr
      have h0q : (0 : Int) ≤ q := Int.natCast_nonneg q
      cases m with
      | false =>
        have hss := bne_f hmm.symm
        by_cases h0 : r = 0
        · rw [h0, wmore_0] at K
          rw [h0] at C4
          obtain ⟨e1, e2⟩ := K (q : Int) (by simp [signed])
          have C6 := narrow_any (q : Int) (by omega) V E e1 e2
          rw [qh, ql] at C6
          exact Div_same_0 _ _ _ _ _ _ _ _ _ _ hb2 hd1 hd2 C1 C2 C3 hHn hHlt hLlt hD2 hgn' _ _ d1 rfl hss q r hql hrl2 V E C4 C6 w
        · have C5 := isUp_any mode (q : Int) (by omega) r D hrl hD2
          rw [more_same r D mode q h0 hrl hm h0q] at K
          rw [qh, ql] at C5
          cases hu : isUpS mode (q : Int) r D with
          | true =>
            rw [hu] at C5 K
            obtain ⟨e1, e2⟩ := K ((q : Int) + 1) (by simp [signed])
            have C6 := narrow_any ((q : Int) + 1) (by omega) V E e1 e2
            have C7 := next_any (q : Int) (by omega)
            rw [qh, ql] at C7
            exact Div_same_up _ _ _ _ _ _ _ _ _ _ hb2 hd1 hd2 C1 C2 C3 hHn hHlt hLlt hD2 hgn' _ _ d1 rfl hss q r hql hrl2 V E C4 h0 C5 _ _ C7 C6 w
          | false =>
            rw [hu] at C5 K
            obtain ⟨e1, e2⟩ := K (q : Int) (by simp [signed])
            have C6 := narrow_any (q : Int) (by omega) V E e1 e2
            rw [qh, ql] at C6
            exact Div_same_no _ _ _ _ _ _ _ _ _ _ hb2 hd1 hd2 C1 C2 C3 hHn hHlt hLlt hD2 hgn' _ _ d1 rfl hss q r hql hrl2 V E C4 h0 C5 C6 w
      | true =>
        have hss := bne_t hmm.symm
        by_cases h0 : r = 0
        · rw [h0, wmore_0] at K
          rw [h0] at C4
          obtain ⟨e1, e2⟩ := K (-(q : Int)) (by simp [signed])
          have C6 := narrow_any (-(q : Int)) (by omega) V E e1 e2
          have CT := turn_0 (q : Int) (by omega) D
          rw [qh, ql] at CT
          exact Div_diff_0 _ _ _ _ _ _ _ _ _ _ hb2 hd1 hd2 C1 C2 C3 hHn hHlt hLlt hD2 hgn' _ _ d1 rfl hss q r hql hrl2 V E C4 _ _ r CT C6 w
        · have C5 := isUp_any mode (-((q : Int) + 1)) (by omega) (D - r) D (by omega) hD2
          rw [more_diff r D mode (-((q : Int) + 1)) h0 hrl hm (by omega)] at K
          have CT := turn_1 (q : Int) (by omega) r D h0 hrl hD2
          rw [qh, ql] at CT
          have hR0 : D - r ≠ 0 := by omega
          cases hu : isUpS mode (-((q : Int) + 1)) (D - r) D with
          | true =>
            rw [hu] at C5 K
            obtain ⟨e1, e2⟩ := K (-((q : Int) + 1) + 1) (by simp [signed]; omega)
            have C6 := narrow_any (-((q : Int) + 1) + 1) (by omega) V E e1 e2
            have C7 := next_any (-((q : Int) + 1)) (by omega)
            exact Div_diff_up _ _ _ _ _ _ _ _ _ _ hb2 hd1 hd2 C1 C2 C3 hHn hHlt hLlt hD2 hgn' _ _ d1 rfl hss q r hql hrl2 V E C4 _ _ (D - r) CT hR0 C5 _ _ C7 C6 w
          | false =>
            rw [hu] at C5 K
            obtain ⟨e1, e2⟩ := K (-((q : Int) + 1)) (by simp [signed])
            have C6 := narrow_any (-((q : Int) + 1)) (by omega) V E e1 e2
            exact Div_diff_no _ _ _ _ _ _ _ _ _ _ hb2 hd1 hd2 C1 C2 C3 hHn hHlt hLlt hD2 hgn' _ _ d1 rfl hss q r hql hrl2 V E C4 _ _ (D - r) CT hR0 C5 C6 w
end Go.Proofs.YtallbegibdlpaaaGreat

/-
  Numbers of 128 bits: the quotient of a product, and a power of two.
-/
namespace Go.Proofs.YtallbegibdlpaaaGreat
open Go Go.RowKit Go.Th Go.Th.Wide

set_option maxRecDepth 20000 in
set_option maxHeartbeats 1600000 in
theorem MulDiv_any (a b c mode : Int) (ha : -9223372036854775808 ≤ a ∧ a ≤ 9223372036854775807) (hb : -9223372036854775808 ≤ b ∧ b ≤ 9223372036854775807) (hc : -9223372036854775808 ≤ c ∧ c ≤ 9223372036854775807)
    (hz : -170141183460469231731687303715884105728 ≤ a * b ∧ a * b < 170141183460469231731687303715884105728) (w : World) :
    Calls Tryz.prog 52 #[.int .i64 a, .int .i64 b, .int .i64 c, .int .i64 mode] w fun e w' =>
      e = .returned (.tuple #[.int .i64 (divV (a * b) c mode), .int .i64 (divE (a * b) c mode)]) ∧ Below w.heap.size w w' := by
  have C1 := Mul_any a b ha hb
  have C2 := Div_any (a * b) c mode hz hc
  obtain ⟨V, hV⟩ : ∃ V, V = divV (a * b) c mode := ⟨_, rfl⟩
  obtain ⟨E, hE⟩ : ∃ E, E = divE (a * b) c mode := ⟨_, rfl⟩
  obtain ⟨h, hh⟩ : ∃ h, h = hiZ (a * b) := ⟨_, rfl⟩
  obtain ⟨l, hl⟩ : ∃ l, l = loZ (a * b) := ⟨_, rfl⟩
  rw [← hV, ← hE] at C2 ⊢
  rw [← hh, ← hl] at C1 C2
  clear hV hE hh hl hz ha hb hc
  have M0 := Mem.start w
  go_enter Tryz.func52, Tryz.ntmps52
  go_wp2_with fail
  refine (C1 _).mono ?_
  rintro e w2 ⟨rfl, hBl⟩
  replace M0 := M0.call hBl
  clear hBl C1
  go_wp2_with fail
  refine (C2 _).mono ?_
  rintro e w2 ⟨rfl, hBl⟩
  replace M0 := M0.call hBl
  clear hBl C2
  go_wp2_with fail
  go_ret2
  exact ⟨rfl, M0.below⟩

set_option maxRecDepth 20000 in
set_option maxHeartbeats 1600000 in
theorem Shl_ok (h l n : Int) (hn : 0 ≤ n ∧ n ≤ 63) (k : Int) (hk : IntKind.i64.wrap (64 - n) = k) (hk2 : 0 ≤ k ∧ k ≤ 64) (H2 L2 : Int)
    (e1 : bits .or .i64 (IntKind.i64.wrap (h * 2 ^ n.toNat)) (IntKind.i64.wrap (l / 2 ^ k.toNat)) = H2) (e2 : IntKind.u64.wrap (l * 2 ^ n.toNat) = L2)
    (e3 : H2 / 2 ^ n.toNat = h) (e4 : bits .or .u64 (L2 / 2 ^ n.toNat) (IntKind.u64.wrap (IntKind.u64.wrap H2 * 2 ^ k.toNat)) = l) (w : World) :
    Calls Tryz.prog 91 #[.agg #[.int .i64 h, .int .u64 l], .int .i64 n] w fun e w' =>
      e = .returned (.tuple #[.agg #[.int .i64 H2, .int .u64 L2], .bool true]) ∧ Below w.heap.size w w' := by
  have hd : decide (n < 0) = false := by rw [decide_eq_false_iff_not]; omega
  have hd2 : decide (63 < n) = false := by rw [decide_eq_false_iff_not]; omega
  have b1 : (h == h) = true := by simp
  have b2 : (l == l) = true := by simp
  have M0 := Mem.start w
  go_enter Tryz.func91, Tryz.ntmps91
  go_wp2_with ((with_reducible refine (?_ : Go.wpList _ _ _ (_ :: _) _ _)); (first | go_skip | (refine wpL_bx M0 rfl rfl rfl rfl ?_; clear M0; intro g1 w1 M1) | (refine wpL_alc M0 rfl rfl ?_; clear M0; intro g1 w1 M1) | (refine wpL_ldc M0 rfl rfl rfl ?_) | (refine wpL_lgc M0 rfl rfl rfl ?_) | (refine wpL_stc M0 rfl rfl rfl rfl ?_; clear M0; intro w' M0) | (refine wpL_sti M0 rfl rfl rfl rfl ?_; clear M0; intro w' M0) | (refine wpL_bx M1 rfl rfl rfl rfl ?_; clear M1; intro g2 w2 M2) | (refine wpL_alc M1 rfl rfl ?_; clear M1; intro g2 w2 M2) | (refine wpL_ldc M1 rfl rfl rfl ?_) | (refine wpL_lgc M1 rfl rfl rfl ?_) | (refine wpL_stc M1 rfl rfl rfl rfl ?_; clear M1; intro w' M1) | (refine wpL_sti M1 rfl rfl rfl rfl ?_; clear M1; intro w' M1) | (refine wpL_ldc M2 rfl rfl rfl ?_) | (refine wpL_lgc M2 rfl rfl rfl ?_) | (refine wpL_stc M2 rfl rfl rfl rfl ?_; clear M2; intro w' M2) | (refine wpL_sti M2 rfl rfl rfl rfl ?_; clear M2; intro w' M2)))
  have M5 := M2.drew
  clear M2
  try dsimp only [Act.put]
  refine wp_region_held_drew (S := (fun w' : World => Mem w w' [(g1, 51, [.int .i64 h, .int .u64 l])])) (by kernel_rfl) ((M5.pick (by repeat (first | exact List.nil_sublist _ | apply List.Sublist.cons_cons | apply List.Sublist.cons)))) (fun hHeld => ?_)
  refine tkT 0 ?v9 ?hy9 hHeld ?rest9
  case hy9 => (intro w' hSw; (try dsimp only at hSw); go_simp; (try with_reducible rfl))
  try simp only [Act.put, puts]
  refine wpAnyH_take (i := 1) rfl (by kernel_rfl) (by kernel_rfl) (by kernel_rfl) (fun _ _ _ h => h) (yi_ld (fun _ h => ⟨_, h⟩) (by rfl) rfl rfl (by repeat (first | exact Has.head _ _ _ _ | apply Has.tail)) (by first | exact rd_w _ _ | exact rd_hi _ _ | exact rd_lo _ _ | assumption)) hHeld ?_
  try simp only [Act.put, puts]
  refine tkT 2 ?v11 ?hy11 hHeld ?rest11
  case hy11 => (intro w' hSw; (try dsimp only at hSw); go_simp; (try with_reducible rfl))
  try simp only [Act.put, puts]
  refine tkT 3 ?v12 ?hy12 hHeld ?rest12
  case hy12 => (intro w' hSw; (try dsimp only at hSw); go_simp; (try with_reducible rfl))
  try simp only [Act.put, puts]
  refine tkT 4 ?v13 ?hy13 hHeld ?rest13
  case hy13 => (intro w' hSw; (try dsimp only at hSw); go_simp; (try with_reducible rfl))
  try simp only [Act.put, puts]
  refine wpAnyH_take (i := 5) rfl (by kernel_rfl) (by kernel_rfl) (by kernel_rfl) (fun _ _ _ h => h) (yi_ld (fun _ h => ⟨_, h⟩) (by rfl) rfl rfl (by repeat (first | exact Has.head _ _ _ _ | apply Has.tail)) (by first | exact rd_w _ _ | exact rd_hi _ _ | exact rd_lo _ _ | assumption)) hHeld ?_
  try simp only [Act.put, puts]
  refine tkT 6 ?v15 ?hy15 hHeld ?rest15
  case hy15 => (intro w' hSw; (try dsimp only at hSw); go_simp; (try with_reducible rfl))
  try simp only [Act.put, puts]
  refine tkT 7 ?v16 ?hy16 hHeld ?rest16
  case hy16 => (intro w' hSw; (try dsimp only at hSw); go_simp; (try with_reducible rfl))
  try simp only [Act.put, puts]
  refine tkT 8 ?v17 ?hy17 hHeld ?rest17
  case hy17 => (intro w' hSw; (try dsimp only at hSw); go_simp; (try with_reducible rfl))
  try simp only [Act.put, puts]
  refine tkT 9 ?v18 ?hy18 hHeld ?rest18
  case hy18 => (intro w' hSw; (try dsimp only at hSw); go_simp; (try with_reducible rfl))
  try simp only [Act.put, puts]
  refine tkT 10 ?v19 ?hy19 hHeld ?rest19
  case hy19 => (intro w' hSw; (try dsimp only at hSw); go_simp; (try with_reducible rfl))
  try simp only [Act.put, puts]
  refine tkT 11 ?v20 ?hy20 hHeld ?rest20
  case hy20 => (intro w' hSw; (try dsimp only at hSw); go_simp; (try with_reducible rfl))
  try simp only [Act.put, puts]
  refine wpAnyH_take (i := 12) rfl (by kernel_rfl) (by kernel_rfl) (by kernel_rfl) (fun _ _ _ h => h) (yi_ld (fun _ h => ⟨_, h⟩) (by rfl) rfl rfl (by repeat (first | exact Has.head _ _ _ _ | apply Has.tail)) (by first | exact rd_w _ _ | exact rd_hi _ _ | exact rd_lo _ _ | assumption)) hHeld ?_
  try simp only [Act.put, puts]
  refine tkT 13 ?v22 ?hy22 hHeld ?rest22
  case hy22 => (intro w' hSw; (try dsimp only at hSw); go_simp; (try with_reducible rfl))
  try simp only [Act.put, puts]
  refine tkT 14 ?v23 ?hy23 hHeld ?rest23
  case hy23 => (intro w' hSw; (try dsimp only at hSw); go_simp; (try with_reducible rfl))
  try simp only [Act.put, puts]
  refine tkT 15 ?v24 ?hy24 hHeld ?rest24
  case hy24 => (intro w' hSw; (try dsimp only at hSw); go_simp; (try with_reducible rfl))
  try simp only [Act.put, puts]
  refine wpAnyH_ready (rs := [16]) (by kernel_rfl) (by simp) ?_
  refine AllReadyH.cons rfl (fun K hK => ?_) AllReadyH.nil
  rw [if_pos (by rfl)]
  refine wp_al M5 rfl zero25 rfl ?_
  clear M5
  intro g5 w5 M6
  refine hK.out _ _ (M6.pick (by repeat (first | exact List.nil_sublist _ | apply List.Sublist.cons_cons | apply List.Sublist.cons))) (fun hHeld => ?_)
  clear hK K
  try simp only [Act.put, puts]
  refine wpAnyH_ready (rs := [17]) (by kernel_rfl) (by simp) ?_
  refine AllReadyH.cons rfl (fun K hK => ?_) AllReadyH.nil
  rw [if_pos (by rfl)]
  refine wp_st M6 rfl rfl rfl (by repeat (first | exact Has.head _ _ _ _ | apply Has.tail)) (by first | exact wr_w _ rfl _ _ | exact wr_hi _ _ _ | assumption) (by repeat (first | exact Upd.head _ _ _ _ _ | apply Upd.tail)) ?_
  clear M6
  intro w2 M6
  refine hK.out _ _ (M6.pick (by repeat (first | exact List.nil_sublist _ | apply List.Sublist.cons_cons | apply List.Sublist.cons))) (fun hHeld => ?_)
  clear hK K
  try simp only [Act.put, puts]
  refine wpAnyH_done (by kernel_rfl) ?_ _
  go_wp2_with ((with_reducible refine (?_ : Go.wpList _ _ _ (_ :: _) _ _)); (first | go_skip | (refine wpL_ldc M6 rfl rfl rfl ?_) | (refine wpL_lgc M6 rfl rfl rfl ?_) | (refine wpL_stc M6 rfl rfl rfl rfl ?_; clear M6; intro w' M6) | (refine wpL_sti M6 rfl rfl rfl rfl ?_; clear M6; intro w' M6)))
  have M7 := M6.drew
  clear M6
  try dsimp only [Act.put]
  refine wp_region_held_drew (S := (fun w' : World => Mem w w' [(g5, 51, [.int .i64 H2, .int .u64 L2])])) (by kernel_rfl) ((M7.pick (by repeat (first | exact List.nil_sublist _ | apply List.Sublist.cons_cons | apply List.Sublist.cons)))) (fun hHeld => ?_)
  refine tkT 0 ?v27 ?hy27 hHeld ?rest27
  case hy27 => (intro w' hSw; (try dsimp only at hSw); go_simp; (try with_reducible rfl))
  try simp only [Act.put, puts]
  refine wpAnyH_take (i := 1) rfl (by kernel_rfl) (by kernel_rfl) (by kernel_rfl) (fun _ _ _ h => h) (yi_ld (fun _ h => ⟨_, h⟩) (by rfl) rfl rfl (by repeat (first | exact Has.head _ _ _ _ | apply Has.tail)) (by first | exact rd_w _ _ | exact rd_hi _ _ | exact rd_lo _ _ | assumption)) hHeld ?_
  try simp only [Act.put, puts]
  refine tkT 2 ?v29 ?hy29 hHeld ?rest29
  case hy29 => (intro w' hSw; (try dsimp only at hSw); go_simp; (try with_reducible rfl))
  try simp only [Act.put, puts]
  refine tkT 3 ?v30 ?hy30 hHeld ?rest30
  case hy30 => (intro w' hSw; (try dsimp only at hSw); go_simp; (try with_reducible rfl))
  try simp only [Act.put, puts]
  refine tkT 4 ?v31 ?hy31 hHeld ?rest31
  case hy31 => (intro w' hSw; (try dsimp only at hSw); go_simp; (try with_reducible rfl))
  try simp only [Act.put, puts]
  refine wpAnyH_take (i := 5) rfl (by kernel_rfl) (by kernel_rfl) (by kernel_rfl) (fun _ _ _ h => h) (yi_ld (fun _ h => ⟨_, h⟩) (by rfl) rfl rfl (by repeat (first | exact Has.head _ _ _ _ | apply Has.tail)) (by first | exact rd_w _ _ | exact rd_hi _ _ | exact rd_lo _ _ | assumption)) hHeld ?_
  try simp only [Act.put, puts]
  refine tkT 6 ?v33 ?hy33 hHeld ?rest33
  case hy33 => (intro w' hSw; (try dsimp only at hSw); go_simp; (try with_reducible rfl))
  try simp only [Act.put, puts]
  refine tkT 7 ?v34 ?hy34 hHeld ?rest34
  case hy34 => (intro w' hSw; (try dsimp only at hSw); go_simp; (try with_reducible rfl))
  try simp only [Act.put, puts]
  refine tkT 8 ?v35 ?hy35 hHeld ?rest35
  case hy35 => (intro w' hSw; (try dsimp only at hSw); go_simp; (try with_reducible rfl))
  try simp only [Act.put, puts]
  refine wpAnyH_take (i := 9) rfl (by kernel_rfl) (by kernel_rfl) (by kernel_rfl) (fun _ _ _ h => h) (yi_ld (fun _ h => ⟨_, h⟩) (by rfl) rfl rfl (by repeat (first | exact Has.head _ _ _ _ | apply Has.tail)) (by first | exact rd_w _ _ | exact rd_hi _ _ | exact rd_lo _ _ | assumption)) hHeld ?_
  try simp only [Act.put, puts]
  refine tkT 10 ?v37 ?hy37 hHeld ?rest37
  case hy37 => (intro w' hSw; (try dsimp only at hSw); go_simp; (try with_reducible rfl))
  try simp only [Act.put, puts]
  refine tkT 11 ?v38 ?hy38 hHeld ?rest38
  case hy38 => (intro w' hSw; (try dsimp only at hSw); go_simp; (try with_reducible rfl))
  try simp only [Act.put, puts]
  refine tkT 12 ?v39 ?hy39 hHeld ?rest39
  case hy39 => (intro w' hSw; (try dsimp only at hSw); go_simp; (try with_reducible rfl))
  try simp only [Act.put, puts]
  refine tkT 13 ?v40 ?hy40 hHeld ?rest40
  case hy40 => (intro w' hSw; (try dsimp only at hSw); go_simp; (try with_reducible rfl))
  try simp only [Act.put, puts]
  refine tkT 14 ?v41 ?hy41 hHeld ?rest41
  case hy41 => (intro w' hSw; (try dsimp only at hSw); go_simp; (try with_reducible rfl))
  try simp only [Act.put, puts]
  refine tkT 15 ?v42 ?hy42 hHeld ?rest42
  case hy42 => (intro w' hSw; (try dsimp only at hSw); go_simp; (try with_reducible rfl))
  try simp only [Act.put, puts]
  refine wpAnyH_ready (rs := [16]) (by kernel_rfl) (by simp) ?_
  refine AllReadyH.cons rfl (fun K hK => ?_) AllReadyH.nil
  rw [if_pos (by rfl)]
  refine wp_al M7 rfl zero25 rfl ?_
  clear M7
  intro g6 w6 M8
  refine hK.out _ _ (M8.pick (by repeat (first | exact List.nil_sublist _ | apply List.Sublist.cons_cons | apply List.Sublist.cons))) (fun hHeld => ?_)
  clear hK K
  try simp only [Act.put, puts]
  refine wpAnyH_ready (rs := [17]) (by kernel_rfl) (by simp) ?_
  refine AllReadyH.cons rfl (fun K hK => ?_) AllReadyH.nil
  rw [if_pos (by rfl)]
  refine wp_st M8 rfl rfl rfl (by repeat (first | exact Has.head _ _ _ _ | apply Has.tail)) (by first | exact wr_w _ rfl _ _ | exact wr_hi _ _ _ | assumption) (by repeat (first | exact Upd.head _ _ _ _ _ | apply Upd.tail)) ?_
  clear M8
  intro w2 M8
  refine hK.out _ _ (M8.pick (by repeat (first | exact List.nil_sublist _ | apply List.Sublist.cons_cons | apply List.Sublist.cons))) (fun hHeld => ?_)
  clear hK K
  try simp only [Act.put, puts]
  refine wpAnyH_done (by kernel_rfl) ?_ _
  go_wp2_with ((with_reducible refine (?_ : Go.wpList _ _ _ (_ :: _) _ _)); (first | go_skip | (refine wpL_ldc M8 rfl rfl rfl ?_) | (refine wpL_lgc M8 rfl rfl rfl ?_) | (refine wpL_stc M8 rfl rfl rfl rfl ?_; clear M8; intro w' M8) | (refine wpL_sti M8 rfl rfl rfl rfl ?_; clear M8; intro w' M8)))
  ((try simp only [Exit.inBlock, Exit.then]); refine bodyPost_ret (res_cell_tmp rfl M8 rfl (by repeat (first | exact Has.head _ _ _ _ | apply Has.tail)) (by first | exact rd_w _ _ | exact rd_hi _ _ | exact rd_lo _ _ | assumption) rfl) rfl ?_)
  exact ⟨rfl, M8.below⟩
end Go.Proofs.YtallbegibdlpaaaGreat

/-
  Quotients of numbers of 128 bits, rounded down, and to the nearer one: as those of whole numbers.
-/
namespace Go.Th.Wide
theorem ediv_is {z b k r : Int} (h : z = b * k + r) (h0 : 0 ≤ r) (h1 : r < b) : z / b = k :=
  ((Int.ediv_emod_unique (by omega)).2 ⟨show r + b * k = z by omega, h0, h1⟩).1
theorem divV_fit (m : Bool) (Q : Nat) (hr : -9223372036854775808 ≤ signed m Q ∧ signed m Q ≤ 9223372036854775807) : (if Q = 0 then 0 else if fitsS m Q 63 then signed m Q else 0) = signed m Q := by
  unfold fitsS
  by_cases h0 : Q = 0
  · subst h0; rw [if_pos rfl]; cases m <;> rfl
  · rw [if_neg h0]
    cases m
    · have e : signed false Q = (Q : Int) := rfl
      rw [e] at hr
      rw [if_pos]
      rw [Bool.or_eq_true, decide_eq_true_eq]; left
      show Q < 9223372036854775808
      omega
    · have e : signed true Q = -(Q : Int) := rfl
      rw [e] at hr
      rw [if_pos]
      rw [Bool.and_true, Bool.or_eq_true, decide_eq_true_eq, decide_eq_true_eq]
      show Q < 9223372036854775808 ∨ Q = 9223372036854775808
      omega
theorem mag_down (z : Int) (D : Nat) (hD : 0 < D) : signed (decide (z < 0) != decide ((D : Int) < 0)) (magS z.natAbs (decide (z < 0) != decide ((D : Int) < 0)) (D : Int).natAbs 0) = z / (D : Int) := by
  have e1 : decide ((D : Int) < 0) = false := decide_eq_false (by omega)
  rw [e1, Int.natAbs_natCast]
  have hm := Nat.div_add_mod z.natAbs D
  have hl := Nat.mod_lt z.natAbs hD
  unfold magS moreS
  obtain ⟨q, hq⟩ : ∃ q, q = z.natAbs / D := ⟨_, rfl⟩
  obtain ⟨r, hr⟩ : ∃ r, r = z.natAbs % D := ⟨_, rfl⟩
  rw [← hq, ← hr] at hm ⊢
  rw [← hr] at hl
  have hc : ((D * q : Nat) : Int) = (D : Int) * (q : Int) := Int.natCast_mul D q
  by_cases hz : z < 0
  · have e2 : decide (z < 0) = true := decide_eq_true hz
    rw [e2]
    by_cases h0 : r = 0
    · rw [if_pos (Or.inl h0)]
      show -((q + 0 : Nat) : Int) = _
      symm
      refine ediv_is (r := 0) ?_ (by omega) (by omega)
      rw [Nat.add_zero, Int.mul_neg]; omega
    · rw [if_neg (show ¬ (r = 0 ∨ (0 : Int) = 3) by omega), if_pos rfl]
      show -((q + 1 : Nat) : Int) = _
      symm
      refine ediv_is (r := (D : Int) - r) ?_ (by omega) (by omega)
      rw [Int.mul_neg]; push_cast; rw [Int.mul_add]; omega
  · have e2 : decide (z < 0) = false := decide_eq_false hz
    rw [e2]
    have e3 : (if (if r = 0 ∨ (0 : Int) = 3 then false else if (0 : Int) = 0 then (false != false) else if (0 : Int) = 1 then !(false != false) else decide (D < 2 * r) || (decide (2 * r = D) && !(false != false))) = true then (1 : Nat) else 0) = 0 := by split <;> simp_all
    rw [e3]
    show ((q + 0 : Nat) : Int) = _
    symm
    refine ediv_is (r := r) ?_ (by omega) (by omega)
    push_cast; rw [Int.mul_add]; omega
theorem divV_down (z b : Int) (hb : 0 < b) (hr : -9223372036854775808 ≤ z / b ∧ z / b ≤ 9223372036854775807) : divV z b 0 = z / b := by
  obtain ⟨D, rfl⟩ := Int.eq_ofNat_of_zero_le (Int.le_of_lt hb)
  have h := mag_down z D (by omega)
  rw [← h] at hr ⊢
  unfold divV
  rw [if_neg (show ¬ ((D : Int) = 0 ∨ (0 : Int) < 0 ∨ (3 : Int) < 0) by omega)]
  exact divV_fit _ _ hr
end Go.Th.Wide
