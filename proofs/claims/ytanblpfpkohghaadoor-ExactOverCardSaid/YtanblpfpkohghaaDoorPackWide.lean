/-
  Texts in one: WideSpec, WideN, WideA, WideB, WideC, DivSpec, WideD, WideG, WideH, WideI, WideE, DivPlain.
-/
import Derived.Test.YtanblpfpkohghaaDoorRows
import Derived.Test.YtanblpfpkohghaaDoorPackBits
import Derived.Shelf.Spec.BitsCarry
import Derived.Lib.Mul64
import Derived.Laws.Bits64b
import Derived.Test.YtanblpfpkohghaaDoorLen
set_option linter.unusedVariables false
set_option linter.unusedSimpArgs false

/-
  Numbers of bits, rounded quotients: plain.
-/
namespace Go.Th.Wide

/-- The bit of a number. -/
def bt (n i : Nat) : Nat := n / 2 ^ i % 2
theorem bt_lt (n i : Nat) : bt n i < 2 := by unfold bt; omega
theorem bt_test (n i : Nat) : bt n i = (n.testBit i).toNat := (Nat.toNat_testBit n i).symm
theorem bt_mod (n k i : Nat) : bt (n % 2 ^ k) i = if i < k then bt n i else 0 := by
  rw [bt_test, bt_test, Nat.testBit_mod_two_pow]
  by_cases h : i < k <;> simp [h]
theorem bt_zero (i : Nat) : bt 0 i = 0 := by simp [bt]
theorem bt_inj {n m K : Nat} (hn : n < 2 ^ K) (hm : m < 2 ^ K) (h : ∀ i, i < K → bt n i = bt m i) : n = m := by
  apply Nat.eq_of_testBit_eq
  intro i
  by_cases hi : i < K
  · have := h i hi
    rw [bt_test, bt_test] at this
    cases h1 : n.testBit i <;> cases h2 : m.testBit i <;> simp_all
  · have e : ∀ x, x < 2 ^ K → x.testBit i = false := fun x hx => Nat.testBit_lt_two_pow (Nat.lt_of_lt_of_le hx (Nat.pow_le_pow_right (by decide) (by omega)))
    rw [e n hn, e m hm]
theorem bt_big {n i : Nat} (h : n < 2 ^ i) : bt n i = 0 := by unfold bt; rw [Nat.div_eq_of_lt h]
theorem mod_up (n i : Nat) : n % 2 ^ (i + 1) = n % 2 ^ i + 2 ^ i * bt n i := by
  rw [Nat.pow_succ, Nat.mod_mul]; rfl
theorem div_up (n i : Nat) : n / 2 ^ i = 2 * (n / 2 ^ (i + 1)) + bt n i := by
  unfold bt
  rw [Nat.pow_succ, ← Nat.div_div_eq_div_mul]
  omega
theorem div_succ (n i : Nat) : n / 2 ^ i / 2 = n / 2 ^ (i + 1) := by rw [Nat.pow_succ, Nat.div_div_eq_div_mul]
theorem mod_full {n i : Nat} (h : n / 2 ^ i = 0) : n % 2 ^ i = n := by
  have := Nat.div_add_mod n (2 ^ i)
  rw [h, Nat.mul_zero, Nat.zero_add] at this
  exact this

/-! ### added, taken off -/
def carry (a b i : Nat) : Nat := (a % 2 ^ i + b % 2 ^ i) / 2 ^ i
theorem carry_zero (a b : Nat) : carry a b 0 = 0 := by simp [carry, Nat.mod_one]
theorem carry_le (a b i : Nat) : carry a b i ≤ 1 := by
  have h0 : 0 < 2 ^ i := Nat.two_pow_pos i
  have h1 := Nat.mod_lt a h0
  have h2 := Nat.mod_lt b h0
  have : carry a b i < 2 := by unfold carry; rw [Nat.div_lt_iff_lt_mul h0]; omega
  omega
theorem carry_bit (a b i : Nat) : (bt a i + bt b i + carry a b i) % 2 = bt (a + b) i := by
  unfold bt carry
  have h0 : 0 < 2 ^ i := Nat.two_pow_pos i
  have e : (a + b) / 2 ^ i = a / 2 ^ i + b / 2 ^ i + (a % 2 ^ i + b % 2 ^ i) / 2 ^ i := by
    have ha := Nat.div_add_mod a (2 ^ i)
    have hb := Nat.div_add_mod b (2 ^ i)
    have : a + b = (a % 2 ^ i + b % 2 ^ i) + 2 ^ i * (a / 2 ^ i + b / 2 ^ i) := by rw [Nat.mul_add]; omega
    rw [this, Nat.add_mul_div_left _ _ h0]
    have e1 : (a % 2 ^ i + b % 2 ^ i + 2 ^ i * (a / 2 ^ i + b / 2 ^ i)) = a + b := this.symm
    omega
  rw [e]; omega
theorem carry_step (a b i : Nat) : (bt a i + bt b i + carry a b i) / 2 = carry a b (i + 1) := by
  have h0 : 0 < 2 ^ i := Nat.two_pow_pos i
  have e : carry a b (i + 1) = (a % 2 ^ i + b % 2 ^ i + 2 ^ i * (bt a i + bt b i)) / 2 ^ i / 2 := by
    unfold carry
    rw [mod_up, mod_up, Nat.pow_succ, ← Nat.div_div_eq_div_mul]
    congr 2
    rw [Nat.mul_add]; omega
  rw [e, Nat.add_mul_div_left _ _ h0]
  unfold carry
  congr 1
  omega

def borrow (a b i : Nat) : Nat := if a % 2 ^ i < b % 2 ^ i then 1 else 0
theorem borrow_zero (a b : Nat) : borrow a b 0 = 0 := by simp [borrow, Nat.mod_one]
theorem borrow_le (a b i : Nat) : borrow a b i ≤ 1 := by unfold borrow; split <;> omega
theorem sub_mod (a b i : Nat) (h : b ≤ a) : (a - b) % 2 ^ i + b % 2 ^ i = a % 2 ^ i + 2 ^ i * borrow a b i := by
  have h0 : 0 < 2 ^ i := Nat.two_pow_pos i
  have hx := Nat.mod_lt (a - b) h0
  have hy := Nat.mod_lt b h0
  have e : ((a - b) % 2 ^ i + b % 2 ^ i) % 2 ^ i = a % 2 ^ i := by rw [← Nat.add_mod, Nat.sub_add_cancel h]
  unfold borrow
  by_cases hl : (a - b) % 2 ^ i + b % 2 ^ i < 2 ^ i
  · rw [Nat.mod_eq_of_lt hl] at e
    rw [if_neg (by omega)]; omega
  · have e2 : ((a - b) % 2 ^ i + b % 2 ^ i) % 2 ^ i = (a - b) % 2 ^ i + b % 2 ^ i - 2 ^ i := by
      rw [Nat.mod_eq_sub_mod (by omega), Nat.mod_eq_of_lt (by omega)]
    rw [e2] at e
    rw [if_pos (by omega)]; omega
theorem borrow_step (a b i : Nat) (h : b ≤ a) : bt a i + 2 * borrow a b (i + 1) = bt (a - b) i + bt b i + borrow a b i := by
  have h0 : 0 < 2 ^ i := Nat.two_pow_pos i
  have e1 := sub_mod a b i h
  have e2 := sub_mod a b (i + 1) h
  rw [mod_up, mod_up, mod_up, Nat.pow_succ, Nat.mul_assoc] at e2
  have e3 : 2 ^ i * (bt a i + 2 * borrow a b (i + 1)) = 2 ^ i * (bt (a - b) i + bt b i + borrow a b i) := by
    simp only [Nat.mul_add] at *
    omega
  exact Nat.eq_of_mul_eq_mul_left h0 e3

/-! ### compared -/
theorem less_at {a b i : Nat} (h : a / 2 ^ (i + 1) = b / 2 ^ (i + 1)) (hne : bt a i ≠ bt b i) : (a < b) = (bt a i < bt b i) := by
  have h0 : 0 < 2 ^ i := Nat.two_pow_pos i
  have ea := div_up a i
  have eb := div_up b i
  have da := Nat.div_add_mod a (2 ^ i)
  have db := Nat.div_add_mod b (2 ^ i)
  have ma := Nat.mod_lt a h0
  have mb := Nat.mod_lt b h0
  have la := bt_lt a i
  have lb := bt_lt b i
  apply propext
  constructor
  · intro hl
    have : a / 2 ^ i ≤ b / 2 ^ i := Nat.div_le_div_right (Nat.le_of_lt hl)
    omega
  · intro hl
    have h1 : a / 2 ^ i + 1 ≤ b / 2 ^ i := by omega
    have h2 : 2 ^ i * (a / 2 ^ i + 1) ≤ 2 ^ i * (b / 2 ^ i) := Nat.mul_le_mul_left _ h1
    rw [Nat.mul_add, Nat.mul_one] at h2
    omega
theorem div_same {a b i : Nat} (h : a / 2 ^ (i + 1) = b / 2 ^ (i + 1)) (he : bt a i = bt b i) : a / 2 ^ i = b / 2 ^ i := by rw [div_up a i, div_up b i, h, he]

/-! ### divided -/
theorem div_round (A b bit : Nat) (hb : 0 < b) (hbit : bit < 2) :
    ((2 * A + bit) / b, (2 * A + bit) % b) = if 2 * (A % b) + bit < b then (2 * (A / b), 2 * (A % b) + bit) else (2 * (A / b) + 1, 2 * (A % b) + bit - b) := by
  have hd := Nat.div_add_mod A b
  have hm := Nat.mod_lt A hb
  split
  · rename_i hl
    have e : 2 * A + bit = (2 * (A % b) + bit) + b * (2 * (A / b)) := by
      rw [show b * (2 * (A / b)) = 2 * (b * (A / b)) by rw [Nat.mul_left_comm]]; omega
    rw [e, Nat.add_mul_div_left _ _ hb, Nat.add_mul_mod_self_left, Nat.div_eq_of_lt hl, Nat.mod_eq_of_lt hl]; simp
  · rename_i hl
    have hl2 : 2 * (A % b) + bit - b < b := by omega
    have e : 2 * A + bit = (2 * (A % b) + bit - b) + b * (2 * (A / b) + 1) := by
      rw [Nat.mul_add, Nat.mul_one, show b * (2 * (A / b)) = 2 * (b * (A / b)) by rw [Nat.mul_left_comm]]; omega
    rw [e, Nat.add_mul_div_left _ _ hb, Nat.add_mul_mod_self_left, Nat.div_eq_of_lt hl2, Nat.mod_eq_of_lt hl2]; simp

/-- Is the quotient's magnitude one more? -/
def moreS (r d : Nat) (minus : Bool) (mode : Int) : Bool :=
  if r = 0 ∨ mode = 3 then false else if mode = 0 then minus else if mode = 1 then !minus else decide (d < 2 * r) || (decide (2 * r = d) && !minus)
def fitsS (m : Bool) (n k : Nat) : Bool := decide (n < 2 ^ k) || (decide (n = 2 ^ k) && m)
/-- The magnitude of a rounded quotient. -/
def magS (N : Nat) (minus : Bool) (D : Nat) (mode : Int) : Nat := N / D + if moreS (N % D) D minus mode then 1 else 0
def signed (m : Bool) (n : Nat) : Int := if m then -(n : Int) else n
/-- A rounded quotient, and its code. -/
def divV (z b : Int) (mode : Int) : Int :=
  if b = 0 ∨ mode < 0 ∨ 3 < mode then 0 else
    let m := decide (z < 0) != decide (b < 0)
    let q := magS z.natAbs m b.natAbs mode
    if q = 0 then 0 else if fitsS m q 63 then signed m q else 0
def divE (z b : Int) (mode : Int) : Int :=
  if b = 0 ∨ mode < 0 ∨ 3 < mode then 1 else
    let m := decide (z < 0) != decide (b < 0)
    let q := magS z.natAbs m b.natAbs mode
    if q = 0 then 0 else if fitsS m q 63 then 0 else 10
end Go.Th.Wide

/-
  Numbers of 128 bits, as values; reading and writing them.
-/
namespace Go.Proofs.YtanblpfpkohghaaDoor
open Go Go.RowKit Go.Th Go.Th.Wide

def hiZ (z : Int) : Int := z / 18446744073709551616
def loZ (z : Int) : Int := z % 18446744073709551616

theorem size2 : (Tryd.prog.info? 2).map (·.size) = some 1 := by kernel_rfl
theorem rd_hi (h l : Int) : Rd Tryd.prog 2 0 [.int .i64 h, .int .u64 l] (.int .i64 h) := Rd.one Tryd.underlying2 rfl rfl
theorem rd_lo (h l : Int) : Rd Tryd.prog 55 1 [.int .i64 h, .int .u64 l] (.int .u64 l) := Rd.one Tryd.underlying55 rfl rfl
theorem wr_hi (h l h' : Int) : Wr Tryd.prog 2 0 [.int .i64 h, .int .u64 l] (.int .i64 h') [.int .i64 h', .int .u64 l] := by
  constructor
  intro w g t hb
  have hc := hb.cell (i := 0) (u := .int .i64 h) rfl
  have hf := hb.free 0
  have e : w.setCell ⟨g, 0, none⟩ (.int .i64 h') = w.setRow g [Value.int .i64 h', .int .u64 l].toArray := by
    rw [setCell_eq_setRow w g 0 _ t (0, 0) _ hb]
    congr 1
  cases hq : Tryd.prog.info? 2 with
  | none => have := size2; simp [hq] at this
  | some j =>
    have hz : j.size = 1 := by have := size2; simpa [hq] using this
    rw [← e]
    have hst := run_store Tryd.prog w ⟨g, 0, none⟩ (.int .i64 h') .plain rfl
    rw [hc] at hst
    simp only [hf, Bool.false_eq_true, if_false] at hst
    simp [storeVar, sizeOf, typeInfo, hq, hz, Value.cells, storeCells, hst, add_none]
theorem ret_agg {h l h' l' : Int} (e1 : h = h') (e2 : l = l') : Ending.returned (.agg #[.int .i64 h, .int .u64 l]) = Ending.returned (.agg #[.int .i64 h', .int .u64 l']) := by rw [e1, e2]

instance bI64 : BsI Tryd.prog 2 := ⟨fun h => Rd.one Tryd.underlying2 rfl h⟩
instance bU64 : BsI Tryd.prog 55 := ⟨fun h => Rd.one Tryd.underlying55 rfl h⟩
instance bInt : BsI Tryd.prog 3 := ⟨fun h => Rd.one Tryd.underlying3 rfl h⟩
instance bBool : BsI Tryd.prog 4 := ⟨fun h => Rd.one Tryd.underlying4 rfl h⟩
instance kI64 : SzI Tryd.prog 2 1 := ⟨size2⟩
end Go.Proofs.YtanblpfpkohghaaDoor

/-
  Numbers of 128 bits: of one of 64, the sign turned, the sum, which is greater.
-/
namespace Go.Proofs.YtanblpfpkohghaaDoor
open Go Go.RowKit Go.Th Go.Th.Wide

/-- 0 less a number: what is left, and whether one was borrowed. -/
def bor (y : Int) : Int := if y = 0 then 0 else 1
def addF (h l h' l' : Int) : Prop := -9223372036854775808 ≤ h + h' + (l + l') / 18446744073709551616 ∧ h + h' + (l + l') / 18446744073709551616 ≤ 9223372036854775807
theorem ret_aggb {h l h' l' : Int} {b b' : Bool} (e1 : h = h') (e2 : l = l') (e3 : b = b') : Ending.returned (.tuple #[.agg #[.int .i64 h, .int .u64 l], .bool b]) = Ending.returned (.tuple #[.agg #[.int .i64 h', .int .u64 l'], .bool b']) := by rw [e1, e2, e3]

end Go.Proofs.YtanblpfpkohghaaDoor

/-
  Numbers of 128 bits: which is greater, the sign, the next one, without the sign.
-/
namespace Go.Proofs.YtanblpfpkohghaaDoor
open Go Go.RowKit Go.Th Go.Th.Wide

def cmpZ (a b : Int) : Int := if a < b then -1 else if a = b then 0 else 1

end Go.Proofs.YtanblpfpkohghaaDoor

/-
  Numbers of 128 bits: the product.
-/
namespace Go.Proofs.YtanblpfpkohghaaDoor
open Go Go.RowKit Go.Th Go.Th.Wide

theorem low32 (a : Nat) (ha : a < 18446744073709551616) : bits .and .u64 (a : Int) 4294967295 = ((a % 4294967296 : Nat) : Int) := by
  have h := bits_and_u64_nat a 4294967295 ha (by omega)
  have e : a &&& 4294967295 = a % 4294967296 := Nat.and_two_pow_sub_one_eq_mod a 32
  rw [e] at h
  exact h
theorem high32 (a : Nat) : (a : Int) / 4294967296 = ((a / 4294967296 : Nat) : Int) := by omega
theorem times (a b : Nat) : (a : Int) * (b : Int) = ((a * b : Nat) : Int) := (Int.natCast_mul a b).symm
theorem plus (a b : Nat) : (a : Int) + (b : Int) = ((a + b : Nat) : Int) := (Int.natCast_add a b).symm
theorem held (a : Nat) (ha : a < 18446744073709551616) : IntKind.u64.wrap (a : Int) = (a : Int) := by rw [IntKind.wrap_u64]; omega
theorem turnedW (a : Nat) : IntKind.u64.wrap (a : Int) = ((a % 18446744073709551616 : Nat) : Int) := by rw [IntKind.wrap_u64]; omega

/-- The product's upper half: by the factors as words without a sign. -/
theorem mul_hi (a b : Int) (ha : -9223372036854775808 ≤ a ∧ a ≤ 9223372036854775807) (hb : -9223372036854775808 ≤ b ∧ b ≤ 9223372036854775807) (A B : Nat)
    (hA : (A : Int) = a % 18446744073709551616) (hB : (B : Int) = b % 18446744073709551616) :
    wrap64 (((A * B / 18446744073709551616 : Nat) : Int) - (if a < 0 then b else 0) - (if b < 0 then a else 0)) = a * b / 18446744073709551616 ∧
      ((A * B % 18446744073709551616 : Nat) : Int) = a * b % 18446744073709551616 := by
  have ea : (A : Int) = a + 18446744073709551616 * (if a < 0 then 1 else 0) := by split <;> omega
  have eb : (B : Int) = b + 18446744073709551616 * (if b < 0 then 1 else 0) := by split <;> omega
  have hp : ((A * B : Nat) : Int) = a * b + 18446744073709551616 * ((if a < 0 then b else 0) + (if b < 0 then a else 0)) + 18446744073709551616 * (18446744073709551616 * (if a < 0 ∧ b < 0 then 1 else 0)) := by
    rw [Int.natCast_mul, ea, eb]
    by_cases h1 : a < 0 <;> by_cases h2 : b < 0
    · simp only [h1, h2, if_true, and_self]; rw [Int.add_mul, Int.mul_add]; omega
    · simp only [h1, h2, if_true, if_false, and_false]; rw [Int.add_mul, Int.mul_add]; omega
    · simp only [h1, h2, if_true, if_false, false_and]; rw [Int.add_mul, Int.mul_add]; omega
    · simp only [h1, h2, if_false, false_and]; rw [Int.add_mul, Int.mul_add]; omega
  have bnd : -85070591730234615865843651857942052864 ≤ a * b ∧ a * b ≤ 85070591730234615865843651857942052864 := by
    have h := Nat.mul_le_mul (show a.natAbs ≤ 9223372036854775808 by omega) (show b.natAbs ≤ 9223372036854775808 by omega)
    rw [← Int.natAbs_mul] at h
    omega
  generalize a * b = p at *
  generalize A * B = P at *
  simp only [wrap64]
  refine ⟨?_, ?_⟩
  · by_cases h1 : a < 0 <;> by_cases h2 : b < 0 <;> simp only [h1, h2, if_true, if_false, and_self, and_false, false_and] at hp ⊢ <;> omega
  · by_cases h1 : a < 0 <;> by_cases h2 : b < 0 <;> simp only [h1, h2, if_true, if_false, and_self, and_false, false_and] at hp ⊢ <;> omega

theorem wrap_sub (x y : Int) : wrap64 (wrap64 x - y) = wrap64 (x - y) := by simp only [wrap64]; omega
end Go.Proofs.YtanblpfpkohghaaDoor

/-
  A number of two words divided by one, as the library does it: plain.
-/
namespace Go.Th.Wide

/-- One digit of the quotient: what is tried is not too small; where the test says it is too great, it is. -/
theorem digit_more {U u0 y1 y0 q r : Nat} (hq : q * y1 + r = U) (h : q * y0 > 4294967296 * r + u0) (D : Nat) (hD : D = (U * 4294967296 + u0) / (y1 * 4294967296 + y0)) (hy : 0 < y1) : D + 1 ≤ q := by
  have hY : 0 < y1 * 4294967296 + y0 := by omega
  have h2 : U * 4294967296 + u0 < q * (y1 * 4294967296 + y0) := by
    rw [Nat.mul_add, ← Nat.mul_assoc]
    omega
  have h3 : D * (y1 * 4294967296 + y0) ≤ U * 4294967296 + u0 := by rw [hD]; exact Nat.div_mul_le_self _ _
  rcases Nat.lt_or_ge D q with h4 | h4
  · exact h4
  · have := Nat.mul_le_mul_right (y1 * 4294967296 + y0) h4
    omega
/-- Where the test says it is not, it is the digit. -/
theorem digit_done {U u0 y1 y0 q r D : Nat} (hq : q * y1 + r = U) (h : q * y0 ≤ 4294967296 * r + u0) (hD : D = (U * 4294967296 + u0) / (y1 * 4294967296 + y0)) (hy : 0 < y1) (hle : D ≤ q) : q = D := by
  have hY : 0 < y1 * 4294967296 + y0 := by omega
  have h2 : q * (y1 * 4294967296 + y0) ≤ U * 4294967296 + u0 := by
    rw [Nat.mul_add, ← Nat.mul_assoc]
    omega
  have h3 : q ≤ D := by rw [hD, Nat.le_div_iff_mul_le hY]; exact h2
  omega
/-- The first trial. -/
theorem digit_first {U u0 y1 y0 D : Nat} (hD : D = (U * 4294967296 + u0) / (y1 * 4294967296 + y0)) (hu : u0 < 4294967296) (hy : 0 < y1) : D ≤ U / y1 := by
  have hY : 0 < y1 * 4294967296 + y0 := by omega
  have h3 : D * (y1 * 4294967296 + y0) ≤ U * 4294967296 + u0 := by rw [hD]; exact Nat.div_mul_le_self _ _
  rw [Nat.le_div_iff_mul_le hy]
  rw [Nat.mul_add, ← Nat.mul_assoc] at h3
  omega
/-- The digit is one. -/
theorem digit_lt {U u0 y1 y0 D : Nat} (hD : D = (U * 4294967296 + u0) / (y1 * 4294967296 + y0)) (hu : u0 < 4294967296) (hU : U < y1 * 4294967296 + y0) : D < 4294967296 := by
  rw [hD, Nat.div_lt_iff_lt_mul (by omega)]
  omega
/-- Where the rest is a digit or more, so is nothing left to try. -/
theorem digit_big {U y1 y0 q r : Nat} (hq : q * y1 + r = U) (hr : 4294967296 ≤ r) (hU : U < y1 * 4294967296 + y0) (hy0 : y0 < 4294967296) : q < 4294967296 := by
  rcases Nat.lt_or_ge q 4294967296 with h | h
  · exact h
  · have := Nat.mul_le_mul_right y1 h
    omega
theorem digit_small {q y0 : Nat} (hq : q < 4294967296) (hy0 : y0 < 4294967296) : q * y0 < 18446744073709551616 := Nat.lt_of_le_of_lt (Nat.mul_le_mul (show q ≤ 4294967295 by omega) (show y0 ≤ 4294967295 by omega)) (by decide)
/-- One trial less. -/
theorem digit_next {U y1 q r : Nat} (hq : q * y1 + r = U) (h : 0 < q) : (q - 1) * y1 + (r + y1) = U := by
  obtain ⟨p, rfl⟩ : ∃ p, q = p + 1 := ⟨q - 1, by omega⟩
  rw [Nat.add_mul, Nat.one_mul] at hq
  rw [Nat.add_sub_cancel]
  omega
/-- What is left. -/
theorem left_plain (A u0 P R Y : Nat) (h : P + R = A + u0) (hR : R < Y) (hY : Y < 18446744073709551616) :
    ((A % 18446744073709551616 + u0) % 18446744073709551616 + 18446744073709551616 - P % 18446744073709551616) % 18446744073709551616 = R := by omega
theorem digit_left {U u0 Y D : Nat} (hD : D = (U * 4294967296 + u0) / Y) (hY : 0 < Y) (hlt : Y < 18446744073709551616) :
    ((U * 4294967296 % 18446744073709551616 + u0) % 18446744073709551616 + 18446744073709551616 - D * Y % 18446744073709551616) % 18446744073709551616 = (U * 4294967296 + u0) % Y := by
  have h1 := Nat.div_add_mod (U * 4294967296 + u0) Y
  rw [← hD, Nat.mul_comm] at h1
  exact left_plain _ _ _ _ Y h1 (Nat.mod_lt _ hY) hlt
/-- Both digits. -/
theorem two_digits (U u1 u0 Y : Nat) (hY : 0 < Y) (h0 : u0 < 4294967296) :
    (U * 4294967296 + u1) / Y * 4294967296 + ((U * 4294967296 + u1) % Y * 4294967296 + u0) / Y = (U * 18446744073709551616 + (u1 * 4294967296 + u0)) / Y ∧
      ((U * 4294967296 + u1) % Y * 4294967296 + u0) % Y = (U * 18446744073709551616 + (u1 * 4294967296 + u0)) % Y := by
  have h1 := Nat.div_add_mod (U * 4294967296 + u1) Y
  have e : U * 18446744073709551616 + (u1 * 4294967296 + u0) = ((U * 4294967296 + u1) % Y * 4294967296 + u0) + Y * ((U * 4294967296 + u1) / Y * 4294967296) := by
    rw [← Nat.mul_assoc]
    generalize Y * ((U * 4294967296 + u1) / Y) = P at *
    omega
  rw [e, Nat.add_mul_div_left _ _ hY, Nat.add_mul_mod_self_left]
  exact ⟨Nat.add_comm _ _, rfl⟩
/-- Shifted by as much, the quotient is the same, and the rest as much greater. -/
theorem shifted (N y s : Nat) : N * 2 ^ s / (y * 2 ^ s) = N / y ∧ N * 2 ^ s % (y * 2 ^ s) / 2 ^ s = N % y := by
  have h := Nat.two_pow_pos s
  exact ⟨Nat.mul_div_mul_right _ _ h, by rw [Nat.mul_mod_mul_right, Nat.mul_div_cancel _ h]⟩
end Go.Th.Wide

/-
  The library's quotient of a number of two words.
-/
namespace Go.Proofs.YtanblpfpkohghaaDoor
open Go Go.RowKit Go.Th Go.Th.Wide

theorem bitLen_most (x : Nat) (h : x < 18446744073709551616) (h0 : x ≠ 0) : 1 ≤ Lib.bitLen x ∧ Lib.bitLen x ≤ 64 ∧ 2 ^ (Lib.bitLen x - 1) ≤ x ∧ x < 2 ^ Lib.bitLen x := by
  have key : ∀ n x, x < 2 ^ n → n ≤ 64 → x ≠ 0 → 1 ≤ Lib.bitLen x ∧ 2 ^ (Lib.bitLen x - 1) ≤ x ∧ x < 2 ^ Lib.bitLen x := by
    intro n
    induction n with
    | zero => intro x hx _ h0; simp at hx; exact absurd hx h0
    | succ n ih =>
      intro x hx hn h0
      rw [Nat.pow_succ] at hx
      have hx64 : x < 2 ^ 64 := by
        have := Nat.pow_le_pow_right (n := 2) (by decide) (show n + 1 ≤ 64 by omega)
        rw [Nat.pow_succ] at this
        omega
      rw [Lib.bitLen_half x h0 hx64]
      by_cases h2 : x / 2 = 0
      · have : x = 1 := by omega
        subst this
        decide
      · obtain ⟨a, b, c⟩ := ih (x / 2) (by omega) (by omega) h2
        refine ⟨by omega, ?_, ?_⟩
        · rw [show 1 + Lib.bitLen (x / 2) - 1 = (Lib.bitLen (x / 2) - 1) + 1 by omega, Nat.pow_succ]; omega
        · rw [Nat.add_comm, Nat.pow_succ]; omega
  obtain ⟨a, b, c⟩ := key 64 x h (by decide) h0
  exact ⟨a, Lib.bitLen_le x 64 (by decide) h, b, c⟩

theorem ret_two {k k' : IntKind} {a b a' b' : Int} (h : a = a') (h' : b = b') : Ending.returned (.tuple #[.int k a, .int k' b]) = Ending.returned (.tuple #[.int k a', .int k' b']) := by rw [h, h']
theorem shift_two (hi lo y s : Nat) (hs : s ≤ 63) (hlo : lo < 18446744073709551616) (hlt : hi < y) (hY : y * 2 ^ s < 18446744073709551616) :
    bits BinOp.or IntKind.u64 (IntKind.u64.wrap ((hi : Int) * 2 ^ s)) ((lo : Int) / 2 ^ (64 - s)) = ((hi * 2 ^ s + lo / 2 ^ (64 - s) : Nat) : Int) ∧
      IntKind.u64.wrap ((lo : Int) * 2 ^ s) = ((lo * 2 ^ s % 18446744073709551616 : Nat) : Int) ∧
      (hi * 18446744073709551616 + lo) * 2 ^ s = (hi * 2 ^ s + lo / 2 ^ (64 - s)) * 18446744073709551616 + lo * 2 ^ s % 18446744073709551616 := by
  have hp : 2 ^ s * 2 ^ (64 - s) = 18446744073709551616 := by rw [← Nat.pow_add, show s + (64 - s) = 64 by omega]
  have hH : hi * 2 ^ s < 18446744073709551616 := Nat.lt_of_le_of_lt (Nat.mul_le_mul_right _ (Nat.le_of_lt hlt)) hY
  have hL : lo / 2 ^ (64 - s) < 2 ^ s := by rw [Nat.div_lt_iff_lt_mul (Nat.two_pow_pos _), hp]; exact hlo
  have hLow : lo * 2 ^ s % 18446744073709551616 = lo % 2 ^ (64 - s) * 2 ^ s := by rw [← hp, Nat.mul_comm (2 ^ s), Nat.mul_mod_mul_right]
  refine ⟨?_, ?_, ?_⟩
  · have e1 : IntKind.u64.wrap ((hi : Int) * 2 ^ s) = ((hi * 2 ^ s : Nat) : Int) := by
      rw [show (hi : Int) * 2 ^ s = ((hi * 2 ^ s : Nat) : Int) by simp]; exact held _ hH
    have e2 : (lo : Int) / 2 ^ (64 - s) = ((lo / 2 ^ (64 - s) : Nat) : Int) := by simp
    rw [e1, e2, bits_or_u64_nat _ _ hH (Nat.lt_of_lt_of_le hL (by have := Nat.pow_le_pow_right (n := 2) (by decide) (show s ≤ 64 by omega); omega))]
    rw [Nat.mul_comm hi, Nat.two_pow_add_eq_or_of_lt hL]
  · rw [show (lo : Int) * 2 ^ s = ((lo * 2 ^ s : Nat) : Int) by simp]; exact turnedW _
  · rw [hLow, Nat.add_mul, Nat.add_mul, Nat.mul_right_comm]
    have h := Nat.div_add_mod lo (2 ^ (64 - s))
    have h2 : lo * 2 ^ s = lo / 2 ^ (64 - s) * 18446744073709551616 + lo % 2 ^ (64 - s) * 2 ^ s := by
      conv => lhs; rw [← h, Nat.add_mul, Nat.mul_comm (2 ^ (64 - s)), Nat.mul_assoc, Nat.mul_comm (2 ^ (64 - s)), hp]
    omega
theorem shift_less (hi lo y s : Nat) (hs : s ≤ 63) (hlo : lo < 18446744073709551616) (hlt : hi < y) : hi * 2 ^ s + lo / 2 ^ (64 - s) < y * 2 ^ s := by
  have hp : 2 ^ s * 2 ^ (64 - s) = 18446744073709551616 := by rw [← Nat.pow_add, show s + (64 - s) = 64 by omega]
  have hL : lo / 2 ^ (64 - s) < 2 ^ s := by rw [Nat.div_lt_iff_lt_mul (Nat.two_pow_pos _), hp]; exact hlo
  have h := Nat.mul_le_mul_right (2 ^ s) (show hi + 1 ≤ y from hlt)
  rw [Nat.add_mul, Nat.one_mul] at h
  omega

end Go.Proofs.YtanblpfpkohghaaDoor

/-
  Numbers of 128 bits: turned, rounded up, made narrow.
-/
namespace Go.Proofs.YtanblpfpkohghaaDoor
open Go Go.RowKit Go.Th Go.Th.Wide

theorem ret_aggu {h l h' l' : Int} {b b' : Int} (e1 : h = h') (e2 : l = l') (e3 : b = b') : Ending.returned (.tuple #[.agg #[.int .i64 h, .int .u64 l], .int .u64 b]) = Ending.returned (.tuple #[.agg #[.int .i64 h', .int .u64 l'], .int .u64 b']) := by rw [e1, e2, e3]

def isUpS (mode X : Int) (r d : Nat) : Bool := if mode = 1 then true else if mode = 2 then decide (d - r ≤ r) else if mode = 3 then decide (X < 0) else false
end Go.Proofs.YtanblpfpkohghaaDoor

/-
  Numbers of 128 bits: the rounded quotient.
-/
namespace Go.Proofs.YtanblpfpkohghaaDoor
open Go Go.RowKit Go.Th Go.Th.Wide

theorem bne_t {a b : Bool} (h : (a != b) = true) : (a == b) = false := by cases a <;> cases b <;> first | rfl | cases h
theorem bne_f {a b : Bool} (h : (a != b) = false) : (a == b) = true := by cases a <;> cases b <;> first | rfl | cases h


end Go.Proofs.YtanblpfpkohghaaDoor

/-
  Numbers of 128 bits: the rounded quotient, whole.
-/
namespace Go.Proofs.YtanblpfpkohghaaDoor
open Go Go.RowKit Go.Th Go.Th.Wide

theorem n_hi (N : Nat) (h : N ≤ 170141183460469231731687303715884105728) : IntKind.u64.wrap (wrap64 ((N : Int) / 18446744073709551616)) = ((N / 18446744073709551616 : Nat) : Int) := by
  rw [IntKind.wrap_u64]; simp only [wrap64]; omega
theorem n_lo (N : Nat) : (N : Int) % 18446744073709551616 = ((N % 18446744073709551616 : Nat) : Int) := by omega
theorem q_hi (q : Nat) (h : q < 18446744073709551616) : hiZ (q : Int) = 0 := by unfold hiZ; omega
theorem q_lo (q : Nat) (h : q < 18446744073709551616) : loZ (q : Int) = (q : Int) := by unfold loZ; omega
theorem hi_neg (z : Int) : decide (hiZ z < 0) = decide (z < 0) := by unfold hiZ; rw [decide_eq_decide]; omega
theorem q_lt (N D : Nat) (h : N / 18446744073709551616 < D) : N / D < 18446744073709551616 := by
  have hD : 0 < D := by omega
  rw [Nat.div_lt_iff_lt_mul hD]; omega
theorem q_ge (N D : Nat) (hD : 0 < D) (h : D ≤ N / 18446744073709551616) : 18446744073709551616 ≤ N / D := by
  rw [Nat.le_div_iff_mul_le hD]; omega

theorem wmore_0 (d : Nat) (m : Bool) (mode : Int) : moreS 0 d m mode = false := by simp [moreS]
theorem more_same (r d : Nat) (mode q : Int) (hr : r ≠ 0) (hd : r < d) (hm : 0 ≤ mode ∧ mode ≤ 3) (hq : 0 ≤ q) : moreS r d false mode = isUpS mode q r d := by
  unfold moreS isUpS
  have e : mode = 0 ∨ mode = 1 ∨ mode = 2 ∨ mode = 3 := by omega
  rcases e with rfl | rfl | rfl | rfl
  · simp [hr]
  · simp [hr]
  · simp [hr]
    rw [← Bool.decide_or]
    apply decide_eq_decide.mpr
    omega
  · simp; omega
theorem more_diff (r d : Nat) (mode X : Int) (hr : r ≠ 0) (hd : r < d) (hm : 0 ≤ mode ∧ mode ≤ 3) (hX : X < 0) : moreS r d true mode = !isUpS mode X (d - r) d := by
  unfold moreS isUpS
  have e : mode = 0 ∨ mode = 1 ∨ mode = 2 ∨ mode = 3 := by omega
  rcases e with rfl | rfl | rfl | rfl
  · simp [hr]
  · simp [hr]
  · simp [hr]
    rw [Bool.eq_iff_iff]
    simp
    omega
  · simp; exact hX

theorem signed_t (Q : Nat) : signed true Q = -(Q : Int) := rfl
theorem signed_f (Q : Nat) : signed false Q = (Q : Int) := rfl
theorem fits_t (Q : Nat) : fitsS true Q 63 = decide (Q ≤ 9223372036854775808) := by unfold fitsS; rw [Bool.and_true, ← Bool.decide_or]; exact decide_eq_decide.mpr (by omega)
theorem fits_f (Q : Nat) : fitsS false Q 63 = decide (Q < 9223372036854775808) := by unfold fitsS; rw [Bool.and_false, Bool.or_false]
theorem divV_fits (m : Bool) (Q : Nat) : (if Q = 0 then 0 else if fitsS m Q 63 then signed m Q else 0) = if -9223372036854775808 ≤ signed m Q ∧ signed m Q ≤ 9223372036854775807 then signed m Q else 0 := by
  cases m
  · rw [signed_f, fits_f]
    by_cases h0 : Q = 0
    · subst h0; simp
    · by_cases h1 : Q < 9223372036854775808
      · rw [if_neg h0, if_pos (decide_eq_true h1), if_pos (by omega)]
      · rw [if_neg h0, if_neg (by rw [decide_eq_true_eq]; exact h1), if_neg (by omega)]
  · rw [signed_t, fits_t]
    by_cases h0 : Q = 0
    · subst h0; simp
    · by_cases h1 : Q ≤ 9223372036854775808
      · rw [if_neg h0, if_pos (decide_eq_true h1), if_pos (by omega)]
      · rw [if_neg h0, if_neg (by rw [decide_eq_true_eq]; exact h1), if_neg (by omega)]
theorem divE_fits (m : Bool) (Q : Nat) : (if Q = 0 then (0 : Int) else if fitsS m Q 63 then 0 else 10) = if -9223372036854775808 ≤ signed m Q ∧ signed m Q ≤ 9223372036854775807 then 0 else 10 := by
  cases m
  · rw [signed_f, fits_f]
    by_cases h0 : Q = 0
    · subst h0; simp
    · by_cases h1 : Q < 9223372036854775808
      · rw [if_neg h0, if_pos (decide_eq_true h1), if_pos (by omega)]
      · rw [if_neg h0, if_neg (by rw [decide_eq_true_eq]; exact h1), if_neg (by omega)]
  · rw [signed_t, fits_t]
    by_cases h0 : Q = 0
    · subst h0; simp
    · by_cases h1 : Q ≤ 9223372036854775808
      · rw [if_neg h0, if_pos (decide_eq_true h1), if_pos (by omega)]
      · rw [if_neg h0, if_neg (by rw [decide_eq_true_eq]; exact h1), if_neg (by omega)]

/-- The two answers of the rounded quotient, told of the rounded number. -/
theorem divVE (z b mode : Int) (ha : ¬ (b = 0 ∨ mode < 0 ∨ 3 < mode)) (m : Bool) (hm : m = (decide (z < 0) != decide (b < 0))) (X : Int) (hX : X = signed m (magS z.natAbs m b.natAbs mode)) :
    divV z b mode = (if -9223372036854775808 ≤ X ∧ X ≤ 9223372036854775807 then X else 0) ∧ divE z b mode = (if -9223372036854775808 ≤ X ∧ X ≤ 9223372036854775807 then 0 else 10) := by
  subst hX hm
  unfold divV divE
  rw [if_neg ha, if_neg ha]
  exact ⟨divV_fits _ _, divE_fits _ _⟩

theorem decide_no {p : Prop} [Decidable p] (h : ¬ p) : decide p = false := decide_eq_false h
theorem beq_no (b : Int) (h : b ≠ 0) : (b == 0) = false := by rw [beq_eq_false_iff_ne]; exact h

end Go.Proofs.YtanblpfpkohghaaDoor

/-
  Numbers of 128 bits: the quotient of a product, and a power of two.
-/
namespace Go.Proofs.YtanblpfpkohghaaDoor
open Go Go.RowKit Go.Th Go.Th.Wide

end Go.Proofs.YtanblpfpkohghaaDoor

/-
  Quotients of numbers of 128 bits, rounded down, and to the nearer one: as those of whole numbers.
-/
namespace Go.Th.Wide
theorem ediv_is {z b k r : Int} (h : z = b * k + r) (h0 : 0 ≤ r) (h1 : r < b) : z / b = k :=
  ((Int.ediv_emod_unique (by omega)).2 ⟨show r + b * k = z by omega, h0, h1⟩).1
theorem divV_fit (m : Bool) (Q : Nat) (hr : -9223372036854775808 ≤ signed m Q ∧ signed m Q ≤ 9223372036854775807) : (if Q = 0 then 0 else if fitsS m Q 63 then signed m Q else 0) = signed m Q := by
  unfold fitsS
  by_cases h0 : Q = 0
  · subst h0; rw [if_pos rfl]; cases m <;> rfl
  · rw [if_neg h0]
    cases m
    · have e : signed false Q = (Q : Int) := rfl
      rw [e] at hr
      rw [if_pos]
      rw [Bool.or_eq_true, decide_eq_true_eq]; left
      show Q < 9223372036854775808
      omega
    · have e : signed true Q = -(Q : Int) := rfl
      rw [e] at hr
      rw [if_pos]
      rw [Bool.and_true, Bool.or_eq_true, decide_eq_true_eq, decide_eq_true_eq]
      show Q < 9223372036854775808 ∨ Q = 9223372036854775808
      omega
theorem divE_fit (m : Bool) (Q : Nat) (hr : -9223372036854775808 ≤ signed m Q ∧ signed m Q ≤ 9223372036854775807) : (if Q = 0 then (0 : Int) else if fitsS m Q 63 then 0 else 10) = 0 := by
  unfold fitsS
  by_cases h0 : Q = 0
  · rw [if_pos h0]
  · rw [if_neg h0]
    cases m
    · have e : signed false Q = (Q : Int) := rfl
      rw [e] at hr
      rw [if_pos]
      rw [Bool.or_eq_true, decide_eq_true_eq]; left
      show Q < 9223372036854775808
      omega
    · have e : signed true Q = -(Q : Int) := rfl
      rw [e] at hr
      rw [if_pos]
      rw [Bool.and_true, Bool.or_eq_true, decide_eq_true_eq, decide_eq_true_eq]
      show Q < 9223372036854775808 ∨ Q = 9223372036854775808
      omega
theorem mag_down (z : Int) (D : Nat) (hD : 0 < D) : signed (decide (z < 0) != decide ((D : Int) < 0)) (magS z.natAbs (decide (z < 0) != decide ((D : Int) < 0)) (D : Int).natAbs 0) = z / (D : Int) := by
  have e1 : decide ((D : Int) < 0) = false := decide_eq_false (by omega)
  rw [e1, Int.natAbs_natCast]
  have hm := Nat.div_add_mod z.natAbs D
  have hl := Nat.mod_lt z.natAbs hD
  unfold magS moreS
  obtain ⟨q, hq⟩ : ∃ q, q = z.natAbs / D := ⟨_, rfl⟩
  obtain ⟨r, hr⟩ : ∃ r, r = z.natAbs % D := ⟨_, rfl⟩
  rw [← hq, ← hr] at hm ⊢
  rw [← hr] at hl
  have hc : ((D * q : Nat) : Int) = (D : Int) * (q : Int) := Int.natCast_mul D q
  by_cases hz : z < 0
  · have e2 : decide (z < 0) = true := decide_eq_true hz
    rw [e2]
    by_cases h0 : r = 0
    · rw [if_pos (Or.inl h0)]
      show -((q + 0 : Nat) : Int) = _
      symm
      refine ediv_is (r := 0) ?_ (by omega) (by omega)
      rw [Nat.add_zero, Int.mul_neg]; omega
    · rw [if_neg (show ¬ (r = 0 ∨ (0 : Int) = 3) by omega), if_pos rfl]
      show -((q + 1 : Nat) : Int) = _
      symm
      refine ediv_is (r := (D : Int) - r) ?_ (by omega) (by omega)
      rw [Int.mul_neg]; push_cast; rw [Int.mul_add]; omega
  · have e2 : decide (z < 0) = false := decide_eq_false hz
    rw [e2]
    have e3 : (if (if r = 0 ∨ (0 : Int) = 3 then false else if (0 : Int) = 0 then (false != false) else if (0 : Int) = 1 then !(false != false) else decide (D < 2 * r) || (decide (2 * r = D) && !(false != false))) = true then (1 : Nat) else 0) = 0 := by split <;> simp_all
    rw [e3]
    show ((q + 0 : Nat) : Int) = _
    symm
    refine ediv_is (r := r) ?_ (by omega) (by omega)
    push_cast; rw [Int.mul_add]; omega
theorem mag_near (z : Int) (D : Nat) (hD : 0 < D) : signed (decide (z < 0) != decide ((D : Int) < 0)) (magS z.natAbs (decide (z < 0) != decide ((D : Int) < 0)) (D : Int).natAbs 2) = (2 * z + (D : Int)) / (2 * (D : Int)) := by
  have e1 : decide ((D : Int) < 0) = false := decide_eq_false (by omega)
  rw [e1, Int.natAbs_natCast]
  have hm := Nat.div_add_mod z.natAbs D
  have hl := Nat.mod_lt z.natAbs hD
  unfold magS moreS
  obtain ⟨q, hq⟩ : ∃ q, q = z.natAbs / D := ⟨_, rfl⟩
  obtain ⟨r, hr⟩ : ∃ r, r = z.natAbs % D := ⟨_, rfl⟩
  rw [← hq, ← hr] at hm ⊢
  rw [← hr] at hl
  have hc : ((D * q : Nat) : Int) = (D : Int) * (q : Int) := Int.natCast_mul D q
  have e4 : ∀ k : Int, 2 * (D : Int) * k = 2 * ((D : Int) * k) := fun k => Int.mul_assoc _ _ _
  rw [if_neg (show ¬ (2 : Int) = 0 by decide), if_neg (show ¬ (2 : Int) = 1 by decide)]
  by_cases hz : z < 0
  · have e2 : decide (z < 0) = true := decide_eq_true hz
    rw [e2]
    by_cases h0 : D < 2 * r
    · rw [if_neg (show ¬ (r = 0 ∨ (2 : Int) = 3) by omega), if_pos (by simp [h0])]
      show -((q + 1 : Nat) : Int) = _
      symm
      refine ediv_is (r := 3 * (D : Int) - 2 * r) ?_ (by omega) (by omega)
      rw [e4, Int.mul_neg]; push_cast; rw [Int.mul_add]; omega
    · have e3 : (if (if r = 0 ∨ (2 : Int) = 3 then false else decide (D < 2 * r) || (decide (2 * r = D) && !(true != false))) = true then (1 : Nat) else 0) = 0 := by
        rw [if_neg]; split
        · simp
        · simp [h0]
      rw [e3]
      show -((q + 0 : Nat) : Int) = _
      symm
      refine ediv_is (r := (D : Int) - 2 * r) ?_ (by omega) (by omega)
      rw [e4, Int.mul_neg]; push_cast; rw [Int.mul_add]; omega
  · have e2 : decide (z < 0) = false := decide_eq_false hz
    rw [e2]
    by_cases h0 : D ≤ 2 * r
    · rw [if_neg (show ¬ (r = 0 ∨ (2 : Int) = 3) by omega), if_pos (by simp; omega)]
      show ((q + 1 : Nat) : Int) = _
      symm
      refine ediv_is (r := 2 * (r : Int) - D) ?_ (by omega) (by omega)
      rw [e4]; push_cast; rw [Int.mul_add]; omega
    · have e3 : (if (if r = 0 ∨ (2 : Int) = 3 then false else decide (D < 2 * r) || (decide (2 * r = D) && !(false != false))) = true then (1 : Nat) else 0) = 0 := by
        rw [if_neg]; split
        · simp
        · simp; omega
      rw [e3]
      show ((q + 0 : Nat) : Int) = _
      symm
      refine ediv_is (r := 2 * (r : Int) + D) ?_ (by omega) (by omega)
      rw [e4]; push_cast; rw [Int.mul_add]; omega
theorem divV_down (z b : Int) (hb : 0 < b) (hr : -9223372036854775808 ≤ z / b ∧ z / b ≤ 9223372036854775807) : divV z b 0 = z / b := by
  obtain ⟨D, rfl⟩ := Int.eq_ofNat_of_zero_le (Int.le_of_lt hb)
  have h := mag_down z D (by omega)
  rw [← h] at hr ⊢
  unfold divV
  rw [if_neg (show ¬ ((D : Int) = 0 ∨ (0 : Int) < 0 ∨ (3 : Int) < 0) by omega)]
  exact divV_fit _ _ hr
theorem divV_near (z b : Int) (hb : 0 < b) (hr : -9223372036854775808 ≤ (2 * z + b) / (2 * b) ∧ (2 * z + b) / (2 * b) ≤ 9223372036854775807) : divV z b 2 = (2 * z + b) / (2 * b) ∧ divE z b 2 = 0 := by
  obtain ⟨D, rfl⟩ := Int.eq_ofNat_of_zero_le (Int.le_of_lt hb)
  have h := mag_near z D (by omega)
  rw [← h] at hr ⊢
  unfold divV divE
  rw [if_neg (show ¬ ((D : Int) = 0 ∨ (2 : Int) < 0 ∨ (3 : Int) < 2) by omega), if_neg (show ¬ ((D : Int) = 0 ∨ (2 : Int) < 0 ∨ (3 : Int) < 2) by omega)]
  exact ⟨divV_fit _ _ hr, divE_fit _ _ hr⟩
end Go.Th.Wide
