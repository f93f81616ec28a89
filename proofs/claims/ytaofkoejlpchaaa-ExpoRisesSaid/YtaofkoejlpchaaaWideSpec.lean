/-
  Numbers of bits, rounded quotients: plain.
-/
set_option linter.unusedVariables false
set_option linter.unusedSimpArgs false
namespace Go.Th.Wide

/-- The bit of a number. -/
def bt (n i : Nat) : Nat := n / 2 ^ i % 2
theorem bt_lt (n i : Nat) : bt n i < 2 := by unfold bt; omega
theorem bt_test (n i : Nat) : bt n i = (n.testBit i).toNat := (Nat.toNat_testBit n i).symm
theorem bt_mod (n k i : Nat) : bt (n % 2 ^ k) i = if i < k then bt n i else 0 := by
  rw [bt_test, bt_test, Nat.testBit_mod_two_pow]
  by_cases h : i < k <;> simp [h]
theorem bt_zero (i : Nat) : bt 0 i = 0 := by simp [bt]
theorem bt_inj {n m K : Nat} (hn : n < 2 ^ K) (hm : m < 2 ^ K) (h : ∀ i, i < K → bt n i = bt m i) : n = m := by
  apply Nat.eq_of_testBit_eq
  intro i
  by_cases hi : i < K
  · have := h i hi
    rw [bt_test, bt_test] at this
    cases h1 : n.testBit i <;> cases h2 : m.testBit i <;> simp_all
  · have e : ∀ x, x < 2 ^ K → x.testBit i = false := fun x hx => Nat.testBit_lt_two_pow (Nat.lt_of_lt_of_le hx (Nat.pow_le_pow_right (by decide) (by omega)))
    rw [e n hn, e m hm]
theorem bt_big {n i : Nat} (h : n < 2 ^ i) : bt n i = 0 := by unfold bt; rw [Nat.div_eq_of_lt h]
theorem mod_up (n i : Nat) : n % 2 ^ (i + 1) = n % 2 ^ i + 2 ^ i * bt n i := by
  rw [Nat.pow_succ, Nat.mod_mul]; rfl
theorem div_up (n i : Nat) : n / 2 ^ i = 2 * (n / 2 ^ (i + 1)) + bt n i := by
  unfold bt
  rw [Nat.pow_succ, ← Nat.div_div_eq_div_mul]
  omega
theorem div_succ (n i : Nat) : n / 2 ^ i / 2 = n / 2 ^ (i + 1) := by rw [Nat.pow_succ, Nat.div_div_eq_div_mul]
theorem mod_full {n i : Nat} (h : n / 2 ^ i = 0) : n % 2 ^ i = n := by
  have := Nat.div_add_mod n (2 ^ i)
  rw [h, Nat.mul_zero, Nat.zero_add] at this
  exact this

/-! ### added, taken off -/
def carry (a b i : Nat) : Nat := (a % 2 ^ i + b % 2 ^ i) / 2 ^ i
theorem carry_zero (a b : Nat) : carry a b 0 = 0 := by simp [carry, Nat.mod_one]
theorem carry_le (a b i : Nat) : carry a b i ≤ 1 := by
  have h0 : 0 < 2 ^ i := Nat.two_pow_pos i
  have h1 := Nat.mod_lt a h0
  have h2 := Nat.mod_lt b h0
  have : carry a b i < 2 := by unfold carry; rw [Nat.div_lt_iff_lt_mul h0]; omega
  omega
theorem carry_bit (a b i : Nat) : (bt a i + bt b i + carry a b i) % 2 = bt (a + b) i := by
  unfold bt carry
  have h0 : 0 < 2 ^ i := Nat.two_pow_pos i
  have e : (a + b) / 2 ^ i = a / 2 ^ i + b / 2 ^ i + (a % 2 ^ i + b % 2 ^ i) / 2 ^ i := by
    have ha := Nat.div_add_mod a (2 ^ i)
    have hb := Nat.div_add_mod b (2 ^ i)
    have : a + b = (a % 2 ^ i + b % 2 ^ i) + 2 ^ i * (a / 2 ^ i + b / 2 ^ i) := by rw [Nat.mul_add]; omega
    rw [this, Nat.add_mul_div_left _ _ h0]
    have e1 : (a % 2 ^ i + b % 2 ^ i + 2 ^ i * (a / 2 ^ i + b / 2 ^ i)) = a + b := this.symm
    omega
  rw [e]; omega
theorem carry_step (a b i : Nat) : (bt a i + bt b i + carry a b i) / 2 = carry a b (i + 1) := by
  have h0 : 0 < 2 ^ i := Nat.two_pow_pos i
  have e : carry a b (i + 1) = (a % 2 ^ i + b % 2 ^ i + 2 ^ i * (bt a i + bt b i)) / 2 ^ i / 2 := by
    unfold carry
    rw [mod_up, mod_up, Nat.pow_succ, ← Nat.div_div_eq_div_mul]
    congr 2
    rw [Nat.mul_add]; omega
  rw [e, Nat.add_mul_div_left _ _ h0]
  unfold carry
  congr 1
  omega

def borrow (a b i : Nat) : Nat := if a % 2 ^ i < b % 2 ^ i then 1 else 0
theorem borrow_zero (a b : Nat) : borrow a b 0 = 0 := by simp [borrow, Nat.mod_one]
theorem borrow_le (a b i : Nat) : borrow a b i ≤ 1 := by unfold borrow; split <;> omega
theorem sub_mod (a b i : Nat) (h : b ≤ a) : (a - b) % 2 ^ i + b % 2 ^ i = a % 2 ^ i + 2 ^ i * borrow a b i := by
  have h0 : 0 < 2 ^ i := Nat.two_pow_pos i
  have hx := Nat.mod_lt (a - b) h0
  have hy := Nat.mod_lt b h0
  have e : ((a - b) % 2 ^ i + b % 2 ^ i) % 2 ^ i = a % 2 ^ i := by rw [← Nat.add_mod, Nat.sub_add_cancel h]
  unfold borrow
  by_cases hl : (a - b) % 2 ^ i + b % 2 ^ i < 2 ^ i
  · rw [Nat.mod_eq_of_lt hl] at e
    rw [if_neg (by omega)]; omega
  · have e2 : ((a - b) % 2 ^ i + b % 2 ^ i) % 2 ^ i = (a - b) % 2 ^ i + b % 2 ^ i - 2 ^ i := by
      rw [Nat.mod_eq_sub_mod (by omega), Nat.mod_eq_of_lt (by omega)]
    rw [e2] at e
    rw [if_pos (by omega)]; omega
theorem borrow_step (a b i : Nat) (h : b ≤ a) : bt a i + 2 * borrow a b (i + 1) = bt (a - b) i + bt b i + borrow a b i := by
  have h0 : 0 < 2 ^ i := Nat.two_pow_pos i
  have e1 := sub_mod a b i h
  have e2 := sub_mod a b (i + 1) h
  rw [mod_up, mod_up, mod_up, Nat.pow_succ, Nat.mul_assoc] at e2
  have e3 : 2 ^ i * (bt a i + 2 * borrow a b (i + 1)) = 2 ^ i * (bt (a - b) i + bt b i + borrow a b i) := by
    simp only [Nat.mul_add] at *
    omega
  exact Nat.eq_of_mul_eq_mul_left h0 e3

/-! ### compared -/
theorem less_at {a b i : Nat} (h : a / 2 ^ (i + 1) = b / 2 ^ (i + 1)) (hne : bt a i ≠ bt b i) : (a < b) = (bt a i < bt b i) := by
  have h0 : 0 < 2 ^ i := Nat.two_pow_pos i
  have ea := div_up a i
  have eb := div_up b i
  have da := Nat.div_add_mod a (2 ^ i)
  have db := Nat.div_add_mod b (2 ^ i)
  have ma := Nat.mod_lt a h0
  have mb := Nat.mod_lt b h0
  have la := bt_lt a i
  have lb := bt_lt b i
  apply propext
  constructor
  · intro hl
    have : a / 2 ^ i ≤ b / 2 ^ i := Nat.div_le_div_right (Nat.le_of_lt hl)
    omega
  · intro hl
    have h1 : a / 2 ^ i + 1 ≤ b / 2 ^ i := by omega
    have h2 : 2 ^ i * (a / 2 ^ i + 1) ≤ 2 ^ i * (b / 2 ^ i) := Nat.mul_le_mul_left _ h1
    rw [Nat.mul_add, Nat.mul_one] at h2
    omega
theorem div_same {a b i : Nat} (h : a / 2 ^ (i + 1) = b / 2 ^ (i + 1)) (he : bt a i = bt b i) : a / 2 ^ i = b / 2 ^ i := by rw [div_up a i, div_up b i, h, he]

/-! ### divided -/
theorem div_round (A b bit : Nat) (hb : 0 < b) (hbit : bit < 2) :
    ((2 * A + bit) / b, (2 * A + bit) % b) = if 2 * (A % b) + bit < b then (2 * (A / b), 2 * (A % b) + bit) else (2 * (A / b) + 1, 2 * (A % b) + bit - b) := by
  have hd := Nat.div_add_mod A b
  have hm := Nat.mod_lt A hb
  split
  · rename_i hl
    have e : 2 * A + bit = (2 * (A % b) + bit) + b * (2 * (A / b)) := by
      rw [show b * (2 * (A / b)) = 2 * (b * (A / b)) by rw [Nat.mul_left_comm]]; omega
    rw [e, Nat.add_mul_div_left _ _ hb, Nat.add_mul_mod_self_left, Nat.div_eq_of_lt hl, Nat.mod_eq_of_lt hl]; simp
  · rename_i hl
    have hl2 : 2 * (A % b) + bit - b < b := by omega
    have e : 2 * A + bit = (2 * (A % b) + bit - b) + b * (2 * (A / b) + 1) := by
      rw [Nat.mul_add, Nat.mul_one, show b * (2 * (A / b)) = 2 * (b * (A / b)) by rw [Nat.mul_left_comm]]; omega
    rw [e, Nat.add_mul_div_left _ _ hb, Nat.add_mul_mod_self_left, Nat.div_eq_of_lt hl2, Nat.mod_eq_of_lt hl2]; simp

/-- Is the quotient's magnitude one more? -/
def moreS (r d : Nat) (minus : Bool) (mode : Int) : Bool :=
  if r = 0 ∨ mode = 3 then false else if mode = 0 then minus else if mode = 1 then !minus else decide (d < 2 * r) || (decide (2 * r = d) && !minus)
def fitsS (m : Bool) (n k : Nat) : Bool := decide (n < 2 ^ k) || (decide (n = 2 ^ k) && m)
/-- The magnitude of a rounded quotient. -/
def magS (N : Nat) (minus : Bool) (D : Nat) (mode : Int) : Nat := N / D + if moreS (N % D) D minus mode then 1 else 0
def signed (m : Bool) (n : Nat) : Int := if m then -(n : Int) else n
/-- A rounded quotient, and its code. -/
def divV (z b : Int) (mode : Int) : Int :=
  if b = 0 ∨ mode < 0 ∨ 3 < mode then 0 else
    let m := decide (z < 0) != decide (b < 0)
    let q := magS z.natAbs m b.natAbs mode
    if q = 0 then 0 else if fitsS m q 63 then signed m q else 0
def divE (z b : Int) (mode : Int) : Int :=
  if b = 0 ∨ mode < 0 ∨ 3 < mode then 1 else
    let m := decide (z < 0) != decide (b < 0)
    let q := magS z.natAbs m b.natAbs mode
    if q = 0 then 0 else if fitsS m q 63 then 0 else 10
end Go.Th.Wide
