/-
  Sums over a square: plain.
-/
import Derived.Test.YtlkjcamjgaecgaaGreatPackRoot
set_option linter.unusedVariables false
set_option linter.unusedSimpArgs false
namespace Go.Th

def sumTo (f : Nat → Int) : Nat → Int
  | 0 => 0
  | k + 1 => sumTo f k + f k
theorem sumTo_congr {f g : Nat → Int} : ∀ k : Nat, (∀ i, i < k → f i = g i) → sumTo f k = sumTo g k
  | 0, _ => rfl
  | k + 1, h => by rw [sumTo, sumTo, sumTo_congr k (fun i hi => h i (by omega)), h k (by omega)]
theorem sumTo_zero : ∀ k : Nat, sumTo (fun _ => 0) k = 0
  | 0 => rfl
  | k + 1 => by rw [sumTo, sumTo_zero k]; rfl
theorem sumTo_add (f g : Nat → Int) : ∀ k : Nat, sumTo (fun i => f i + g i) k = sumTo f k + sumTo g k
  | 0 => rfl
  | k + 1 => by rw [sumTo, sumTo, sumTo, sumTo_add f g k]; omega
theorem sumTo_mul (c : Int) (f : Nat → Int) : ∀ k : Nat, sumTo (fun i => c * f i) k = c * sumTo f k
  | 0 => by simp [sumTo]
  | k + 1 => by rw [sumTo, sumTo, sumTo_mul c f k, Int.mul_add]
theorem sumTo_swap (g : Nat → Nat → Int) (m : Nat) : ∀ k : Nat, sumTo (fun j => sumTo (fun i => g i j) m) k = sumTo (fun i => sumTo (fun j => g i j) k) m
  | 0 => by rw [show sumTo (fun i => sumTo (fun j => g i j) 0) m = sumTo (fun _ => 0) m from rfl, sumTo_zero]; rfl
  | k + 1 => by
    rw [sumTo, sumTo_swap g m k]
    rw [show sumTo (fun i => sumTo (fun j => g i j) (k + 1)) m = sumTo (fun i => sumTo (fun j => g i j) k + g i k) m from rfl, sumTo_add]
theorem sumTo_rng {f : Nat → Int} {B : Int} : ∀ k : Nat, (∀ i, i < k → -B ≤ f i ∧ f i ≤ B) → -(B * (k : Int)) ≤ sumTo f k ∧ sumTo f k ≤ B * (k : Int)
  | 0, _ => by simp [sumTo]
  | k + 1, h => by
    have ih := sumTo_rng k (fun i hi => h i (by omega))
    have := h k (by omega)
    rw [sumTo]
    push_cast
    rw [Int.mul_add]
    omega

/-- The sum over so many rows, column by column in each. -/
def rect (w : Int → Int → Int) (x y : Int) (m k : Nat) : Int := sumTo (fun j => sumTo (fun i => w (x + (i : Nat)) (y + (j : Nat))) m) k
/-- The sum over so many columns, row by row in each. -/
def rectC (w : Int → Int → Int) (x y : Int) (m k : Nat) : Int := sumTo (fun i => sumTo (fun j => w (x + (i : Nat)) (y + (j : Nat))) m) k
/-- So many rows, and of the next one so many columns. -/
def rpart (w : Int → Int → Int) (x y : Int) (m j i : Nat) : Int := rect w x y m j + sumTo (fun i => w (x + (i : Nat)) (y + (j : Nat))) i
def rpartC (w : Int → Int → Int) (x y : Int) (m i j : Nat) : Int := rectC w x y m i + sumTo (fun j => w (x + (i : Nat)) (y + (j : Nat))) j
theorem rect_swap (w : Int → Int → Int) (x y : Int) (m : Nat) : rect w x y m m = rectC w x y m m := sumTo_swap (fun i j => w (x + (i : Nat)) (y + (j : Nat))) m m
theorem rpart_0 (w : Int → Int → Int) (x y : Int) (m j : Nat) : rpart w x y m j 0 = rect w x y m j := by unfold rpart; rw [sumTo]; omega
theorem rpart_m (w : Int → Int → Int) (x y : Int) (m j : Nat) : rpart w x y m j m = rect w x y m (j + 1) := rfl
theorem rpart_next (w : Int → Int → Int) (x y : Int) (m j i : Nat) : rpart w x y m j (i + 1) = rpart w x y m j i + w (x + (i : Nat)) (y + (j : Nat)) := by unfold rpart; rw [sumTo]; omega
theorem rpartC_0 (w : Int → Int → Int) (x y : Int) (m j : Nat) : rpartC w x y m j 0 = rectC w x y m j := by unfold rpartC; rw [sumTo]; omega
theorem rpartC_m (w : Int → Int → Int) (x y : Int) (m j : Nat) : rpartC w x y m j m = rectC w x y m (j + 1) := rfl
theorem rpartC_next (w : Int → Int → Int) (x y : Int) (m i j : Nat) : rpartC w x y m i (j + 1) = rpartC w x y m i j + w (x + (i : Nat)) (y + (j : Nat)) := by unfold rpartC; rw [sumTo]; omega
theorem rect_rng {w : Int → Int → Int} {B : Int} (hB : 0 ≤ B) (h : ∀ c r, -B ≤ w c r ∧ w c r ≤ B) (x y : Int) {m k : Nat} (hm : m ≤ 17) (hk : k ≤ 17) : -(B * 289) ≤ rect w x y m k ∧ rect w x y m k ≤ B * 289 := by
  have h1 : ∀ j, -(B * 17) ≤ sumTo (fun i => w (x + (i : Nat)) (y + (j : Nat))) m ∧ sumTo (fun i => w (x + (i : Nat)) (y + (j : Nat))) m ≤ B * 17 := by
    intro j
    have := sumTo_rng (B := B) (f := fun i => w (x + (i : Nat)) (y + (j : Nat))) m (fun i _ => h _ _)
    have h2 : B * (m : Int) ≤ B * 17 := Int.mul_le_mul_of_nonneg_left (by omega) hB
    omega
  have h3 := sumTo_rng (B := B * 17) (f := fun j => sumTo (fun i => w (x + (i : Nat)) (y + (j : Nat))) m) k (fun j _ => h1 j)
  have h4 : B * 17 * (k : Int) ≤ B * 17 * 17 := Int.mul_le_mul_of_nonneg_left (by omega) (by omega)
  unfold rect
  omega
theorem rpart_rng2 {w : Int → Int → Int} {B : Int} (hB : 0 ≤ B) (h : ∀ c r, -B ≤ w c r ∧ w c r ≤ B) (x y : Int) {m j i : Nat} (hm : m ≤ 17) (hj : j ≤ 17) (hi : i ≤ 17) : -(B * 306) ≤ rpart w x y m j i ∧ rpart w x y m j i ≤ B * 306 := by
  have h1 := rect_rng hB h x y hm hj
  have h2 := sumTo_rng (B := B) (f := fun i => w (x + (i : Nat)) (y + (j : Nat))) i (fun i _ => h _ _)
  have h3 : B * (i : Int) ≤ B * 17 := Int.mul_le_mul_of_nonneg_left (by omega) hB
  unfold rpart
  omega
theorem rpartC_rng2 {w : Int → Int → Int} {B : Int} (hB : 0 ≤ B) (h : ∀ c r, -B ≤ w c r ∧ w c r ≤ B) (x y : Int) {m j i : Nat} (hm : m ≤ 17) (hj : j ≤ 17) (hi : i ≤ 17) : -(B * 306) ≤ rpartC w x y m i j ∧ rpartC w x y m i j ≤ B * 306 := by
  have h1 := rect_rng (w := fun c r => w r c) hB (fun c r => h r c) y x hm hi
  have e : rect (fun c r => w r c) y x m i = rectC w x y m i := rfl
  rw [e] at h1
  have h2 := sumTo_rng (B := B) (f := fun j => w (x + (i : Nat)) (y + (j : Nat))) j (fun i _ => h _ _)
  have h3 : B * (j : Int) ≤ B * 17 := Int.mul_le_mul_of_nonneg_left (by omega) hB
  unfold rpartC
  omega
theorem rect_lin (w v : Int → Int → Int) (u : Int) (x y : Int) (m k : Nat) : rect (fun c r => w c r + u * v c r) x y m k = rect w x y m k + u * rect v x y m k := by
  unfold rect
  rw [← sumTo_mul, ← sumTo_add]
  refine sumTo_congr k (fun j _ => ?_)
  rw [← sumTo_mul, ← sumTo_add]
theorem rect_congr {w v : Int → Int → Int} (h : ∀ c r, w c r = v c r) (x y : Int) (m k : Nat) : rect w x y m k = rect v x y m k := by
  have : w = v := funext fun c => funext fun r => h c r
  rw [this]

/-! ### Lists -/
def lsum : List Int → Int
  | [] => 0
  | z :: r => z + lsum r
def lsq : List Int → Int
  | [] => 0
  | z :: r => z * z + lsq r
theorem lsum_app (l : List Int) (z : Int) : lsum (l ++ [z]) = lsum l + z := by
  induction l with
  | nil => simp [lsum]
  | cons y r ih => rw [List.cons_append, lsum, ih, lsum]; omega
theorem lsq_app (l : List Int) (z : Int) : lsq (l ++ [z]) = lsq l + z * z := by
  induction l with
  | nil => simp [lsq]
  | cons y r ih => rw [List.cons_append, lsq, ih, lsq]; omega

/-- How far heights are from their middle. -/
def rough (n s q : Int) : Int × Int := if n = 0 then (0, 0) else (((Go.Th.Root.rt 2 (((256 * (n * q - s * s)).tdiv (n * n)) % 18446744073709551616).toNat : Nat) : Int), n)
theorem rough_shift (n s q u : Int) : n * (q + 2 * u * s + u * u * n) - (s + u * n) * (s + u * n) = n * q - s * s := by
  have e1 : n * (q + 2 * u * s + u * u * n) = n * q + 2 * (u * (n * s)) + (u * n) * (u * n) := by
    rw [Int.mul_add, Int.mul_add]
    have a : n * (2 * u * s) = 2 * (u * (n * s)) := by rw [Int.mul_assoc 2 u s, Int.mul_left_comm n 2, Int.mul_left_comm n u s]
    have b : n * (u * u * n) = (u * n) * (u * n) := by ac_rfl
    rw [a, b]
  have e2 : (s + u * n) * (s + u * n) = s * s + 2 * (u * (n * s)) + (u * n) * (u * n) := by
    rw [Int.add_mul, Int.mul_add, Int.mul_add]
    have a : s * (u * n) = u * (n * s) := by rw [Int.mul_left_comm, Int.mul_comm s n]
    have b : u * n * s = u * (n * s) := Int.mul_assoc _ _ _
    rw [a, b]; omega
  omega
end Go.Th
