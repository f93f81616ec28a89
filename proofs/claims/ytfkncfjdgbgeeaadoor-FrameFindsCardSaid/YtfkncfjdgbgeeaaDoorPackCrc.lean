/-
  Texts in one: CrcSpec, CrcA, CrcB, CrcC, BitsNum.
-/
import Derived.Test.YtfkncfjdgbgeeaaDoorPackBits
import Derived.Outline
import Derived.Lib.AppendZerosOnto
import Derived.Deep.RegionHeld3
import Derived.Deep.QuietTactic
import Derived.BigQuiet
import Derived.Lib.Hide
import Derived.WalkSpells
set_option linter.unusedVariables false
set_option linter.unusedSimpArgs false

/-
  Sums of 32 bits: plain.
-/
namespace Go.Th.Crc

/-- The step of a register, of a bit that is 0. -/
def s1 (r : Nat) : Nat := (r / 2) ^^^ (if r % 2 = 1 then 3988292384 else 0)
def sk : Nat → Nat → Nat
  | 0, r => r
  | n + 1, r => sk n (s1 r)

theorem s1_lt {r : Nat} (h : r < 4294967296) : s1 r < 4294967296 := by
  unfold s1
  have : ∀ p, p < 4294967296 → r / 2 ^^^ p < 4294967296 := fun p hp => Nat.xor_lt_two_pow (n := 32) (by omega) hp
  split <;> exact this _ (by decide)

theorem xor_half (a b : Nat) : (a ^^^ b) / 2 = a / 2 ^^^ b / 2 := by
  apply Nat.eq_of_testBit_eq; intro i
  simp [Nat.testBit_div_two, Nat.testBit_xor]
theorem xor_mod2 (a b : Nat) : (a ^^^ b) % 2 = (a % 2 + b % 2) % 2 := by
  have h := Nat.testBit_xor a b 0
  simp only [Nat.testBit_zero] at h
  have h1 : (a ^^^ b) % 2 = 0 ∨ (a ^^^ b) % 2 = 1 := by omega
  have h2 : a % 2 = 0 ∨ a % 2 = 1 := by omega
  have h3 : b % 2 = 0 ∨ b % 2 = 1 := by omega
  rcases h1 with h1 | h1 <;> rcases h2 with h2 | h2 <;> rcases h3 with h3 | h3 <;> simp [h1, h2, h3] at h ⊢

theorem xor4 (a b c d : Nat) : (a ^^^ b) ^^^ (c ^^^ d) = (a ^^^ c) ^^^ (b ^^^ d) := by
  rw [Nat.xor_assoc, Nat.xor_assoc]
  congr 1
  rw [← Nat.xor_assoc, ← Nat.xor_assoc, Nat.xor_comm b c]

theorem s1_xor (a b : Nat) : s1 (a ^^^ b) = s1 a ^^^ s1 b := by
  unfold s1
  rw [xor4, xor_half]
  congr 1
  rw [xor_mod2]
  have h2 : a % 2 = 0 ∨ a % 2 = 1 := by omega
  have h3 : b % 2 = 0 ∨ b % 2 = 1 := by omega
  rcases h2 with h2 | h2 <;> rcases h3 with h3 | h3 <;> simp [h2, h3]

theorem s1_zero : s1 0 = 0 := by decide
theorem s1_double (z : Nat) : s1 (2 * z) = z := by
  unfold s1
  have h1 : 2 * z / 2 = z := by omega
  have h2 : ¬ (2 * z % 2 = 1) := by omega
  rw [h1, if_neg h2, Nat.xor_zero]

theorem s1_inj0 {r : Nat} (h : r < 4294967296) (h0 : s1 r = 0) : r = 0 := by
  unfold s1 at h0
  have hx : ∀ a b : Nat, a ^^^ b = 0 → a = b := fun a b h => by
    have := congrArg (· ^^^ b) h
    simpa [Nat.xor_assoc] using this
  have := hx _ _ h0
  split at this <;> omega

theorem sk_lt {r : Nat} (h : r < 4294967296) : ∀ n, sk n r < 4294967296 := by
  intro n
  induction n generalizing r with
  | zero => exact h
  | succ n ih => exact ih (s1_lt h)
theorem sk_xor (n : Nat) : ∀ a b, sk n (a ^^^ b) = sk n a ^^^ sk n b := by
  induction n with
  | zero => intro a b; rfl
  | succ n ih => intro a b; show sk n (s1 (a ^^^ b)) = sk n (s1 a) ^^^ sk n (s1 b); rw [s1_xor, ih]
theorem sk_zero (n : Nat) : sk n 0 = 0 := by
  induction n with
  | zero => rfl
  | succ n ih => show sk n (s1 0) = 0; rw [s1_zero, ih]
theorem sk_add (m n : Nat) : ∀ r, sk (m + n) r = sk n (sk m r) := by
  induction m with
  | zero => intro r; rw [Nat.zero_add]; rfl
  | succ m ih => intro r; rw [Nat.succ_add]; exact ih (s1 r)
theorem sk_inj0 (n : Nat) : ∀ r, r < 4294967296 → sk n r = 0 → r = 0 := by
  induction n with
  | zero => intro r _ h; exact h
  | succ n ih => intro r hr h; exact s1_inj0 hr (ih _ (s1_lt hr) h)
theorem sk_shift (k : Nat) : ∀ z, sk k (z * 2 ^ k) = z := by
  induction k with
  | zero => intro z; simp [sk]
  | succ k ih =>
    intro z
    show sk k (s1 (z * 2 ^ (k + 1))) = z
    rw [Nat.pow_succ, ← Nat.mul_assoc, Nat.mul_comm _ 2, s1_double, ih]
theorem sk_pow (k n : Nat) (h : k ≤ n) : sk n (2 ^ k) = sk (n - k) 1 := by
  rw [show n = k + (n - k) from by omega, sk_add, show k + (n - k) - k = n - k from by omega]
  have := sk_shift k 1
  rw [Nat.one_mul] at this
  rw [this]

theorem xor_parts (v k : Nat) : v % 2 ^ k ^^^ v / 2 ^ k * 2 ^ k = v := by
  apply Nat.eq_of_testBit_eq; intro i
  simp only [Nat.testBit_xor, Nat.testBit_mod_two_pow, Nat.testBit_mul_two_pow, Nat.testBit_div_two_pow]
  by_cases h : i < k
  · have h2 : ¬ k ≤ i := by omega
    simp [h, h2]
  · have h2 : k ≤ i := by omega
    simp [h, h2, Nat.sub_add_cancel h2]
theorem mod_succ (v k : Nat) : v % 2 ^ (k + 1) = v % 2 ^ k ^^^ v / 2 ^ k % 2 * 2 ^ k := by
  have h := xor_parts (v % 2 ^ (k + 1)) k
  rw [Nat.mod_pow_succ, ← Nat.mod_pow_succ] at h
  have h1 : v % 2 ^ (k + 1) % 2 ^ k = v % 2 ^ k := by rw [Nat.mod_mod_of_dvd _ ⟨2, Nat.pow_succ ..⟩]
  have h2 : v % 2 ^ (k + 1) / 2 ^ k = v / 2 ^ k % 2 := by rw [Nat.pow_succ, Nat.mod_mul_right_div_self]
  rw [h1, h2] at h
  exact h.symm

/-- The register behind bytes. -/
def regOf (bs : List Nat) (r : Nat) : Nat := bs.foldl (fun r b => sk 8 (r ^^^ b)) r
theorem regOf_append (a b : List Nat) (r : Nat) : regOf (a ++ b) r = regOf b (regOf a r) := by simp [regOf]
theorem regOf_snoc (a : List Nat) (x r : Nat) : regOf (a ++ [x]) r = sk 8 (regOf a r ^^^ x) := by simp [regOf]
theorem regOf_xor (bs : List Nat) : ∀ r q, regOf bs (r ^^^ q) = regOf bs r ^^^ sk (8 * bs.length) q := by
  induction bs with
  | nil => intro r q; rfl
  | cons b t ih =>
    intro r q
    show regOf t (sk 8 (r ^^^ q ^^^ b)) = regOf t (sk 8 (r ^^^ b)) ^^^ _
    have e : r ^^^ q ^^^ b = (r ^^^ b) ^^^ q := by rw [Nat.xor_assoc, Nat.xor_comm q b, ← Nat.xor_assoc]
    rw [e, sk_xor, ih, List.length_cons, show 8 * (t.length + 1) = 8 + 8 * t.length from by omega, sk_add]
theorem regOf_lt (bs : List Nat) (h : ∀ x ∈ bs, x < 256) : ∀ r, r < 4294967296 → regOf bs r < 4294967296 := by
  induction bs with
  | nil => intro r h; exact h
  | cons b t ih =>
    intro r hr
    refine ih (fun x hx => h x (by simp [hx])) _ (sk_lt ?_ 8)
    have := h b (by simp)
    exact Nat.xor_lt_two_pow (n := 32) hr (by omega)

theorem not32 (r : Nat) (h : r < 4294967296) : 4294967295 - r = r ^^^ 4294967295 := by
  have h1 := BitVec.toNat_not (x := BitVec.ofNat 32 r)
  rw [← BitVec.xor_allOnes, BitVec.toNat_xor, BitVec.toNat_ofNat, BitVec.toNat_allOnes, Nat.mod_eq_of_lt (by simpa using h)] at h1
  simpa using h1.symm

/-- The sum of bytes. -/
def sumB (bs : List Nat) : Nat := 4294967295 - regOf bs 4294967295
theorem sumB_lt (bs : List Nat) : sumB bs < 4294967296 := by unfold sumB; omega
theorem sumB_xor (bs : List Nat) (h : ∀ x ∈ bs, x < 256) : sumB bs = regOf bs 4294967295 ^^^ 4294967295 := not32 _ (regOf_lt bs h _ (by decide))

theorem sumB_append (a b : List Nat) (ha : ∀ x ∈ a, x < 256) (hb : ∀ x ∈ b, x < 256) : sk (8 * b.length) (sumB a) ^^^ sumB b = sumB (a ++ b) := by
  have hab : ∀ x ∈ a ++ b, x < 256 := fun x hx => by
    rcases List.mem_append.1 hx with h | h
    · exact ha x h
    · exact hb x h
  rw [sumB_xor a ha, sumB_xor b hb, sumB_xor _ hab, regOf_append]
  have h0 : regOf b (regOf a 4294967295) = regOf b 4294967295 ^^^ sk (8 * b.length) (4294967295 ^^^ regOf a 4294967295) := by
    rw [← regOf_xor, ← Nat.xor_assoc, Nat.xor_self, Nat.zero_xor]
  rw [h0, Nat.xor_comm 4294967295 (regOf a 4294967295)]
  generalize sk (8 * b.length) (regOf a 4294967295 ^^^ 4294967295) = p
  generalize regOf b 4294967295 = q
  rw [← Nat.xor_assoc, Nat.xor_comm p q]

/-- A number of 32 bits as bytes, the lowest first. -/
def tail4 (s : Nat) : List Nat := (List.range 4).map fun i => s / 256 ^ i % 256
theorem tail4_eq (s : Nat) : tail4 s = [s % 256, s / 256 % 256, s / 65536 % 256, s / 16777216 % 256] := by simp [tail4, List.range, List.range.loop]
theorem tail4_lt (s : Nat) : ∀ x ∈ tail4 s, x < 256 := by
  intro x hx
  obtain ⟨i, _, rfl⟩ := List.mem_map.1 hx
  omega
theorem tail4_length (s : Nat) : (tail4 s).length = 4 := by simp [tail4]
theorem sk8_part (r v : Nat) : sk 8 (r ^^^ v % 256) = sk 8 (r ^^^ v) ^^^ v / 256 := by
  have h := xor_parts v 8
  have h1 : sk 8 (r ^^^ v) = sk 8 (r ^^^ v % 256) ^^^ v / 256 := by
    conv => lhs; rw [← h]
    rw [← Nat.xor_assoc, sk_xor, sk_shift]
  rw [h1, Nat.xor_assoc, Nat.xor_self, Nat.xor_zero]
theorem regOf_tail (r v : Nat) (hv : v < 4294967296) : regOf (tail4 v) r = sk 32 (r ^^^ v) := by
  rw [tail4_eq]
  show sk 8 (sk 8 (sk 8 (sk 8 (r ^^^ v % 256) ^^^ v / 256 % 256) ^^^ v / 65536 % 256) ^^^ v / 16777216 % 256) = _
  have step : ∀ x w, sk 8 ((x ^^^ w) ^^^ w % 256) = sk 8 x ^^^ w / 256 := fun x w => by rw [sk8_part, Nat.xor_assoc, Nat.xor_self, Nat.xor_zero]
  rw [sk8_part r v, step, show v / 65536 = v / 256 / 256 from by omega, step, show v / 16777216 = v / 256 / 256 / 256 from by omega, step, show v / 256 / 256 / 256 / 256 = 0 from by omega, Nat.xor_zero]
  rw [show 32 = 8 + (8 + (8 + 8)) from rfl, sk_add, sk_add, sk_add]

/-- Bytes with their sum behind. -/
def putB (bs : List Nat) : List Nat := bs ++ tail4 (sumB bs)
theorem putB_length (bs : List Nat) : (putB bs).length = bs.length + 4 := by simp [putB, tail4_length]
theorem putB_lt (bs : List Nat) (h : ∀ x ∈ bs, x < 256) : ∀ x ∈ putB bs, x < 256 := fun x hx => by
  rcases List.mem_append.1 hx with h' | h'
  · exact h x h'
  · exact tail4_lt _ x h'
theorem putB_reg (bs : List Nat) (h : ∀ x ∈ bs, x < 256) : regOf (putB bs) 4294967295 = sk 32 4294967295 := by
  rw [putB, regOf_append, regOf_tail _ _ (sumB_lt bs), sumB_xor bs h, ← Nat.xor_assoc, Nat.xor_self, Nat.zero_xor]

/-- Whether bytes have their sum behind. -/
def okB (s : List Nat) : Bool := decide (4 ≤ s.length) && (s.drop (s.length - 4) == tail4 (sumB (s.take (s.length - 4))))
theorem okB_put (s : List Nat) : okB s = (decide (4 ≤ s.length) && (putB (s.take (s.length - 4)) == s)) := by
  unfold okB
  by_cases h : 4 ≤ s.length
  · simp only [h, decide_true, Bool.true_and]
    rw [Bool.eq_iff_iff]
    simp only [beq_iff_eq]
    constructor
    · intro e; rw [putB, ← e, List.take_append_drop]
    · intro e
      have := congrArg (List.drop (s.length - 4)) e
      rw [← this, putB, List.drop_append_of_le_length (by simp)]
      rw [List.drop_of_length_le (by simp), List.nil_append]
  · simp [h]
theorem okB_putB (bs : List Nat) : okB (putB bs) = true := by
  rw [okB_put, putB_length]
  simp [putB]
theorem okB_reg (s : List Nat) (h : ∀ x ∈ s, x < 256) (ho : okB s = true) : regOf s 4294967295 = sk 32 4294967295 := by
  rw [okB_put] at ho
  simp only [Bool.and_eq_true, beq_iff_eq] at ho
  rw [← ho.2]
  exact putB_reg _ (fun x hx => h x (List.mem_of_mem_take hx))

/-- One bit turned. -/
theorem regOf_turn (s : List Nat) (i b r : Nat) (hi : i < s.length) (hb : b < 8) : regOf (s.set i (s[i] ^^^ 2 ^ b)) r = regOf s r ^^^ sk (8 * s.length - (8 * i + b)) 1 := by
  have e1 : s = s.take i ++ s[i] :: s.drop (i + 1) := by simp
  have e2 : s.set i (s[i] ^^^ 2 ^ b) = s.take i ++ (s[i] ^^^ 2 ^ b) :: s.drop (i + 1) := by rw [List.set_eq_take_append_cons_drop, if_pos hi]
  have e3 : regOf s r = regOf (s.drop (i + 1)) (sk 8 (regOf (s.take i) r ^^^ s[i])) := by
    conv => lhs; rw [e1]
    rw [regOf_append]; rfl
  rw [e2, regOf_append, e3]
  show regOf (s.drop (i + 1)) (sk 8 (regOf (s.take i) r ^^^ (s[i] ^^^ 2 ^ b))) = _
  rw [← Nat.xor_assoc, sk_xor, regOf_xor, sk_pow b 8 (by omega), ← sk_add]
  congr 2
  simp; omega

/-- Bits turned, one by one. -/
theorem turn_step (L n k mask : Nat) (s : List Nat) (hs : s.length = L) (hn : n + 32 ≤ 8 * L) (hk : k < 32)
    (h : regOf s 4294967295 = sk 32 4294967295 ^^^ sk (8 * L - n) (mask % 2 ^ k)) (h1 : mask / 2 ^ k % 2 = 1) (hi : (n + k) / 8 < s.length) :
    regOf (s.set ((n + k) / 8) (s[(n + k) / 8] ^^^ 2 ^ ((n + k) % 8))) 4294967295 = sk 32 4294967295 ^^^ sk (8 * L - n) (mask % 2 ^ (k + 1)) := by
  rw [regOf_turn _ _ _ _ hi (by omega), h, mod_succ, h1, Nat.one_mul, sk_xor, Nat.xor_assoc]
  congr 2
  rw [sk_pow k _ (by omega)]
  congr 1
  omega
theorem turn_same (L n k mask : Nat) (s : List Nat) (h : regOf s 4294967295 = sk 32 4294967295 ^^^ sk (8 * L - n) (mask % 2 ^ k)) (h1 : ¬ mask / 2 ^ k % 2 = 1) :
    regOf s 4294967295 = sk 32 4294967295 ^^^ sk (8 * L - n) (mask % 2 ^ (k + 1)) := by
  rw [h, mod_succ, show mask / 2 ^ k % 2 = 0 from by omega, Nat.zero_mul, Nat.xor_zero]
theorem turn_told (L n mask : Nat) (s : List Nat) (hb : ∀ x ∈ s, x < 256) (hm : mask < 4294967296) (h0 : mask ≠ 0)
    (h : regOf s 4294967295 = sk 32 4294967295 ^^^ sk (8 * L - n) (mask % 2 ^ 32)) : okB s = false := by
  rw [Bool.eq_false_iff]
  intro ho
  rw [okB_reg s hb ho, Nat.mod_eq_of_lt (by simpa using hm)] at h
  have h2 : sk (8 * L - n) mask = 0 := by
    have := congrArg (sk 32 4294967295 ^^^ ·) h
    simp only [Nat.xor_self, ← Nat.xor_assoc, Nat.zero_xor] at this
    exact this.symm
  exact h0 (sk_inj0 _ _ hm h2)

/-- The reference's step: a bit of the byte at a time. -/
def rbit (r v : Nat) : Nat := (r / 2) ^^^ (if (r % 2 == 1) != (v % 2 == 1) then 3988292384 else 0)
theorem s1_bit (r v : Nat) : s1 (r ^^^ v) = rbit r v ^^^ v / 2 := by
  unfold s1 rbit
  rw [xor_half, xor_mod2, Nat.xor_assoc, Nat.xor_assoc, Nat.xor_comm (v / 2)]
  congr 2
  have h2 : r % 2 = 0 ∨ r % 2 = 1 := by omega
  have h3 : v % 2 = 0 ∨ v % 2 = 1 := by omega
  rcases h2 with h2 | h2 <;> rcases h3 with h3 | h3 <;> simp [h2, h3]
theorem rbit_lt {r : Nat} (v : Nat) (h : r < 4294967296) : rbit r v < 4294967296 := by
  unfold rbit
  have : ∀ p, p < 4294967296 → r / 2 ^^^ p < 4294967296 := fun p hp => Nat.xor_lt_two_pow (n := 32) (by omega) hp
  split <;> exact this _ (by decide)
theorem rbit_step (r0 r b k : Nat) (hk : k < 8) (h : sk (8 - k) (r ^^^ b / 2 ^ k) = sk 8 (r0 ^^^ b)) : sk (8 - (k + 1)) (rbit r (b / 2 ^ k) ^^^ b / 2 ^ (k + 1)) = sk 8 (r0 ^^^ b) := by
  rw [← h, Nat.pow_succ, ← Nat.div_div_eq_div_mul, ← s1_bit, show 8 - k = (8 - (k + 1)) + 1 from by omega]
  rfl
theorem rbit_end (r0 r b : Nat) (hb : b < 256) (h : sk (8 - 8) (r ^^^ b / 2 ^ 8) = sk 8 (r0 ^^^ b)) : r = sk 8 (r0 ^^^ b) := by
  rw [← h, show b / 2 ^ 8 = 0 from by simp; omega]
  show r = r ^^^ 0
  simp

/-- One bit of a register through what noughts make of bits. -/
theorem change_step (K reg i : Nat) : sk K (reg % 2 ^ i) ^^^ sk K (2 ^ i) * (reg / 2 ^ i % 2) = sk K (reg % 2 ^ (i + 1)) := by
  rw [mod_succ, sk_xor]
  congr 1
  have h : reg / 2 ^ i % 2 = 0 ∨ reg / 2 ^ i % 2 = 1 := by omega
  rcases h with h | h
  · rw [h, Nat.mul_zero, Nat.zero_mul, sk_zero]
  · rw [h, Nat.mul_one, Nat.one_mul]
end Go.Th.Crc

/-
  Sums, byte by byte: the code's, and the reference's.
-/
namespace Go.Proofs.YtfkncfjdgbgeeaaDoor
open Go.RowKit Go.Th Go.Th.Crc

theorem and1 (r : Nat) (h : r < 4294967296) : bits BinOp.and IntKind.u32 (r : Int) 1 = ((r % 2 : Nat) : Int) := by
  have := u32_and_nat r 1 h (by decide)
  rw [Nat.and_one_is_mod] at this
  exact this
theorem xor32 (a b : Nat) (ha : a < 4294967296) (hb : b < 4294967296) (x y : Int) (hx : x = (a : Nat)) (hy : y = (b : Nat)) : bits BinOp.xor IntKind.u32 x y = ((a ^^^ b : Nat) : Int) := by
  rw [hx, hy]; exact u32_xor_nat a b ha hb
theorem step_val (r : Nat) (h : r < 4294967296) : bits BinOp.xor IntKind.u32 ((r : Int) / 2) (3988292384 * bits BinOp.and IntKind.u32 (r : Int) 1 % 4294967296) = ((s1 r : Nat) : Int) := by
  rw [and1 r h]
  unfold s1
  refine xor32 _ _ (by omega) (by split <;> decide) _ _ (by omega) ?_
  have h2 : r % 2 = 0 ∨ r % 2 = 1 := by omega
  rcases h2 with h2 | h2 <;> rw [h2] <;> rfl
theorem not_val (r : Nat) (h : r < 4294967296) : bits BinOp.xor IntKind.u32 IntKind.u32.max (r : Int) = ((4294967295 - r : Nat) : Int) := by
  rw [not32 r h, Nat.xor_comm]
  exact u32_xor_nat 4294967295 r (by decide) h
theorem parity (m x k : Nat) : (!((m : Int) % 2 == 1) == (((x : Int) / 2 ^ k).tmod 2 == 1)) = ((m % 2 == 1) != (x / 2 ^ k % 2 == 1)) := by
  have e1 : ((m : Int) % 2 == 1) = (m % 2 == 1) := by rw [Bool.eq_iff_iff]; simp only [beq_iff_eq]; omega
  have e0 : (x : Int) / 2 ^ k = ((x / 2 ^ k : Nat) : Int) := by simp
  have e2 : (((x : Int) / 2 ^ k).tmod 2 == 1) = (x / 2 ^ k % 2 == 1) := by
    rw [e0]; generalize x / 2 ^ k = y; rw [Int.tmod_eq_emod_of_nonneg (by omega), Bool.eq_iff_iff]; simp only [beq_iff_eq]; omega
  rw [e1, e2]
  cases (m % 2 == 1) <;> cases (x / 2 ^ k % 2 == 1) <;> rfl
theorem sk_succ (i x : Nat) : sk (i + 1) x = s1 (sk i x) := sk_add i 1 x

set_option maxRecDepth 20000 in
theorem step_any (x : Nat) (hx : x < 4294967296) (w : World) :
    Calls Tryd.prog 40 #[.int .u32 x] w fun e w' => e = .returned (.int .u32 (sk 8 x : Nat)) ∧ w = w' := by
  go_enter Tryd.func40, Tryd.ntmps40
  go_wp2
  go_loop [0, 3] (fun r c => ∃ i : Nat, i ≤ 8 ∧ c = .int .i64 i ∧ r = .int .u32 (sk i x : Nat)) (fun _ c => 8 - (intOf c).toNat)
  case atStart => exact ⟨0, by omega, rfl, rfl⟩
  case round =>
    obtain ⟨i, hi, rfl, rfl⟩ := hrel
    have hl := sk_lt hx i
    obtain ⟨r, hr⟩ : ∃ r, r = sk i x := ⟨_, rfl⟩
    rw [← hr] at hl ⊢
    have HR := Lib.hid hr; clear hr
    by_cases hlt : i < 8
    · go_wp2
      go_round
      case rel => exact ⟨i + 1, by omega, by go_num, by rw [sk_succ, ← HR.out, step_val r hl]⟩
      case measure => simp [intOf]; omega
    · obtain rfl : i = 8 := by omega
      go_wp2
      go_ret
      exact ⟨ret_int (by rw [HR.out]), rfl⟩

theorem take_succ_nat (bs : List Nat) (i : Nat) (h : i < bs.length) : bs.take (i + 1) = bs.take i ++ [bs[i]] := by
  rw [List.take_add_one, List.getElem?_eq_getElem h]; rfl
theorem regOf_take (bs : List Nat) (i : Nat) (h : i < bs.length) (r : Nat) : regOf (bs.take (i + 1)) r = sk 8 (regOf (bs.take i) r ^^^ bs[i]) := by
  rw [take_succ_nat bs i h, regOf_snoc]
theorem u8s_at (bs : List Nat) (i : Nat) (h : i < bs.length) : (u8s bs)[i]? = some (.int .u8 (bs[i] : Nat)) := by simp [u8s, h]
theorem mem_take {bs : List Nat} (h : ∀ x ∈ bs, x < 256) (i : Nat) : ∀ x ∈ bs.take i, x < 256 := fun x hx => h x (List.mem_of_mem_take hx)

set_option maxRecDepth 20000 in
theorem crcSum_any (vx : Value) (bs : List Nat) (w : World) (h : Sl w 1 vx bs.length (u8s bs)) (hl : bs.length ≤ 140737488355328) (hb : ∀ x ∈ bs, x < 256) :
    Calls Tryd.prog 35 #[vx] w fun e w' => e = .returned (.int .u32 (sumB bs : Nat)) ∧ w = w' := by
  obtain ⟨a, cap, rfl, h1, h2, h3, h4, h5⟩ := h
  have H5 := Lib.hid h5; clear h5
  have HB := Lib.hid hb; clear hb
  go_enter Tryd.func35, Tryd.ntmps35
  go_wp2
  go_loop [3, 8] (fun r c => ∃ i : Nat, i ≤ bs.length ∧ c = .int .i64 i ∧ r = .int .u32 (regOf (bs.take i) 4294967295 : Nat)) (fun _ c => bs.length - (intOf c).toNat)
  case atStart => exact ⟨0, by omega, rfl, rfl⟩
  case round =>
    obtain ⟨i, hi, rfl, rfl⟩ := hrel
    have hl := regOf_lt _ (mem_take HB.out i) 4294967295 (by decide)
    obtain ⟨r, hr⟩ : ∃ r, r = regOf (bs.take i) 4294967295 := ⟨_, rfl⟩
    rw [← hr] at hl ⊢
    have HR := Lib.hid hr; clear hr
    by_cases hlt : i < bs.length
    · obtain ⟨b, o, rfl, hc⟩ := H5.out i _ (u8s_at bs i hlt)
      have hx := HB.out bs[i] (List.getElem_mem _)
      have HS := Lib.hid (regOf_take bs i hlt 4294967295)
      rw [← HR.out] at HS
      obtain ⟨x, hxe⟩ : ∃ x, x = bs[i] := ⟨_, rfl⟩
      rw [← hxe] at hx hc HS
      clear hxe HR
      have hxr : r ^^^ x < 4294967296 := Nat.xor_lt_two_pow (n := 32) hl (by omega)
      go_wp2_with fail
      rw [u32_xor_nat r x hl (by omega)]
      refine (step_any (r ^^^ x) hxr _).mono ?_
      rintro e w1 ⟨rfl, rfl⟩
      go_wp2
      go_round
      case rel => exact ⟨i + 1, by omega, by go_num, by rw [HS.out]⟩
      case measure => simp [intOf]; omega
    · obtain rfl : i = bs.length := by omega
      have HL := Lib.hid (regOf_lt bs HB.out 4294967295 (by decide))
      go_wp2
      go_ret
      exact ⟨ret_int (by rw [HR.out, List.take_length]; unfold sumB; exact not_val _ HL.out), rfl⟩

set_option maxHeartbeats 800000 in
set_option maxRecDepth 20000 in
theorem refCrcSum_any (vx : Value) (bs : List Nat) (w : World) (h : Sl w 1 vx bs.length (u8s bs)) (hl : bs.length ≤ 140737488355328) (hb : ∀ x ∈ bs, x < 256) :
    Calls Tryd.prog 36 #[vx] w fun e w' => e = .returned (.int .u32 (sumB bs : Nat)) ∧ w = w' := by
  obtain ⟨a, cap, rfl, h1, h2, h3, h4, h5⟩ := h
  have H5 := Lib.hid h5; clear h5
  have HB := Lib.hid hb; clear hb
  go_enter Tryd.func36, Tryd.ntmps36
  go_wp2
  go_loop [3, 4] (fun r c => ∃ i : Nat, i ≤ bs.length ∧ c = .int .i64 i ∧ r = .int .u32 (regOf (bs.take i) 4294967295 : Nat)) (fun _ c => bs.length - (intOf c).toNat)
  case atStart => exact ⟨0, by omega, rfl, rfl⟩
  case round =>
    obtain ⟨i, hi, rfl, rfl⟩ := hrel
    have hl := regOf_lt _ (mem_take HB.out i) 4294967295 (by decide)
    obtain ⟨r0, hr⟩ : ∃ r, r = regOf (bs.take i) 4294967295 := ⟨_, rfl⟩
    rw [← hr] at hl ⊢
    have HR := Lib.hid hr; clear hr
    by_cases hlt : i < bs.length
    · obtain ⟨b, o, rfl, hc⟩ := H5.out i _ (u8s_at bs i hlt)
      have hx := HB.out bs[i] (List.getElem_mem _)
      have HS := Lib.hid (regOf_take bs i hlt 4294967295)
      rw [← HR.out] at HS
      obtain ⟨x, hxe⟩ : ∃ x, x = bs[i] := ⟨_, rfl⟩
      rw [← hxe] at hx hc HS
      clear hxe HR
      go_wp2
      go_loop [3, 5, 6] (fun r c y => ∃ k m : Nat, k ≤ 8 ∧ c = .int .i64 k ∧ r = .int .u32 (m : Nat) ∧ m < 4294967296 ∧ Hid (sk (8 - k) (m ^^^ x / 2 ^ k) = sk 8 (r0 ^^^ x))) (fun _ c _ => 8 - (intOf c).toNat)
      case atStart => exact ⟨0, r0, by omega, rfl, rfl, hl, by show _ = _; simp⟩
      case round =>
        obtain ⟨k, m, hk, rfl, rfl, hm, HI⟩ := hrel
        by_cases hlk : k < 8
        · have hst := rbit_step r0 m x k hlk HI.out
          have hlr := rbit_lt (x / 2 ^ k) hm
          have HT := Lib.hid hst; clear hst
          have hp := parity m x k
          unfold rbit at HT hlr
          cases hc2 : ((m % 2 == 1) != (x / 2 ^ k % 2 == 1))
          · rw [hc2] at hp
            rw [hc2, if_neg (by decide), Nat.xor_zero] at HT hlr
            go_wp2
            go_round
            case rel => exact ⟨k + 1, m / 2, by omega, by go_num, by go_num, hlr, HT⟩
            case measure => simp [intOf]; omega
          · rw [hc2] at hp
            rw [hc2, if_pos rfl] at HT hlr
            go_wp2
            go_round
            case rel => exact ⟨k + 1, _, by omega, by go_num, congrArg _ (xor32 (m / 2) 3988292384 (by omega) (by decide) _ _ (by omega) rfl), hlr, HT⟩
            case measure => simp [intOf]; omega
        · obtain rfl : k = 8 := by omega
          have HE := Lib.hid (rbit_end r0 m x hx HI.out)
          go_wp2
          go_round
          case rel => exact ⟨i + 1, by omega, by go_num, by rw [HS.out, HE.out]⟩
          case measure => simp [intOf]; omega
    · obtain rfl : i = bs.length := by omega
      have HL := Lib.hid (regOf_lt bs HB.out 4294967295 (by decide))
      go_wp2
      go_ret
      exact ⟨ret_int (by rw [HR.out, List.take_length]; unfold sumB; have := HL.out; omega), rfl⟩

theorem tail4_take (s : Nat) : tail4 s = (List.range 4).map fun i => s / 256 ^ i % 256 := rfl
/-- The first bytes of a number. -/
def lowB (s n : Nat) : List Nat := (List.range n).map fun i => s / 256 ^ i % 256
theorem lowB_succ (s n : Nat) : lowB s (n + 1) = lowB s n ++ [s / 256 ^ n % 256] := by simp [lowB, List.range_succ]
theorem u8s_snoc (p : List Nat) (b : Nat) : u8s (p ++ [b]) = u8s p ++ [.int .u8 b] := by simp [u8s]

set_option maxHeartbeats 800000 in
set_option maxRecDepth 20000 in
theorem refCrcPut_any (vx : Value) (bs : List Nat) (w : World) (h : Sl w 1 vx bs.length (u8s bs)) (hl : bs.length ≤ 70368744177664) (hb : ∀ x ∈ bs, x < 256) :
    Calls Tryd.prog 25 #[vx] w fun e w' => ∃ v, e = .returned v ∧ w'.ownsRow w.heap.size 5 1 v (bs.length + 4) (u8s (putB bs)) ∧ Below w.heap.size w w' := by
  obtain ⟨a, cap, rfl, _⟩ := id h
  have HB := Lib.hid hb; clear hb
  go_enter Tryd.func25, Tryd.ntmps25
  go_wp2_with fail
  refine (refCrcSum_any _ bs _ h (by omega) HB.out).mono ?_
  rintro e w1 ⟨rfl, rfl⟩
  have hs := sumB_lt bs
  obtain ⟨s, hse⟩ : ∃ s, s = sumB bs := ⟨_, rfl⟩
  rw [← hse] at hs ⊢
  have HE := Lib.hid hse; clear hse
  go_wp2_with (at_builtin; refine wpList_app Eu8 rfl (.tmp 8) (.tmp 9) rfl w.heap.size rfl (World.ownsRow_nil _ _ _ _) rfl h (oneCell_u8s _) (by unfold maxLen; omega) (by omega) (Nat.le_refl _) ?_)
  intro v' w' hown' hgrow _
  have hB1 : Below w.heap.size w w' := (Below.refl _ _).grown hgrow (Nat.le_refl _) (fun k hk => by simp [Value.ownBlock] at hk)
  clear hgrow
  go_wp2
  go_loopw [3, 4, 5] (fun y v c wx => ∃ i : Nat, i ≤ 4 ∧ c = .int .i64 i ∧ y = .int .u32 (s / 256 ^ i : Nat) ∧ wx.ownsRow w.heap.size 5 1 v (bs.length + i) (u8s (bs ++ lowB s i)) ∧ Below w.heap.size w wx) (fun _ _ c _ => 4 - (intOf c).toNat)
  case atStart => exact ⟨0, by omega, rfl, by simp, by simpa [lowB] using hown', hB1⟩
  case round =>
    clear hown' hB1
    obtain ⟨i, hi, rfl, rfl, ho, hB⟩ := hrel
    have hsz := hB.size
    obtain ⟨y, hy⟩ : ∃ y, y = s / 256 ^ i := ⟨_, rfl⟩
    have hy2 : y < 4294967296 := by rw [hy]; exact Nat.lt_of_le_of_lt (Nat.div_le_self _ _) hs
    rw [← hy]
    by_cases hlt : i < 4
    · have h1 : lowB s (i + 1) = lowB s i ++ [y % 256] := by rw [hy]; exact lowB_succ s i
      have h2 : y / 256 = s / 256 ^ (i + 1) := by rw [hy, Nat.pow_succ, Nat.div_div_eq_div_mul]
      have H1 := Lib.hid h1; clear h1
      have H2 := Lib.hid h2; clear h2 hy
      go_wp2_with (at_builtin; refine wpList_app Eu8 rfl (.tmp 15) (.tmp 19) rfl w.heap.size rfl (ho.alloc _) rfl (Sl.one _ _ _) (oneCell_u8 _) (by unfold maxLen; omega) (by omega) (by simp; omega) ?_)
      intro v2 w2 ho2 hg2 _
      have hB2 := (hB.alloc hB.size (.cells #[.int .u8 ((y : Int) % 256)] 5)).grown hg2 (by simp; omega) (fun q hq => (ho.lt q hq).1)
      clear ho hB hg2
      go_wp2
      go_roundw
      case rel =>
        refine ⟨i + 1, by omega, by go_num, ?_, ?_, hB2⟩
        · congr 1; rw [← H2.out]; omega
        · rw [H1.out, ← List.append_assoc, u8s_snoc]
          have e : ((y % 256 : Nat) : Int) = (y : Int) % 256 := by simp
          rw [e]
          exact ho2
      case measure => simp [intOf]; omega
    · obtain rfl : i = 4 := by omega
      go_wp2
      go_ret
      exact ⟨_, rfl, by rw [putB, ← HE.out]; exact ho, hB⟩
end Go.Proofs.YtfkncfjdgbgeeaaDoor

/-
  A sum as bytes; slices.Concat of two; Put.
-/
namespace Go.Proofs.YtfkncfjdgbgeeaaDoor
open Go.RowKit Go.Th Go.Th.Crc

/-- The four cells behind i rounds. -/
def tailC (s i : Nat) : List Value := (List.range 4).map fun j => .int .u8 (if j < i then ((s / 256 ^ j % 256 : Nat) : Int) else 0)
theorem tailC_set (s i : Nat) (h : i < 4) : (tailC s i).set i (.int .u8 ((s / 256 ^ i % 256 : Nat) : Int)) = tailC s (i + 1) := by
  match i, h with
  | 0, _ => simp [tailC, List.range, List.range.loop]
  | 1, _ => simp [tailC, List.range, List.range.loop]
  | 2, _ => simp [tailC, List.range, List.range.loop]
  | 3, _ => simp [tailC, List.range, List.range.loop]
theorem tailC_end (s : Nat) : tailC s 4 = u8s (tail4 s) := by simp [tailC, tail4, u8s, List.range, List.range.loop]

theorem tailCell (s i : Nat) : (s : Int) / 2 ^ (8 * i) % 256 = ((s / 256 ^ i % 256 : Nat) : Int) := by
  rw [show (256 : Nat) ^ i = 2 ^ (8 * i) by rw [Nat.pow_mul]]
  simp

set_option maxHeartbeats 800000 in
set_option maxRecDepth 20000 in
theorem tail_any (s : Nat) (hs : s < 4294967296) (w : World) :
    Calls Tryd.prog 34 #[.int .u32 s] w fun e w' => ∃ v, e = .returned v ∧ Sl w' 1 v 4 (u8s (tail4 s)) ∧ Below w.heap.size w w' := by
  go_enter Tryd.func34, Tryd.ntmps34
  go_wp2
  go_loopw [5] (fun c wx => ∃ i : Nat, i ≤ 4 ∧ c = .int .i64 i ∧ Blk wx w.heap.size 74 (tailC s i) ∧ Below w.heap.size w wx) (fun c _ => 4 - (intOf c).toNat)
  case atStart => exact ⟨0, by omega, rfl, Blk.new w _ _, (Below.refl _ _).alloc (Nat.le_refl _) _⟩
  case round =>
    obtain ⟨i, hi, rfl, hb, hB⟩ := hrel
    by_cases hlt : i < 4
    · have hc := hb.cell (i := i) (u := .int .u8 0) (by simp [tailC, hlt])
      have hf := hb.free i
      have hset := hb.set i (.int .u8 ((s / 256 ^ i % 256 : Nat) : Int)) (by simp [tailC]; omega)
      rw [tailC_set s i hlt] at hset
      go_wp2
      go_roundw
      case rel => exact ⟨i + 1, by omega, by go_num, by rw [tailCell s i]; exact hset, hB.setCell (Nat.le_refl _) _⟩
      case measure => simp [intOf]; omega
    · obtain rfl : i = 4 := by omega
      go_wp2
      go_ret
      exact ⟨_, rfl, by rw [← tailC_end]; exact hb.sl 4 (by simp [tailC]) (by decide), hB⟩

theorem info_u8 : (Tryd.prog.info? 5).map (fun i => (i.zero, i.size, i.bytes)) = some (some (.int .u8 0), 1, 1) := by kernel_rfl

set_option maxHeartbeats 800000 in
set_option maxRecDepth 20000 in
theorem grow_nil (n : Nat) (h0 : 0 < n) (hn : n ≤ 140737488355328) (w : World) :
    Calls Tryd.prog 39 #[.slice none 0 0, .int .i64 n] w fun e w' => ∃ v, e = .returned v ∧ w'.ownsRow w.heap.size 5 1 v 0 [] ∧ Below w.heap.size w w' := by
  obtain ⟨i0, hi0, hz0, hz1, hz2⟩ := info_parts info_u8
  have hrz : ∀ ty, (Builtin.append_ #[26, 3] ty #[.slice none 0 0, .int .i64 n]).run Tryd.prog w = .ok (.slice (some ⟨w.heap.size, 0, none⟩) n (grownCap w n 0 5)) (w.drew.alloc (.cells (#[] ++ Builtin.zeroCells (Value.int .u8 0).cells n ++ Builtin.zeroCells (Value.int .u8 0).cells (grownCap w n 0 5 - n)) 5)) := fun ty => by
    have h := Lib.run_append_grow_zeros w 26 3 ty 5 i0 (.int .u8 0) .i64 .i64 Tryd.underlying26 Tryd.underlying3 hi0 hz0 none 0 0 [] (run_firstCells_none w.drew i0.size 0 0 0) n h0 (by omega) (by omega) (by omega)
      (by rw [hz2]; omega) (by rw [Nat.zero_add, nextslicecap_zero h0, hz2]; omega)
    rw [Nat.zero_add] at h
    exact h
  have hGn : n ≤ grownCap w n 0 5 := grownCap_ge w _ _ _
  have hGm := grownCap_le_maxLen w n 0 5 (by unfold maxLen; omega)
  obtain ⟨G, hG⟩ : ∃ G, G = grownCap w n 0 5 := ⟨_, rfl⟩
  rw [← hG] at hrz hGn hGm
  have HM := Lib.hid hGm
  unfold maxLen at hGm
  clear hG
  go_enter Tryd.func39, Tryd.ntmps39
  go_wp2_with (at_builtin; refine Lib.wpList_append_run _ rfl _ _ _ _ rfl _ _ rfl rfl _ _ (hrz _) ?_)
  go_ret
  refine ⟨_, rfl, ⟨rfl, .inr ⟨w.heap.size, G, _, rfl, Nat.le_refl _, heap_alloc_new w.drew _, Nat.zero_le _, HM.out, ?_, ?_⟩⟩, ((Below.refl _ _).drew).alloc (Nat.le_refl _) _⟩
  · simp [Builtin.zeroCells]
    omega
  · simp

theorem sl_slice {w : World} {size n : Nat} {v : Value} {xs : List Value} (h : Sl w size v n xs) : ∃ a cap, v = .slice a n cap := by
  obtain ⟨a, cap, he, _⟩ := h
  exact ⟨a, cap, he⟩

set_option maxHeartbeats 1600000 in
set_option maxRecDepth 20000 in
theorem concat_any (vs va vb : Value) (ps bs : List Nat) (w : World) (hs : Sl w 1 vs 2 [va, vb]) (ha : Sl w 1 va ps.length (u8s ps)) (hb : Sl w 1 vb bs.length (u8s bs)) (h0 : 0 < bs.length)
    (hl : ps.length + bs.length ≤ 70368744177664) :
    Calls Tryd.prog 33 #[vs] w fun e w' => ∃ v, e = .returned v ∧ w'.ownsRow w.heap.size 5 1 v (ps.length + bs.length) (u8s (ps ++ bs)) ∧ Below w.heap.size w w' := by
  obtain ⟨aa, ca, rfl⟩ := sl_slice ha
  obtain ⟨ab, cb, rfl⟩ := sl_slice hb
  obtain ⟨vsa, vsc, rfl, _, _, _, _, hc⟩ := hs
  obtain ⟨b, o, rfl, c0⟩ := hc 0 _ rfl
  obtain ⟨b', o', hA, c1⟩ := hc 1 _ rfl
  cases hA
  rw [Nat.add_zero] at c0
  have hbl := World.block_lt_of_cell? w _ c0
  clear hc
  go_enter Tryd.func33, Tryd.ntmps33
  go_wp2
  go_loop [3, 11] (fun s c => ∃ i : Nat, i ≤ 2 ∧ c = .int .i64 i ∧ s = .int .i64 (if i = 0 then 0 else if i = 1 then ps.length else ps.length + bs.length : Nat)) (fun _ c => 2 - (intOf c).toNat)
  case atStart => exact ⟨0, by omega, rfl, rfl⟩
  case round =>
    obtain ⟨i, hi, rfl, rfl⟩ := hrel
    rcases (show i = 0 ∨ i = 1 ∨ i = 2 by omega) with rfl | rfl | rfl
    · go_wp2
      go_round
      case rel => exact ⟨1, by omega, rfl, by simp⟩
      case measure => simp [intOf]
    · go_wp2
      go_round
      case rel => exact ⟨2, by omega, rfl, by simp⟩
      case measure => simp [intOf]
    · go_wp2_with fail
      refine (grow_nil (ps.length + bs.length) (by omega) (by omega) _).mono ?_
      rintro e w1 ⟨v1, rfl, ho, hB⟩
      go_wp2
      go_loopw [6, 27] (fun v c wx => ∃ i : Nat, i ≤ 2 ∧ c = .int .i64 i ∧ wx.ownsRow w.heap.size 5 1 v (if i = 0 then 0 else if i = 1 then ps.length else ps.length + bs.length) (u8s (if i = 0 then [] else if i = 1 then ps else ps ++ bs)) ∧ Below w.heap.size w wx) (fun _ c _ => 2 - (intOf c).toNat)
      case atStart => exact ⟨0, by omega, rfl, by simpa [u8s] using ho, hB⟩
      case round =>
        clear ho hB
        obtain ⟨i, hi, rfl, ho, hB⟩ := hrel
        have hsz := hB.size
        have d0 := (hB.cell (p := ⟨b, o, none⟩) hbl).trans c0
        have d1 := (hB.cell (p := ⟨b, o + 1, none⟩) hbl).trans c1
        have sa := ha.below hB
        have sb := hb.below hB
        rcases (show i = 0 ∨ i = 1 ∨ i = 2 by omega) with rfl | rfl | rfl
        · go_wp2_with (at_builtin; refine wpList_app Eu8 rfl (.tmp 31) (.tmp 32) rfl w.heap.size rfl ho rfl sa (oneCell_u8s _) (by unfold maxLen; simp; omega) (by simp; omega) hsz ?_)
          intro v2 w2 ho2 hg2 _
          have hB2 := hB.grown hg2 hsz (fun q hq => (ho.lt q hq).1)
          clear ho hB hg2 sa sb
          go_wp2
          go_roundw
          case rel => exact ⟨1, by omega, rfl, by simpa [u8s] using ho2, hB2⟩
          case measure => simp [intOf]
        · go_wp2_with (at_builtin; refine wpList_app Eu8 rfl (.tmp 31) (.tmp 32) rfl w.heap.size rfl ho rfl sb (oneCell_u8s _) (by unfold maxLen; simp; omega) (by simp; omega) hsz ?_)
          intro v2 w2 ho2 hg2 _
          have hB2 := hB.grown hg2 hsz (fun q hq => (ho.lt q hq).1)
          clear ho hB hg2 sa sb
          go_wp2
          go_roundw
          case rel => exact ⟨2, by omega, rfl, by simpa [u8s] using ho2, hB2⟩
          case measure => simp [intOf]
        · go_wp2
          go_ret
          exact ⟨_, rfl, by simpa using ho, hB⟩
end Go.Proofs.YtfkncfjdgbgeeaaDoor

/-
  Put, Get.
-/
namespace Go.Proofs.YtfkncfjdgbgeeaaDoor
open Go Go.RowKit Go.Th Go.Th.Crc

set_option maxRecDepth 20000 in
theorem crcPut_any (vx : Value) (bs : List Nat) (w : World) (h : Sl w 1 vx bs.length (u8s bs)) (hl : bs.length ≤ 35184372088832) (hb : ∀ x ∈ bs, x < 256) :
    Calls Tryd.prog 23 #[vx] w fun e w' => ∃ v, e = .returned v ∧ w'.ownsRow w.heap.size 5 1 v (bs.length + 4) (u8s (putB bs)) ∧ Below w.heap.size w w' := by
  have HB := Lib.hid hb; clear hb
  obtain ⟨a, cap, rfl⟩ := sl_slice h
  go_enter Tryd.func23, Tryd.ntmps23
  go_wp2_with fail
  refine (crcSum_any _ bs _ h (by omega) HB.out).mono ?_
  rintro e w1 ⟨rfl, rfl⟩
  go_wp2_with fail
  refine (tail_any _ (sumB_lt bs) _).mono ?_
  rintro e w2 ⟨v2, rfl, hs2, hB2⟩
  obtain ⟨a2, c2, rfl⟩ := sl_slice hs2
  go_wp2_with fail
  have hsz := hB2.size
  have hBa : Below w2.heap.size w2 (w2.alloc (.cells #[.slice a bs.length cap, .slice a2 4 c2] 26)) := (Below.refl _ _).alloc (Nat.le_refl _) _
  have C := concat_any (.slice (some ⟨w2.heap.size, 0, none⟩) 2 2) _ _ bs (tail4 (sumB bs)) _ ((Blk.new w2 26 [.slice a bs.length cap, .slice a2 4 c2]).sl 2 rfl (by decide)) ((h.below hB2).below hBa) (hs2.below hBa) (by rw [tail4_length]; decide) (by rw [tail4_length]; omega)
  rw [tail4_length] at C
  refine C.mono ?_
  rintro e w3 ⟨v3, rfl, ho, hB3⟩
  have hB := hB2.trans ((hBa.trans (hB3.mono (by simp))).mono hsz)
  clear C hB2 hBa hB3
  go_wp2_with fail
  go_ret
  exact ⟨_, rfl, ownsRow_base ho (by simp; omega), hB⟩

set_option maxRecDepth 20000 in
theorem crcGet_short (vx : Value) (bs : List Nat) (w : World) (h : Sl w 1 vx bs.length (u8s bs)) (hl : bs.length < 4) :
    Calls Tryd.prog 27 #[vx] w fun e w' => e = .returned (.tuple #[.slice none 0 0, .bool false]) ∧ Below w.heap.size w w' := by
  obtain ⟨a, cap, rfl⟩ := sl_slice h
  have hd : decide ((bs.length : Int) - 4 < 0) = true := by simp; omega
  go_enter Tryd.func27, Tryd.ntmps27
  go_wp2
  go_quiet (fail)
  go_wp2
  go_ret2
  exact ⟨rfl, below_dN (Below.refl _ _) _⟩

set_option maxHeartbeats 1600000 in
set_option maxRecDepth 20000 in
theorem crcGet_yes (vx : Value) (bs : List Nat) (w : World) (h : Sl w 1 vx bs.length (u8s bs)) (hl : bs.length ≤ 35184372088832) (hb : ∀ x ∈ bs, x < 256) (h4 : 4 ≤ bs.length) (hok : okB bs = true) :
    Calls Tryd.prog 27 #[vx] w fun e w' => ∃ v, e = .returned (.tuple #[v, .bool true]) ∧ w'.ownsRow w.heap.size 5 1 v (bs.length - 4) (u8s (bs.take (bs.length - 4))) ∧ Below w.heap.size w w' := by
  have HB := Lib.hid hb; clear hb
  obtain ⟨n, hn⟩ : ∃ n, n = bs.length - 4 := ⟨_, rfl⟩
  obtain ⟨a, cap, rfl⟩ := sl_slice h
  obtain ⟨cut1, s1⟩ := h.cut_to Eu8 n (by omega)
  obtain ⟨a', cap', cut2, s2, _⟩ := h.cut_from Eu8 n (by omega)
  have hd : decide ((bs.length : Int) - 4 < 0) = false := by simp; omega
  have he : (bs.length : Int) - 4 = n := by omega
  have hnd : bs.length - n = 4 := by omega
  rw [hnd] at cut2 s2
  have et : u8s (bs.take n) = (u8s bs).take n := by simp [u8s]
  have ed : u8s (bs.drop n) = (u8s bs).drop n := by simp [u8s]
  rw [← et] at s1
  rw [← ed] at s2
  have hokB : okB bs = (bs.drop n == tail4 (sumB (bs.take n))) := by rw [hn]; unfold okB; simp [h4]
  rw [hok] at hokB
  rw [← hn]
  have HN := Lib.hid hn; clear hn hnd et ed
  have lt : (bs.take n).length = n := by simp; have := HN.out; omega
  have ld : (bs.drop n).length = 4 := by simp; have := HN.out; omega
  have LT := Lib.hid lt; clear lt
  have LD := Lib.hid ld; clear ld
  have HO := Lib.hid hokB; clear hokB hok
  have C1 := crcSum_any _ (bs.take n) w.drew (by rw [LT.out]; exact s1) (by rw [LT.out]; omega) (mem_take HB.out n)
  go_enter Tryd.func27, Tryd.ntmps27
  go_wp2
  refine wp_region_held_drew (S := (fun _ : World => True)) (by kernel_rfl) (trivial) (fun hHeld => ?_)
  refine wpAnyH_take (i := 0) (v := ?v1) rfl (by kernel_rfl) (by kernel_rfl) (by kernel_rfl) (fun _ _ _ h => h) (Or.inl ⟨by rfl, ?hy1⟩) hHeld ?rest1
  case hy1 => (intro w' hSw; (try dsimp only at hSw); go_simp; (try with_reducible rfl))
  try simp only [Act.put, List.setIfInBounds_toArray, List.set_cons_zero, List.set_cons_succ, List.getElem_toArray, List.getElem_cons_zero, List.getElem_cons_succ]
  refine wpAnyH_take (i := 1) (v := ?v2) rfl (by kernel_rfl) (by kernel_rfl) (by kernel_rfl) (fun _ _ _ h => h) (Or.inl ⟨by rfl, ?hy2⟩) hHeld ?rest2
  case hy2 => (intro w' hSw; (try dsimp only at hSw); go_simp; (try with_reducible rfl))
  try simp only [Act.put, List.setIfInBounds_toArray, List.set_cons_zero, List.set_cons_succ, List.getElem_toArray, List.getElem_cons_zero, List.getElem_cons_succ]
  refine wpAnyH_take (i := 2) (v := ?v3) rfl (by kernel_rfl) (by kernel_rfl) (by kernel_rfl) (fun _ _ _ h => h) (Or.inl ⟨by rfl, ?hy3⟩) hHeld ?rest3
  case hy3 => (intro w' hSw; (try dsimp only at hSw); go_simp; (try with_reducible rfl))
  try simp only [Act.put, List.setIfInBounds_toArray, List.set_cons_zero, List.set_cons_succ, List.getElem_toArray, List.getElem_cons_zero, List.getElem_cons_succ]
  refine wpAnyH_take (i := 3) (v := ?v4) rfl (by kernel_rfl) (by kernel_rfl) (by kernel_rfl) (fun _ _ _ h => h) (Or.inl ⟨by rfl, ?hy4⟩) hHeld ?rest4
  case hy4 => (intro w' hSw; (try dsimp only at hSw); go_simp; (try with_reducible rfl))
  try simp only [Act.put, List.setIfInBounds_toArray, List.set_cons_zero, List.set_cons_succ, List.getElem_toArray, List.getElem_cons_zero, List.getElem_cons_succ]
  refine wpAnyH_take (i := 4) (v := ?v5) rfl (by kernel_rfl) (by kernel_rfl) (by kernel_rfl) (fun _ _ _ h => h) (Or.inl ⟨by rfl, ?hy5⟩) hHeld ?rest5
  case hy5 => (intro w' hSw; (try dsimp only at hSw); go_simp; (try with_reducible rfl))
  try simp only [Act.put, List.setIfInBounds_toArray, List.set_cons_zero, List.set_cons_succ, List.getElem_toArray, List.getElem_cons_zero, List.getElem_cons_succ]
  refine wpAnyH_take (i := 5) (v := ?v6) rfl (by kernel_rfl) (by kernel_rfl) (by kernel_rfl) (fun _ _ _ h => h) (Or.inl ⟨by rfl, ?hy6⟩) hHeld ?rest6
  case hy6 => (intro w' hSw; (try dsimp only at hSw); go_simp; (try with_reducible rfl))
  try simp only [Act.put, List.setIfInBounds_toArray, List.set_cons_zero, List.set_cons_succ, List.getElem_toArray, List.getElem_cons_zero, List.getElem_cons_succ]
  refine wpAnyH_take (i := 8) (v := ?v7) rfl (by kernel_rfl) (by kernel_rfl) (by kernel_rfl) (fun _ _ _ h => h) (Or.inl ⟨by rfl, ?hy7⟩) hHeld ?rest7
  case hy7 => (intro w' hSw; (try dsimp only at hSw); go_simp; (try with_reducible rfl))
  try simp only [Act.put, List.setIfInBounds_toArray, List.set_cons_zero, List.set_cons_succ, List.getElem_toArray, List.getElem_cons_zero, List.getElem_cons_succ]
  refine wpAnyH_take (i := 9) (v := ?v8) rfl (by kernel_rfl) (by kernel_rfl) (by kernel_rfl) (fun _ _ _ h => h) (Or.inl ⟨by rfl, ?hy8⟩) hHeld ?rest8
  case hy8 => (intro w' hSw; (try dsimp only at hSw); go_simp; (try with_reducible rfl))
  try simp only [Act.put, List.setIfInBounds_toArray, List.set_cons_zero, List.set_cons_succ, List.getElem_toArray, List.getElem_cons_zero, List.getElem_cons_succ]
  refine wpAnyH_take (i := 10) (v := ?v9) rfl (by kernel_rfl) (by kernel_rfl) (by kernel_rfl) (fun _ _ _ h => h) (Or.inl ⟨by rfl, ?hy9⟩) hHeld ?rest9
  case hy9 => (intro w' hSw; (try dsimp only at hSw); go_simp; (try with_reducible rfl))
  try simp only [Act.put, List.setIfInBounds_toArray, List.set_cons_zero, List.set_cons_succ, List.getElem_toArray, List.getElem_cons_zero, List.getElem_cons_succ]
  refine wpAnyH_ready (rs := [6]) (by kernel_rfl) (by simp) ?_
  refine AllReadyH.cons rfl (fun K hK => ?_) AllReadyH.nil
  go_simp
  refine C1.mono ?_
  rintro e w1 ⟨rfl, rfl⟩
  try go_wp2_with fail
  refine hK.out _ _ (trivial) (fun hHeld => ?_)
  clear hK K
  try simp only [Act.put, List.setIfInBounds_toArray, List.set_cons_zero, List.set_cons_succ, List.getElem_toArray, List.getElem_cons_zero, List.getElem_cons_succ]
  refine wpAnyH_ready (rs := [7]) (by kernel_rfl) (by simp) ?_
  refine AllReadyH.cons rfl (fun K hK => ?_) AllReadyH.nil
  go_simp
  refine (tail_any _ (sumB_lt _) _).mono ?_
  rintro e w2 ⟨v2, rfl, hs2, hB2⟩
  try go_wp2_with fail
  refine hK.out _ _ (trivial) (fun hHeld => ?_)
  clear hK K
  try simp only [Act.put, List.setIfInBounds_toArray, List.set_cons_zero, List.set_cons_succ, List.getElem_toArray, List.getElem_cons_zero, List.getElem_cons_succ]
  refine wpAnyH_ready (rs := [11]) (by kernel_rfl) (by simp) ?_
  refine AllReadyH.cons rfl (fun K hK => ?_) AllReadyH.nil
  go_simp
  have hB : Below w.heap.size w w2 := ((Below.refl w.heap.size w).drew).trans hB2
  have s2' := s2.below hB
  refine (bytesEqual_yes _ _ (tail4 (sumB (bs.take n))) (bs.drop n) _ (by rw [tail4_length]; exact hs2) (by rw [LD.out]; exact s2') (eq_of_beq HO.out.symm).symm).mono ?_
  rintro e w3 ⟨rfl, rfl⟩
  try go_wp2_with fail
  refine hK.out _ _ (trivial) (fun hHeld => ?_)
  clear hK K
  try simp only [Act.put, List.setIfInBounds_toArray, List.set_cons_zero, List.set_cons_succ, List.getElem_toArray, List.getElem_cons_zero, List.getElem_cons_succ]
  refine wpAnyH_take (i := 12) (v := ?v13) rfl (by kernel_rfl) (by kernel_rfl) (by kernel_rfl) (fun _ _ _ h => h) (Or.inl ⟨by rfl, ?hy13⟩) hHeld ?rest13
  case hy13 => (intro w' hSw; (try dsimp only at hSw); go_simp; (try with_reducible rfl))
  try simp only [Act.put, List.setIfInBounds_toArray, List.set_cons_zero, List.set_cons_succ, List.getElem_toArray, List.getElem_cons_zero, List.getElem_cons_succ]
  refine wpAnyH_take (i := 13) (v := ?v14) rfl (by kernel_rfl) (by kernel_rfl) (by kernel_rfl) (fun _ _ _ h => h) (Or.inl ⟨by rfl, ?hy14⟩) hHeld ?rest14
  case hy14 => (intro w' hSw; (try dsimp only at hSw); go_simp; (try with_reducible rfl))
  try simp only [Act.put, List.setIfInBounds_toArray, List.set_cons_zero, List.set_cons_succ, List.getElem_toArray, List.getElem_cons_zero, List.getElem_cons_succ]
  refine wpAnyH_done (by kernel_rfl) ?_ _
  clear C1 hB2
  have s1' := s1.below hB
  go_wp2_with fail
  have C2 := clone_any _ (bs.take n) w2 (by rw [LT.out]; exact s1') (by rw [LT.out]; omega)
  rw [LT.out] at C2
  refine C2.mono ?_
  rintro e w4 ⟨v4, rfl, ho4, hB4⟩
  have hsz := hB.size
  go_wp2
  go_ret2
  exact ⟨_, rfl, ownsRow_base ho4 hsz, hB.trans (hB4.mono hsz)⟩

set_option maxHeartbeats 1600000 in
set_option maxRecDepth 20000 in
theorem crcGet_no (vx : Value) (bs : List Nat) (w : World) (h : Sl w 1 vx bs.length (u8s bs)) (hl : bs.length ≤ 35184372088832) (hb : ∀ x ∈ bs, x < 256) (h4 : 4 ≤ bs.length) (hok : okB bs = false) :
    Calls Tryd.prog 27 #[vx] w fun e w' => e = .returned (.tuple #[.slice none 0 0, .bool false]) ∧ Below w.heap.size w w' := by
  have HB := Lib.hid hb; clear hb
  obtain ⟨n, hn⟩ : ∃ n, n = bs.length - 4 := ⟨_, rfl⟩
  obtain ⟨a, cap, rfl⟩ := sl_slice h
  obtain ⟨cut1, s1⟩ := h.cut_to Eu8 n (by omega)
  obtain ⟨a', cap', cut2, s2, _⟩ := h.cut_from Eu8 n (by omega)
  have hd : decide ((bs.length : Int) - 4 < 0) = false := by simp; omega
  have he : (bs.length : Int) - 4 = n := by omega
  have hnd : bs.length - n = 4 := by omega
  rw [hnd] at cut2 s2
  have et : u8s (bs.take n) = (u8s bs).take n := by simp [u8s]
  have ed : u8s (bs.drop n) = (u8s bs).drop n := by simp [u8s]
  rw [← et] at s1
  rw [← ed] at s2
  have hokB : okB bs = (bs.drop n == tail4 (sumB (bs.take n))) := by rw [hn]; unfold okB; simp [h4]
  rw [hok] at hokB
  have HN := Lib.hid hn; clear hn hnd et ed
  have lt : (bs.take n).length = n := by simp; have := HN.out; omega
  have ld : (bs.drop n).length = 4 := by simp; have := HN.out; omega
  have LT := Lib.hid lt; clear lt
  have LD := Lib.hid ld; clear ld
  have HO := Lib.hid hokB; clear hokB hok
  have C1 := crcSum_any _ (bs.take n) w.drew (by rw [LT.out]; exact s1) (by rw [LT.out]; omega) (mem_take HB.out n)
  go_enter Tryd.func27, Tryd.ntmps27
  go_wp2
  refine wp_region_held_drew (S := (fun _ : World => True)) (by kernel_rfl) (trivial) (fun hHeld => ?_)
  refine wpAnyH_take (i := 0) (v := ?v15) rfl (by kernel_rfl) (by kernel_rfl) (by kernel_rfl) (fun _ _ _ h => h) (Or.inl ⟨by rfl, ?hy15⟩) hHeld ?rest15
  case hy15 => (intro w' hSw; (try dsimp only at hSw); go_simp; (try with_reducible rfl))
  try simp only [Act.put, List.setIfInBounds_toArray, List.set_cons_zero, List.set_cons_succ, List.getElem_toArray, List.getElem_cons_zero, List.getElem_cons_succ]
  refine wpAnyH_take (i := 1) (v := ?v16) rfl (by kernel_rfl) (by kernel_rfl) (by kernel_rfl) (fun _ _ _ h => h) (Or.inl ⟨by rfl, ?hy16⟩) hHeld ?rest16
  case hy16 => (intro w' hSw; (try dsimp only at hSw); go_simp; (try with_reducible rfl))
  try simp only [Act.put, List.setIfInBounds_toArray, List.set_cons_zero, List.set_cons_succ, List.getElem_toArray, List.getElem_cons_zero, List.getElem_cons_succ]
  refine wpAnyH_take (i := 2) (v := ?v17) rfl (by kernel_rfl) (by kernel_rfl) (by kernel_rfl) (fun _ _ _ h => h) (Or.inl ⟨by rfl, ?hy17⟩) hHeld ?rest17
  case hy17 => (intro w' hSw; (try dsimp only at hSw); go_simp; (try with_reducible rfl))
  try simp only [Act.put, List.setIfInBounds_toArray, List.set_cons_zero, List.set_cons_succ, List.getElem_toArray, List.getElem_cons_zero, List.getElem_cons_succ]
  refine wpAnyH_take (i := 3) (v := ?v18) rfl (by kernel_rfl) (by kernel_rfl) (by kernel_rfl) (fun _ _ _ h => h) (Or.inl ⟨by rfl, ?hy18⟩) hHeld ?rest18
  case hy18 => (intro w' hSw; (try dsimp only at hSw); go_simp; (try with_reducible rfl))
  try simp only [Act.put, List.setIfInBounds_toArray, List.set_cons_zero, List.set_cons_succ, List.getElem_toArray, List.getElem_cons_zero, List.getElem_cons_succ]
  refine wpAnyH_take (i := 4) (v := ?v19) rfl (by kernel_rfl) (by kernel_rfl) (by kernel_rfl) (fun _ _ _ h => h) (Or.inl ⟨by rfl, ?hy19⟩) hHeld ?rest19
  case hy19 => (intro w' hSw; (try dsimp only at hSw); go_simp; (try with_reducible rfl))
  try simp only [Act.put, List.setIfInBounds_toArray, List.set_cons_zero, List.set_cons_succ, List.getElem_toArray, List.getElem_cons_zero, List.getElem_cons_succ]
  refine wpAnyH_take (i := 5) (v := ?v20) rfl (by kernel_rfl) (by kernel_rfl) (by kernel_rfl) (fun _ _ _ h => h) (Or.inl ⟨by rfl, ?hy20⟩) hHeld ?rest20
  case hy20 => (intro w' hSw; (try dsimp only at hSw); go_simp; (try with_reducible rfl))
  try simp only [Act.put, List.setIfInBounds_toArray, List.set_cons_zero, List.set_cons_succ, List.getElem_toArray, List.getElem_cons_zero, List.getElem_cons_succ]
  refine wpAnyH_take (i := 8) (v := ?v21) rfl (by kernel_rfl) (by kernel_rfl) (by kernel_rfl) (fun _ _ _ h => h) (Or.inl ⟨by rfl, ?hy21⟩) hHeld ?rest21
  case hy21 => (intro w' hSw; (try dsimp only at hSw); go_simp; (try with_reducible rfl))
  try simp only [Act.put, List.setIfInBounds_toArray, List.set_cons_zero, List.set_cons_succ, List.getElem_toArray, List.getElem_cons_zero, List.getElem_cons_succ]
  refine wpAnyH_take (i := 9) (v := ?v22) rfl (by kernel_rfl) (by kernel_rfl) (by kernel_rfl) (fun _ _ _ h => h) (Or.inl ⟨by rfl, ?hy22⟩) hHeld ?rest22
  case hy22 => (intro w' hSw; (try dsimp only at hSw); go_simp; (try with_reducible rfl))
  try simp only [Act.put, List.setIfInBounds_toArray, List.set_cons_zero, List.set_cons_succ, List.getElem_toArray, List.getElem_cons_zero, List.getElem_cons_succ]
  refine wpAnyH_take (i := 10) (v := ?v23) rfl (by kernel_rfl) (by kernel_rfl) (by kernel_rfl) (fun _ _ _ h => h) (Or.inl ⟨by rfl, ?hy23⟩) hHeld ?rest23
  case hy23 => (intro w' hSw; (try dsimp only at hSw); go_simp; (try with_reducible rfl))
  try simp only [Act.put, List.setIfInBounds_toArray, List.set_cons_zero, List.set_cons_succ, List.getElem_toArray, List.getElem_cons_zero, List.getElem_cons_succ]
  refine wpAnyH_ready (rs := [6]) (by kernel_rfl) (by simp) ?_
  refine AllReadyH.cons rfl (fun K hK => ?_) AllReadyH.nil
  go_simp
  refine C1.mono ?_
  rintro e w1 ⟨rfl, rfl⟩
  try go_wp2_with fail
  refine hK.out _ _ (trivial) (fun hHeld => ?_)
  clear hK K
  try simp only [Act.put, List.setIfInBounds_toArray, List.set_cons_zero, List.set_cons_succ, List.getElem_toArray, List.getElem_cons_zero, List.getElem_cons_succ]
  refine wpAnyH_ready (rs := [7]) (by kernel_rfl) (by simp) ?_
  refine AllReadyH.cons rfl (fun K hK => ?_) AllReadyH.nil
  go_simp
  refine (tail_any _ (sumB_lt _) _).mono ?_
  rintro e w2 ⟨v2, rfl, hs2, hB2⟩
  try go_wp2_with fail
  refine hK.out _ _ (trivial) (fun hHeld => ?_)
  clear hK K
  try simp only [Act.put, List.setIfInBounds_toArray, List.set_cons_zero, List.set_cons_succ, List.getElem_toArray, List.getElem_cons_zero, List.getElem_cons_succ]
  refine wpAnyH_ready (rs := [11]) (by kernel_rfl) (by simp) ?_
  refine AllReadyH.cons rfl (fun K hK => ?_) AllReadyH.nil
  go_simp
  have hB : Below w.heap.size w w2 := ((Below.refl w.heap.size w).drew).trans hB2
  have s2' := s2.below hB
  refine (bytesEqual_no _ _ (tail4 (sumB (bs.take n))) (bs.drop n) _ (by rw [tail4_length]; exact hs2) (by rw [LD.out]; exact s2') (tail4_lt _) (fun x hx => HB.out x (List.mem_of_mem_drop hx)) (fun e => by have := HO.out; rw [e] at this; simp at this)).mono ?_
  rintro e w3 ⟨rfl, rfl⟩
  try go_wp2_with fail
  refine hK.out _ _ (trivial) (fun hHeld => ?_)
  clear hK K
  try simp only [Act.put, List.setIfInBounds_toArray, List.set_cons_zero, List.set_cons_succ, List.getElem_toArray, List.getElem_cons_zero, List.getElem_cons_succ]
  refine wpAnyH_take (i := 12) (v := ?v27) rfl (by kernel_rfl) (by kernel_rfl) (by kernel_rfl) (fun _ _ _ h => h) (Or.inl ⟨by rfl, ?hy27⟩) hHeld ?rest27
  case hy27 => (intro w' hSw; (try dsimp only at hSw); go_simp; (try with_reducible rfl))
  try simp only [Act.put, List.setIfInBounds_toArray, List.set_cons_zero, List.set_cons_succ, List.getElem_toArray, List.getElem_cons_zero, List.getElem_cons_succ]
  refine wpAnyH_take (i := 13) (v := ?v28) rfl (by kernel_rfl) (by kernel_rfl) (by kernel_rfl) (fun _ _ _ h => h) (Or.inl ⟨by rfl, ?hy28⟩) hHeld ?rest28
  case hy28 => (intro w' hSw; (try dsimp only at hSw); go_simp; (try with_reducible rfl))
  try simp only [Act.put, List.setIfInBounds_toArray, List.set_cons_zero, List.set_cons_succ, List.getElem_toArray, List.getElem_cons_zero, List.getElem_cons_succ]
  refine wpAnyH_done (by kernel_rfl) ?_ _
  clear C1 hB2
  go_wp2
  go_ret2
  exact ⟨rfl, hB⟩

end Go.Proofs.YtfkncfjdgbgeeaaDoor

/-
  Numbers in bytes, the lowest first: written behind others, and read (the code's).
-/
namespace Go.Proofs.YtfkncfjdgbgeeaaDoor
open Go.RowKit Go.Th Go.Th.Crc

theorem lowB_length (x n : Nat) : (lowB x n).length = n := by simp [lowB]
theorem lowB_lt (x n : Nat) : ∀ y ∈ lowB x n, y < 256 := by
  intro y hy
  obtain ⟨i, _, rfl⟩ := List.mem_map.1 hy
  exact Nat.mod_lt _ (by decide)

set_option maxHeartbeats 1600000 in
set_option maxRecDepth 20000 in
theorem bput_any (vx : Value) (bs : List Nat) (x n : Nat) (w : World) (h : Sl w 1 vx bs.length (u8s bs)) (hl : bs.length ≤ 70368744177664) (hx : x < 18446744073709551616) (hn : n ≤ 1000000) :
    Calls Tryd.prog 22 #[vx, .int .u64 x, .int .i64 n] w fun e w' => ∃ v, e = .returned v ∧ w'.ownsRow w.heap.size 5 1 v (bs.length + n) (u8s (bs ++ lowB x n)) ∧ Below w.heap.size w w' := by
  have hn' : ¬ ((2147483647 : Int) < (n : Int)) := by omega
  obtain ⟨a, cp, rfl, hs⟩ := id h
  go_enter Tryd.func22, Tryd.ntmps22
  go_wp2_with (go_at_call 31; refine (clone_any _ bs _ h (by omega)).mono ?_; rintro e w2 ⟨v2, rfl, ho, hB⟩)
  go_loopw [1, 7, 14] (fun y v c wx => ∃ i : Nat, i ≤ n ∧ c = .int .i64 i ∧ y = .int .u64 (x / 256 ^ i : Nat) ∧ wx.ownsRow w.heap.size 5 1 v (bs.length + i) (u8s (bs ++ lowB x i)) ∧ Below w.heap.size w wx) (fun _ _ c _ => n - (intOf c).toNat)
  case atStart => exact ⟨0, Nat.zero_le _, rfl, by simp, by simpa [lowB] using ho, hB⟩
  case round =>
    clear ho hB
    obtain ⟨i, hi, rfl, rfl, ho, hB⟩ := hrel
    have hsz := hB.size
    obtain ⟨y, hy⟩ : ∃ y, y = x / 256 ^ i := ⟨_, rfl⟩
    have hy2 : y < 18446744073709551616 := by rw [hy]; exact Nat.lt_of_le_of_lt (Nat.div_le_self _ _) hx
    rw [← hy]
    by_cases hlt : i < n
    · have h1 : lowB x (i + 1) = lowB x i ++ [y % 256] := by rw [hy]; exact lowB_succ x i
      have h2 : y / 256 = x / 256 ^ (i + 1) := by rw [hy, Nat.pow_succ, Nat.div_div_eq_div_mul]
      have H1 := Lib.hid h1; clear h1
      have H2 := Lib.hid h2; clear h2 hy
      go_wp2_with (at_builtin; refine wpList_app Eu8 rfl (.tmp 16) (.tmp 19) rfl w.heap.size rfl (ho.alloc _) rfl (Sl.one _ _ _) (by intro u hu; simp at hu; subst hu; rfl) (by unfold maxLen; omega) (by omega) (by simp; omega) ?_)
      intro v2 w2 ho2 hg2 _
      have hB2 := (hB.alloc hB.size (.cells #[.int .u8 ((y : Int) % 256)] 5)).grown hg2 (by simp; omega) (fun q hq => (ho.lt q hq).1)
      clear ho hB hg2
      go_wp2
      go_roundw
      case rel =>
        refine ⟨i + 1, by omega, by go_num, ?_, ?_, hB2⟩
        · congr 1; rw [← H2.out]; omega
        · rw [H1.out, ← List.append_assoc, u8s_snoc]
          have e : ((y % 256 : Nat) : Int) = (y : Int) % 256 := by simp
          rw [e]
          exact ho2
      case measure => simp [intOf]; omega
    · obtain rfl : i = n := by omega
      go_wp2
      go_ret
      exact ⟨_, rfl, ho, hB⟩

/-- The number of so many bytes, the lowest first. -/
def leVal : List Nat → Nat
  | [] => 0
  | b :: r => b + 256 * leVal r
theorem leVal_snoc (l : List Nat) (b : Nat) : leVal (l ++ [b]) = leVal l + b * 256 ^ l.length := by
  induction l with
  | nil => simp [leVal]
  | cons c r ih => simp only [List.cons_append, leVal, ih, List.length_cons, Nat.pow_succ]; rw [Nat.mul_add, Nat.add_assoc]; congr 2; rw [Nat.mul_comm 256, Nat.mul_assoc]
theorem leVal_lt (l : List Nat) (h : ∀ x ∈ l, x < 256) : leVal l < 256 ^ l.length := by
  induction l with
  | nil => simp [leVal]
  | cons c r ih =>
    have h1 := h c (by simp)
    have h2 := ih (fun x hx => h x (by simp [hx]))
    simp only [leVal, List.length_cons, Nat.pow_succ]
    omega

theorem or_shift (x y i : Nat) (hx : x < 256 ^ i) (hy : y < 256) (hi : i < 8) : bits BinOp.or IntKind.u64 (x : Int) (IntKind.u64.wrap ((y : Int) * 2 ^ (8 * i))) = ((x + y * 256 ^ i : Nat) : Int) := by
  have e : (256 : Nat) ^ i = 2 ^ (8 * i) := by rw [Nat.pow_mul]
  have h1 : y * 2 ^ (8 * i) < 18446744073709551616 := by
    have h2 : (2 : Nat) ^ (8 * i) ≤ 2 ^ 56 := Nat.pow_le_pow_right (by decide) (by omega)
    have h3 : y * 2 ^ (8 * i) ≤ 255 * 2 ^ 56 := Nat.mul_le_mul (by omega) h2
    omega
  have h2 : IntKind.u64.wrap ((y : Int) * 2 ^ (8 * i)) = ((y * 2 ^ (8 * i) : Nat) : Int) := by
    have : ((y : Int) * 2 ^ (8 * i)) = ((y * 2 ^ (8 * i) : Nat) : Int) := by simp
    rw [this]
    generalize y * 2 ^ (8 * i) = t at *
    simp [IntKind.wrap, IntKind.bits, IntKind.signed]
    omega
  have h3 : x < 18446744073709551616 := Nat.lt_of_lt_of_le hx (by rw [e]; exact Nat.le_trans (Nat.pow_le_pow_right (n := 2) (by decide) (show 8 * i ≤ 56 by omega)) (by decide))
  rw [h2, u64_or_nat _ _ h3 h1, Nat.or_comm, nat_join (8 * i) _ _ (by simp) (by rw [← e]; exact hx), e, Nat.add_comm]

set_option maxRecDepth 20000 in
theorem bget_no (vx : Value) (bs : List Nat) (at_ size : Int) (w : World) (h : Sl w 1 vx bs.length (u8s bs)) (hsz : 0 ≤ size) (hs8 : size ≤ 8) (hat : 0 ≤ at_) (hat2 : at_ ≤ 9223372036854775807) (hl : bs.length ≤ 140737488355328) (hno : (bs.length : Int) - size < at_) :
    Calls Tryd.prog 41 #[vx, .int .i64 at_, .int .i64 size] w fun e w' => e = .returned (.tuple #[.int .u64 0, .int .i64 2]) ∧ w = w' := by
  obtain ⟨a, cp, rfl, hs⟩ := id h
  have h1 : ¬ (size < 0) := by omega
  have h2 : ¬ (8 < size) := by omega
  have h3 : ¬ (at_ < 0) := by omega
  go_enter Tryd.func41, Tryd.ntmps41
  go_wp2
  go_ret2
  exact ⟨rfl, rfl⟩

set_option maxHeartbeats 1600000 in
set_option maxRecDepth 20000 in
theorem bget_yes (vx : Value) (bs : List Nat) (at_ size : Nat) (w : World) (h : Sl w 1 vx bs.length (u8s bs)) (hs8 : size ≤ 8) (hl : bs.length ≤ 140737488355328) (hbyte : ∀ x ∈ bs, x < 256) (hyes : at_ + size ≤ bs.length) :
    Calls Tryd.prog 41 #[vx, .int .i64 at_, .int .i64 size] w fun e w' => e = .returned (.tuple #[.int .u64 (leVal ((bs.drop at_).take size) : Nat), .int .i64 0]) ∧ w = w' := by
  obtain ⟨a, cp, rfl, hs1, hs2, hs3, hs4, hs5⟩ := id h
  have h1 : ¬ ((size : Int) < 0) := by omega
  have h2 : ¬ ((8 : Int) < size) := by omega
  have h3 : ¬ ((at_ : Int) < 0) := by omega
  have h4 : ¬ ((bs.length : Int) - size < at_) := by omega
  have HS := Lib.hid hs5; clear hs5
  have HBY := Lib.hid hbyte; clear hbyte
  go_enter Tryd.func41, Tryd.ntmps41
  go_wp2
  go_loop [8, 29] (fun x c => ∃ i : Nat, i ≤ size ∧ c = .int .i64 i ∧ x = .int .u64 (leVal ((bs.drop at_).take i) : Nat)) (fun _ c => size - (intOf c).toNat)
  case atStart => exact ⟨0, Nat.zero_le _, rfl, rfl⟩
  case round =>
    obtain ⟨i, hi, rfl, rfl⟩ := hrel
    have hll : ((bs.drop at_).take i).length = i := by simp; omega
    have hv : leVal ((bs.drop at_).take i) < 256 ^ i := by
      have := leVal_lt ((bs.drop at_).take i) (fun x hx => HBY.out x (List.mem_of_mem_drop (List.mem_of_mem_take hx)))
      rwa [hll] at this
    by_cases hlt : i < size
    · obtain ⟨b, o, rfl, hc⟩ := HS.out (at_ + i) (.int .u8 (bs[at_ + i]'(by omega) : Nat)) (by simp only [u8s, List.getElem?_map]; rw [List.getElem?_eq_getElem (by omega)]; rfl)
      have hb := HBY.out (bs[at_ + i]'(by omega)) (List.getElem_mem _)
      have hsn : leVal ((bs.drop at_).take (i + 1)) = leVal ((bs.drop at_).take i) + (bs[at_ + i]'(by omega)) * 256 ^ i := by
        rw [List.take_add_one, List.getElem?_drop, List.getElem?_eq_getElem (by omega)]
        show leVal (_ ++ [_]) = _
        rw [leVal_snoc, hll]
      obtain ⟨x, hx⟩ : ∃ x, x = leVal ((bs.drop at_).take i) := ⟨_, rfl⟩
      obtain ⟨y, hy⟩ : ∃ y, y = (bs[at_ + i]'(by omega)) := ⟨_, rfl⟩
      rw [← hy] at hc hb hsn
      rw [← hx] at hv hsn ⊢
      have HN := Lib.hid hsn; clear hsn hx hy hll
      have hv' := Lib.hid hv; clear hv
      go_wp2
      go_round
      case rel => exact ⟨i + 1, by omega, by go_num, by rw [HN.out, or_shift x y i hv'.out hb (by omega)]⟩
      case measure => simp [intOf]; omega
    · obtain rfl : i = size := by omega
      go_wp2
      go_ret2
      exact ⟨rfl, rfl⟩

theorem leVal_append (a b : List Nat) : leVal (a ++ b) = leVal a + 256 ^ a.length * leVal b := by
  induction a with
  | nil => simp [leVal]
  | cons c r ih =>
    simp only [List.cons_append, leVal, ih, List.length_cons, Nat.pow_succ, Nat.mul_add]
    rw [← Nat.mul_assoc, Nat.mul_comm 256 (256 ^ r.length), Nat.add_assoc]
/-- What is written is read. -/
theorem leVal_lowB (x n : Nat) : leVal (lowB x n) = x % 256 ^ n := by
  induction n with
  | zero => simp [lowB, leVal, Nat.mod_one]
  | succ n ih =>
    rw [lowB_succ, leVal_snoc, ih, lowB_length, Nat.pow_succ, Nat.mod_mul, Nat.mul_comm (256 ^ n)]
theorem lowB_leVal (l : List Nat) (h : ∀ x ∈ l, x < 256) : lowB (leVal l) l.length = l := by
  induction l with
  | nil => rfl
  | cons b r ih =>
    have hb := h b (by simp)
    have hr := ih (fun x hx => h x (by simp [hx]))
    unfold lowB at hr ⊢
    rw [List.length_cons, List.range_succ_eq_map, List.map_cons, List.map_map]
    congr 1
    · simp only [leVal, Nat.pow_zero, Nat.div_one]; omega
    · refine Eq.trans ?_ hr
      refine List.map_congr_left fun i _ => ?_
      simp only [Function.comp_def, leVal, Nat.pow_succ]
      rw [Nat.mul_comm (256 ^ i) 256, ← Nat.div_div_eq_div_mul]
      congr 2
      omega
end Go.Proofs.YtfkncfjdgbgeeaaDoor
