/-
  Sums of 32 bits: plain.
-/
namespace Go.Th.Crc

/-- The step of a register, of a bit that is 0. -/
def s1 (r : Nat) : Nat := (r / 2) ^^^ (if r % 2 = 1 then 3988292384 else 0)
def sk : Nat → Nat → Nat
  | 0, r => r
  | n + 1, r => sk n (s1 r)

theorem s1_lt {r : Nat} (h : r < 4294967296) : s1 r < 4294967296 := by
  unfold s1
  have : ∀ p, p < 4294967296 → r / 2 ^^^ p < 4294967296 := fun p hp => Nat.xor_lt_two_pow (n := 32) (by omega) hp
  split <;> exact this _ (by decide)

theorem xor_half (a b : Nat) : (a ^^^ b) / 2 = a / 2 ^^^ b / 2 := by
  apply Nat.eq_of_testBit_eq; intro i
  simp [Nat.testBit_div_two, Nat.testBit_xor]
theorem xor_mod2 (a b : Nat) : (a ^^^ b) % 2 = (a % 2 + b % 2) % 2 := by
  have h := Nat.testBit_xor a b 0
  simp only [Nat.testBit_zero] at h
  have h1 : (a ^^^ b) % 2 = 0 ∨ (a ^^^ b) % 2 = 1 := by omega
  have h2 : a % 2 = 0 ∨ a % 2 = 1 := by omega
  have h3 : b % 2 = 0 ∨ b % 2 = 1 := by omega
  rcases h1 with h1 | h1 <;> rcases h2 with h2 | h2 <;> rcases h3 with h3 | h3 <;> simp [h1, h2, h3] at h ⊢

theorem xor4 (a b c d : Nat) : (a ^^^ b) ^^^ (c ^^^ d) = (a ^^^ c) ^^^ (b ^^^ d) := by
  rw [Nat.xor_assoc, Nat.xor_assoc]
  congr 1
  rw [← Nat.xor_assoc, ← Nat.xor_assoc, Nat.xor_comm b c]

theorem s1_xor (a b : Nat) : s1 (a ^^^ b) = s1 a ^^^ s1 b := by
  unfold s1
  rw [xor4, xor_half]
  congr 1
  rw [xor_mod2]
  have h2 : a % 2 = 0 ∨ a % 2 = 1 := by omega
  have h3 : b % 2 = 0 ∨ b % 2 = 1 := by omega
  rcases h2 with h2 | h2 <;> rcases h3 with h3 | h3 <;> simp [h2, h3]

theorem s1_zero : s1 0 = 0 := by decide
theorem s1_double (z : Nat) : s1 (2 * z) = z := by
  unfold s1
  have h1 : 2 * z / 2 = z := by omega
  have h2 : ¬ (2 * z % 2 = 1) := by omega
  rw [h1, if_neg h2, Nat.xor_zero]

theorem s1_inj0 {r : Nat} (h : r < 4294967296) (h0 : s1 r = 0) : r = 0 := by
  unfold s1 at h0
  have hx : ∀ a b : Nat, a ^^^ b = 0 → a = b := fun a b h => by
    have := congrArg (· ^^^ b) h
    simpa [Nat.xor_assoc] using this
  have := hx _ _ h0
  split at this <;> omega

theorem sk_lt {r : Nat} (h : r < 4294967296) : ∀ n, sk n r < 4294967296 := by
  intro n
  induction n generalizing r with
  | zero => exact h
  | succ n ih => exact ih (s1_lt h)
theorem sk_xor (n : Nat) : ∀ a b, sk n (a ^^^ b) = sk n a ^^^ sk n b := by
  induction n with
  | zero => intro a b; rfl
  | succ n ih => intro a b; show sk n (s1 (a ^^^ b)) = sk n (s1 a) ^^^ sk n (s1 b); rw [s1_xor, ih]
theorem sk_zero (n : Nat) : sk n 0 = 0 := by
  induction n with
  | zero => rfl
  | succ n ih => show sk n (s1 0) = 0; rw [s1_zero, ih]
theorem sk_add (m n : Nat) : ∀ r, sk (m + n) r = sk n (sk m r) := by
  induction m with
  | zero => intro r; rw [Nat.zero_add]; rfl
  | succ m ih => intro r; rw [Nat.succ_add]; exact ih (s1 r)
theorem sk_inj0 (n : Nat) : ∀ r, r < 4294967296 → sk n r = 0 → r = 0 := by
  induction n with
  | zero => intro r _ h; exact h
  | succ n ih => intro r hr h; exact s1_inj0 hr (ih _ (s1_lt hr) h)
theorem sk_shift (k : Nat) : ∀ z, sk k (z * 2 ^ k) = z := by
  induction k with
  | zero => intro z; simp [sk]
  | succ k ih =>
    intro z
    show sk k (s1 (z * 2 ^ (k + 1))) = z
    rw [Nat.pow_succ, ← Nat.mul_assoc, Nat.mul_comm _ 2, s1_double, ih]
theorem sk_pow (k n : Nat) (h : k ≤ n) : sk n (2 ^ k) = sk (n - k) 1 := by
  rw [show n = k + (n - k) from by omega, sk_add, show k + (n - k) - k = n - k from by omega]
  have := sk_shift k 1
  rw [Nat.one_mul] at this
  rw [this]

theorem xor_parts (v k : Nat) : v % 2 ^ k ^^^ v / 2 ^ k * 2 ^ k = v := by
  apply Nat.eq_of_testBit_eq; intro i
  simp only [Nat.testBit_xor, Nat.testBit_mod_two_pow, Nat.testBit_mul_two_pow, Nat.testBit_div_two_pow]
  by_cases h : i < k
  · have h2 : ¬ k ≤ i := by omega
    simp [h, h2]
  · have h2 : k ≤ i := by omega
    simp [h, h2, Nat.sub_add_cancel h2]
theorem mod_succ (v k : Nat) : v % 2 ^ (k + 1) = v % 2 ^ k ^^^ v / 2 ^ k % 2 * 2 ^ k := by
  have h := xor_parts (v % 2 ^ (k + 1)) k
  rw [Nat.mod_pow_succ, ← Nat.mod_pow_succ] at h
  have h1 : v % 2 ^ (k + 1) % 2 ^ k = v % 2 ^ k := by rw [Nat.mod_mod_of_dvd _ ⟨2, Nat.pow_succ ..⟩]
  have h2 : v % 2 ^ (k + 1) / 2 ^ k = v / 2 ^ k % 2 := by rw [Nat.pow_succ, Nat.mod_mul_right_div_self]
  rw [h1, h2] at h
  exact h.symm

/-- The register behind bytes. -/
def regOf (bs : List Nat) (r : Nat) : Nat := bs.foldl (fun r b => sk 8 (r ^^^ b)) r
theorem regOf_append (a b : List Nat) (r : Nat) : regOf (a ++ b) r = regOf b (regOf a r) := by simp [regOf]
theorem regOf_snoc (a : List Nat) (x r : Nat) : regOf (a ++ [x]) r = sk 8 (regOf a r ^^^ x) := by simp [regOf]
theorem regOf_xor (bs : List Nat) : ∀ r q, regOf bs (r ^^^ q) = regOf bs r ^^^ sk (8 * bs.length) q := by
  induction bs with
  | nil => intro r q; rfl
  | cons b t ih =>
    intro r q
    show regOf t (sk 8 (r ^^^ q ^^^ b)) = regOf t (sk 8 (r ^^^ b)) ^^^ _
    have e : r ^^^ q ^^^ b = (r ^^^ b) ^^^ q := by rw [Nat.xor_assoc, Nat.xor_comm q b, ← Nat.xor_assoc]
    rw [e, sk_xor, ih, List.length_cons, show 8 * (t.length + 1) = 8 + 8 * t.length from by omega, sk_add]
theorem regOf_lt (bs : List Nat) (h : ∀ x ∈ bs, x < 256) : ∀ r, r < 4294967296 → regOf bs r < 4294967296 := by
  induction bs with
  | nil => intro r h; exact h
  | cons b t ih =>
    intro r hr
    refine ih (fun x hx => h x (by simp [hx])) _ (sk_lt ?_ 8)
    have := h b (by simp)
    exact Nat.xor_lt_two_pow (n := 32) hr (by omega)

theorem not32 (r : Nat) (h : r < 4294967296) : 4294967295 - r = r ^^^ 4294967295 := by
  have h1 := BitVec.toNat_not (x := BitVec.ofNat 32 r)
  rw [← BitVec.xor_allOnes, BitVec.toNat_xor, BitVec.toNat_ofNat, BitVec.toNat_allOnes, Nat.mod_eq_of_lt (by simpa using h)] at h1
  simpa using h1.symm

/-- The sum of bytes. -/
def sumB (bs : List Nat) : Nat := 4294967295 - regOf bs 4294967295
theorem sumB_lt (bs : List Nat) : sumB bs < 4294967296 := by unfold sumB; omega
theorem sumB_xor (bs : List Nat) (h : ∀ x ∈ bs, x < 256) : sumB bs = regOf bs 4294967295 ^^^ 4294967295 := not32 _ (regOf_lt bs h _ (by decide))

theorem sumB_append (a b : List Nat) (ha : ∀ x ∈ a, x < 256) (hb : ∀ x ∈ b, x < 256) : sk (8 * b.length) (sumB a) ^^^ sumB b = sumB (a ++ b) := by
  have hab : ∀ x ∈ a ++ b, x < 256 := fun x hx => by
    rcases List.mem_append.1 hx with h | h
    · exact ha x h
    · exact hb x h
  rw [sumB_xor a ha, sumB_xor b hb, sumB_xor _ hab, regOf_append]
  have h0 : regOf b (regOf a 4294967295) = regOf b 4294967295 ^^^ sk (8 * b.length) (4294967295 ^^^ regOf a 4294967295) := by
    rw [← regOf_xor, ← Nat.xor_assoc, Nat.xor_self, Nat.zero_xor]
  rw [h0, Nat.xor_comm 4294967295 (regOf a 4294967295)]
  generalize sk (8 * b.length) (regOf a 4294967295 ^^^ 4294967295) = p
  generalize regOf b 4294967295 = q
  rw [← Nat.xor_assoc, Nat.xor_comm p q]

/-- A number of 32 bits as bytes, the lowest first. -/
def tail4 (s : Nat) : List Nat := (List.range 4).map fun i => s / 256 ^ i % 256
theorem tail4_eq (s : Nat) : tail4 s = [s % 256, s / 256 % 256, s / 65536 % 256, s / 16777216 % 256] := by simp [tail4, List.range, List.range.loop]
theorem tail4_lt (s : Nat) : ∀ x ∈ tail4 s, x < 256 := by
  intro x hx
  obtain ⟨i, _, rfl⟩ := List.mem_map.1 hx
  omega
theorem tail4_length (s : Nat) : (tail4 s).length = 4 := by simp [tail4]
theorem sk8_part (r v : Nat) : sk 8 (r ^^^ v % 256) = sk 8 (r ^^^ v) ^^^ v / 256 := by
  have h := xor_parts v 8
  have h1 : sk 8 (r ^^^ v) = sk 8 (r ^^^ v % 256) ^^^ v / 256 := by
    conv => lhs; rw [← h]
    rw [← Nat.xor_assoc, sk_xor, sk_shift]
  rw [h1, Nat.xor_assoc, Nat.xor_self, Nat.xor_zero]
theorem regOf_tail (r v : Nat) (hv : v < 4294967296) : regOf (tail4 v) r = sk 32 (r ^^^ v) := by
  rw [tail4_eq]
  show sk 8 (sk 8 (sk 8 (sk 8 (r ^^^ v % 256) ^^^ v / 256 % 256) ^^^ v / 65536 % 256) ^^^ v / 16777216 % 256) = _
  have step : ∀ x w, sk 8 ((x ^^^ w) ^^^ w % 256) = sk 8 x ^^^ w / 256 := fun x w => by rw [sk8_part, Nat.xor_assoc, Nat.xor_self, Nat.xor_zero]
  rw [sk8_part r v, step, show v / 65536 = v / 256 / 256 from by omega, step, show v / 16777216 = v / 256 / 256 / 256 from by omega, step, show v / 256 / 256 / 256 / 256 = 0 from by omega, Nat.xor_zero]
  rw [show 32 = 8 + (8 + (8 + 8)) from rfl, sk_add, sk_add, sk_add]

/-- Bytes with their sum behind. -/
def putB (bs : List Nat) : List Nat := bs ++ tail4 (sumB bs)
theorem putB_length (bs : List Nat) : (putB bs).length = bs.length + 4 := by simp [putB, tail4_length]
theorem putB_lt (bs : List Nat) (h : ∀ x ∈ bs, x < 256) : ∀ x ∈ putB bs, x < 256 := fun x hx => by
  rcases List.mem_append.1 hx with h' | h'
  · exact h x h'
  · exact tail4_lt _ x h'
theorem putB_reg (bs : List Nat) (h : ∀ x ∈ bs, x < 256) : regOf (putB bs) 4294967295 = sk 32 4294967295 := by
  rw [putB, regOf_append, regOf_tail _ _ (sumB_lt bs), sumB_xor bs h, ← Nat.xor_assoc, Nat.xor_self, Nat.zero_xor]

/-- Whether bytes have their sum behind. -/
def okB (s : List Nat) : Bool := decide (4 ≤ s.length) && (s.drop (s.length - 4) == tail4 (sumB (s.take (s.length - 4))))
theorem okB_put (s : List Nat) : okB s = (decide (4 ≤ s.length) && (putB (s.take (s.length - 4)) == s)) := by
  unfold okB
  by_cases h : 4 ≤ s.length
  · simp only [h, decide_true, Bool.true_and]
    rw [Bool.eq_iff_iff]
    simp only [beq_iff_eq]
    constructor
    · intro e; rw [putB, ← e, List.take_append_drop]
    · intro e
      have := congrArg (List.drop (s.length - 4)) e
      rw [← this, putB, List.drop_append_of_le_length (by simp)]
      rw [List.drop_of_length_le (by simp), List.nil_append]
  · simp [h]
theorem okB_putB (bs : List Nat) : okB (putB bs) = true := by
  rw [okB_put, putB_length]
  simp [putB]
theorem okB_reg (s : List Nat) (h : ∀ x ∈ s, x < 256) (ho : okB s = true) : regOf s 4294967295 = sk 32 4294967295 := by
  rw [okB_put] at ho
  simp only [Bool.and_eq_true, beq_iff_eq] at ho
  rw [← ho.2]
  exact putB_reg _ (fun x hx => h x (List.mem_of_mem_take hx))

/-- One bit turned. -/
theorem regOf_turn (s : List Nat) (i b r : Nat) (hi : i < s.length) (hb : b < 8) : regOf (s.set i (s[i] ^^^ 2 ^ b)) r = regOf s r ^^^ sk (8 * s.length - (8 * i + b)) 1 := by
  have e1 : s = s.take i ++ s[i] :: s.drop (i + 1) := by simp
  have e2 : s.set i (s[i] ^^^ 2 ^ b) = s.take i ++ (s[i] ^^^ 2 ^ b) :: s.drop (i + 1) := by rw [List.set_eq_take_append_cons_drop, if_pos hi]
  have e3 : regOf s r = regOf (s.drop (i + 1)) (sk 8 (regOf (s.take i) r ^^^ s[i])) := by
    conv => lhs; rw [e1]
    rw [regOf_append]; rfl
  rw [e2, regOf_append, e3]
  show regOf (s.drop (i + 1)) (sk 8 (regOf (s.take i) r ^^^ (s[i] ^^^ 2 ^ b))) = _
  rw [← Nat.xor_assoc, sk_xor, regOf_xor, sk_pow b 8 (by omega), ← sk_add]
  congr 2
  simp; omega

/-- Bits turned, one by one. -/
theorem turn_step (L n k mask : Nat) (s : List Nat) (hs : s.length = L) (hn : n + 32 ≤ 8 * L) (hk : k < 32)
    (h : regOf s 4294967295 = sk 32 4294967295 ^^^ sk (8 * L - n) (mask % 2 ^ k)) (h1 : mask / 2 ^ k % 2 = 1) (hi : (n + k) / 8 < s.length) :
    regOf (s.set ((n + k) / 8) (s[(n + k) / 8] ^^^ 2 ^ ((n + k) % 8))) 4294967295 = sk 32 4294967295 ^^^ sk (8 * L - n) (mask % 2 ^ (k + 1)) := by
  rw [regOf_turn _ _ _ _ hi (by omega), h, mod_succ, h1, Nat.one_mul, sk_xor, Nat.xor_assoc]
  congr 2
  rw [sk_pow k _ (by omega)]
  congr 1
  omega
theorem turn_same (L n k mask : Nat) (s : List Nat) (h : regOf s 4294967295 = sk 32 4294967295 ^^^ sk (8 * L - n) (mask % 2 ^ k)) (h1 : ¬ mask / 2 ^ k % 2 = 1) :
    regOf s 4294967295 = sk 32 4294967295 ^^^ sk (8 * L - n) (mask % 2 ^ (k + 1)) := by
  rw [h, mod_succ, show mask / 2 ^ k % 2 = 0 from by omega, Nat.zero_mul, Nat.xor_zero]
theorem turn_told (L n mask : Nat) (s : List Nat) (hb : ∀ x ∈ s, x < 256) (hm : mask < 4294967296) (h0 : mask ≠ 0)
    (h : regOf s 4294967295 = sk 32 4294967295 ^^^ sk (8 * L - n) (mask % 2 ^ 32)) : okB s = false := by
  rw [Bool.eq_false_iff]
  intro ho
  rw [okB_reg s hb ho, Nat.mod_eq_of_lt (by simpa using hm)] at h
  have h2 : sk (8 * L - n) mask = 0 := by
    have := congrArg (sk 32 4294967295 ^^^ ·) h
    simp only [Nat.xor_self, ← Nat.xor_assoc, Nat.zero_xor] at this
    exact this.symm
  exact h0 (sk_inj0 _ _ hm h2)

/-- The reference's step: a bit of the byte at a time. -/
def rbit (r v : Nat) : Nat := (r / 2) ^^^ (if (r % 2 == 1) != (v % 2 == 1) then 3988292384 else 0)
theorem s1_bit (r v : Nat) : s1 (r ^^^ v) = rbit r v ^^^ v / 2 := by
  unfold s1 rbit
  rw [xor_half, xor_mod2, Nat.xor_assoc, Nat.xor_assoc, Nat.xor_comm (v / 2)]
  congr 2
  have h2 : r % 2 = 0 ∨ r % 2 = 1 := by omega
  have h3 : v % 2 = 0 ∨ v % 2 = 1 := by omega
  rcases h2 with h2 | h2 <;> rcases h3 with h3 | h3 <;> simp [h2, h3]
theorem rbit_lt {r : Nat} (v : Nat) (h : r < 4294967296) : rbit r v < 4294967296 := by
  unfold rbit
  have : ∀ p, p < 4294967296 → r / 2 ^^^ p < 4294967296 := fun p hp => Nat.xor_lt_two_pow (n := 32) (by omega) hp
  split <;> exact this _ (by decide)
theorem rbit_step (r0 r b k : Nat) (hk : k < 8) (h : sk (8 - k) (r ^^^ b / 2 ^ k) = sk 8 (r0 ^^^ b)) : sk (8 - (k + 1)) (rbit r (b / 2 ^ k) ^^^ b / 2 ^ (k + 1)) = sk 8 (r0 ^^^ b) := by
  rw [← h, Nat.pow_succ, ← Nat.div_div_eq_div_mul, ← s1_bit, show 8 - k = (8 - (k + 1)) + 1 from by omega]
  rfl
theorem rbit_end (r0 r b : Nat) (hb : b < 256) (h : sk (8 - 8) (r ^^^ b / 2 ^ 8) = sk 8 (r0 ^^^ b)) : r = sk 8 (r0 ^^^ b) := by
  rw [← h, show b / 2 ^ 8 = 0 from by simp; omega]
  show r = r ^^^ 0
  simp

/-- One bit of a register through what noughts make of bits. -/
theorem change_step (K reg i : Nat) : sk K (reg % 2 ^ i) ^^^ sk K (2 ^ i) * (reg / 2 ^ i % 2) = sk K (reg % 2 ^ (i + 1)) := by
  rw [mod_succ, sk_xor]
  congr 1
  have h : reg / 2 ^ i % 2 = 0 ∨ reg / 2 ^ i % 2 = 1 := by omega
  rcases h with h | h
  · rw [h, Nat.mul_zero, Nat.zero_mul, sk_zero]
  · rw [h, Nat.mul_one, Nat.one_mul]
end Go.Th.Crc
