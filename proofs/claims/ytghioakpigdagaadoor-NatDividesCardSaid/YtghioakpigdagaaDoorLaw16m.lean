/-
  What the laws call, each answer told by the number that is wanted.
-/
import Derived.Test.YtghioakpigdagaaDoorNatFa
set_option linter.unusedVariables false
set_option linter.unusedSimpArgs false
namespace Go.Proofs.YtghioakpigdagaaDoor
open Go Go.RowKit Go.Th Go.Th.Dig

theorem zeroNat16 : (Tryd.prog.info? 26).map (·.zero) = some (some (.agg #[.slice none 0 0])) := by kernel_rfl
/-- A number that is no longer than the laws' ones. -/
def Sm (p : Nat) : Prop := len32 p ≤ 1000 ∧ (dg 256 p).length ≤ 10000
theorem sm_of {p k : Nat} (h : p < 4294967296 ^ k) (hk : k ≤ 1000) : Sm p := ⟨len_le h hk, len8_le h hk⟩
theorem sm_le {p q k : Nat} (h : p < 4294967296 ^ k) (hk : k ≤ 1000) (hq : q ≤ p) : Sm q := sm_of (Nat.lt_of_le_of_lt hq h) hk
theorem sm_mul {p q i j k : Nat} (hp : p < 4294967296 ^ i) (hq : q < 4294967296 ^ j) (hk : i + j = k) : p * q < 4294967296 ^ k := by
  subst hk
  rw [Nat.pow_add]
  exact Nat.mul_lt_mul'' hp hq
theorem sm_add {p q i k : Nat} (hp : p < 4294967296 ^ i) (hq : q < 4294967296 ^ i) (hk : i + 1 = k) : p + q < 4294967296 ^ k := by
  subst hk
  rw [Nat.pow_succ]
  omega
/-- A row that reads as a number's parts. -/
def Is32 (w : World) (v : Value) (p : Nat) : Prop := ∃ a c, v = .slice a (len32 p) c ∧ Sl w 1 (.slice a (len32 p) c) (len32 p) (u32s (dg 4294967296 p))
theorem Is32.below {w w' : World} {v : Value} {p : Nat} (h : Is32 w v p) (hb : Below w.heap.size w w') : Is32 w' v p := by
  obtain ⟨a, c, h1, h2⟩ := h
  exact ⟨a, c, h1, h2.below hb⟩
theorem Is32.nm {w : World} {v : Value} {p : Nat} (h : Is32 w v p) : ∃ a n c, v = .slice a n c ∧ n = len32 p ∧ Is32 w (.slice a n c) p := by
  obtain ⟨a, c, rfl, _⟩ := id h
  exact ⟨_, _, _, rfl, rfl, h⟩
theorem len16_z {p n : Nat} (h : n = (dg 256 p).length) : n = 0 ↔ p = 0 := by
  subst h
  constructor
  · intro h
    have := dg_val (B := 256) (by decide) p
    rw [List.length_eq_zero_iff.1 h] at this
    exact this.symm
  · rintro rfl
    rfl
theorem len16_b {p n : Nat} {z : Bool} (h : n = (dg 256 p).length) (hz : decide (p = 0) = z) : z = ((n : Int) == 0) := by
  have h1 := len16_z h
  subst hz
  by_cases hp : p = 0
  · have hn := h1.2 hp
    rw [hn, decide_eq_true hp]; rfl
  · have hn : ¬ n = 0 := fun x => hp (h1.1 x)
    rw [decide_eq_false hp]
    exact (beq_eq_false_iff_ne.2 (by omega)).symm
theorem len16_8 {p n : Nat} (h : n = (dg 256 p).length) : n ≤ 8 ↔ p < 18446744073709551616 := by
  subst h
  constructor
  · intro h
    have h1 := val_lt (B := 256) (by decide) (dg_lt (B := 256) (by decide) p)
    rw [dg_val (by decide)] at h1
    have h2 : 256 ^ (dg 256 p).length ≤ 256 ^ 8 := Nat.pow_le_pow_right (by decide) h
    have h3 : 256 ^ 8 = 18446744073709551616 := by decide
    omega
  · intro h
    exact dg_len_le (B := 256) (by decide) (by simpa using h)

abbrev AnsN (f : Nat) (args : Array Value) (w : World) (r : Nat) : Prop := Calls Tryd.prog f args w fun e w' => ∃ t, e = .returned t ∧ IsN w' t r ∧ Below w.heap.size w w'
abbrev AnsD (f : Nat) (args : Array Value) (w : World) (r : Nat) : Prop := Calls Tryd.prog f args w fun e w' => ∃ t, e = .returned t ∧ Is16 w' t r ∧ Below w.heap.size w w'
abbrev AnsV (f : Nat) (args : Array Value) (w : World) (v : Value) : Prop := Calls Tryd.prog f args w fun e w' => e = .returned v ∧ Below w.heap.size w w'

abbrev Works : Prop := ∀ w : World, AnsV 9 #[] w (.bool true)
theorem light_yes {n : Nat} (a : Option Addr) (cap : Nat) (w : World) (h : n ≤ 20) : Calls Tryd.prog 8 #[.slice a n cap] w fun e w' => e = .returned (.bool true) ∧ w = w' := by
  have := light_any16 a n cap w
  rw [decide_eq_true h] at this
  exact this
theorem light_no {n : Nat} (a : Option Addr) (cap : Nat) (w : World) (h : ¬ n ≤ 20) : Calls Tryd.prog 8 #[.slice a n cap] w fun e w' => e = .returned (.bool false) ∧ w = w' := by
  have := light_any16 a n cap w
  rw [decide_eq_false h] at this
  exact this
theorem add16 (v u : Value) (p q r : Nat) (w : World) (hp : IsN w v p) (hq : IsN w u q) (h1 : Sm p) (h2 : Sm q) (h : p + q = r) : AnsN 13 #[v, u] w r := by
  subst h
  exact add_any16 v u p q w hp hq h1.1 h2.1
theorem sub16 (v u : Value) (p q r : Nat) (w : World) (hp : IsN w v p) (hq : IsN w u q) (h1 : Sm p) (h2 : Sm q) (h : p + r = q ∨ q + r = p) : AnsN 16 #[v, u] w r := by
  have e : (if p < q then q - p else p - q) = r := by split <;> omega
  subst e
  exact sub_any16 v u p q w hp hq h1.1 h2.1
theorem mul16 (v u : Value) (p q r : Nat) (w : World) (hp : IsN w v p) (hq : IsN w u q) (h1 : Sm p) (h2 : Sm q) (h : p * q = r) : AnsN 21 #[v, u] w r := by
  subst h
  exact mul_any16 v u p q w hp hq h1.1 h2.1
theorem times16 (v : Value) (p x r : Nat) (w : World) (hp : IsN w v p) (h1 : Sm p) (hx : x < 18446744073709551616) (h : p * x = r) : AnsN 23 #[v, .int .u64 x] w r := by
  subst h
  exact times_any16 v p x w hp h1.1 hx
theorem shl16 (v : Value) (p s r : Nat) (w : World) (hp : IsN w v p) (h1 : Sm p) (hs : s ≤ 100000) (h : p * 2 ^ s = r) : AnsN 27 #[v, .int .i64 s] w r := by
  subst h
  exact shl_any16 v p s w hp h1.1 hs
theorem shr16 (v : Value) (p s r : Nat) (w : World) (hp : IsN w v p) (h1 : Sm p) (hs : s ≤ 100000) (h : p / 2 ^ s = r) : AnsN 29 #[v, .int .i64 s] w r := by
  subst h
  exact shr_any16 v p s w hp h1.1 hs
theorem div16 (v u : Value) (p q r s : Nat) (w : World) (hp : IsN w v p) (hq : IsN w u q) (h1 : Sm p) (h2 : Sm q) (hr : p / q = r) (hs : p % q = s) :
    Calls Tryd.prog 25 #[v, u] w fun e w' => ∃ t x, e = .returned (.tuple #[t, x]) ∧ IsN w' t r ∧ IsN w' x s ∧ Below w.heap.size w w' := by
  subst hr hs
  exact div_any16 v u p q w hp hq h1.1 h2.1
theorem bits16 (v : Value) (p b : Nat) (w : World) (hp : IsN w v p) (h1 : Sm p) (h : nb p = b) : AnsV 28 #[v] w (.int .i64 b) := by
  subst h
  exact bits_any16 v p w hp (by have := h1.1; omega)
theorem uint16 (v : Value) (p x : Nat) (b : Bool) (w : World) (hp : IsN w v p) (h1 : Sm p) (hx : (if p < 18446744073709551616 then p else 0) = x) (hb : decide (p < 18446744073709551616) = b) :
    AnsV 30 #[v] w (.tuple #[.int .u64 x, .bool b]) := by
  subst hx hb
  exact uint_any v p w hp (by have := h1.1; omega)
theorem cmp16 (v u : Value) (p q : Nat) (c : Int) (w : World) (hp : IsN w v p) (hq : IsN w u q) (h1 : Sm p) (h2 : Sm q) (h : cmpN p q = c) : AnsV 17 #[v, u] w (.int .i64 c) := by
  subst h
  exact cmp_any v u p q w hp hq (by have := h1.1; omega) (by have := h2.1; omega)
theorem zero16 (v : Value) (p : Nat) (b : Bool) (w : World) (hp : IsN w v p) (h1 : Sm p) (h : decide (p = 0) = b) : AnsV 20 #[v] w (.bool b) := by
  subst h
  exact zero_any v p w hp (by have := h1.1; omega)
theorem text16 (v : Value) (p : Nat) (t : ByteArray) (w : World) (hp : IsN w v p) (h1 : Sm p) (h : strOf (txt p) = t) : AnsV 31 #[v] w (.string t) := by
  subst h
  exact text_any16 v p w hp h1.1
theorem parts16 (v : Value) (p : Nat) (w : World) (hp : IsN w v p) (h1 : Sm p) : Calls Tryd.prog 19 #[v] w fun e w' => ∃ t, e = .returned t ∧ Is32 w' t p ∧ Below w.heap.size w w' := by
  refine (parts_any v p w hp (by have := h1.1; omega)).mono ?_
  rintro e w' ⟨a, cap, h1, h2, h3⟩
  exact ⟨_, h1, ⟨a, cap, rfl, h2⟩, h3⟩
theorem rof16 (v : Value) (p : Nat) (w : World) (hp : Is32 w v p) (h1 : Sm p) : AnsD 11 #[v] w p := by
  obtain ⟨a, c, rfl, hS⟩ := hp
  have := refOf16_any a (len32 p) c (dg 4294967296 p) w hS (by have := h1.1; omega) (dg_lt (by decide) p)
  rw [dg_val (by decide)] at this
  exact this
theorem is_yes (v u : Value) (p : Nat) (w : World) (hp : IsN w v p) (hq : Is16 w u p) (h1 : Sm p) : AnsV 12 #[v, u] w (.bool true) := by
  have := is_any16 v u p p w hp hq h1.1 (by have := h1.2; omega)
  rw [decide_eq_true rfl] at this
  exact this
theorem same_yes (v u : Value) (p : Nat) (w : World) (hp : Is16 w v p) (hq : Is16 w u p) (h1 : Sm p) : AnsV 18 #[v, u] w (.bool true) := by
  have := refSame16_any v u p p w hp hq (by have := h1.2; omega) (by have := h1.2; omega)
  rw [decide_eq_true rfl] at this
  exact this
theorem less16 (v u : Value) (p q : Nat) (b : Bool) (w : World) (hp : Is16 w v p) (hq : Is16 w u q) (h1 : Sm p) (h2 : Sm q) (h : decide (p < q) = b) : AnsV 15 #[v, u] w (.bool b) := by
  subst h
  exact refLess16_any v u p q w hp hq (by have := h1.2; omega) (by have := h2.2; omega)
theorem radd16 (v u : Value) (p q r : Nat) (w : World) (hp : Is16 w v p) (hq : Is16 w u q) (h1 : Sm p) (h2 : Sm q) (h : p + q = r) : AnsD 14 #[v, u] w r := by
  subst h
  exact refAdd16_any v u p q w hp hq (by have := h1.2; omega) (by have := h2.2; omega)
theorem rmul16 (v u : Value) (p q r : Nat) (w : World) (hp : Is16 w v p) (hq : Is16 w u q) (h1 : Sm p) (h2 : Sm q) (h : p * q = r) : AnsD 22 #[v, u] w r := by
  subst h
  exact refMul16_any v u p q w hp hq h1.2 h2.2
theorem rpow16 (n r : Nat) (w : World) (hn : n ≤ 1000) (h : 2 ^ n = r) : AnsD 26 #[.int .i64 n] w r := by
  subst h
  exact refPow16_any n w hn
theorem rtext16 (v : Value) (p : Nat) (t : ByteArray) (w : World) (hp : Is16 w v p) (h1 : Sm p) (h : strOf (txt p) = t) : AnsV 32 #[v] w (.string t) := by
  subst h
  exact refText16_any v p w hp h1.2

/-- A row of 32-bit numbers that came in: its parts as numbers, what the law makes of it. -/
structure In16 (a : Option Addr) (n cap : Nat) (w : World) (p : Nat) : Prop where
  from_ : ∀ wx, Below w.heap.size w wx → AnsN 10 #[.slice a n cap] wx p
  of_ : ∀ wx, Below w.heap.size w wx → AnsD 11 #[.slice a n cap] wx p
  lt : p < 4294967296 ^ 20
theorem in16 {a : Option Addr} {n cap : Nat} {zs : List Int} {w : World} (hS : Sl w 1 (.slice a n cap) n (zs.map (.int .u32))) (hz : ∀ z ∈ zs, 0 ≤ z ∧ z < 4294967296) (hn : n ≤ 20) : ∃ p, In16 a n cap w p := by
  have e : zs.map (Value.int .u32) = u32s (zs.map Int.toNat) := by
    unfold u32s
    rw [List.map_map]
    refine List.map_congr_left fun z h => ?_
    have := hz z h
    simp only [Function.comp_def]
    rw [Int.toNat_of_nonneg this.1]
  have hd : ∀ d ∈ zs.map Int.toNat, d < 4294967296 := by
    intro d h
    obtain ⟨z, h1, rfl⟩ := List.mem_map.1 h
    have := hz z h1
    omega
  rw [e] at hS
  have hl := u32_len hS
  refine ⟨val 4294967296 (zs.map Int.toNat), fun wx hx => from_any a n cap _ wx (hS.below hx) hd (by omega), fun wx hx => refOf16_any a n cap _ wx (hS.below hx) (by omega) hd, ?_⟩
  refine Nat.lt_of_lt_of_le (val_lt (by decide) hd) (Nat.pow_le_pow_right (by decide) ?_)
  omega
theorem In16.sm {a : Option Addr} {n cap : Nat} {w : World} {p : Nat} (h : In16 a n cap w p) : Sm p := sm_of h.lt (by decide)
end Go.Proofs.YtghioakpigdagaaDoor
