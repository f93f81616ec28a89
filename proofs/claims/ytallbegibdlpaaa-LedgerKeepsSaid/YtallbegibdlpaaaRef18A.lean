/-
  The least number of which so many times is no less: the reference's.
-/
import Derived.Test.YtallbegibdlpaaaExactSpec
import Derived.Deep.Cut
import Derived.Deep.CutRange
set_option linter.unusedVariables false
set_option linter.unusedSimpArgs false
namespace Go.Proofs.Ytallbegibdlpaaa
open Go Go.RowKit Go.Th Go.Th.Dig Go.Th.Ex

abbrev AnsD18 (f : Nat) (args : Array Value) (w : World) (p : Nat) : Prop := Calls Try.prog f args w fun e w' => ∃ v, e = .returned v ∧ Is16 w' v p ∧ Below w.heap.size w w'

set_option maxRecDepth 20000 in
theorem digits18_any (n : Nat) (hn : n < 9223372036854775808) (w : World) : AnsD18 24 #[.int .i64 n] w n := by
  go_enter Try.func24, Try.ntmps24
  go_wp2_with fail
  go_loopw [3, 4] (fun v c wr => ∃ (k x : Nat) (pre : List Nat), x ≤ n ∧ c = .int .i64 x ∧ Hid (Sml n k x pre) ∧ wr.ownsRow w.heap.size 3 1 v k (digs pre) ∧ Below w.heap.size w wr) (fun _ c _ => (intOf c).toNat)
  case atStart => exact ⟨0, n, [], Nat.le_refl _, rfl, Lib.hid (Sml.start n), World.ownsRow_nil _ _ _ _, Below.refl _ _⟩
  case round =>
    obtain ⟨k, x, pre, hx, rfl, HI, ho, hB⟩ := hrel
    have hk := HI.out.len_le (by omega)
    have hsz := hB.size
    by_cases h0 : 0 < x
    · have HN := Lib.hid (HI.out.step h0)
      clear HI
      have h1 : ¬ x = 0 := by omega
      go_wp2_with (at_builtin; refine wpList_app Edig rfl (.tmp 8) (.tmp 11) rfl w.heap.size rfl (ho.alloc _) rfl (Sl.one _ _ _) (by intro u hu; simp at hu; subst hu; rfl) (by unfold maxLen; omega) (by omega) (by simp; omega) ?_)
      intro v2 w3 ho3 hg3 _
      have hB3 := hB.trans (app_below ho hsz hg3)
      clear ho hg3 hB
      go_wp2_with fail
      go_roundw
      case rel => exact ⟨k + 1, x / 256, _, by omega, by go_num, HN, by rw [digs_snoc]; exact_mod_cast ho3, hB3⟩
      case measure => simp [intOf]; omega
    · obtain rfl : x = 0 := by omega
      have HD := HI.out.done
      have hkl := HI.out.len
      have S0 := Sl.of_own ho
      rw [HD] at S0
      obtain rfl : k = (dg 256 n).length := by rw [← HD]; exact hkl.symm
      obtain ⟨va, vc, rfl, _⟩ := id S0
      have HS : Hid (Is16 wr (.slice va (dg 256 n).length vc) n) := Lib.hid S0
      clear HI HD hkl S0 ho
      go_wp2_with fail
      go_ret
      exact ⟨_, rfl, HS.out, hB⟩
theorem len_dg0 {q : Nat} : (dg 256 q).length = 0 ↔ q = 0 := by
  constructor
  · intro h
    have h2 := dg_val (B := 256) (by decide) q
    rw [List.eq_nil_of_length_eq_zero h] at h2
    simpa [val] using h2.symm
  · rintro rfl
    rw [dg_0]; rfl

set_option maxRecDepth 20000 in
set_option maxHeartbeats 6400000 in
theorem isUp_none (v u : Value) (p : Nat) (w : World) (hp : Is16 w v p) (hq : Is16 w u 0) : Calls Try.prog 22 #[.int .i64 1099511627776, v, u] w fun e w' => e = .returned (.bool true) ∧ Below w.heap.size w w' := by
  obtain ⟨a, ca, rfl, _⟩ := id hp
  obtain ⟨b, cb, rfl, _⟩ := id hq
  obtain ⟨m, hm⟩ : ∃ m, m = (dg 256 0).length := ⟨_, rfl⟩
  have hm0 : m = 0 := by rw [hm]; exact len_dg0.2 rfl
  rw [← hm]
  subst hm0
  clear hm hp hq
  go_enter Try.func22, Try.ntmps22
  go_wp2_with fail
  go_ret
  exact ⟨rfl, Below.refl _ _⟩

/-- So many digits a product has, of a number below 2^48. -/
theorem lmul_k (x q k : Nat) (h2 : (dg 256 q).length ≤ k) (hx : x < 281474976710656) : (dg 256 (x * q)).length ≤ 6 + k := by
  refine dg_len_le (by decide) ?_
  have h4 := val_lt (B := 256) (by decide) (dg_lt (by decide) q)
  rw [dg_val (by decide)] at h4
  have h3 : q < 256 ^ k := Nat.lt_of_lt_of_le h4 (Nat.pow_le_pow_right (by decide) h2)
  rw [Nat.pow_add]
  exact Nat.mul_lt_mul'' (by omega) h3
theorem lmul (x q : Nat) (h2 : (dg 256 q).length ≤ 1000) (hx : x < 281474976710656) : (dg 256 (x * q)).length ≤ 1006 := lmul_k x q 1000 h2 hx

set_option maxRecDepth 20000 in
set_option maxHeartbeats 6400000 in
theorem isUp_most (v u : Value) (p q : Nat) (w : World) (hp : Is16 w v p) (hq : Is16 w u q) (h1 : (dg 256 p).length ≤ 10000) (h2 : (dg 256 q).length ≤ 1000) (hq0 : q ≠ 0) (h : 1099511627775 * q < p) : Calls Try.prog 22 #[.int .i64 1099511627776, v, u] w fun e w' => e = .returned (.bool true) ∧ Below w.heap.size w w' := by
  obtain ⟨a, ca, rfl, _⟩ := id hp
  obtain ⟨b, cb, rfl, _⟩ := id hq
  have hm0 : 0 < (dg 256 q).length := Nat.pos_of_ne_zero (fun e => hq0 (len_dg0.1 e))
  have HC := Lib.hid h1
  have HD := Lib.hid h2
  have HP := Lib.hid hp
  have HQ := Lib.hid hq
  obtain ⟨m, hm⟩ : ∃ m, m = (dg 256 q).length := ⟨_, rfl⟩
  rw [← hm] at HQ hm0 ⊢
  obtain ⟨n, hn⟩ : ∃ n, n = (dg 256 p).length := ⟨_, rfl⟩
  rw [← hn] at HP ⊢
  have M0 := Mem.start w
  have hm1 : ¬ (m : Int) = 0 := by omega
  have ml : m ≤ 1000 := by omega
  clear hp hq h1 h2 hm hn hq0
  obtain ⟨bb, L1⟩ : ∃ bb, decide (1099511627776 * q < p) = bb := ⟨_, rfl⟩
  have L2 := decide_eq_true h
  go_enter Try.func22, Try.ntmps22
  go_wp2_with fail
  refine (digits18_any (1099511627776) (by decide) _).mono ?_
  rintro e w1 ⟨d0, rfl, hd0, hA⟩
  have M1 := M0.call hA
  have HX0 := Lib.hid hd0
  replace HP := Lib.hid (HP.out.below hA)
  replace HQ := Lib.hid (HQ.out.below hA)
  clear hA hd0 M0
  obtain ⟨x0, X0, y0, rfl, hx0⟩ : ∃ a0 n0 c0, d0 = .slice a0 n0 c0 ∧ Is16 w1 (.slice a0 n0 c0) (1099511627776) := by
    obtain ⟨a, c, rfl, _⟩ := id HX0.out
    exact ⟨_, _, _, rfl, HX0.out⟩
  go_wp2_with fail
  refine (refMul16_any _ _ (1099511627776) q _ hx0 HQ.out (Nat.le_trans (dg_len_le (k := 6) (by decide) (show _ < 256 ^ 6 by omega)) (by decide)) (Nat.le_trans HD.out (by decide))).mono ?_
  rintro e w2 ⟨t0, rfl, ht0, hA⟩
  have M2 := M1.call hA
  replace HP := Lib.hid (HP.out.below hA)
  replace HQ := Lib.hid (HQ.out.below hA)
  clear hA hx0 M1 HX0
  obtain ⟨x10, X10, y10, rfl, hy0⟩ : ∃ a n c, t0 = .slice a n c ∧ Is16 w2 (.slice a n c) ((1099511627776) * q) := by
    obtain ⟨a, c, rfl, _⟩ := id ht0
    exact ⟨_, _, _, rfl, ht0⟩
  clear ht0
  go_wp2_with fail
  refine (refLess16_any _ _ ((1099511627776) * q) p _ hy0 HP.out (Nat.le_trans (lmul _ q HD.out (by omega)) (by decide)) (Nat.le_trans HC.out (by decide))).mono ?_
  rw [L1]
  rintro e w3 ⟨rfl, hA⟩
  have M3 := M2.call hA
  replace HP := Lib.hid (HP.out.below hA)
  replace HQ := Lib.hid (HQ.out.below hA)
  clear hA hy0 M2
  go_wp2_with fail
  refine (digits18_any (1099511627775) (by decide) _).mono ?_
  rintro e w4 ⟨d3, rfl, hd3, hA⟩
  have M4 := M3.call hA
  have HX3 := Lib.hid hd3
  replace HP := Lib.hid (HP.out.below hA)
  replace HQ := Lib.hid (HQ.out.below hA)
  clear hA hd3 M3
  obtain ⟨x3, X3, y3, rfl, hx3⟩ : ∃ a0 n0 c0, d3 = .slice a0 n0 c0 ∧ Is16 w4 (.slice a0 n0 c0) (1099511627775) := by
    obtain ⟨a, c, rfl, _⟩ := id HX3.out
    exact ⟨_, _, _, rfl, HX3.out⟩
  go_wp2_with fail
  refine (refMul16_any _ _ (1099511627775) q _ hx3 HQ.out (Nat.le_trans (dg_len_le (k := 6) (by decide) (show _ < 256 ^ 6 by omega)) (by decide)) (Nat.le_trans HD.out (by decide))).mono ?_
  rintro e w5 ⟨t3, rfl, ht3, hA⟩
  have M5 := M4.call hA
  replace HP := Lib.hid (HP.out.below hA)
  replace HQ := Lib.hid (HQ.out.below hA)
  clear hA hx3 M4 HX3
  obtain ⟨x13, X13, y13, rfl, hy3⟩ : ∃ a n c, t3 = .slice a n c ∧ Is16 w5 (.slice a n c) ((1099511627775) * q) := by
    obtain ⟨a, c, rfl, _⟩ := id ht3
    exact ⟨_, _, _, rfl, ht3⟩
  clear ht3
  go_wp2_with fail
  refine (refLess16_any _ _ ((1099511627775) * q) p _ hy3 HP.out (Nat.le_trans (lmul _ q HD.out (by omega)) (by decide)) (Nat.le_trans HC.out (by decide))).mono ?_
  rw [L2]
  rintro e w6 ⟨rfl, hA⟩
  have M6 := M5.call hA
  replace HP := Lib.hid (HP.out.below hA)
  replace HQ := Lib.hid (HQ.out.below hA)
  clear hA hy3 M5
  go_wp2_with fail
  go_ret
  exact ⟨rfl, M6.below⟩

set_option maxRecDepth 20000 in
set_option maxHeartbeats 6400000 in
theorem isUp_0 (v u : Value) (p q : Nat) (w : World) (hp : Is16 w v p) (hq : Is16 w u q) (h1 : (dg 256 p).length ≤ 10000) (h2 : (dg 256 q).length ≤ 1000) (hq0 : q ≠ 0) (h : p = 0) : Calls Try.prog 22 #[.int .i64 0, v, u] w fun e w' => e = .returned (.bool true) ∧ Below w.heap.size w w' := by
  obtain ⟨a, ca, rfl, _⟩ := id hp
  obtain ⟨b, cb, rfl, _⟩ := id hq
  have hm0 : 0 < (dg 256 q).length := Nat.pos_of_ne_zero (fun e => hq0 (len_dg0.1 e))
  have HC := Lib.hid h1
  have HD := Lib.hid h2
  have HP := Lib.hid hp
  have HQ := Lib.hid hq
  obtain ⟨m, hm⟩ : ∃ m, m = (dg 256 q).length := ⟨_, rfl⟩
  rw [← hm] at HQ hm0 ⊢
  obtain ⟨n, hn⟩ : ∃ n, n = (dg 256 p).length := ⟨_, rfl⟩
  rw [← hn] at HP ⊢
  have M0 := Mem.start w
  have hm1 : ¬ (m : Int) = 0 := by omega
  have ml : m ≤ 1000 := by omega
  clear hp hq h1 h2 hm hn hq0
  have L1 : decide (0 * q < p) = false := by subst h; simp
  go_enter Try.func22, Try.ntmps22
  go_wp2_with fail
  refine (digits18_any (0) (by decide) _).mono ?_
  rintro e w1 ⟨d0, rfl, hd0, hA⟩
  have M1 := M0.call hA
  have HX0 := Lib.hid hd0
  replace HP := Lib.hid (HP.out.below hA)
  replace HQ := Lib.hid (HQ.out.below hA)
  clear hA hd0 M0
  obtain ⟨x0, X0, y0, rfl, hx0⟩ : ∃ a0 n0 c0, d0 = .slice a0 n0 c0 ∧ Is16 w1 (.slice a0 n0 c0) (0) := by
    obtain ⟨a, c, rfl, _⟩ := id HX0.out
    exact ⟨_, _, _, rfl, HX0.out⟩
  go_wp2_with fail
  refine (refMul16_any _ _ (0) q _ hx0 HQ.out (Nat.le_trans (dg_len_le (k := 6) (by decide) (show _ < 256 ^ 6 by omega)) (by decide)) (Nat.le_trans HD.out (by decide))).mono ?_
  rintro e w2 ⟨t0, rfl, ht0, hA⟩
  have M2 := M1.call hA
  replace HP := Lib.hid (HP.out.below hA)
  replace HQ := Lib.hid (HQ.out.below hA)
  clear hA hx0 M1 HX0
  obtain ⟨x10, X10, y10, rfl, hy0⟩ : ∃ a n c, t0 = .slice a n c ∧ Is16 w2 (.slice a n c) ((0) * q) := by
    obtain ⟨a, c, rfl, _⟩ := id ht0
    exact ⟨_, _, _, rfl, ht0⟩
  clear ht0
  go_wp2_with fail
  refine (refLess16_any _ _ ((0) * q) p _ hy0 HP.out (Nat.le_trans (lmul _ q HD.out (by omega)) (by decide)) (Nat.le_trans HC.out (by decide))).mono ?_
  rw [L1]
  rintro e w3 ⟨rfl, hA⟩
  have M3 := M2.call hA
  replace HP := Lib.hid (HP.out.below hA)
  replace HQ := Lib.hid (HQ.out.below hA)
  clear hA hy0 M2
  go_wp2_with fail
  go_ret
  exact ⟨rfl, M3.below⟩

set_option maxRecDepth 20000 in
set_option maxHeartbeats 6400000 in
theorem isUp_one (x : Nat) (v u : Value) (p q : Nat) (w : World) (hp : Is16 w v p) (hq : Is16 w u q) (h1 : (dg 256 p).length ≤ 10000) (h2 : (dg 256 q).length ≤ 1000) (hq0 : q ≠ 0) (hx0 : 0 < x) (hx : x < 1099511627776) (h : ¬ x * q < p) (h0 : (x - 1) * q < p) : Calls Try.prog 22 #[.int .i64 x, v, u] w fun e w' => e = .returned (.bool true) ∧ Below w.heap.size w w' := by
  obtain ⟨a, ca, rfl, _⟩ := id hp
  obtain ⟨b, cb, rfl, _⟩ := id hq
  have hm0 : 0 < (dg 256 q).length := Nat.pos_of_ne_zero (fun e => hq0 (len_dg0.1 e))
  have HC := Lib.hid h1
  have HD := Lib.hid h2
  have HP := Lib.hid hp
  have HQ := Lib.hid hq
  obtain ⟨m, hm⟩ : ∃ m, m = (dg 256 q).length := ⟨_, rfl⟩
  rw [← hm] at HQ hm0 ⊢
  obtain ⟨n, hn⟩ : ∃ n, n = (dg 256 p).length := ⟨_, rfl⟩
  rw [← hn] at HP ⊢
  have M0 := Mem.start w
  have hm1 : ¬ (m : Int) = 0 := by omega
  have ml : m ≤ 1000 := by omega
  clear hp hq h1 h2 hm hn hq0
  have L1 := decide_eq_false h
  have L2 := decide_eq_true h0
  have hx2 : ¬ (x : Int) = 0 := by omega
  have hx3 : ¬ (x : Int) = 1099511627776 := by omega
  have hx4 : (x : Int) - 1 = ((x - 1 : Nat) : Int) := by omega
  go_enter Try.func22, Try.ntmps22
  go_wp2_with fail
  refine (digits18_any (x) (by omega) _).mono ?_
  rintro e w1 ⟨d0, rfl, hd0, hA⟩
  have M1 := M0.call hA
  have HX0 := Lib.hid hd0
  replace HP := Lib.hid (HP.out.below hA)
  replace HQ := Lib.hid (HQ.out.below hA)
  clear hA hd0 M0
  obtain ⟨x0, X0, y0, rfl, hx0⟩ : ∃ a0 n0 c0, d0 = .slice a0 n0 c0 ∧ Is16 w1 (.slice a0 n0 c0) (x) := by
    obtain ⟨a, c, rfl, _⟩ := id HX0.out
    exact ⟨_, _, _, rfl, HX0.out⟩
  go_wp2_with fail
  refine (refMul16_any _ _ (x) q _ hx0 HQ.out (Nat.le_trans (dg_len_le (k := 6) (by decide) (show _ < 256 ^ 6 by omega)) (by decide)) (Nat.le_trans HD.out (by decide))).mono ?_
  rintro e w2 ⟨t0, rfl, ht0, hA⟩
  have M2 := M1.call hA
  replace HP := Lib.hid (HP.out.below hA)
  replace HQ := Lib.hid (HQ.out.below hA)
  clear hA hx0 M1 HX0
  obtain ⟨x10, X10, y10, rfl, hy0⟩ : ∃ a n c, t0 = .slice a n c ∧ Is16 w2 (.slice a n c) ((x) * q) := by
    obtain ⟨a, c, rfl, _⟩ := id ht0
    exact ⟨_, _, _, rfl, ht0⟩
  clear ht0
  go_wp2_with fail
  refine (refLess16_any _ _ ((x) * q) p _ hy0 HP.out (Nat.le_trans (lmul _ q HD.out (by omega)) (by decide)) (Nat.le_trans HC.out (by decide))).mono ?_
  rw [L1]
  rintro e w3 ⟨rfl, hA⟩
  have M3 := M2.call hA
  replace HP := Lib.hid (HP.out.below hA)
  replace HQ := Lib.hid (HQ.out.below hA)
  clear hA hy0 M2
  go_wp2_with fail
  refine (digits18_any (x - 1) (by omega) _).mono ?_
  rintro e w4 ⟨d3, rfl, hd3, hA⟩
  have M4 := M3.call hA
  have HX3 := Lib.hid hd3
  replace HP := Lib.hid (HP.out.below hA)
  replace HQ := Lib.hid (HQ.out.below hA)
  clear hA hd3 M3
  obtain ⟨x3, X3, y3, rfl, hx3⟩ : ∃ a0 n0 c0, d3 = .slice a0 n0 c0 ∧ Is16 w4 (.slice a0 n0 c0) (x - 1) := by
    obtain ⟨a, c, rfl, _⟩ := id HX3.out
    exact ⟨_, _, _, rfl, HX3.out⟩
  go_wp2_with fail
  refine (refMul16_any _ _ (x - 1) q _ hx3 HQ.out (Nat.le_trans (dg_len_le (k := 6) (by decide) (show _ < 256 ^ 6 by omega)) (by decide)) (Nat.le_trans HD.out (by decide))).mono ?_
  rintro e w5 ⟨t3, rfl, ht3, hA⟩
  have M5 := M4.call hA
  replace HP := Lib.hid (HP.out.below hA)
  replace HQ := Lib.hid (HQ.out.below hA)
  clear hA hx3 M4 HX3
  obtain ⟨x13, X13, y13, rfl, hy3⟩ : ∃ a n c, t3 = .slice a n c ∧ Is16 w5 (.slice a n c) ((x - 1) * q) := by
    obtain ⟨a, c, rfl, _⟩ := id ht3
    exact ⟨_, _, _, rfl, ht3⟩
  clear ht3
  go_wp2_with fail
  refine (refLess16_any _ _ ((x - 1) * q) p _ hy3 HP.out (Nat.le_trans (lmul _ q HD.out (by omega)) (by decide)) (Nat.le_trans HC.out (by decide))).mono ?_
  rw [L2]
  rintro e w6 ⟨rfl, hA⟩
  have M6 := M5.call hA
  replace HP := Lib.hid (HP.out.below hA)
  replace HQ := Lib.hid (HQ.out.below hA)
  clear hA hy3 M5
  go_wp2_with fail
  go_ret
  exact ⟨rfl, M6.below⟩

/-- The least number of which q times is no less than p, or 2^40. -/
structure Up18 (x p q : Nat) : Prop where
  le : x ≤ 1099511627776
  none : q = 0 → x = 1099511627776
  most : q ≠ 0 → x = 1099511627776 → 1099511627775 * q < p
  enough : q ≠ 0 → x < 1099511627776 → ¬ x * q < p
  less : q ≠ 0 → 0 < x → x < 1099511627776 → (x - 1) * q < p
theorem Up18.isUp {x p q : Nat} (h : Up18 x p q) (v u : Value) (w : World) (hp : Is16 w v p) (hq : Is16 w u q) (h1 : (dg 256 p).length ≤ 10000) (h2 : (dg 256 q).length ≤ 1000) : Calls Try.prog 22 #[.int .i64 x, v, u] w fun e w' => e = .returned (.bool true) ∧ Below w.heap.size w w' := by
  by_cases h0 : q = 0
  · obtain rfl := h.none h0
    subst h0
    exact isUp_none v u p w hp hq
  · by_cases hx : x = 1099511627776
    · subst hx
      exact isUp_most v u p q w hp hq h1 h2 h0 (h.most h0 rfl)
    · have hl : x < 1099511627776 := by have := h.le; omega
      by_cases hz : x = 0
      · subst hz
        exact isUp_0 v u p q w hp hq h1 h2 h0 (by have := h.enough h0 hl; omega)
      · exact isUp_one x v u p q w hp hq h1 h2 h0 (by omega) hl (h.enough h0 hl) (h.less h0 (by omega) hl)

set_option maxRecDepth 20000 in
set_option maxHeartbeats 6400000 in
theorem refScaled18_any (x b m s z : Nat) (hb : b ≤ 1099511627776) (hm : m ≤ 65536) (hs : s ≤ 1073741824) (hz : z < 70368744177664) (h : Up18 x (b * m * s) z) (w : World) :
    Calls Try.prog 9 #[.int .i64 x, .int .i64 b, .int .i64 m, .int .i64 s, .int .i64 z] w fun e w' => e = .returned (.bool true) ∧ Below w.heap.size w w' := by
  have hbm : b * m ≤ 1099511627776 * 65536 := Nat.mul_le_mul hb hm
  have hbms : b * m * s ≤ 1099511627776 * 65536 * 1073741824 := Nat.mul_le_mul hbm hs
  have lb : (dg 256 b).length ≤ 6 := dg_len_le (by decide) (by omega)
  have lm : (dg 256 m).length ≤ 6 := dg_len_le (by decide) (by omega)
  have ls : (dg 256 s).length ≤ 6 := dg_len_le (by decide) (by omega)
  have lz : (dg 256 z).length ≤ 6 := dg_len_le (by decide) (by omega)
  have lbm : (dg 256 (b * m)).length ≤ 8 := dg_len_le (by decide) (by omega)
  have lbms : (dg 256 (b * m * s)).length ≤ 12 := dg_len_le (by decide) (by omega)
  clear hbm hbms
  have HL := Lib.hid (And.intro lb (And.intro lm (And.intro ls (And.intro lz (And.intro lbm lbms)))))
  have HU := Lib.hid h
  clear lb lm ls lz lbm lbms h
  have N0 := Mem.start w
  go_enter Try.func9, Try.ntmps9
  go_wp2_with fail
  refine (digits18_any (b) (by omega) _).mono ?_
  rintro e w1 ⟨d1, rfl, hd1, hA⟩
  have N1 := N0.call hA
  clear hA N0
  obtain ⟨x1, X1, y1, rfl, hx1⟩ : ∃ a0 n0 c0, d1 = .slice a0 n0 c0 ∧ Is16 w1 (.slice a0 n0 c0) (b) := by
    obtain ⟨a, c, rfl, _⟩ := id hd1
    exact ⟨_, _, _, rfl, hd1⟩
  have I1 := Lib.hid hx1
  clear hd1 hx1
  go_wp2_with fail
  refine (digits18_any (m) (by omega) _).mono ?_
  rintro e w2 ⟨d2, rfl, hd2, hA⟩
  have N2 := N1.call hA
  replace I1 := Lib.hid (I1.out.below hA)
  clear hA N1
  obtain ⟨x2, X2, y2, rfl, hx2⟩ : ∃ a0 n0 c0, d2 = .slice a0 n0 c0 ∧ Is16 w2 (.slice a0 n0 c0) (m) := by
    obtain ⟨a, c, rfl, _⟩ := id hd2
    exact ⟨_, _, _, rfl, hd2⟩
  have I2 := Lib.hid hx2
  clear hd2 hx2
  go_wp2_with fail
  refine (refMul16_any _ _ (b) (m) _ I1.out I2.out (Nat.le_trans HL.out.1 (by decide)) (Nat.le_trans HL.out.2.1 (by decide))).mono ?_
  rintro e w3 ⟨d3, rfl, hd3, hA⟩
  have N3 := N2.call hA
  clear hA N2 I1 I2
  obtain ⟨x3, X3, y3, rfl, hx3⟩ : ∃ a0 n0 c0, d3 = .slice a0 n0 c0 ∧ Is16 w3 (.slice a0 n0 c0) (b * m) := by
    obtain ⟨a, c, rfl, _⟩ := id hd3
    exact ⟨_, _, _, rfl, hd3⟩
  have I3 := Lib.hid hx3
  clear hd3 hx3
  go_wp2_with fail
  refine (digits18_any (s) (by omega) _).mono ?_
  rintro e w4 ⟨d4, rfl, hd4, hA⟩
  have N4 := N3.call hA
  replace I3 := Lib.hid (I3.out.below hA)
  clear hA N3
  obtain ⟨x4, X4, y4, rfl, hx4⟩ : ∃ a0 n0 c0, d4 = .slice a0 n0 c0 ∧ Is16 w4 (.slice a0 n0 c0) (s) := by
    obtain ⟨a, c, rfl, _⟩ := id hd4
    exact ⟨_, _, _, rfl, hd4⟩
  have I4 := Lib.hid hx4
  clear hd4 hx4
  go_wp2_with fail
  refine (refMul16_any _ _ (b * m) (s) _ I3.out I4.out (Nat.le_trans HL.out.2.2.2.2.1 (by decide)) (Nat.le_trans HL.out.2.2.1 (by decide))).mono ?_
  rintro e w5 ⟨d5, rfl, hd5, hA⟩
  have N5 := N4.call hA
  clear hA N4 I3 I4
  obtain ⟨x5, X5, y5, rfl, hx5⟩ : ∃ a0 n0 c0, d5 = .slice a0 n0 c0 ∧ Is16 w5 (.slice a0 n0 c0) (b * m * s) := by
    obtain ⟨a, c, rfl, _⟩ := id hd5
    exact ⟨_, _, _, rfl, hd5⟩
  have I5 := Lib.hid hx5
  clear hd5 hx5
  go_wp2_with fail
  refine (digits18_any (z) (by omega) _).mono ?_
  rintro e w6 ⟨d6, rfl, hd6, hA⟩
  have N6 := N5.call hA
  replace I5 := Lib.hid (I5.out.below hA)
  clear hA N5
  obtain ⟨x6, X6, y6, rfl, hx6⟩ : ∃ a0 n0 c0, d6 = .slice a0 n0 c0 ∧ Is16 w6 (.slice a0 n0 c0) (z) := by
    obtain ⟨a, c, rfl, _⟩ := id hd6
    exact ⟨_, _, _, rfl, hd6⟩
  have I6 := Lib.hid hx6
  clear hd6 hx6
  go_wp2_with fail
  refine (HU.out.isUp _ _ _ I5.out I6.out (Nat.le_trans HL.out.2.2.2.2.2 (by decide)) (Nat.le_trans HL.out.2.2.2.1 (by decide))).mono ?_
  rintro e w7 ⟨rfl, hA⟩
  have N7 := N6.call hA
  clear hA N6 I5 I6
  go_wp2_with fail
  go_ret
  exact ⟨rfl, N7.below⟩

set_option maxRecDepth 20000 in
theorem refPlus18_any (a b : Nat) (ha : a ≤ 1099511627776) (hb : b ≤ 1099511627776) (w : World) :
    Calls Try.prog 16 #[.int .i64 a, .int .i64 b] w fun e w' => e = .returned (.int .i64 (min (a + b) 1099511627776 : Nat)) ∧ Below w.heap.size w w' := by
  by_cases h : 1099511627776 < a + b
  · rw [Nat.min_eq_right (by omega)]
    have h1 : (1099511627776 : Int) < a + b := by omega
    go_enter Try.func16, Try.ntmps16
    go_wp2_with fail
    go_ret
    exact ⟨rfl, Below.refl _ _⟩
  · rw [Nat.min_eq_left (by omega)]
    have h1 : ¬ (1099511627776 : Int) < a + b := by omega
    go_enter Try.func16, Try.ntmps16
    go_wp2_with fail
    go_ret
    exact ⟨by go_num, Below.refl _ _⟩
end Go.Proofs.Ytallbegibdlpaaa
