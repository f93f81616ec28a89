/-
  Folded numbers and sizes: the code's.
-/
import Derived.Test.YtapheokmoebgfaaRows
import Derived.Test.YtapheokmoebgfaaRiceSpec
import Derived.Test.YtapheokmoebgfaaBitR
import Derived.Laws.BitsAllLaws
import Derived.BigQuiet
set_option linter.unusedVariables false
set_option linter.unusedSimpArgs false
namespace Go.Proofs.Ytapheokmoebgfaa
open Go Go.RowKit Go.Th

/-- What a call answers, whatever the world is, which stays as it was. -/
abbrev Pure (f : Nat) (args : Array Value) (v : Value) : Prop := ∀ w : World, Calls Try.prog f args w fun e w' => e = .returned v ∧ w = w'

theorem xor_all32 (a : Nat) (ha : a < 4294967296) : bits .xor .u32 (a : Int) 4294967295 = ((4294967295 - a : Nat) : Int) := by
  show IntKind.u32.wrap ((BitVec.ofInt 32 (a : Int) ^^^ BitVec.ofInt 32 4294967295).toNat : Int) = _
  have h1 : BitVec.ofInt 32 4294967295 = BitVec.allOnes 32 := by decide
  rw [h1, BitVec.xor_allOnes, BitVec.toNat_not, ofInt_u32 a ha, IntKind.wrap_u32']
  omega
theorem xor_zero32 (a : Nat) (ha : a < 4294967296) : bits .xor .u32 (a : Int) 0 = (a : Int) := by
  have := u32_xor_nat a 0 ha (by decide)
  simpa using this
theorem xor_alli (a : Nat) (ha : a < 2147483648) : bits .xor .i32 (a : Int) (-1) = -(a : Int) - 1 := by
  show IntKind.i32.wrap ((BitVec.ofInt 32 (a : Int) ^^^ BitVec.ofInt 32 (-1)).toNat : Int) = _
  have h1 : BitVec.ofInt 32 (-1) = BitVec.allOnes 32 := by decide
  rw [h1, BitVec.xor_allOnes, BitVec.toNat_not, ofInt_u32 a (by omega)]
  simp [IntKind.wrap, IntKind.bits, IntKind.signed]
  omega
theorem xor_zeroi (a : Nat) (ha : a < 2147483648) : bits .xor .i32 (a : Int) 0 = (a : Int) := by
  show IntKind.i32.wrap ((BitVec.ofInt 32 (a : Int) ^^^ BitVec.ofInt 32 0).toNat : Int) = _
  have h1 : BitVec.ofInt 32 0 = 0#32 := by decide
  rw [h1, BitVec.xor_zero, ofInt_u32 a (by omega)]
  simp [IntKind.wrap, IntKind.bits, IntKind.signed]
  omega

theorem nat_quo (n k : Nat) : (n : Int) / 2 ^ k = ((n / 2 ^ k : Nat) : Int) := by simp

theorem fold_go (x : Int) (h1 : -2147483648 ≤ x) (h2 : x ≤ 2147483647) : Pure 51 #[.int .i32 x] (.int .u32 (fold x : Nat)) := by
  intro w
  go_enter Try.func51, Try.ntmps51
  go_wp2
  go_ret
  refine ⟨ret_int ?_, rfl⟩
  by_cases hx : x < 0
  · have hf := fold_neg x hx
    have e1 : x / 2147483648 % 4294967296 = 4294967295 := by omega
    obtain ⟨a, ha⟩ := Int.eq_ofNat_of_zero_le (by omega : 0 ≤ x % 4294967296 * 2 % 4294967296)
    rw [e1, ha, xor_all32 a (by omega)]
    omega
  · have hf := fold_pos x hx
    have e1 : x / 2147483648 % 4294967296 = 0 := by omega
    obtain ⟨a, ha⟩ := Int.eq_ofNat_of_zero_le (by omega : 0 ≤ x % 4294967296 * 2 % 4294967296)
    rw [e1, ha, xor_zero32 a (by omega)]
    omega

theorem unfold_go (n : Nat) (h : n < 4294967296) : Pure 46 #[.int .u32 n] (.int .i32 (unfold n)) := by
  intro w
  go_enter Try.func46, Try.ntmps46
  go_wp2
  go_ret
  refine ⟨ret_int ?_, rfl⟩
  have e : bits BinOp.and IntKind.u32 (n : Int) 1 = ((n % 2 : Nat) : Int) := by
    have := u32_and_nat n 1 h (by decide)
    rwa [nat_mask1] at this
  have e2 : ((n : Int) / 2) = ((n / 2 : Nat) : Int) := by omega
  rw [e, e2]
  unfold unfold
  by_cases h0 : n % 2 = 0
  · rw [if_pos h0, h0, show wrap32 (-wrap32 ((0 : Nat) : Int)) = 0 by decide +kernel]
    exact xor_zeroi (n / 2) (by omega)
  · have h1 : n % 2 = 1 := by omega
    rw [if_neg h0, h1, show wrap32 (-wrap32 ((1 : Nat) : Int)) = -1 by decide +kernel]
    exact xor_alli (n / 2) (by omega)

theorem refFold_go (x : Int) (h1 : -2147483648 ≤ x) (h2 : x ≤ 2147483647) : Pure 42 #[.int .i32 x] (.int .u32 (fold x : Nat)) := by
  intro w
  by_cases hx : x < 0
  · have hf := fold_neg x hx
    go_enter Try.func42, Try.ntmps42
    go_wp2
    go_ret
    exact ⟨ret_int (by omega), rfl⟩
  · have hf := fold_pos x hx
    go_enter Try.func42, Try.ntmps42
    go_wp2
    go_ret
    exact ⟨ret_int (by omega), rfl⟩

theorem param_yes (k : Int) (h1 : 0 ≤ k) (h2 : k ≤ 16) : Pure 52 #[.int .i64 k] (.bool true) := by
  intro w
  go_enter Try.func52, Try.ntmps52
  go_wp2
  go_ret
  exact ⟨rfl, rfl⟩
theorem param_no (k : Int) (h1 : 0 ≤ k) (h2 : 16 < k) : Pure 52 #[.int .i64 k] (.bool false) := by
  intro w
  have h3 : ¬ k ≤ 16 := by omega
  go_enter Try.func52, Try.ntmps52
  go_wp2
  go_ret
  exact ⟨rfl, rfl⟩

theorem wide_go (n k : Nat) (hn : n < 4294967296) (hk : k ≤ 16) : Pure 53 #[.int .u32 n, .int .i64 k] (.bool (decide (20 ≤ n / 2 ^ k))) := by
  intro w
  go_enter Try.func53, Try.ntmps53
  go_wp2
  go_ret
  refine ⟨ret_bool ?_, rfl⟩
  rw [nat_quo]
  generalize n / 2 ^ k = q
  rw [Bool.eq_iff_iff]; simp; omega

theorem size_go (n k : Nat) (hn : n < 4294967296) (hk : k ≤ 16) : Pure 60 #[.int .u32 n, .int .i64 k] (.int .i64 (size n k : Nat)) := by
  intro w
  have C1 := param_yes (k : Int) (by omega) (by omega)
  have C2 := wide_go n k hn hk
  by_cases hw : n / 2 ^ k < 20
  · rw [decide_eq_false (by omega)] at C2
    have HS := Lib.hid (show size n k = n / 2 ^ k + 1 + k by unfold size; rw [if_pos hw])
    obtain ⟨q, hq⟩ : ∃ q, q = n / 2 ^ k := ⟨_, rfl⟩
    have hq' : (n : Int) / 2 ^ k = (q : Int) := by rw [hq, nat_quo]
    rw [← hq] at hw HS
    clear hq
    go_enter Try.func60, Try.ntmps60
    go_wp2_with fail
    refine (C1 _).mono ?_
    rintro e w1 ⟨rfl, rfl⟩
    go_wp2_with fail
    refine (C2 _).mono ?_
    rintro e w1 ⟨rfl, rfl⟩
    go_wp2_with fail
    go_ret
    exact ⟨ret_int (by rw [HS.out]; omega), rfl⟩
  · rw [decide_eq_true (by omega)] at C2
    have HS := Lib.hid (show size n k = 38 by unfold size; rw [if_neg hw])
    clear hw
    go_enter Try.func60, Try.ntmps60
    go_wp2_with fail
    refine (C1 _).mono ?_
    rintro e w1 ⟨rfl, rfl⟩
    go_wp2_with fail
    refine (C2 _).mono ?_
    rintro e w1 ⟨rfl, rfl⟩
    go_wp2_with fail
    go_ret
    exact ⟨ret_int (by rw [HS.out]; rfl), rfl⟩

theorem put_go (n k : Nat) (hn : n < 4294967296) (hk : k ≤ 16) (pb po base : Nat) (v : Value) (l : List Bool) (w : World) (h : WInv w pb po base v l) (hl : l.length ≤ 1000000) (hb : base ≤ w.heap.size) :
    Calls Try.prog 37 #[.pointer (some ⟨pb, po, none⟩), .int .u32 n, .int .i64 k] w fun e w' => e = .returned (.tuple #[]) ∧ ∃ v', WInv w' pb po base v' (l ++ code n k) ∧ WGo pb w w' v v' := by
  have C1 := param_yes (k : Int) (by omega) (by omega)
  have C2 := wide_go n k hn hk
  by_cases hw : n / 2 ^ k < 20
  · rw [decide_eq_false (by omega)] at C2
    have HC := Lib.hid (show code n k = onesBits (n / 2 ^ k) ++ numBits n k by unfold code; rw [if_pos hw])
    obtain ⟨q, hq⟩ : ∃ q, q = n / 2 ^ k := ⟨_, rfl⟩
    have hq' : (n : Int) / 2 ^ k = (q : Int) := by rw [hq, nat_quo]
    rw [← hq] at hw HC
    clear hq
    go_enter Try.func37, Try.ntmps37
    go_wp2_with fail
    refine (C1 _).mono ?_
    rintro e w1 ⟨rfl, rfl⟩
    go_wp2_with fail
    refine (C2 _).mono ?_
    rintro e w1 ⟨rfl, rfl⟩
    clear C1 C2
    go_wp2_with fail
    refine (ones_any q (by omega) pb po base v l _ h (by omega) hb).mono ?_
    rintro e w1 ⟨rfl, v1, hW1, hG1⟩
    have hb1 := Nat.le_trans hb hG1.turned.size
    have hl1 : (l ++ onesBits q).length ≤ 1000100 := by rw [List.length_append, onesBits_length]; omega
    go_wp2_with fail
    refine (num_any n k (by omega) (by omega) pb po base v1 _ _ hW1 (by omega) hb1).mono ?_
    rintro e w2 ⟨rfl, v2, hW2, hG2⟩
    clear hW1 h
    go_wp2_with fail
    go_end0
    exact ⟨rfl, v2, by rw [HC.out, ← List.append_assoc]; exact hW2, hG1.trans hG2⟩
  · rw [decide_eq_true (by omega)] at C2
    have HC := Lib.hid (show code n k = onesBits 20 ++ numBits n 17 by unfold code; rw [if_neg hw])
    clear hw
    go_enter Try.func37, Try.ntmps37
    go_wp2_with fail
    refine (C1 _).mono ?_
    rintro e w1 ⟨rfl, rfl⟩
    go_wp2_with fail
    refine (C2 _).mono ?_
    rintro e w1 ⟨rfl, rfl⟩
    clear C1 C2
    go_wp2_with fail
    refine (ones_any 20 (by omega) pb po base v l _ h (by omega) hb).mono ?_
    rintro e w1 ⟨rfl, v1, hW1, hG1⟩
    have hb1 := Nat.le_trans hb hG1.turned.size
    have hl1 : (l ++ onesBits 20).length ≤ 1000100 := by rw [List.length_append, onesBits_length]; omega
    go_wp2_with fail
    refine (num_any n 17 (by omega) (by omega) pb po base v1 _ _ hW1 (by omega) hb1).mono ?_
    rintro e w2 ⟨rfl, v2, hW2, hG2⟩
    clear hW1 h
    go_wp2_with fail
    go_end0
    exact ⟨rfl, v2, by rw [HC.out, ← List.append_assoc]; exact hW2, hG1.trans hG2⟩

/-- Reading from a failed reader: nothing, and it has failed still. -/
theorem rnum_bad (pb po base : Nat) (k : Nat) (w : World) (h : RInv w pb po base (.slice none 0 0) [] 0 true) :
    Calls Try.prog 43 #[.pointer (some ⟨pb, po, none⟩), .int .i64 k] w fun e w' => e = .returned (.int .u64 0) ∧ RInv w' pb po base (.slice none 0 0) [] 0 true ∧ Turned (fun k => k = pb) w w' := by
  by_cases hk : k = 0
  · subst hk
    exact rnum_yes pb po base _ [] 0 true 0 w h (by simp)
  · exact rnum_no pb po base _ [] 0 true k w h (by simp; omega)
end Go.Proofs.Ytapheokmoebgfaa
