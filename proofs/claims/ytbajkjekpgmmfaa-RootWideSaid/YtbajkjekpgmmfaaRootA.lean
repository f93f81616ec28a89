/-
  Roots: the greatest divisor, how many bits, by halves, a power: the code's and the reference's.
-/
import Derived.Test.YtbajkjekpgmmfaaAns
import Derived.Test.YtbajkjekpgmmfaaRootSpec
import Derived.Test.YtbajkjekpgmmfaaLen
import Derived.Outline
set_option linter.unusedVariables false
set_option linter.unusedSimpArgs false
namespace Go.Proofs.Ytbajkjekpgmmfaa
open Go Go.RowKit Go.Th Go.Th.Root

theorem gcd_step {x y g : Nat} (h : Nat.gcd x y = g) : Nat.gcd y (x % y) = g := by rw [Nat.gcd_comm, ← Nat.gcd_rec, Nat.gcd_comm, h]

set_option maxRecDepth 20000 in
set_option maxHeartbeats 1600000 in
theorem gcd_any (a b : Nat) (ha : a < 18446744073709551616) (hb : b < 18446744073709551616) : Ans 27 #[.int .u64 a, .int .u64 b] (.int .u64 ((Nat.gcd a b : Nat) : Int)) := by
  intro w
  obtain ⟨g, hg⟩ : ∃ g, g = Nat.gcd a b := ⟨_, rfl⟩
  rw [← hg]
  have HG := Lib.hid hg.symm
  clear hg
  go_enter Try.func27, Try.ntmps27
  go_wp2
  go_loopw [0, 1] (fun s t wx => ∃ x y : Nat, x < 18446744073709551616 ∧ y < 18446744073709551616 ∧ s = .int .u64 x ∧ t = .int .u64 y ∧ Hid (Nat.gcd x y = g) ∧ Below w.heap.size w wx) (fun _ t _ => (intOf t).toNat)
  case atStart => exact ⟨a, b, ha, hb, rfl, rfl, HG.out, Below.refl _ _⟩
  case round =>
    clear HG ha hb
    obtain ⟨x, y, hx, hy, rfl, rfl, HG, B⟩ := hrel
    by_cases h0 : y = 0
    · subst h0
      have d0 : ((((0 : Nat) : Int)) != 0) = false := by decide
      go_wp2
      go_ret
      exact ⟨ret_int (by have := HG.out; rw [Nat.gcd_zero_right] at this; rw [this]), B⟩
    · have d0 : ((y : Int) != 0) = true := by simpa using h0
      have hn : ¬ (y : Int) = 0 := by omega
      have hm : x % y < y := Nat.mod_lt x (by omega)
      go_wp2
      go_quiet (fail)
      go_wp2
      go_roundw
      case rel => exact ⟨y, x % y, hy, by omega, rfl, by rw [Int.natCast_emod], gcd_step HG.out, below_dN B _⟩
      case measure => simp [intOf] <;> omega

set_option maxRecDepth 20000 in
set_option maxHeartbeats 1600000 in
theorem refGcd_any (a b : Nat) (ha : a < 18446744073709551616) (hb : b < 18446744073709551616) : Ans 28 #[.int .u64 a, .int .u64 b] (.int .u64 ((Nat.gcd a b : Nat) : Int)) := by
  intro w
  obtain ⟨g, hg⟩ : ∃ g, g = Nat.gcd a b := ⟨_, rfl⟩
  rw [← hg]
  have HG := Lib.hid hg.symm
  clear hg
  go_enter Try.func28, Try.ntmps28
  go_wp2
  go_loop [5, 6] (fun s t => ∃ x y : Nat, x < 18446744073709551616 ∧ y < 18446744073709551616 ∧ s = .int .u64 x ∧ t = .int .u64 y ∧ Hid (Nat.gcd x y = g)) (fun _ t => (intOf t).toNat)
  case atStart => exact ⟨a, b, ha, hb, rfl, rfl, HG.out⟩
  case round =>
    clear HG ha hb
    obtain ⟨x, y, hx, hy, rfl, rfl, HG⟩ := hrel
    by_cases h0 : 0 < y
    · have hm : x % y < y := Nat.mod_lt x (by omega)
      have hn : ¬ (y : Int) = 0 := by omega
      go_wp2
      go_round
      case rel => exact ⟨y, x % y, hy, by omega, rfl, by rw [Int.natCast_emod], gcd_step HG.out⟩
      case measure => simp [intOf] <;> omega
    · obtain rfl : y = 0 := by omega
      go_wp2
      go_ret
      exact ⟨ret_int (by have := HG.out; rw [Nat.gcd_zero_right] at this; rw [this]), Below.refl _ _⟩

set_option maxRecDepth 20000 in
set_option maxHeartbeats 1600000 in
theorem bits_any (x : Nat) (hx : x < 18446744073709551616) : Ans 12 #[.int .u64 x] (.int .i64 ((Lib.bitLen x : Nat) : Int)) := by
  intro w
  have C := fun w => Len64_any (x : Int) w (by omega) (by omega)
  rw [Int.toNat_natCast] at C
  go_enter Try.func12, Try.ntmps12
  go_wp2_with fail
  refine (C _).mono ?_
  rintro e w2 ⟨rfl, rfl⟩
  go_wp2
  go_ret
  exact ⟨rfl, Below.refl _ _⟩

theorem bitLen_le64 (x : Nat) (hx : x < 18446744073709551616) : Lib.bitLen x ≤ 64 := Lib.bitLen_le x 64 (by decide) hx
set_option maxRecDepth 20000 in
set_option maxHeartbeats 1600000 in
theorem refBits_any (x : Nat) (hx : x < 18446744073709551616) : Ans 13 #[.int .u64 x] (.int .i64 ((Lib.bitLen x : Nat) : Int)) := by
  intro w
  have hl := bitLen_le64 x hx
  obtain ⟨L, hL⟩ : ∃ L, L = Lib.bitLen x := ⟨_, rfl⟩
  rw [← hL] at hl ⊢
  have HL := Lib.hid hL.symm
  clear hL
  go_enter Try.func13, Try.ntmps13
  go_wp2
  go_loop [3, 4] (fun s t => ∃ n y : Nat, y < 18446744073709551616 ∧ s = .int .i64 n ∧ t = .int .u64 y ∧ Hid (n + Lib.bitLen y = L)) (fun _ t => (intOf t).toNat)
  case atStart => exact ⟨0, x, hx, rfl, rfl, by rw [Nat.zero_add]; exact HL.out⟩
  case round =>
    clear HL hx
    obtain ⟨n, y, hy, rfl, rfl, HY⟩ := hrel
    by_cases h0 : 0 < y
    · have hm : y / 2 < y := half_pos h0
      have hn : n + (1 + Lib.bitLen (y / 2)) = L := by have := HY.out; rwa [Lib.bitLen_half y (by omega) hy] at this
      have hn2 : n < 64 := by omega
      have HN := Lib.hid hn
      clear hn
      go_wp2
      go_round
      case rel => exact ⟨n + 1, y / 2, by omega, by go_num, by first | rfl | rw [Int.natCast_ediv]; rfl, (Nat.add_assoc _ _ _).trans HN.out⟩
      case measure => simp [intOf] <;> omega
    · obtain rfl : y = 0 := by omega
      go_wp2
      go_ret
      exact ⟨ret_int (by have := HY.out; rw [show Lib.bitLen 0 = 0 from rfl] at this; omega), Below.refl _ _⟩
end Go.Proofs.Ytbajkjekpgmmfaa
