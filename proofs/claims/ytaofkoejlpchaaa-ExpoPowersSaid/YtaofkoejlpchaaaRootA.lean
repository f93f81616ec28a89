/-
  Roots: the greatest divisor, how many bits, by halves, a power: the code's and the reference's.
-/
import Derived.Test.YtaofkoejlpchaaaAns
import Derived.Test.YtaofkoejlpchaaaRootSpec
import Derived.Test.YtaofkoejlpchaaaLen
import Derived.Outline
set_option linter.unusedVariables false
set_option linter.unusedSimpArgs false
namespace Go.Proofs.Ytaofkoejlpchaaa
open Go Go.RowKit Go.Th Go.Th.Root

theorem gcd_step {x y g : Nat} (h : Nat.gcd x y = g) : Nat.gcd y (x % y) = g := by rw [Nat.gcd_comm, ← Nat.gcd_rec, Nat.gcd_comm, h]

set_option maxRecDepth 20000 in
set_option maxHeartbeats 1600000 in
theorem bits_any (x : Nat) (hx : x < 18446744073709551616) : Ans 24 #[.int .u64 x] (.int .i64 ((Lib.bitLen x : Nat) : Int)) := by
  intro w
  have C := fun w => Len64_any (x : Int) w (by omega) (by omega)
  rw [Int.toNat_natCast] at C
  go_enter Try.func24, Try.ntmps24
  go_wp2_with fail
  refine (C _).mono ?_
  rintro e w2 ⟨rfl, rfl⟩
  go_wp2
  go_ret
  exact ⟨rfl, Below.refl _ _⟩

theorem bitLen_le64 (x : Nat) (hx : x < 18446744073709551616) : Lib.bitLen x ≤ 64 := Lib.bitLen_le x 64 (by decide) hx
end Go.Proofs.Ytaofkoejlpchaaa
