/-
  How many bits a part has: the library's own text is walked.
-/
import Derived.Test.YtallbegibdlpaaaGreatChecked
import Derived.Lib.Strings
import Derived.Lib.Slices
import Derived.Lib.Small
import Derived.Lib.Walk
import Derived.Lib.BitFns
set_option linter.unusedVariables false
set_option linter.unusedSimpArgs false
namespace Go.Proofs.YtallbegibdlpaaaGreat
open Go

theorem len32_at (x y kk : Int) (k : Nat) (h0 : 0 ≤ x) (h1 : x ≤ 4294967295) (hkk : kk = k) (hy : y = ((x.toNat / 2 ^ k : Nat) : Int)) (hb : y < 256) (hk : k = 0 ∨ 2 ^ k ≤ x.toNat) (hk2 : k ≤ 56) :
    (kk + ((Lib.len8 (y % 256) + 9223372036854775808) % 18446744073709551616 - 9223372036854775808) + 9223372036854775808) % 18446744073709551616 - 9223372036854775808 = ((Lib.bitLen x.toNat : Nat) : Int) := by
  have hy0 : 0 ≤ y := by rw [hy]; exact Int.natCast_nonneg _
  have e : y % 256 = y := by omega
  rw [e, Lib.len8_of y hy0 (by omega)]
  have hl := Lib.bitLen_le8' y hy0 (by omega)
  have hyn : y.toNat = x.toNat / 2 ^ k := by rw [hy]; exact Int.toNat_natCast _
  have hs : Lib.bitLen x.toNat = k + Lib.bitLen y.toNat := by
    rw [hyn]
    rcases hk with rfl | hk
    · simp
    · exact Lib.bitLen_shift k x.toNat hk (by omega)
  rw [hs, hkk]
  generalize Lib.bitLen y.toNat = b at *
  clear hs hyn hy hk e hy0 hb h0 h1 hkk
  have e1 : ((b : Int) + 9223372036854775808) % 18446744073709551616 - 9223372036854775808 = b := by omega
  rw [e1]
  omega
theorem len32_at0 (x : Int) (h0 : 0 ≤ x) (hb : x < 256) :
    (Lib.len8 (x % 256) + 9223372036854775808) % 18446744073709551616 - 9223372036854775808 = ((Lib.bitLen x.toNat : Nat) : Int) := by
  have e : x % 256 = x := by omega
  rw [e, Lib.len8_of x h0 (by omega)]
  have hl := Lib.bitLen_le8' x h0 (by omega)
  omega

set_option maxHeartbeats 4000000 in
set_option maxRecDepth 100000 in
theorem Len32_any (x : Int) (w : World) (h0 : 0 ≤ x) (h1 : x ≤ 4294967295) :
    Calls Tryz.prog 105 #[.int .u32 x] w fun e w' => e = .returned (.int .i64 (Lib.bitLen x.toNat)) ∧ w = w' := by
  go_enter Tryz.func105, Tryz.ntmps105
  go_wp2
  all_goals (go_ret; refine ⟨congrArg Ending.returned (congrArg (Value.int IntKind.i64) ?_), rfl⟩)
  · exact len32_at x _ 24 24 h0 h1 rfl (by simp only [Nat.reducePow]; omega) (by omega) (.inr (by simp only [Nat.reducePow]; omega)) (by decide)
  · exact len32_at x _ 16 16 h0 h1 rfl (by simp only [Nat.reducePow]; omega) (by omega) (.inr (by simp only [Nat.reducePow]; omega)) (by decide)
  · exact len32_at x _ 8 8 h0 h1 rfl (by simp only [Nat.reducePow]; omega) (by omega) (.inr (by simp only [Nat.reducePow]; omega)) (by decide)
  · exact len32_at0 x h0 (by omega)
end Go.Proofs.YtallbegibdlpaaaGreat
