/-
  Numbers of 128 bits: the quotient of a product, and a power of two.
-/
import Derived.Test.YtggmjdaolekgmaaWideI
set_option linter.unusedVariables false
set_option linter.unusedSimpArgs false
namespace Go.Proofs.Ytggmjdaolekgmaa
open Go Go.RowKit Go.Th Go.Th.Wide

set_option maxRecDepth 20000 in
set_option maxHeartbeats 1600000 in
theorem MulDiv_any (a b c mode : Int) (ha : -9223372036854775808 ≤ a ∧ a ≤ 9223372036854775807) (hb : -9223372036854775808 ≤ b ∧ b ≤ 9223372036854775807) (hc : -9223372036854775808 ≤ c ∧ c ≤ 9223372036854775807)
    (hz : -170141183460469231731687303715884105728 ≤ a * b ∧ a * b < 170141183460469231731687303715884105728) (w : World) :
    Calls Try.prog 56 #[.int .i64 a, .int .i64 b, .int .i64 c, .int .i64 mode] w fun e w' =>
      e = .returned (.tuple #[.int .i64 (divV (a * b) c mode), .int .i64 (divE (a * b) c mode)]) ∧ Below w.heap.size w w' := by
  have C1 := Mul_any a b ha hb
  have C2 := Div_any (a * b) c mode hz hc
  obtain ⟨V, hV⟩ : ∃ V, V = divV (a * b) c mode := ⟨_, rfl⟩
  obtain ⟨E, hE⟩ : ∃ E, E = divE (a * b) c mode := ⟨_, rfl⟩
  obtain ⟨h, hh⟩ : ∃ h, h = hiZ (a * b) := ⟨_, rfl⟩
  obtain ⟨l, hl⟩ : ∃ l, l = loZ (a * b) := ⟨_, rfl⟩
  rw [← hV, ← hE] at C2 ⊢
  rw [← hh, ← hl] at C1 C2
  clear hV hE hh hl hz ha hb hc
  have M0 := Mem.start w
  go_enter Try.func56, Try.ntmps56
  go_wp2_with fail
  refine (C1 _).mono ?_
  rintro e w2 ⟨rfl, hBl⟩
  replace M0 := M0.call hBl
  clear hBl C1
  go_wp2_with fail
  refine (C2 _).mono ?_
  rintro e w2 ⟨rfl, hBl⟩
  replace M0 := M0.call hBl
  clear hBl C2
  go_wp2_with fail
  go_ret2
  exact ⟨rfl, M0.below⟩

end Go.Proofs.Ytggmjdaolekgmaa
