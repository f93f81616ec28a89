/-
  The reference's places: of metres, and back.
-/
import Derived.Test.YtlkjcamjgaecgaaGreatTerrM
import Derived.Test.YtlkjcamjgaecgaaGreatRef11A
set_option linter.unusedVariables false
set_option linter.unusedSimpArgs false
namespace Go.Proofs.YtlkjcamjgaecgaaGreat
open Go Go.RowKit Go.Th Go.Th.Crc

set_option maxRecDepth 20000 in
theorem refSpot_go (m b c d e v : Int) (hb : wrap64 b = b) (hb2 : IntKind.i64.wrap b = b) (hd : wrap64 (m - b) = d) (he : wrap64 (256 * d) = e) (C1 : Ans 41 #[.int .i64 e, .int .i64 c] (.int .i64 v)) : Ans 23 #[.int .i64 m, .int .i32 b, .int .i64 c] (.int .i64 v) := by
  intro w
  go_enter Tryz.func23, Tryz.ntmps23
  go_wp2_with fail
  refine (C1 _).mono ?_
  rintro e w2 ⟨rfl, hB⟩
  go_wp2_with fail
  go_ret
  exact ⟨rfl, hB⟩
theorem refSpot_any (m b c : Int) (hm : -1099511627776 ≤ m ∧ m ≤ 1099511627776) (hb : -2147483648 ≤ b ∧ b ≤ 2147483647) (hc : 1 ≤ c ∧ c ≤ 1000) : Ans 23 #[.int .i64 m, .int .i32 b, .int .i64 c] (.int .i64 (256 * (m - b) / c)) :=
  refSpot_go m b c _ _ _ (IntWalk.wrap64_in _ (by omega)) (IntWalk.i64_in _ (by omega)) (IntWalk.wrap64_in _ (by omega)) (IntWalk.wrap64_in _ (by omega)) (down_any _ _ (by omega) (by omega))
set_option maxRecDepth 20000 in
theorem refMetres_go (s b c p v r : Int) (hb : wrap64 b = b) (hb2 : IntKind.i64.wrap b = b) (hp : wrap64 (s * c) = p) (C1 : Ans 32 #[.int .i64 p, .int .i64 256] (.int .i64 v)) (hr : wrap64 (v + b) = r) : Ans 25 #[.int .i64 s, .int .i32 b, .int .i64 c] (.int .i64 r) := by
  intro w
  go_enter Tryz.func25, Tryz.ntmps25
  go_wp2_with fail
  refine (C1 _).mono ?_
  rintro e w2 ⟨rfl, hB⟩
  go_wp2_with fail
  go_ret
  exact ⟨ret_int hr, hB⟩
theorem refMetres_any (s b c : Int) (hs : -1099511627776 ≤ s ∧ s ≤ 1099511627776) (hb : -2147483648 ≤ b ∧ b ≤ 2147483647) (hc : 1 ≤ c ∧ c ≤ 1000) : Ans 25 #[.int .i64 s, .int .i32 b, .int .i64 c] (.int .i64 (nearQ (s * c) 256 + b)) := by
  have h := mul_range (a := s) (p := c) (A := 1099511627776) (B := 1000) (by omega) (by omega) (by omega)
  have hn : -10000000000000 ≤ nearQ (s * c) 256 ∧ nearQ (s * c) 256 ≤ 10000000000000 := by unfold nearQ; omega
  exact refMetres_go s b c _ _ _ (IntWalk.wrap64_in _ (by omega)) (IntWalk.i64_in _ (by omega)) (IntWalk.wrap64_in _ (by omega)) (rnear_any _ 256 (by omega) (by omega) (by omega)) (IntWalk.wrap64_in _ (by omega))
end Go.Proofs.YtlkjcamjgaecgaaGreat
