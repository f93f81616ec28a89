/-
  What rounding costs: the reference's.
-/
import Derived.Test.YtallbegibdlpaaaRef18A
set_option linter.unusedVariables false
set_option linter.unusedSimpArgs false
namespace Go.Proofs.Ytallbegibdlpaaa
open Go Go.RowKit Go.Th Go.Th.Dig Go.Th.Ex

set_option maxRecDepth 20000 in
set_option maxHeartbeats 1600000 in
theorem refCost18_any (x n : Nat) (hn : n ≤ 4096) (h : Up18 x (n * 1099511627776) (1073741824 - 4 * n)) (w : World) :
    Calls Try.prog 7 #[.int .i64 x, .int .i64 n] w fun e w' => e = .returned (.bool true) ∧ Below w.heap.size w w' := by
  have lb : (dg 256 n).length ≤ 6 := dg_len_le (by decide) (by omega)
  obtain ⟨O, hO⟩ : ∃ O : Nat, O = 1099511627776 := ⟨_, rfl⟩
  have hO2 : (1099511627776 : Int) = (O : Int) := by omega
  have CO := Lib.hid (fun wx => digits18_any O (by omega) wx)
  have lm : (dg 256 O).length ≤ 6 := dg_len_le (by decide) (by omega)
  have lnO : n * O ≤ 4096 * 1099511627776 := Nat.mul_le_mul hn (by omega)
  have ls : (dg 256 (n * O)).length ≤ 12 := dg_len_le (by decide) (by omega)
  rw [← hO] at h
  rw [← hO2] at CO
  clear hO hO2 lnO
  have lz : (dg 256 (1073741824 - 4 * n)).length ≤ 6 := dg_len_le (by decide) (by omega)
  have HL := Lib.hid (And.intro lb (And.intro lm (And.intro ls lz)))
  have HU := Lib.hid h
  clear lb lm ls lz h
  obtain ⟨d, hd⟩ : ∃ d : Nat, d = 1073741824 - 4 * n := ⟨_, rfl⟩
  have hd2 : 1073741824 - 4 * (n : Int) = (d : Int) := by omega
  rw [← hd] at HU HL
  have CD := Lib.hid (fun wx => digits18_any d (by omega) wx)
  clear hd
  have N0 := Mem.start w
  go_enter Try.func7, Try.ntmps7
  go_wp2_with fail
  refine (digits18_any (n) (by omega) _).mono ?_
  rintro e w1 ⟨d1, rfl, hd1, hA⟩
  have N1 := N0.call hA
  clear hA N0
  obtain ⟨x1, X1, y1, rfl, hx1⟩ : ∃ a0 n0 c0, d1 = .slice a0 n0 c0 ∧ Is16 w1 (.slice a0 n0 c0) (n) := by
    obtain ⟨a, c, rfl, _⟩ := id hd1
    exact ⟨_, _, _, rfl, hd1⟩
  have I1 := Lib.hid hx1
  clear hd1 hx1
  go_wp2_with fail
  refine (CO.out _).mono ?_
  rintro e w2 ⟨d2, rfl, hd2, hA⟩
  have N2 := N1.call hA
  replace I1 := Lib.hid (I1.out.below hA)
  clear hA N1
  obtain ⟨x2, X2, y2, rfl, hx2⟩ : ∃ a0 n0 c0, d2 = .slice a0 n0 c0 ∧ Is16 w2 (.slice a0 n0 c0) (O) := by
    obtain ⟨a, c, rfl, _⟩ := id hd2
    exact ⟨_, _, _, rfl, hd2⟩
  have I2 := Lib.hid hx2
  clear hd2 hx2
  go_wp2_with fail
  refine (refMul16_any _ _ (n) (O) _ I1.out I2.out (Nat.le_trans HL.out.1 (by decide)) (Nat.le_trans HL.out.2.1 (by decide))).mono ?_
  rintro e w3 ⟨d3, rfl, hd3, hA⟩
  have N3 := N2.call hA
  clear hA N2 I1 I2
  obtain ⟨x3, X3, y3, rfl, hx3⟩ : ∃ a0 n0 c0, d3 = .slice a0 n0 c0 ∧ Is16 w3 (.slice a0 n0 c0) (n * O) := by
    obtain ⟨a, c, rfl, _⟩ := id hd3
    exact ⟨_, _, _, rfl, hd3⟩
  have I3 := Lib.hid hx3
  clear hd3 hx3
  go_wp2_with fail
  refine (CD.out _).mono ?_
  rintro e w4 ⟨d4, rfl, hd4, hA⟩
  have N4 := N3.call hA
  replace I3 := Lib.hid (I3.out.below hA)
  clear hA N3
  obtain ⟨x4, X4, y4, rfl, hx4⟩ : ∃ a0 n0 c0, d4 = .slice a0 n0 c0 ∧ Is16 w4 (.slice a0 n0 c0) (d) := by
    obtain ⟨a, c, rfl, _⟩ := id hd4
    exact ⟨_, _, _, rfl, hd4⟩
  have I4 := Lib.hid hx4
  clear hd4 hx4
  go_wp2_with fail
  refine (HU.out.isUp _ _ _ I3.out I4.out (Nat.le_trans HL.out.2.2.1 (by decide)) (Nat.le_trans HL.out.2.2.2 (by decide))).mono ?_
  rintro e w7 ⟨rfl, hA⟩
  have N7 := N4.call hA
  clear hA N4 I3 I4
  go_wp2_with fail
  go_ret
  exact ⟨rfl, N7.below⟩


end Go.Proofs.Ytallbegibdlpaaa
