/-
  The law of sums, whole.
-/
import Derived.Test.YtbiblinaolmkdaaLaw03T
namespace Go.Proofs.Ytbiblinaolmkdaa
open Go Go.RowKit Go.Th Go.Th.Wide

theorem fits127 (s : Int) : fitsS (decide (s < 0)) s.natAbs 127 = decide (-170141183460469231731687303715884105728 ≤ s ∧ s < 170141183460469231731687303715884105728) := by
  unfold fitsS
  by_cases h : s < 0
  · rw [decide_eq_true h, Bool.and_true, ← Bool.decide_or]
    apply decide_eq_decide.mpr
    omega
  · rw [decide_eq_false h, Bool.and_false, Bool.or_false]
    apply decide_eq_decide.mpr
    omega
theorem cmpZS (a b : Int) : cmpZ a b = cmpS a b := rfl
theorem hiZ_add (h l h' l' : Int) : hiZ (h * 18446744073709551616 + l + (h' * 18446744073709551616 + l')) = h + h' + (l + l') / 18446744073709551616 := by unfold hiZ; omega
theorem loZ_add (h l h' l' : Int) : loZ (h * 18446744073709551616 + l + (h' * 18446744073709551616 + l')) = (l + l') % 18446744073709551616 := by unfold loZ; omega
theorem hiZ_at (h l : Int) (hl : 0 ≤ l ∧ l < 18446744073709551616) : hiZ (h * 18446744073709551616 + l) = h := by unfold hiZ; omega
theorem loZ_at (h l : Int) (hl : 0 ≤ l ∧ l < 18446744073709551616) : loZ (h * 18446744073709551616 + l) = l := by unfold loZ; omega
theorem at_Z (z : Int) : hiZ z * 18446744073709551616 + loZ z = z := by unfold hiZ loZ; omega

theorem refAdd_z (z1 z2 : Int) (h1 : z1.natAbs < 2 ^ 128) (h2 : z2.natAbs < 2 ^ 128) : Ans 16 #[.agg (numC (decide (z1 < 0)) z1.natAbs).toArray, .agg (numC (decide (z2 < 0)) z2.natAbs).toArray]
      (.tuple #[.agg (numC (decide (z1 + z2 < 0)) (z1 + z2).natAbs).toArray, .bool (decide (-170141183460469231731687303715884105728 ≤ z1 + z2 ∧ z1 + z2 < 170141183460469231731687303715884105728))]) := by
  have C := refAdd_any (decide (z1 < 0)) (decide (z2 < 0)) z1.natAbs z2.natAbs h1 h2
  unfold sumM sumN at C
  rw [sgn_z, sgn_z, fits127] at C
  exact C
theorem refCmp_z (z1 z2 : Int) (h1 : z1.natAbs < 2 ^ 128) (h2 : z2.natAbs < 2 ^ 128) : Ans 18 #[.agg (numC (decide (z1 < 0)) z1.natAbs).toArray, .agg (numC (decide (z2 < 0)) z2.natAbs).toArray] (.int .i64 (cmpZ z1 z2)) := by
  have C := refCmp_any (decide (z1 < 0)) (decide (z2 < 0)) z1.natAbs z2.natAbs (Nat.lt_of_lt_of_le h1 (by decide)) (Nat.lt_of_lt_of_le h2 (by decide))
  rw [sgn_z, sgn_z] at C
  exact C

theorem wideSums_any (ah bh : Int) (al bl : Nat) (hah : -9223372036854775808 ≤ ah ∧ ah ≤ 9223372036854775807) (hal : al < 18446744073709551616) (hbh : -9223372036854775808 ≤ bh ∧ bh ≤ 9223372036854775807) (hbl : bl < 18446744073709551616) (w : World) :
    Calls Try.prog 4 #[wv ah al, wv bh bl] w fun e w' => e = .returned (.bool true) ∧ Below w.heap.size w w' := by
  have la : (0 : Int) ≤ al ∧ (al : Int) < 18446744073709551616 := by omega
  have lb : (0 : Int) ≤ bl ∧ (bl : Int) < 18446744073709551616 := by omega
  have F1 := from_any ah al hah hal
  have F2 := from_any bh bl hbh hbl
  have P1 := Cmp_any ah al bh bl la lb
  have Z1 := Sign_any ah al la
  have hi3 := hiZ_add ah al bh bl
  have lo3 := loZ_add ah al bh bl
  have hi1 := hiZ_at ah al la
  have lo1 := loZ_at ah al la
  have hz1 : -170141183460469231731687303715884105728 ≤ ah * 18446744073709551616 + (al : Int) ∧ ah * 18446744073709551616 + (al : Int) < 170141183460469231731687303715884105728 := by omega
  have hz2 : -170141183460469231731687303715884105728 ≤ bh * 18446744073709551616 + (bl : Int) ∧ bh * 18446744073709551616 + (bl : Int) < 170141183460469231731687303715884105728 := by omega
  have hfe : addF ah al bh bl ↔ (-170141183460469231731687303715884105728 ≤ ah * 18446744073709551616 + (al : Int) + (bh * 18446744073709551616 + (bl : Int)) ∧ ah * 18446744073709551616 + (al : Int) + (bh * 18446744073709551616 + (bl : Int)) < 170141183460469231731687303715884105728) := by
    unfold addF; omega
  have hle0 : ah * 18446744073709551616 + (al : Int) = -170141183460469231731687303715884105728 ↔ ah = -9223372036854775808 ∧ (al : Int) = 0 := by omega
  have AO := Add_ok ah al bh bl hah la hbh lb
  have AN := Add_no ah al bh bl hah la hbh lb
  obtain ⟨z1, e1⟩ : ∃ z, z = ah * 18446744073709551616 + (al : Int) := ⟨_, rfl⟩
  obtain ⟨z2, e2⟩ : ∃ z, z = bh * 18446744073709551616 + (bl : Int) := ⟨_, rfl⟩
  rw [← e1] at F1 P1 Z1 hi3 lo3 hi1 lo1 hz1 hfe hle0
  rw [← e2] at F2 P1 hi3 lo3 hz2 hfe
  have h1 : z1.natAbs < 2 ^ 128 := by omega
  have h2 : z2.natAbs < 2 ^ 128 := by omega
  have R1 := refAdd_z z1 z2 h1 h2
  have Q1 := refCmp_z z1 z2 h1 h2
  have Q2 := refCmp_z z1 0 h1 (by decide)
  -- the sum
  obtain ⟨sh, sl, ok, A1, hokv, hokS⟩ : ∃ (sh sl : Int) (ok : Bool), Ans 15 #[wv ah al, wv bh bl] (.tuple #[wv sh sl, .bool ok]) ∧
      ok = decide (-170141183460469231731687303715884105728 ≤ z1 + z2 ∧ z1 + z2 < 170141183460469231731687303715884105728) ∧
      (ok = false ∨ ok = true ∧ Ans 8 #[wv sh sl, .agg (numC (decide (z1 + z2 < 0)) (z1 + z2).natAbs).toArray] (.bool true)) := by
    by_cases hf : addF ah al bh bl
    · have A1 := AO hf
      rw [← hi3, ← lo3] at A1
      exact ⟨_, _, true, A1, (decide_eq_true (hfe.1 hf)).symm, Or.inr ⟨rfl, same_z (z1 + z2) (hfe.1 hf)⟩⟩
    · exact ⟨_, _, false, AN hf, (decide_eq_false (fun h => hf (hfe.2 h))).symm, Or.inl rfl⟩
  rw [← hokv] at R1
  -- with its sign turned, and added
  obtain ⟨nh, nl, oh, ol, zero, le, G1, A2, hle, hzz⟩ : ∃ (nh nl oh ol : Int) (zero le : Bool), Ans 19 #[wv ah al] (wv nh nl) ∧ Ans 15 #[wv ah al, wv nh nl] (.tuple #[wv oh ol, .bool zero]) ∧
      ((ah == -9223372036854775808) = true ∧ ((al : Int) == 0) = true ∧ le = true ∨ (ah == -9223372036854775808) = true ∧ ((al : Int) == 0) = false ∧ le = false ∨ (ah == -9223372036854775808) = false ∧ le = false) ∧
      (le = true ∨ le = false ∧ zero = true ∧ oh = 0 ∧ ol = 0) := by
    by_cases hl : z1 = -170141183460469231731687303715884105728
    · obtain ⟨u1, u2⟩ := hle0.1 hl
      have G1 := Neg_any ah al hah la
      have b : 0 ≤ bor (al : Int) ∧ bor (al : Int) ≤ 1 := by unfold bor; split <;> omega
      have hn : -9223372036854775808 ≤ wrap64 (-ah - bor al) ∧ wrap64 (-ah - bor al) ≤ 9223372036854775807 := by simp only [wrap64]; omega
      have hn2 : (0 : Int) ≤ (-(al : Int)) % 18446744073709551616 ∧ (-(al : Int)) % 18446744073709551616 < 18446744073709551616 := by omega
      have t : (ah == -9223372036854775808) = true ∧ ((al : Int) == 0) = true ∧ true = true := ⟨by rw [beq_iff_eq]; exact u1, by rw [beq_iff_eq]; exact u2, rfl⟩
      by_cases hf : addF ah al (wrap64 (-ah - bor al)) ((-(al : Int)) % 18446744073709551616)
      · exact ⟨_, _, _, _, true, true, G1, Add_ok ah al _ _ hah la hn hn2 hf, Or.inl t, Or.inl rfl⟩
      · exact ⟨_, _, _, _, false, true, G1, Add_no ah al _ _ hah la hn hn2 hf, Or.inl t, Or.inl rfl⟩
    · have G1 := Neg_z z1 (by omega)
      rw [hi1, lo1] at G1
      have hn : -9223372036854775808 ≤ hiZ (-z1) ∧ hiZ (-z1) ≤ 9223372036854775807 := by unfold hiZ; omega
      have hn2 : 0 ≤ loZ (-z1) ∧ loZ (-z1) < 18446744073709551616 := by unfold loZ; omega
      have hsum := hiZ_add ah al (hiZ (-z1)) (loZ (-z1))
      have lsum := loZ_add ah al (hiZ (-z1)) (loZ (-z1))
      rw [← e1, at_Z, Int.add_right_neg] at hsum lsum
      have f0 : hiZ 0 = 0 := by decide
      have l0 : loZ 0 = 0 := by decide
      rw [f0] at hsum
      rw [l0] at lsum
      have hf : addF ah al (hiZ (-z1)) (loZ (-z1)) := by unfold addF; rw [← hsum]; decide
      have A2 := Add_ok ah al _ _ hah la hn hn2 hf
      rw [← hsum, ← lsum] at A2
      refine ⟨_, _, 0, 0, true, false, G1, A2, ?_, Or.inr ⟨rfl, rfl, rfl, rfl⟩⟩
      by_cases u1 : ah = -9223372036854775808
      · right; left
        refine ⟨by rw [beq_iff_eq]; exact u1, ?_, rfl⟩
        rw [beq_eq_false_iff_ne]
        exact fun u2 => hl (hle0.2 ⟨u1, u2⟩)
      · right; right
        exact ⟨by rw [beq_eq_false_iff_ne]; exact u1, rfl⟩
  exact wideSums_go ah al bh bl sh sl nh nl oh ol _ _ _ _ _ ok zero _ _ _ F1 F2 A1 R1 hokS P1 Q1 G1 A2 Z1 Q2 le hle hzz w
end Go.Proofs.Ytbiblinaolmkdaa
