/-
  Numbers of 128 bits, as values; reading and writing them.
-/
import Derived.Test.YtaofkoejlpchaaaRows
import Derived.Test.YtaofkoejlpchaaaMem
import Derived.Test.YtaofkoejlpchaaaWideSpec
set_option linter.unusedVariables false
set_option linter.unusedSimpArgs false
namespace Go.Proofs.Ytaofkoejlpchaaa
open Go Go.RowKit Go.Th Go.Th.Wide

def hiZ (z : Int) : Int := z / 18446744073709551616
def loZ (z : Int) : Int := z % 18446744073709551616

theorem zero25 : (Try.prog.info? 48).map (·.zero) = some (some (.agg #[.int .i64 0, .int .u64 0])) := by kernel_rfl
theorem size25 : (Try.prog.info? 48).map (·.size) = some 2 := by kernel_rfl
theorem size2 : (Try.prog.info? 2).map (·.size) = some 1 := by kernel_rfl
theorem rd_w (h l : Int) : Rd Try.prog 48 0 [.int .i64 h, .int .u64 l] (.agg #[.int .i64 h, .int .u64 l]) :=
  Rd.agg (ds := [.int .i64 h, .int .u64 l]) Try.underlying48 rfl size25 (fun j u hj => by rw [Nat.zero_add]; exact hj)
theorem rd_hi (h l : Int) : Rd Try.prog 2 0 [.int .i64 h, .int .u64 l] (.int .i64 h) := Rd.one Try.underlying2 rfl rfl
theorem rd_lo (h l : Int) : Rd Try.prog 22 1 [.int .i64 h, .int .u64 l] (.int .u64 l) := Rd.one Try.underlying22 rfl rfl
theorem wr_w (cs : List Value) (hc : cs.length = 2) (h l : Int) : Wr Try.prog 48 0 cs (.agg #[.int .i64 h, .int .u64 l]) [.int .i64 h, .int .u64 l] :=
  Wr.whole (ds := [.int .i64 h, .int .u64 l]) size25 hc.symm (by intro u hu; simp at hu; rcases hu with rfl | rfl <;> rfl)
theorem wr_hi (h l h' : Int) : Wr Try.prog 2 0 [.int .i64 h, .int .u64 l] (.int .i64 h') [.int .i64 h', .int .u64 l] := by
  constructor
  intro w g t hb
  have hc := hb.cell (i := 0) (u := .int .i64 h) rfl
  have hf := hb.free 0
  have e : w.setCell ⟨g, 0, none⟩ (.int .i64 h') = w.setRow g [Value.int .i64 h', .int .u64 l].toArray := by
    rw [setCell_eq_setRow w g 0 _ t (0, 0) _ hb]
    congr 1
  cases hq : Try.prog.info? 2 with
  | none => have := size2; simp [hq] at this
  | some j =>
    have hz : j.size = 1 := by have := size2; simpa [hq] using this
    rw [← e]
    have hst := run_store Try.prog w ⟨g, 0, none⟩ (.int .i64 h') .plain rfl
    rw [hc] at hst
    simp only [hf, Bool.false_eq_true, if_false] at hst
    simp [storeVar, sizeOf, typeInfo, hq, hz, Value.cells, storeCells, hst, add_none]
theorem ret_agg {h l h' l' : Int} (e1 : h = h') (e2 : l = l') : Ending.returned (.agg #[.int .i64 h, .int .u64 l]) = Ending.returned (.agg #[.int .i64 h', .int .u64 l']) := by rw [e1, e2]
end Go.Proofs.Ytaofkoejlpchaaa
