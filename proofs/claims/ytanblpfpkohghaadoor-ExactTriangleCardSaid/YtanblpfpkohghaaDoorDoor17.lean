/-
  The table of the library, as the row lays it: where it lies in memory; the start of the program lays it so.
-/
import Derived.Test.YtanblpfpkohghaaDoorRows
import Derived.Test.YtanblpfpkohghaaDoorPackExcB
import Derived.Test.YtanblpfpkohghaaDoorOpen
import Derived.ProofKit
import Derived.LaidMore
import Derived.OpenShut
import Derived.ChangeArms
import Derived.Stop.Joined
set_option linter.unusedVariables false
set_option linter.unusedSimpArgs false
namespace Go.Proofs.YtanblpfpkohghaaDoor
open Go Go.ChangeShapes Go.WideShapes Go.ChangeAt Go.RowKit Go.Th

abbrev laidD : List (String × DataW Unit) := [("math/bits.deBruijn32tab", Rows.laid_math_bits_deBruijn32tab)]
theorem gDb : Tryd.prog.globalNamed "math/bits.deBruijn32tab" = some 0 := by kernel_rfl
theorem tDb : (Tryd.prog.globals[0]?).map (·.type) = some 113 := by kernel_rfl

/-- The door's own heap meets the condition: three closed facts. -/
theorem doorD_met (os : Os) (args : Array Value) : laidMetH Tryd.prog laidD ((World.doorLaid Tryd.prog 400 os).forCall (fun _ _ => 0) ⟨#[], args, []⟩).memory :=
  laidMetH_of_parts3 (fuel := 8) (laidMet_of_run' 8 (by kernel_rfl) (by kernel_rfl)) (by kernel_rfl) (by kernel_rfl)

set_option maxRecDepth 20000 in
theorem dbt_of_laid {W : World} (h : laidMetH Tryd.prog laidD W) : Dbt W := by
  rw [MakeChecks.laidMetH_plain _ _ _ (by kernel_rfl)] at h
  obtain ⟨ps, ⟨g0, t0, cs0, f0, p0, q0, hg0, ht0, hv0, hd0, _, _⟩, _, _⟩ := h
  obtain rfl := Option.some.inj (gDb.symm.trans hg0)
  obtain rfl := Option.some.inj (tDb.symm.trans ht0)
  obtain ⟨xs, m1, rfl, hx1, hlen, hn8, hel⟩ := DataW.trod_array Tryd.underlying113 hd0
  have c1 : Tryd.prog.cellsOf 5 = 1 := by kernel_rfl
  have h0 := hel 4 (by decide)
  rw [c1, Nat.mul_one] at h0
  cases hxj : xs[4]? with
  | none =>
    have := List.getElem?_eq_none_iff.1 hxj
    omega
  | some x =>
    rw [hxj] at h0
    obtain ⟨k, e1, e2, _⟩ := DataW.trod_int Tryd.underlying5 h0
    have hx2 := congrArg Prod.fst hx1
    simp only [Rows.laid_math_bits_deBruijn32tab, DataW.agg.injEq] at hx2
    have hk : (xs.map (·.1))[4]? = some (.lit (.int .u8 k)) := by simp [hxj, e2]
    rw [← hx2] at hk
    have hkc : k = 29 := by simpa using hk.symm
    have hc := World.var?_cell hg0 hv0 4
    have e3 := congrArg (fun l : List Value => l[0]?) e1
    simp [List.getElem?_take, List.getElem?_drop] at e3
    show W.cell? ⟨0, 4, none⟩ = _
    rw [hc, ← hkc]
    simpa using e3
end Go.Proofs.YtanblpfpkohghaaDoor
