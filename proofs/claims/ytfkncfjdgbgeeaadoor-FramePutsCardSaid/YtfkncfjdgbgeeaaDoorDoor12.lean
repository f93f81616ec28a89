/-
  The table of the program's text, as the row lays it: where it lies in memory; the start of the program lays it so. A frame as an argument.
-/
import Derived.Test.YtfkncfjdgbgeeaaDoorRows
import Derived.Test.YtfkncfjdgbgeeaaDoorFrameC
import Derived.Test.YtfkncfjdgbgeeaaDoorOpen
import Derived.ProofKit
import Derived.LaidMore
import Derived.OpenShut
import Derived.ChangeArms
import Derived.Stop.Joined
set_option linter.unusedVariables false
set_option linter.unusedSimpArgs false
namespace Go.Proofs.YtfkncfjdgbgeeaaDoor
open Go Go.ChangeShapes Go.WideShapes Go.ChangeAt Go.RowKit Go.Th

abbrev laidC : List (String × DataW Unit) := [("theodolite/frame.counts", Rows.laid_theodolite_frame_counts)]
theorem gCounts : Tryd.prog.globalNamed "theodolite/frame.counts" = some 0 := by kernel_rfl
theorem tCounts : (Tryd.prog.globals[0]?).map (·.type) = some 57 := by kernel_rfl

/-- The door's own heap meets the condition: three closed facts. -/
theorem doorC_met (os : Os) (args : Array Value) : laidMetH Tryd.prog laidC ((World.doorLaid Tryd.prog 400 os).forCall (fun _ _ => 0) ⟨#[], args, []⟩).memory :=
  laidMetH_of_parts3 (fuel := 8) (laidMet_of_run' 8 (by kernel_rfl) (by kernel_rfl)) (by kernel_rfl) (by kernel_rfl)

theorem cts_of_laid {W : World} (h : laidMetH Tryd.prog laidC W) : Cts W := by
  rw [MakeChecks.laidMetH_plain _ _ _ (by kernel_rfl)] at h
  obtain ⟨ps, ⟨g0, t0, cs0, f0, p0, q0, hg0, ht0, hv0, hd0, _, _⟩, _, _⟩ := h
  obtain rfl := Option.some.inj (gCounts.symm.trans hg0)
  obtain rfl := Option.some.inj (tCounts.symm.trans ht0)
  obtain ⟨xs, m1, rfl, hx1, hlen, hn8, hel⟩ := DataW.trod_array Tryd.underlying57 hd0
  have c1 : Tryd.prog.cellsOf 3 = 1 := by kernel_rfl
  intro j hj
  have h0 := hel j hj
  rw [c1, Nat.mul_one] at h0
  cases hxj : xs[j]? with
  | none =>
    have := List.getElem?_eq_none_iff.1 hxj
    omega
  | some x =>
    rw [hxj] at h0
    obtain ⟨k, e1, e2, _⟩ := DataW.trod_int Tryd.underlying3 h0
    have hx2 := congrArg Prod.fst hx1
    simp only [Rows.laid_theodolite_frame_counts, DataW.agg.injEq] at hx2
    have hk : (xs.map (·.1))[j]? = some (.lit (.int .i64 k)) := by simp [hxj, e2]
    rw [← hx2] at hk
    have hkc : k = fcnt (j : Int) := by
      match j, hj with
      | 0, _ => simpa [fcnt] using hk.symm
      | 1, _ => simpa [fcnt] using hk.symm
      | 2, _ => simpa [fcnt] using hk.symm
      | 3, _ => simpa [fcnt] using hk.symm
      | 4, _ => simpa [fcnt] using hk.symm
      | 5, _ => simpa [fcnt] using hk.symm
      | 6, _ => simpa [fcnt] using hk.symm
      | 7, _ => simpa [fcnt] using hk.symm
    have hc := World.var?_cell hg0 hv0 j
    have e3 := congrArg (fun l : List Value => l[0]?) e1
    simp [List.getElem?_take, List.getElem?_drop] at e3
    rw [hc, ← hkc]
    simpa using e3

/-- A frame that came in. -/
theorem rd_frame {H : Type} {enc : TypeId × Value → H} {w : World} {base base' : Nat} {spare : Nat → Bool} {held : Bool} {r : Reach} {v : Value} {d : DataW H} {p : List MemPlace}
    (okw : Value.okWide Tryd.prog w r base' 25 v) (h : DataW.Trod enc Tryd.prog w base spare held 25 v d p) : ∃ f : Fr, v = fv f ∧ f.Ok := by
  obtain ⟨fs, hu, hfs⟩ : ∃ fs, Tryd.prog.underlying 25 = some (.struct fs) ∧ fs.toList.map (fun f => (f.type, f.offset)) = [(3, 0), (22, 1), (23, 2), (21, 3), (21, 4), (21, 5)] := ⟨_, Tryd.underlying25, by kernel_rfl⟩
  obtain ⟨cs, rfl, hsz⟩ := okWide_struct hu okw
  rw [show Tryd.prog.cellsOf 25 = 6 by kernel_rfl] at hsz
  obtain ⟨fuel, hf⟩ := h
  obtain ⟨ys, n', _, _, _, hyl, hfl⟩ := DataW.trod_struct hu hf
  have k1 : ∀ t, t ∈ [3, 22, 23, 21] → Tryd.prog.cellsOf t = 1 := by
    intro t ht
    simp only [List.mem_cons, List.not_mem_nil, or_false] at ht
    rcases ht with rfl | rfl | rfl | rfl <;> kernel_rfl
  obtain ⟨fl⟩ := fs
  match fl, hfs, cs, hsz with
  | [f0, f1, f2, f3, f4, f5], hfs, ⟨[u0, u1, u2, u3, u4, u5]⟩, _ =>
    simp only [List.map_cons, List.map_nil, List.cons.injEq, Prod.mk.injEq, and_true] at hfs
    obtain ⟨⟨t0, o0⟩, ⟨t1, o1⟩, ⟨t2, o2⟩, ⟨t3, o3⟩, ⟨t4, o4⟩, t5, o5⟩ := hfs
    have g0 := hfl 0 f0 rfl
    have g1 := hfl 1 f1 rfl
    have g2 := hfl 2 f2 rfl
    have g3 := hfl 3 f3 rfl
    have g4 := hfl 4 f4 rfl
    have g5 := hfl 5 f5 rfl
    rw [t0, o0, k1 _ (by simp)] at g0
    rw [t1, o1, k1 _ (by simp)] at g1
    rw [t2, o2, k1 _ (by simp)] at g2
    rw [t3, o3, k1 _ (by simp)] at g3
    rw [t4, o4, k1 _ (by simp)] at g4
    rw [t5, o5, k1 _ (by simp)] at g5
    match ys, hyl with
    | [y0, y1, y2, y3, y4, y5], _ =>
      obtain ⟨z0, e0, _, wf0⟩ := DataW.trod_int Tryd.underlying3 (x := y0) (by simpa [Value.cells] using g0)
      obtain ⟨z1, e1, _, wf1⟩ := DataW.trod_int Tryd.underlying22 (x := y1) (by simpa [Value.cells] using g1)
      obtain ⟨z2, e2, _, wf2⟩ := DataW.trod_int Tryd.underlying23 (x := y2) (by simpa [Value.cells] using g2)
      obtain ⟨z3, e3, _, wf3⟩ := DataW.trod_int Tryd.underlying21 (x := y3) (by simpa [Value.cells] using g3)
      obtain ⟨z4, e4, _, wf4⟩ := DataW.trod_int Tryd.underlying21 (x := y4) (by simpa [Value.cells] using g4)
      obtain ⟨z5, e5, _, wf5⟩ := DataW.trod_int Tryd.underlying21 (x := y5) (by simpa [Value.cells] using g5)
      simp at e0 e1 e2 e3 e4 e5
      subst e0 e1 e2 e3 e4 e5
      have i0 := wf_i64 wf0
      have i1 := wf_u16 wf1
      have i2 := wf_u32 wf2
      obtain ⟨n1, rfl⟩ := Int.eq_ofNat_of_zero_le i1.1
      obtain ⟨n2, rfl⟩ := Int.eq_ofNat_of_zero_le i2.1
      exact ⟨⟨z0, n1, n2, z3, z4, z5⟩, rfl, ⟨i0.1, i0.2, by show n1 < 65536; omega, by show n2 < 4294967296; omega, wf_i32 wf3, wf_i32 wf4, wf_i32 wf5⟩⟩
end Go.Proofs.YtfkncfjdgbgeeaaDoor
