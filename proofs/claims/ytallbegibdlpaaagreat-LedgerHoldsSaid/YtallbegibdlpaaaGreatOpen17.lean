/-
  Acts, one behind the other, as an argument: a row of structs that hold rows.
-/
import Derived.Test.YtallbegibdlpaaaGreatRows
import Derived.Test.YtallbegibdlpaaaGreatOpen
import Derived.ProofKit
import Derived.OpenShut
import Derived.ChangeSame
set_option linter.unusedVariables false
set_option linter.unusedSimpArgs false
namespace Go.Proofs.YtallbegibdlpaaaGreat
open Go Go.RowKit Go.ChangeShapes Go.WideShapes Go.ChangeAt Go.Deep Go.Th

/-- An act. -/
structure OpV where
  k : Int
  q : Int
  a : Option Addr
  n : Nat
  c : Nat
  zs : List Int
  X : Int
  Y : Int
  W : Int
  H : Int
instance inhOp : Inhabited OpV := ⟨⟨0, 0, none, 0, 0, [], 0, 0, 0, 0⟩⟩
def opc (o : OpV) : List Value := [.int .u8 o.k, .int .u8 o.q, .slice o.a o.n o.c, .int .i8 o.X, .int .i8 o.Y, .int .u8 o.W, .int .u8 o.H]
def opcs (l : List OpV) : List Value := l.flatMap opc
/-- .. that may be. -/
structure OpOk (w : World) (o : OpV) : Prop where
  k : 0 ≤ o.k ∧ o.k < 256
  q : 0 ≤ o.q ∧ o.q < 256
  X : -128 ≤ o.X ∧ o.X ≤ 127
  Y : -128 ≤ o.Y ∧ o.Y ≤ 127
  W : 0 ≤ o.W ∧ o.W < 256
  H : 0 ≤ o.H ∧ o.H < 256
  len : o.zs.length = o.n
  row : Sl w 1 (.slice o.a o.n o.c) o.n (o.zs.map (.int .u16))
  rng : ∀ z ∈ o.zs, 0 ≤ z ∧ z < 65536
theorem opcs_length : ∀ l : List OpV, (opcs l).length = l.length * 7
  | [] => rfl
  | o :: r => by
    have := opcs_length r
    unfold opcs at this ⊢
    rw [List.flatMap_cons, List.length_append, this, List.length_cons]
    simp [opc]; omega
theorem opcs_get : ∀ (l : List OpV) (j : Nat), (opcs l)[j]? = (l[j / 7]?).bind (fun o => (opc o)[j % 7]?)
  | [], j => by simp [opcs]
  | o :: r, j => by
    have ih := opcs_get r
    have e : opcs (o :: r) = opc o ++ opcs r := by unfold opcs; rw [List.flatMap_cons]
    have l7 : (opc o).length = 7 := rfl
    rw [e]
    by_cases h : j < 7
    · rw [List.getElem?_append_left (by omega), Nat.div_eq_of_lt h, Nat.mod_eq_of_lt h]; rfl
    · rw [List.getElem?_append_right (by omega), l7, ih (j - 7)]
      have e1 : j / 7 = (j - 7) / 7 + 1 := by omega
      have e2 : j % 7 = (j - 7) % 7 := by omega
      rw [e1, e2, List.getElem?_cons_succ]
theorem wf_i8' {z : Int} (h : (Lit.int .i8 z).wf = true) : -128 ≤ z ∧ z ≤ 127 := by have := wf_i8 h; omega

set_option maxRecDepth 100000 in
set_option maxHeartbeats 1600000 in
theorem rd_ops {H : Type} {enc : TypeId × Value → H} {w : World} {base base' : Nat} {spare : Nat → Bool} {held : Bool} {r : Reach} {v : Value} {d : DataW H} {p : List MemPlace}
    (okw : Value.okWide Tryz.prog w r base' 23 v) (h : DataW.Trod enc Tryz.prog w base spare held 23 v d p) :
    ∃ a cap, ∃ l : List OpV, v = .slice a l.length cap ∧ Sl w 7 (.slice a l.length cap) l.length (opcs l) ∧ ∀ o ∈ l, OpOk w o := by
  obtain ⟨a0, l0, c0, rfl⟩ := okWide_slice Tryz.underlying23 okw
  obtain ⟨fuel, hf⟩ := h
  have hc : Tryz.prog.cellsOf 42 = 7 := by kernel_rfl
  obtain ⟨fs, hu, hfs⟩ : ∃ fs, Tryz.prog.underlying 42 = some (.struct fs) ∧ fs.toList.map (fun f => (f.type, f.offset)) = [(5, 0), (5, 1), (22, 2), (40, 3), (40, 4), (5, 5), (5, 6)] := ⟨_, Tryz.underlying42, by kernel_rfl⟩
  have k1 : Tryz.prog.cellsOf 5 = 1 ∧ Tryz.prog.cellsOf 22 = 1 ∧ Tryz.prog.cellsOf 40 = 1 := ⟨by kernel_rfl, by kernel_rfl, by kernel_rfl⟩
  rcases open_slice Tryz.underlying23 hf with ⟨hcs, _⟩ | ⟨x, l, c, m, n, D, Pl, hcs, _, hl, hm, hmm, _, hel⟩
  · simp [Value.cells] at hcs
    obtain ⟨rfl, rfl, rfl⟩ := hcs
    exact ⟨none, 0, [], rfl, Sl.nil _ _, fun z hz => by cases hz⟩
  · simp [Value.cells] at hcs
    obtain ⟨rfl, rfl, rfl⟩ := hcs
    have hml : l0 ≤ m := by rw [hmm]; split <;> omega
    rw [hc] at hel
    have hz : ∀ i, i < l0 → ∃ o : OpV, (∀ j, j < 7 → w.cell? (x.add (i * 7 + j)) = (opc o)[j]?) ∧ OpOk w o := by
      intro i hi
      obtain ⟨cs', hcs', htr⟩ := hel i (by omega)
      obtain ⟨_, hlen, hat⟩ := World.cells?_some hcs'
      obtain ⟨ys, n', _, _, _, hyl, hfl⟩ := DataW.trod_struct hu htr
      obtain ⟨fl⟩ := fs
      match fl, hfs, cs', hlen with
      | [f0, f1, f2, f3, f4, f5, f6], hfs, [u0, u1, u2, u3, u4, u5, u6], _ =>
        simp only [List.map_cons, List.map_nil, List.cons.injEq, Prod.mk.injEq, and_true] at hfs
        obtain ⟨⟨t0, o0⟩, ⟨t1, o1⟩, ⟨t2, o2⟩, ⟨t3, o3⟩, ⟨t4, o4⟩, ⟨t5, o5⟩, t6, o6⟩ := hfs
        have g0 := hfl 0 f0 rfl
        have g1 := hfl 1 f1 rfl
        have g2 := hfl 2 f2 rfl
        have g3 := hfl 3 f3 rfl
        have g4 := hfl 4 f4 rfl
        have g5 := hfl 5 f5 rfl
        have g6 := hfl 6 f6 rfl
        rw [t0, o0, k1.1] at g0
        rw [t1, o1, k1.1] at g1
        rw [t2, o2, k1.2.1] at g2
        rw [t3, o3, k1.2.2] at g3
        rw [t4, o4, k1.2.2] at g4
        rw [t5, o5, k1.1] at g5
        rw [t6, o6, k1.1] at g6
        match ys, hyl with
        | [y0, y1, y2, y3, y4, y5, y6], _ =>
          obtain ⟨z0, e0, _, w0⟩ := DataW.trod_int Tryz.underlying5 (x := y0) (by simpa using g0)
          obtain ⟨z1, e1, _, w1⟩ := DataW.trod_int Tryz.underlying5 (x := y1) (by simpa using g1)
          obtain ⟨z3, e3, _, w3⟩ := DataW.trod_int Tryz.underlying40 (x := y3) (by simpa using g3)
          obtain ⟨z4, e4, _, w4⟩ := DataW.trod_int Tryz.underlying40 (x := y4) (by simpa using g4)
          obtain ⟨z5, e5, _, w5⟩ := DataW.trod_int Tryz.underlying5 (x := y5) (by simpa using g5)
          obtain ⟨z6, e6, _, w6⟩ := DataW.trod_int Tryz.underlying5 (x := y6) (by simpa using g6)
          have g7 : DataW.trod enc Tryz.prog w base spare held n' 22 [u2] = some y2 := by simpa using g2
          have hv : ∃ a l c, u2 = .slice a l c := by
            rcases open_ints Tryz.underlying22 Tryz.underlying57 (by kernel_rfl) g7 with ⟨hcs, _⟩ | ⟨x, l, c, zs, hcs, _⟩
            · simp at hcs; exact ⟨_, _, _, hcs⟩
            · simp at hcs; exact ⟨_, _, _, hcs⟩
          obtain ⟨a, l, c, rfl⟩ := hv
          obtain ⟨a', c', zs, e7, s7, b7⟩ := rd_ints (v := .slice a l c) (d := y2.1) (p := y2.2) Tryz.underlying22 Tryz.underlying57 (by kernel_rfl) ⟨_, _, _, rfl⟩ ⟨n', by simpa [Value.cells] using g7⟩
          simp at e0 e1 e3 e4 e5 e6
          subst e0 e1 e3 e4 e5 e6
          rw [e7] at s7 hat
          have hadd : ∀ j, (x.add (i * 7)).add j = x.add (i * 7 + j) := fun j => by
            unfold Addr.add
            by_cases hi : i * 7 = 0 <;> by_cases hj : j = 0 <;> simp [hi, hj, Nat.add_assoc]
          refine ⟨⟨z0, z1, a', zs.length, c', zs, z3, z4, z5, z6⟩, fun j hj => ?_, ⟨wf_u8 w0, wf_u8 w1, wf_i8' w3, wf_i8' w4, wf_u8 w5, wf_u8 w6, rfl, s7, fun z hz => wf_u16 (b7 z hz)⟩⟩
          rw [← hadd]
          exact hat j (by omega)
    obtain ⟨Z, hZ⟩ := choose_lt (α := OpV) (n := l0) (p := fun i o => (∀ j, j < 7 → w.cell? (x.add (i * 7 + j)) = (opc o)[j]?) ∧ OpOk w o) hz
    refine ⟨some x, c0, (List.range l0).map Z, by simp, ?_, ?_⟩
    · rw [show ((List.range l0).map Z).length = l0 by simp]
      refine ⟨some x, c0, rfl, ?_, hl, hm, fun h => (by cases h), ?_⟩
      · rw [opcs_length]; simp
      · intro j u hu
        rw [opcs_get] at hu
        obtain ⟨z, hz, hzu⟩ := Option.bind_eq_some_iff.1 hu
        have hj : j / 7 < l0 := by
          have := (List.getElem?_eq_some_iff.1 hz).1
          simpa using this
        have hzz : z = Z (j / 7) := by
          rw [List.getElem?_map, List.getElem?_range hj] at hz
          simpa using hz.symm
        subst hzz
        have q0 := (hZ (j / 7) hj).1 (j % 7) (Nat.mod_lt _ (by decide))
        rw [hzu, show j / 7 * 7 + j % 7 = j by omega] at q0
        have q1 := (hZ 0 (by omega)).1 0 (by decide)
        obtain ⟨b, o, rfl⟩ := addr_of_cell (show w.cell? x = some (.int .u8 (Z 0).k) by have e : x.add (0 * 7 + 0) = x := (by unfold Addr.add; simp); rw [e] at q1; simpa [opc] using q1)
        rw [add_none] at q0
        exact ⟨b, o, rfl, q0⟩
    · intro o ho
      obtain ⟨i, hi, rfl⟩ := List.mem_map.1 ho
      exact (hZ i (List.mem_range.1 hi)).2
end Go.Proofs.YtallbegibdlpaaaGreat
