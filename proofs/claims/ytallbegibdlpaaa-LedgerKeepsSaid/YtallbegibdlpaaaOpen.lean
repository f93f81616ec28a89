/-
  What an argument that came in reads as: slices of integers, of pairs of integers.
-/
import Derived.Test.YtallbegibdlpaaaPackBits
import Derived.ProofKit
import Derived.OpenShut
import Derived.Deep.Slices
set_option linter.unusedVariables false
set_option linter.unusedSimpArgs false
namespace Go.Th
open Go Go.RowKit Go.ChangeShapes Go.WideShapes Go.ChangeAt Go.Deep

section
variable {H : Type} {enc : TypeId × Value → H} {P : Program} {w : World} {base : Nat} {spare : Nat → Bool} {held : Bool}

theorem addr_of_cell {w : World} {x : Addr} {v : Value} (h : w.cell? (x.add 0) = some v) : ∃ b o, x = ⟨b, o, none⟩ := by
  obtain ⟨b, o, s⟩ := x
  have := World.cell?_spot h
  have hs : s = none := by simpa [Addr.add] using this
  subst hs
  exact ⟨b, o, rfl⟩

/-- A slice of integers of one kind. -/
theorem rd_ints {t e : TypeId} {k : IntKind} {v : Value} {d : DataW H} {p : List MemPlace} (ht : P.underlying t = some (.slice e)) (he : P.underlying e = some (.int k)) (hc : P.cellsOf e = 1)
    (hv : ∃ a len cap, v = .slice a len cap) (h : DataW.Trod enc P w base spare held t v d p) :
    ∃ a cap, ∃ zs : List Int, v = .slice a zs.length cap ∧ Sl w 1 v zs.length (zs.map (.int k)) ∧ ∀ z ∈ zs, (Lit.int k z).wf = true := by
  obtain ⟨a0, l0, c0, rfl⟩ := hv
  obtain ⟨fuel, hf⟩ := h
  rcases open_ints ht he hc hf with ⟨hcs, _⟩ | ⟨x, l, c, zs, hcs, _, hl, hm, hz, _, hcell, hwz⟩
  · simp [Value.cells] at hcs
    obtain ⟨rfl, rfl, rfl⟩ := hcs
    exact ⟨none, 0, [], rfl, Sl.nil _ _, fun z hz => by cases hz⟩
  · simp [Value.cells] at hcs
    obtain ⟨rfl, rfl, rfl⟩ := hcs
    have hzl : l0 ≤ zs.length := by rw [hz]; split <;> omega
    have htl : (zs.take l0).length = l0 := by simp; omega
    refine ⟨some x, c0, zs.take l0, by rw [htl], ?_, fun z hz' => hwz z (List.mem_of_mem_take hz')⟩
    rw [htl]
    refine ⟨some x, c0, rfl, by simp; omega, hl, hm, fun h => (by cases h), ?_⟩
    intro j u hu
    have hj : j < l0 := by
      have := (List.getElem?_eq_some_iff.1 hu).1
      simp at this; omega
    have hcj := hcell j (by omega)
    obtain ⟨b, o, rfl⟩ := addr_of_cell (hcell 0 (by omega))
    rw [add_none] at hcj
    refine ⟨b, o, rfl, hcj.trans ?_⟩
    rw [← hu]
    simp [hj, List.getD, show j < zs.length by omega]

/-- A slice of structs of two integers. -/
theorem rd_pairs {t e : TypeId} {f0 f1 : Field} {k0 k1 : IntKind} {v : Value} {d : DataW H} {p : List MemPlace} (ht : P.underlying t = some (.slice e)) (he : P.underlying e = some (.struct #[f0, f1])) (hc : P.cellsOf e = 2)
    (h0 : P.underlying f0.type = some (.int k0)) (h1 : P.underlying f1.type = some (.int k1)) (ho : f0.offset = 0 ∧ f1.offset = 1 ∧ P.cellsOf f0.type = 1 ∧ P.cellsOf f1.type = 1)
    (hv : ∃ a len cap, v = .slice a len cap) (h : DataW.Trod enc P w base spare held t v d p) :
    ∃ a cap, ∃ zs : List (Int × Int), v = .slice a zs.length cap ∧ Sl w 2 v zs.length (zs.flatMap fun z => [.int k0 z.1, .int k1 z.2]) ∧ ∀ z ∈ zs, (Lit.int k0 z.1).wf = true ∧ (Lit.int k1 z.2).wf = true := by
  obtain ⟨a0, l0, c0, rfl⟩ := hv
  obtain ⟨fuel, hf⟩ := h
  rcases open_slice ht hf with ⟨hcs, _⟩ | ⟨x, l, c, m, n, D, Pl, hcs, _, hl, hm, hmm, _, hel⟩
  · simp [Value.cells] at hcs
    obtain ⟨rfl, rfl, rfl⟩ := hcs
    exact ⟨none, 0, [], rfl, Sl.nil _ _, fun z hz => by cases hz⟩
  · simp [Value.cells] at hcs
    obtain ⟨rfl, rfl, rfl⟩ := hcs
    have hml : l0 ≤ m := by rw [hmm]; split <;> omega
    rw [hc] at hel
    obtain ⟨Z, hZ⟩ := choose_lt (α := Int × Int) (n := l0) (p := fun i z => w.cell? (x.add (i * 2)) = some (.int k0 z.1) ∧ w.cell? (x.add (i * 2 + 1)) = some (.int k1 z.2) ∧ (Lit.int k0 z.1).wf = true ∧ (Lit.int k1 z.2).wf = true) (fun i hi => by
      obtain ⟨cs', hcs', htr⟩ := hel i (by omega)
      obtain ⟨_, hlen, hat⟩ := World.cells?_some hcs'
      obtain ⟨ys, n', _, _, _, hyl, hfl⟩ := DataW.trod_struct he htr
      match cs', hlen with
      | [u0, u1], _ =>
        have g0 := hfl 0 f0 rfl
        have g1 := hfl 1 f1 rfl
        rw [ho.1, ho.2.2.1] at g0
        rw [ho.2.1, ho.2.2.2] at g1
        match ys, hyl with
        | [y0, y1], _ =>
          obtain ⟨z0, e0, _, wf0⟩ := DataW.trod_int h0 (x := y0) (by simpa using g0)
          obtain ⟨z1, e1, _, wf1⟩ := DataW.trod_int h1 (x := y1) (by simpa using g1)
          simp at e0 e1
          subst e0 e1
          have c0' := hat 0 (by omega)
          have c1' := hat 1 (by omega)
          have hadd : ∀ j, (x.add (i * 2)).add j = x.add (i * 2 + j) := fun j => by
            unfold Addr.add
            by_cases hi : i * 2 = 0 <;> by_cases hj : j = 0 <;> simp [hi, hj, Nat.add_assoc]
          rw [hadd] at c0' c1'
          exact ⟨(z0, z1), by simpa using c0', by simpa using c1', wf0, wf1⟩)
    refine ⟨some x, c0, (List.range l0).map Z, by simp, ?_, ?_⟩
    · rw [show ((List.range l0).map Z).length = l0 by simp]
      refine ⟨some x, c0, rfl, ?_, hl, hm, fun h => (by cases h), ?_⟩
      · have : ∀ zs : List (Int × Int), (zs.flatMap fun z => [Value.int k0 z.1, Value.int k1 z.2]).length = zs.length * 2 := by
          intro zs
          induction zs with
          | nil => rfl
          | cons z r ih => simp only [List.flatMap_cons, List.length_append, List.length_cons, List.length_nil, ih]; omega
        rw [this]; simp
      · intro j u hu
        have key : ∀ (zs : List (Int × Int)) (j : Nat), (zs.flatMap fun z => [Value.int k0 z.1, Value.int k1 z.2])[j]? = (zs[j / 2]?).map (fun z => if j % 2 = 0 then .int k0 z.1 else .int k1 z.2) := by
          intro zs
          induction zs with
          | nil => intro j; simp
          | cons z r ih =>
            intro j
            match j with
            | 0 => simp
            | 1 => simp
            | j + 2 =>
              simp only [List.flatMap_cons, List.cons_append, List.nil_append, List.getElem?_cons_succ]
              rw [ih j, show (j + 2) / 2 = j / 2 + 1 by omega, show (j + 2) % 2 = j % 2 by omega]
              simp
        rw [key] at hu
        simp only [Option.map_eq_some_iff] at hu
        obtain ⟨z, hz, rfl⟩ := hu
        have hj : j / 2 < l0 := by
          have := (List.getElem?_eq_some_iff.1 hz).1
          simpa using this
        have hzz : z = Z (j / 2) := by
          rw [List.getElem?_map, List.getElem?_range hj] at hz
          simpa using hz.symm
        subst hzz
        obtain ⟨q0, q1, _, _⟩ := hZ (j / 2) hj
        obtain ⟨b, o, rfl⟩ := addr_of_cell (by simpa using (hZ 0 (by omega)).1)
        rw [add_none] at q0 q1
        refine ⟨b, o, rfl, ?_⟩
        by_cases hj2 : j % 2 = 0
        · rw [if_pos hj2, ← q0, show j / 2 * 2 = j by omega]
        · rw [if_neg hj2, ← q1, show o + (j / 2 * 2 + 1) = o + j by omega]
    · intro z hz
      obtain ⟨i, hi, rfl⟩ := List.mem_map.1 hz
      have := List.mem_range.1 hi
      exact (hZ i this).2.2

theorem wf_u8 {z : Int} (h : (Lit.int .u8 z).wf = true) : 0 ≤ z ∧ z < 256 := by
  have : 0 ≤ z ∧ z ≤ 255 := by simpa [Lit.wf, IntKind.min, IntKind.max, IntKind.signed, IntKind.bits] using h
  omega
theorem wf_u64 {z : Int} (h : (Lit.int .u64 z).wf = true) : 0 ≤ z ∧ z < 18446744073709551616 := by
  have : 0 ≤ z ∧ z ≤ 18446744073709551615 := by simpa [Lit.wf, IntKind.min, IntKind.max, IntKind.signed, IntKind.bits] using h
  omega
theorem wf_u16 {z : Int} (h : (Lit.int .u16 z).wf = true) : 0 ≤ z ∧ z < 65536 := by
  have : 0 ≤ z ∧ z ≤ 65535 := by simpa [Lit.wf, IntKind.min, IntKind.max, IntKind.signed, IntKind.bits] using h
  omega
theorem wf_u32 {z : Int} (h : (Lit.int .u32 z).wf = true) : 0 ≤ z ∧ z < 4294967296 := by
  have : 0 ≤ z ∧ z ≤ 4294967295 := by simpa [Lit.wf, IntKind.min, IntKind.max, IntKind.signed, IntKind.bits] using h
  omega
theorem wf_i8 {z : Int} (h : (Lit.int .i8 z).wf = true) : -128 ≤ z ∧ z ≤ 127 := by
  simpa [Lit.wf, IntKind.min, IntKind.max, IntKind.signed, IntKind.bits] using h
theorem wf_i16 {z : Int} (h : (Lit.int .i16 z).wf = true) : -32768 ≤ z ∧ z ≤ 32767 := by
  simpa [Lit.wf, IntKind.min, IntKind.max, IntKind.signed, IntKind.bits] using h
theorem wf_i32 {z : Int} (h : (Lit.int .i32 z).wf = true) : -2147483648 ≤ z ∧ z ≤ 2147483647 := by
  simpa [Lit.wf, IntKind.min, IntKind.max, IntKind.signed, IntKind.bits] using h
theorem wf_i64 {z : Int} (h : (Lit.int .i64 z).wf = true) : -9223372036854775808 ≤ z ∧ z ≤ 9223372036854775807 := by
  simpa [Lit.wf, IntKind.min, IntKind.max, IntKind.signed, IntKind.bits] using h

/-- Bytes. -/
theorem rd_bytes {t e : TypeId} {v : Value} {d : DataW H} {p : List MemPlace} (ht : P.underlying t = some (.slice e)) (he : P.underlying e = some (.int .u8)) (hc : P.cellsOf e = 1)
    (hv : ∃ a len cap, v = .slice a len cap) (h : DataW.Trod enc P w base spare held t v d p) :
    ∃ a cap, ∃ bs : List Nat, v = .slice a bs.length cap ∧ Sl w 1 v bs.length (bs.map fun x : Nat => .int .u8 (x : Int)) ∧ ∀ x ∈ bs, x < 256 := by
  obtain ⟨a, cap, zs, h1, h2, h3⟩ := rd_ints ht he hc hv h
  refine ⟨a, cap, zs.map Int.toNat, by simpa using h1, ?_, ?_⟩
  · have e : (zs.map Int.toNat).map (fun x : Nat => Value.int .u8 (x : Int)) = zs.map (.int .u8) := by
      rw [List.map_map]
      refine List.map_congr_left fun z hz => ?_
      have := wf_u8 (h3 z hz)
      simp only [Function.comp_def]
      rw [Int.toNat_of_nonneg this.1]
    rw [e]; simpa using h2
  · intro x hx
    obtain ⟨z, hz, rfl⟩ := List.mem_map.1 hx
    have := wf_u8 (h3 z hz)
    omega
end
end Go.Th
