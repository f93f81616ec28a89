/-
  A row of one's own that is appended to, whose block holds nothing but values of one kind (its spare room, too): a row of values of another kind lies elsewhere.
-/
import Derived.Test.YtghioakpigdagaaDoorPackBits
set_option linter.unusedVariables false
set_option linter.unusedSimpArgs false
namespace Go.Th
open Go Go.RowKit
variable {P : Program}

/-- All that lies in a row's block is of this kind. -/
def AllR (R : Value → Prop) (w : World) (v : Value) : Prop := ∀ g, v.ownBlock = some g → ∀ o u, w.cell? ⟨g, o, none⟩ = some u → R u
theorem AllR.nil (R : Value → Prop) (w : World) : AllR R w (.slice none 0 0) := fun _ h => by cases h
theorem AllR.turned {R : Value → Prop} {w w' : World} {S : Nat → Prop} {v : Value} (h : AllR R w v) (hT : Turned S w w') (hs : ∀ g, v.ownBlock = some g → ¬ S g ∧ g < w.heap.size) : AllR R w' v := fun g hg o u hc => by
  refine h g hg o u ?_
  rw [← hT.cell (p := ⟨g, o, none⟩) (hs g hg).2 (hs g hg).1]
  exact hc
theorem AllR.below {R : Value → Prop} {w w' : World} {B : Nat} {e : TypeId} {size n : Nat} {v : Value} {xs : List Value} (h : AllR R w v) (ho : w.ownsRow B e size v n xs) (hB : Below w.heap.size w w') : AllR R w' v :=
  h.turned (Turned.below (S := fun _ => False) hB) (fun g hg => ⟨id, (ho.lt g hg).2⟩)
theorem zeroCells_mem {z : Array Value} {n : Nat} {u : Value} (h : u ∈ Builtin.zeroCells z n) : u ∈ z := by
  unfold Builtin.zeroCells at h
  obtain ⟨i, hi, rfl⟩ := Array.mem_map.1 h
  have hp : 0 < z.size := by
    rcases Nat.eq_zero_or_pos z.size with h0 | h0
    · rw [h0] at hi; simp at hi
    · exact h0
  have hl := Nat.mod_lt i hp
  rw [getElem!_pos z (i % z.size) hl]
  exact Array.getElem_mem hl

theorem app_R {w : World} {t e : TypeId} {bytes : Nat} (E : ElemOf P t e 1 bytes) (ty : TypeId) (base : Nat)
    (v : Value) (n : Nat) (xs : List Value) (hown : w.ownsRow base e 1 v n xs) (vx : Value) (y : Value) (hx : Sl w 1 vx 1 [y])
    (h1 : y.oneCell' = true) (h63 : n + 1 ≤ maxLen) (hbytes : (n + 1) * bytes ≤ 140737488355328)
    (R : Value → Prop) (hR : AllR R w v) (hy : R y) (hz0 : ∀ i z, P.info? e = some i → i.zero = some z → ∀ u ∈ z.cells, R u) {v' : Value} {w' : World}
    (r1 : (Builtin.append_ #[t, t] ty #[v, vx]).run P w = .ok v' w') : AllR R w' v' := by
  obtain ⟨i, z, hi, hz, hsize, hby, hzs⟩ := E.info
  have hzr := hz0 i z hi hz
  obtain ⟨a, c, rfl, hl, hmc, hcm, _, hcell⟩ := hx
  obtain ⟨b, o, hA, _⟩ := hcell 0 y rfl
  cases hA
  have hnews : ∀ j u, [y][j]? = some u → w.cell? ((⟨b, o, none⟩ : Addr).add j) = some u := by
    intro j u hu
    obtain ⟨b', o', hA, hc⟩ := hcell j u hu
    cases hA
    rw [add_none]; exact hc
  have hl : [y].length = 1 * i.size := by rw [hsize]; rfl
  obtain ⟨ho1, ho2⟩ := hown
  rcases ho2 with ⟨rfl, rfl⟩ | ⟨g, cap, cur, rfl, hb, hg, hnc, hcap, hcs, ht⟩
  · have hr := run_append_nil (P := P) w t ty e i z E.und hi hz ⟨b, o, none⟩ 1 c [y] hl hnews (by omega) (by omega) (by rw [hby]; omega)
    rw [hr] at r1
    cases r1
    intro g hg o u hc
    simp only [Value.ownBlock, Option.some.injEq] at hg
    subst hg
    rw [World.cell?_alloc_at _ _ _ _ (by simp)] at hc
    have hm := Array.mem_of_getElem? hc
    simp only [Array.mem_append, List.mem_toArray, List.mem_singleton] at hm
    rcases hm with rfl | hm
    · exact hy
    · exact hzr u (zeroCells_mem hm)
  · have hcur : ∀ u ∈ cur.toList, R u := by
      intro u hu
      obtain ⟨j, hj, e⟩ := List.getElem_of_mem hu
      refine hR g rfl j u ?_
      unfold World.cell?
      simp only [hg]
      simp at hj e
      simp [Array.getElem?_eq_getElem hj, e]
    by_cases hr : n + 1 ≤ cap
    · have hfit : n * i.size + [y].length ≤ cur.size := by rw [hl, hsize, hcs]; omega
      have hr' := run_append_room (P := P) w t ty e i E.und hi g n cap cur hg ⟨b, o, none⟩ 1 c [y] hl hnews (by intro u hu; simp at hu; subst hu; exact h1) hr hfit
      rw [hr'] at r1
      cases r1
      intro g' hg' o' u hc
      simp only [Value.ownBlock, Option.some.injEq] at hg'
      subst hg'
      rw [cell_setRow_same w _ o' cur _ e (0, 0) hg] at hc
      have hm := Array.mem_of_getElem? hc
      simp only [List.mem_toArray, List.mem_append, List.mem_singleton] at hm
      rcases hm with (hm | rfl) | hm
      · exact hcur u (List.mem_of_mem_take hm)
      · exact hy
      · exact hcur u (List.mem_of_mem_drop hm)
    · have holds : ∀ j u, xs[j]? = some u → w.cell? ((⟨g, 0, none⟩ : Addr).add j) = some u :=
        World.ownsRow.cells (w := w) (base := base) (e := e) (size := 1) (v := .slice (some ⟨g, 0, none⟩) n cap) (n := n) (xs := xs) ⟨ho1, .inr ⟨g, cap, cur, rfl, hb, hg, hnc, hcap, hcs, ht⟩⟩ (g := g) rfl
      have hr' := run_append_grow (P := P) w t ty e i z E.und hi hz ⟨g, 0, none⟩ n cap xs (by rw [hsize]; exact ho1) holds ⟨b, o, none⟩ 1 c [y] hl hnews (by omega) (by simp only [maxLen] at h63; omega) (growslice_fits (by omega) (by rw [hby]; exact hbytes))
      rw [hr'] at r1
      cases r1
      intro g' hg' o' u hc
      simp only [Value.ownBlock, Option.some.injEq] at hg'
      subst hg'
      rw [World.cell?_alloc_at _ _ _ _ (by simp)] at hc
      have hm := Array.mem_of_getElem? hc
      simp only [Array.mem_append, List.mem_toArray, List.mem_singleton] at hm
      rcases hm with (hm | rfl) | hm
      · rw [← ht] at hm
        exact hcur u (List.mem_of_mem_take hm)
      · exact hy
      · exact hzr u (zeroCells_mem hm)

/-- As wpList_app, of one that is appended; what is in the block is told, too. -/
theorem wpList_appR {w : World} {t e : TypeId} {bytes : Nat} (E : ElemOf P t e 1 bytes) {ops : Array Oper} {rest : List Oper} {o : Oper} {a : Act} {Q : Exit → Act → World → Prop} (hgd : o.guard = none) (s x : Operand)
    (ho : o.op = .call { callee := .builtin .append, args := #[s, x], argTypes := #[t, t] })
    (base : Nat) {v : Value} {n : Nat} {xs : List Value} (hs : a.eval s = v) (hown : w.ownsRow base e 1 v n xs) {vx : Value} {y : Value} (hvx : a.eval x = vx) (hx : Sl w 1 vx 1 [y])
    (h1 : y.oneCell' = true) (h63 : n + 1 ≤ maxLen) (hbytes : (n + 1) * bytes ≤ 140737488355328) (hbase : base ≤ w.heap.size)
    (R : Value → Prop) (hR : AllR R w v) (hy : R y) (hz0 : ∀ i z, P.info? e = some i → i.zero = some z → ∀ u ∈ z.cells, R u)
    (h : ∀ v' w', w'.ownsRow base e 1 v' (n + 1) (xs ++ [y]) → w.grownBy w' v.ownBlock → AllR R w' v' → wpList P ops Q rest (a.put o.dst v') w') : wpList P ops Q (o :: rest) a w := by
  refine wpList_plain hgd fun K hK => ?_
  obtain ⟨v', w', hr, h2, h3, _⟩ := run_app (P := P) E o.type base v n xs hown vx 1 [y] hx (by intro u hu; simp at hu; subst hu; exact h1) h63 hbytes hbase
  have h4 := app_R E o.type base v n xs hown vx y hx h1 h63 hbytes R hR hy hz0 hr
  unfold Oper.wp execOp
  simp only [ho, resolve, invoke, builtin, Sem.run_bind, Sem.run_pure, Result.andThen_ok, List.map_toArray, List.map_cons, List.map_nil, hs, hvx, hr]
  exact hK _ _ (h v' w' h2 h3 h4)
end Go.Th
