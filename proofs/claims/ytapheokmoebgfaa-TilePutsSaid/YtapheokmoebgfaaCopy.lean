/-
  Slices cut in the middle; copy into a row of the call's own; four results.
-/
import Derived.Test.YtapheokmoebgfaaBase
import Derived.Test.YtapheokmoebgfaaBlk
import Derived.OwnWalk
import Derived.Laws.CopyRow
import Derived.Laws.CopyOwn
import Derived.Laws.OwnMore
set_option linter.unusedVariables false
set_option linter.unusedSimpArgs false
namespace Go.Th
open Go Go.RowKit

theorem results_tmp4 {fn : Func} {t u v x : Tmp} (h : fn.results = #[.tmp t, .tmp u, .tmp v, .tmp x]) (tmps : Array Value) (P : Program) (w : World) :
    (results fn tmps).run P w = .ok (.tuple #[tmps.getD t undef, tmps.getD u undef, tmps.getD v undef, tmps.getD x undef]) w := by
  simp [results, h]

/-- A part of a row is laid over. -/
abbrev over {α : Type} (L : List α) (off : Nat) (cs : List α) : List α := splice L off cs
theorem over_length {α : Type} (L : List α) (off : Nat) (cs : List α) (h : off + cs.length ≤ L.length) : (over L off cs).length = L.length := length_splice L off cs h
theorem over_map {α β : Type} (f : α → β) (L : List α) (off : Nat) (cs : List α) : over (L.map f) off (cs.map f) = (over L off cs).map f := by
  simp [over, splice, List.map_take, List.map_drop]

theorem take_over {α : Type} (L cs : List α) (off n : Nat) (h : off + cs.length ≤ n) (hn : n ≤ L.length) : (over L off cs).take n = over (L.take n) off cs := by
  unfold over splice
  have e1 : (L.take off).length = off := by rw [List.length_take]; omega
  rw [List.take_append, e1, List.take_of_length_le (l := L.take off) (by omega), List.take_append, List.take_of_length_le (l := cs) (by omega), List.take_take, Nat.min_eq_left (by omega : off ≤ n), List.drop_take, Nat.sub_sub]

section
variable {P : Program} {w : World} {t e : TypeId} {bytes : Nat} {a : Option Addr} {n cap : Nat} {xs : List Value}

/-- s[A:B]. -/
theorem Sl.cut_mid (E : ElemOf P t e 1 bytes) (h : Sl w 1 (.slice a n cap) n xs) (lo len : Nat) (hk : lo + len ≤ n) (A B : Int) (hA : A = (lo : Int)) (hB : B = (lo : Int) + (len : Int)) :
    ∃ a' cap', (∀ wx, (Instr.slice t (.slice a n cap) (some (.int .i64 A)) (some (.int .i64 B)) none).run P wx = .ok (.slice a' len cap') wx) ∧ Sl w 1 (.slice a' len cap') len ((xs.drop lo).take len) ∧
      (∀ x, a' = some x → ∃ y, a = some y ∧ y.block = x.block) ∧ (∀ b o, a = some ⟨b, o, none⟩ → 0 < len → a' = some ⟨b, o + lo, none⟩) := by
  obtain ⟨i, z, hi, hz, hsize, hby, hzs⟩ := E.info
  obtain ⟨hnc, hcm⟩ := h.max
  obtain ⟨a0, c0, he, h1, h2, h3, h4, h5⟩ := h
  cases he
  subst hA hB
  refine ⟨if cap = lo then a else a.map (·.add lo), cap - lo, fun wx => ?_, ?_, ?_, ?_⟩
  · have hb1 : (lo : Int) ≤ (lo : Int) + (len : Int) := by omega
    have hb2 : (lo : Int) + (len : Int) ≤ cap := by omega
    have hb3 : ((lo : Int) + (len : Int)).toNat = lo + len := by omega
    have hb0 : (0 : Int) ≤ (lo : Int) + (len : Int) := by omega
    have hb4 : ¬ ((lo : Int) + (len : Int) < 0) := by omega
    have hb5 : (lo : Int) + (len : Int) - (lo : Int) = len := by omega
    simp [Instr.slice, run_underlying E.und, Instr.sliceBounds, run_sliceBound, hb0, hb1, hb2, hb3, hb4, hb5, sizeOf, typeInfo, hi, hsize]
  · refine ⟨_, _, rfl, ?_, by omega, by unfold maxLen; omega, ?_, ?_⟩
    · rw [List.length_take, List.length_drop]; omega
    · intro hn
      by_cases hc : cap = lo
      · omega
      · rw [if_neg hc] at hn
        cases a with
        | none => have := h4 rfl; omega
        | some x => simp at hn
    · intro j u hu
      have hj : j < len := by
        have := (List.getElem?_eq_some_iff.1 hu).1
        rw [List.length_take] at this
        omega
      rw [List.getElem?_take, if_pos hj, List.getElem?_drop] at hu
      obtain ⟨b, o, rfl, hc⟩ := h5 (lo + j) u hu
      rw [if_neg (by omega)]
      refine ⟨b, o + lo, by simp [add_none], ?_⟩
      rw [Nat.add_assoc]; exact hc
  · intro x hA
    split at hA
    · exact ⟨x, hA, rfl⟩
    · cases a with
      | none => simp at hA
      | some y =>
        simp only [Option.map_some, Option.some.injEq] at hA
        refine ⟨y, rfl, ?_⟩
        rw [← hA]
        unfold Addr.add
        split <;> rfl
  · rintro b o rfl hl
    rw [if_neg (by omega)]
    simp [add_none]

/-- s[A:]. -/
theorem Sl.cut_off (E : ElemOf P t e 1 bytes) (h : Sl w 1 (.slice a n cap) n xs) (lo : Nat) (hk : lo ≤ n) (A : Int) (hA : A = (lo : Int)) :
    ∃ a' cap', (∀ wx, (Instr.slice t (.slice a n cap) (some (.int .i64 A)) none none).run P wx = .ok (.slice a' (n - lo) cap') wx) ∧ Sl w 1 (.slice a' (n - lo) cap') (n - lo) (xs.drop lo) ∧
      (∀ x, a' = some x → ∃ y, a = some y ∧ y.block = x.block) ∧ (∀ b o, a = some ⟨b, o, none⟩ → lo < n → a' = some ⟨b, o + lo, none⟩) := by
  obtain ⟨a', cap', h1, h2, h3⟩ := Sl.cut_from E h lo hk
  subst hA
  refine ⟨a', cap', h1, h2, h3, ?_⟩
  rintro b o rfl hl
  have hr := h1 default
  obtain ⟨i, z, hi, hz, hsize, hby, hzs⟩ := E.info
  obtain ⟨hnc, hcm⟩ := h.max
  have hb1 : (0 : Int) ≤ lo := by omega
  have hb2 : (lo : Int) ≤ n := by omega
  have hne : ¬ cap = lo := by omega
  simp [Instr.slice, run_underlying E.und, Instr.sliceBounds, run_sliceBound, hb2, sizeOf, typeInfo, hi, hsize, hne, add_none] at hr
  exact hr.1.symm

/-- copy into a row of the call's own. -/
theorem run_copy_at (E : ElemOf P t e 1 bytes) (ty : TypeId) {base g off m dcap sl scap k : Nat} {sa : Option Addr} {ys : List Value}
    (hown : w.ownsRow base e 1 (.slice (some ⟨g, 0, none⟩) n cap) n xs) (hS : Sl w 1 (.slice sa sl scap) sl ys) (hk : k = Nat.min sl m) (h0 : 0 < k) (hfit : off + k ≤ n) (h1 : ∀ u ∈ ys, u.oneCell' = true) :
    ∃ w', (Builtin.copy_ #[t, t] ty #[.slice (some ⟨g, off, none⟩) m dcap, .slice sa sl scap]).run P w = .ok (goInt k) w' ∧
      w'.ownsRow base e 1 (.slice (some ⟨g, 0, none⟩) n cap) n (over xs off (ys.take k)) ∧ Turned (fun j => j = g) w w' := by
  obtain ⟨i, z, hi, hz, hsize, hby, hzs⟩ := E.info
  obtain ⟨ho1, ho2⟩ := hown
  rcases ho2 with ⟨he, _⟩ | ⟨g', cap', cur, he, hb, hg, hnc, hcm, hcs, ht⟩
  · cases he
  · cases he
    obtain ⟨a0, c0, he2, s1, s2, s3, s4, s5⟩ := hS
    cases he2
    have hyl : k ≤ ys.length := by rw [s1, hk, Nat.mul_one]; exact Nat.min_le_left _ _
    have hkl : (ys.take k).length = k := by rw [List.length_take]; omega
    obtain ⟨b, o, rfl, _⟩ := s5 0 _ (List.getElem?_eq_getElem (by omega))
    have hr := run_copy_row P w t t ty e g off m dcap ⟨b, o, none⟩ sl scap cur e (ys.take k) E.und (by rw [hi]; simp [hsize]) hg (by rw [hkl, hk]) (by
        intro j v hv
        have hj : j < k := by have := (List.getElem?_eq_some_iff.1 hv).1; omega
        rw [List.getElem?_take, if_pos hj] at hv
        obtain ⟨b', o', e', hc⟩ := s5 j v hv
        cases e'
        rw [add_none]; exact hc) (by rw [hkl]; simp at hcs; omega) (fun v hv => h1 v (List.mem_of_mem_take hv))
    rw [hkl] at hr
    refine ⟨_, hr, ?_, ⟨rfl, rfl, rfl, by simp [World.setRow], fun j hj hs => setRow_other w g j _ hs⟩⟩
    have hcl : cur.toList.length = cap := by simpa using hcs
    refine ⟨?_, .inr ⟨g, cap, _, rfl, hb, setRow_heap w g _ _ e _ hg, hnc, hcm, ?_, ?_⟩⟩
    · rw [over_length _ _ _ (by rw [hkl, ho1, Nat.mul_one]; exact hfit)]; exact ho1
    · simp [hkl]; omega
    · rw [Nat.mul_one] at ht ⊢
      have hx : xs = cur.toList.take n := ht.symm
      have := take_over cur.toList (ys.take k) off n (by rw [hkl]; exact hfit) (by omega)
      rw [hx, ← this]
      unfold over splice
      rw [hkl, List.append_assoc]

theorem wp_copy_at (E : ElemOf P t e 1 bytes) {o : Oper} {b : Act} {K : Act → World → Prop} {Q : Exit → Act → World → Prop} (d s : Operand)
    (ho : o.op = .call { callee := .builtin .copy, args := #[d, s], argTypes := #[t, t] }) {base g off m dcap sl scap : Nat} {sa : Option Addr} {ys : List Value} (k : Nat)
    (hd : b.eval d = .slice (some ⟨g, off, none⟩) m dcap) (hs : b.eval s = .slice sa sl scap)
    (hown : w.ownsRow base e 1 (.slice (some ⟨g, 0, none⟩) n cap) n xs) (hS : Sl w 1 (.slice sa sl scap) sl ys) (hk : k = Nat.min sl m) (h0 : 0 < k) (hfit : off + k ≤ n) (h1 : ∀ u ∈ ys, u.oneCell' = true)
    (h : ∀ w', w'.ownsRow base e 1 (.slice (some ⟨g, 0, none⟩) n cap) n (over xs off (ys.take k)) → Turned (fun j => j = g) w w' → K (b.put o.dst (goInt k)) w') : o.wp P b w K Q := by
  obtain ⟨w', hr, h2, h3⟩ := run_copy_at (dcap := dcap) E o.type hown hS hk h0 hfit h1
  have hK := h w' h2 h3
  unfold Oper.wp
  simp [execOp, ho, resolve, invoke, builtin, hd, hs, hr, Result.andThen]
  exact hK
end
end Go.Th
