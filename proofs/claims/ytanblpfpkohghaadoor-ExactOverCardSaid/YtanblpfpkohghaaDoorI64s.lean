/-
  Rows of int64: as cells, one of them, the next one; a slice that is built.
-/
import Derived.Test.YtanblpfpkohghaaDoorRows
import Derived.Test.YtanblpfpkohghaaDoorPackBits
set_option linter.unusedVariables false
set_option linter.unusedSimpArgs false
namespace Go.Th
open Go Go.RowKit
theorem wpL_bs {P : Program} {ops : Array Oper} {rest : List Oper} {o : Oper} {a : Act} {w w0 : World} {Q : Exit → Act → World → Prop} {bs : List (Nat × TypeId × List Value)} {t e : TypeId} {n : Nat} {parts : Array (Nat × Operand)} {vs : Array (Nat × Value)} {cs : List Value}
    (M : Mem w0 w bs) (hr : ∀ w : World, (Instr.buildSlice t n vs).run P w = .ok (.slice (some ⟨w.heap.size, 0, none⟩) n n) (w.alloc (.cells cs.toArray e)))
    (hgd : o.guard = none) (ho : o.op = .buildSlice t n parts) (hv : parts.map (fun (x : Nat × Operand) => (x.1, a.eval x.2)) = vs)
    (h : ∀ g w', Mem w0 w' ((g, e, cs) :: bs) → wpList P ops Q rest (a.put o.dst (.slice (some ⟨g, 0, none⟩) n n)) w') : wpList P ops Q (o :: rest) a w :=
  wpList_plain hgd fun K hK => by
    unfold Oper.wp execOp
    simp only [ho, hv, Sem.run_bind, hr, Result.andThen_ok]
    exact hK _ _ (h _ _ (M.alloc _ _))
theorem wpL_bsg {P : Program} {ops : Array Oper} {rest : List Oper} {o : Oper} {a : Act} {w w0 : World} {Q : Exit → Act → World → Prop} {bs : List (Nat × TypeId × List Value)} {t e : TypeId} {n : Nat} {parts : Array (Nat × Operand)} {vs : Array (Nat × Value)} {cs : List Value}
    (M : Mem w0 w bs) (hr : ∀ w : World, (Instr.buildSlice t n vs).run P w = .ok (.slice (some ⟨w.heap.size, 0, none⟩) n n) (w.alloc (.cells cs.toArray e)))
    (hw : Region.wanted o (yielded ops a.tmps) = true) (ho : o.op = .buildSlice t n parts) (hv : parts.map (fun (x : Nat × Operand) => (x.1, a.eval x.2)) = vs)
    (h : ∀ g w', Mem w0 w' ((g, e, cs) :: bs) → wpList P ops Q rest (a.put o.dst (.slice (some ⟨g, 0, none⟩) n n)) w') : wpList P ops Q (o :: rest) a w :=
  wpList_step fun K hK => by
    rw [if_pos hw]
    unfold Oper.wp execOp
    simp only [ho, hv, Sem.run_bind, hr, Result.andThen_ok]
    exact hK _ _ (h _ _ (M.alloc _ _))
theorem take_next {α : Type} (xs : List α) (i : Nat) (h : i < xs.length) : xs.take (i + 1) = xs.take i ++ [xs[i]] := by
  rw [List.take_add_one, List.getElem?_eq_getElem h]; rfl
end Go.Th
namespace Go.Proofs.YtanblpfpkohghaaDoor
open Go Go.RowKit Go.Th

def i64s (xs : List Int) : List Value := xs.map (.int .i64)
theorem i64s_at (xs : List Int) (i : Nat) (h : i < xs.length) : (i64s xs)[i]? = some (.int .i64 xs[i]) := by simp [i64s, h]
def In64 (x : Int) : Prop := -9223372036854775808 ≤ x ∧ x ≤ 9223372036854775807
theorem in64_def {x : Int} (h : In64 x) : -9223372036854775808 ≤ x ∧ x ≤ 9223372036854775807 := h
theorem row_at {W : World} {a : Option Addr} {zs : List Int} {cap k : Nat} (hS : Sl W 1 (.slice a zs.length cap) zs.length (i64s zs)) (hk : k < zs.length) :
    ∃ b0 o, a = some ⟨b0, o, none⟩ ∧ ∀ (wx : World) (cs : List (Nat × TypeId × List Value)), Mem W wx cs → wx.cell? ⟨b0, o + k, none⟩ = some (.int .i64 zs[k]) := by
  obtain ⟨a', c', he, _, _, _, _, h5⟩ := hS
  cases he
  obtain ⟨b0, o, ea, hc⟩ := h5 k _ (i64s_at zs k hk)
  exact ⟨b0, o, ea, fun wx cs M => (M.below.cell (p := ⟨b0, o + k, none⟩) (World.block_lt_of_cell? W _ hc)).trans hc⟩
end Go.Proofs.YtanblpfpkohghaaDoor
