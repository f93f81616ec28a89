/-
  Layer 15's types: read, written, begun.
-/
import Derived.Test.YtbjhbbiahmhdeaaMomentA
import Derived.Test.YtbjhbbiahmhdeaaPackNum
import Derived.Test.YtbjhbbiahmhdeaaPackWide
set_option linter.unusedVariables false
set_option linter.unusedSimpArgs false
namespace Go.Proofs.Ytbjhbbiahmhdeaa
open Go Go.RowKit Go.Th Go.Th.Grid Go.Th.Wide

abbrev spv (u v : Int) : Value := .agg #[.int .i64 u, .int .i64 v]
abbrev spc (u v : Int) : List Value := [.int .i64 u, .int .i64 v]
abbrev srv (u v z : Int) : Value := .agg #[.int .i64 u, .int .i64 v, .int .i64 z]
abbrev src (u v z : Int) : List Value := [.int .i64 u, .int .i64 v, .int .i64 z]
abbrev suv (a b c d e f : Int) : Value := .agg #[.int .i64 a, .int .i64 b, .int .i64 c, .int .i64 d, .int .i64 e, .int .i64 f]
abbrev suc (a b c d e f : Int) : List Value := [.int .i64 a, .int .i64 b, .int .i64 c, .int .i64 d, .int .i64 e, .int .i64 f]
theorem sizeSr : (Try.prog.info? 34).map (·.size) = some 3 := by kernel_rfl
theorem rd_spread (u v z : Int) : Rd Try.prog 34 0 (src u v z) (srv u v z) :=
  Rd.agg (ds := src u v z) Try.underlying34 rfl sizeSr (fun j u hj => by rw [Nat.zero_add]; exact hj)
theorem wr_spread (u v z u' v' z' : Int) : Wr Try.prog 34 0 (src u' v' z') (srv u v z) (src u v z) :=
  Wr.whole (ds := src u v z) sizeSr rfl (by intro u hu; simp at hu; rcases hu with rfl | rfl | rfl <;> rfl)
theorem sizeSu : (Try.prog.info? 58).map (·.size) = some 6 := by kernel_rfl
theorem rd_sums (a b c d e f : Int) : Rd Try.prog 58 0 (suc a b c d e f) (suv a b c d e f) :=
  Rd.agg (ds := suc a b c d e f) Try.underlying58 rfl sizeSu (fun j u hj => by rw [Nat.zero_add]; exact hj)
theorem wr_sums (a b c d e f a' b' c' d' e' f' : Int) : Wr Try.prog 58 0 (suc a' b' c' d' e' f') (suv a b c d e f) (suc a b c d e f) :=
  Wr.whole (ds := suc a b c d e f) sizeSu rfl (by intro u hu; simp at hu; rcases hu with rfl | rfl | rfl | rfl | rfl | rfl <;> rfl)
theorem wr_i64 (u u' : Int) : Wr Try.prog 2 0 [.int .i64 u'] (.int .i64 u) [.int .i64 u] := by
  constructor
  intro w g t hb
  have hc := hb.cell (i := 0) rfl
  have hf := hb.free 0
  have e : w.setCell ⟨g, 0, none⟩ (.int .i64 u) = w.setRow g [Value.int .i64 u].toArray := by
    rw [setCell_eq_setRow w g 0 [Value.int .i64 u'].toArray t (0, 0) _ hb]
    congr 1
  have hs : (Try.prog.info? 2).map (·.size) = some 1 := by kernel_rfl
  cases hq : Try.prog.info? 2 with
  | none => simp [hq] at hs
  | some j =>
    have hz : j.size = 1 := by simpa [hq] using hs
    rw [← e]
    have hst := run_store Try.prog w ⟨g, 0, none⟩ (.int .i64 u) .plain rfl
    rw [hc] at hst
    simp only [hf, Bool.false_eq_true, if_false] at hst
    simp [storeVar, sizeOf, typeInfo, hq, hz, Value.cells, storeCells, hst, add_none]
theorem zPl : (Try.prog.info? 65).map (·.zero) = some (some (plv 0 0 0)) := by kernel_rfl
theorem zI64 : (Try.prog.info? 2).map (·.zero) = some (some (.int .i64 0)) := by kernel_rfl
theorem zSpot : (Try.prog.info? 29).map (·.zero) = some (some (spv 0 0)) := by kernel_rfl
theorem zSpread : (Try.prog.info? 34).map (·.zero) = some (some (srv 0 0 0)) := by kernel_rfl
theorem zSums : (Try.prog.info? 58).map (·.zero) = some (some (suv 0 0 0 0 0 0)) := by kernel_rfl
theorem zGrid : (Try.prog.info? 26).map (·.zero) = some (some (gv 0 0 0 0 0 (.slice none 0 0))) := by kernel_rfl
instance bFn : BsI Try.prog 69 := ⟨fun h => Rd.one Try.underlying69 rfl h⟩
instance rPl (a x y : Int) : RdI Try.prog 65 0 (plc a x y) (plv a x y) := ⟨rd_pl a x y⟩
instance kPl : SzI Try.prog 65 3 := ⟨sizePl⟩
instance zPlI : ZrI Try.prog 65 (plv 0 0 0) (plc 0 0 0) := ⟨zPl, rfl⟩
instance rSr (u v z : Int) : RdI Try.prog 34 0 (src u v z) (srv u v z) := ⟨rd_spread u v z⟩
instance kSr : SzI Try.prog 34 3 := ⟨sizeSr⟩
instance zSrI : ZrI Try.prog 34 (srv 0 0 0) (src 0 0 0) := ⟨zSpread, rfl⟩
instance rSu (a b c d e f : Int) : RdI Try.prog 58 0 (suc a b c d e f) (suv a b c d e f) := ⟨rd_sums a b c d e f⟩
instance kSu : SzI Try.prog 58 6 := ⟨sizeSu⟩
instance zSuI : ZrI Try.prog 58 (suv 0 0 0 0 0 0) (suc 0 0 0 0 0 0) := ⟨zSums, rfl⟩
instance zI64I : ZrI Try.prog 2 (.int .i64 0) [.int .i64 0] := ⟨zI64, rfl⟩
end Go.Proofs.Ytbjhbbiahmhdeaa
