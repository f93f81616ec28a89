/-
  Grid, filter and book: cells and values.
-/
import Derived.Test.YtallbegibdlpaaaGreatPackExcA
import Derived.Test.YtallbegibdlpaaaGreatLedgD
import Derived.Test.YtallbegibdlpaaaGreatLedgH
import Derived.Test.YtallbegibdlpaaaGreatExactO
import Derived.Test.YtallbegibdlpaaaGreatOpen17
set_option linter.unusedVariables false
set_option linter.unusedSimpArgs false
namespace Go.Proofs.YtallbegibdlpaaaGreat
open Go Go.RowKit Go.Th Go.Th.Dig Go.Th.Ex Go.Th.Grid Go.Th.Wide Go.Th.Up

/-- Grid, filter and book, cell by cell, and as a value. -/
abbrev pc (x y X Y S : Int) (g : Value) (fx fy : Int) (f : Value) (B St : Int) : List Value := [.int .i64 x, .int .i64 y, .int .i64 X, .int .i64 Y, .int .i64 S, g, .int .i64 fx, .int .i64 fy, f, .int .i64 B, .int .i64 St]
abbrev pv (x y X Y S : Int) (g : Value) (fx fy : Int) (f : Value) (B St : Int) : Value := .agg #[.int .i64 x, .int .i64 y, .int .i64 X, .int .i64 Y, .int .i64 S, g, .int .i64 fx, .int .i64 fy, f, .int .i64 B, .int .i64 St]
theorem sizeP : (Tryz.prog.info? 37).map (·.size) = some 11 := by kernel_rfl
section
variable (x y X Y S : Int) (g : Value) (fx fy : Int) (f : Value) (B St : Int)
theorem rd_p : Rd Tryz.prog 37 0 (pc x y X Y S g fx fy f B St) (pv x y X Y S g fx fy f B St) :=
  Rd.agg (ds := pc x y X Y S g fx fy f B St) Tryz.underlying37 rfl sizeP (fun j u hj => by rw [Nat.zero_add]; exact hj)
theorem rd_pG : Rd Tryz.prog 28 0 (pc x y X Y S g fx fy f B St) (gv x y X Y S g) :=
  Rd.agg (ds := gc x y X Y S g) Tryz.underlying28 rfl size6g (fun j u hj => match j, hj with | 0, hj => hj | 1, hj => hj | 2, hj => hj | 3, hj => hj | 4, hj => hj | 5, hj => hj)
theorem rd_pF : Rd Tryz.prog 32 6 (pc x y X Y S g fx fy f B St) (fv fx fy f) :=
  Rd.agg (ds := fc fx fy f) Tryz.underlying32 rfl sizeFx (fun j u hj => match j, hj with | 0, hj => hj | 1, hj => hj | 2, hj => hj)
theorem rd_pK : Rd Tryz.prog 35 9 (pc x y X Y S g fx fy f B St) (bk B St) :=
  Rd.agg (ds := [.int .i64 B, .int .i64 St]) Tryz.underlying35 rfl sizeK (fun j u hj => match j, hj with | 0, hj => hj | 1, hj => hj)
instance rP18 : RdI Tryz.prog 37 0 (pc x y X Y S g fx fy f B St) (pv x y X Y S g fx fy f B St) := ⟨rd_p x y X Y S g fx fy f B St⟩
instance rPG18 : RdI Tryz.prog 28 0 (pc x y X Y S g fx fy f B St) (gv x y X Y S g) := ⟨rd_pG x y X Y S g fx fy f B St⟩
instance rPF18 : RdI Tryz.prog 32 6 (pc x y X Y S g fx fy f B St) (fv fx fy f) := ⟨rd_pF x y X Y S g fx fy f B St⟩
instance rPK18 : RdI Tryz.prog 35 9 (pc x y X Y S g fx fy f B St) (bk B St) := ⟨rd_pK x y X Y S g fx fy f B St⟩
end
instance kP18 : SzI Tryz.prog 37 11 := ⟨sizeP⟩
instance zP18 : ZrI Tryz.prog 37 (pv 0 0 0 0 0 (.slice none 0 0) 0 0 (.slice none 0 0) 0 0) (pc 0 0 0 0 0 (.slice none 0 0) 0 0 (.slice none 0 0) 0 0) := ⟨by kernel_rfl, rfl⟩
instance bU8x18 : BsI Tryz.prog 5 := ⟨fun h => Rd.one Tryz.underlying5 rfl h⟩
instance bI8x18 : BsI Tryz.prog 40 := ⟨fun h => Rd.one Tryz.underlying40 rfl h⟩
instance bU16x18 : BsI Tryz.prog 22 := ⟨fun h => Rd.one Tryz.underlying22 rfl h⟩
section
variable (x y X Y S : Int) (g : Value) (fx fy : Int) (f : Value) (B St : Int)
theorem wr_pG (x' y' X' Y' S' : Int) (a : Option Addr) (n c : Nat) : Wr Tryz.prog 28 0 (pc x y X Y S g fx fy f B St) (gv x' y' X' Y' S' (.slice a n c)) (pc x' y' X' Y' S' (.slice a n c) fx fy f B St) :=
  Wr.agg (off := 0) (cs := pc x y X Y S g fx fy f B St) (ds := gc x' y' X' Y' S' (.slice a n c)) size6g (by show _ ≤ 11; simp) (by intro u hu; simp at hu; rcases hu with rfl | rfl | rfl | rfl | rfl | rfl <;> rfl)
theorem wr_pF (x' y' : Int) (a : Option Addr) (n c : Nat) : Wr Tryz.prog 32 6 (pc x y X Y S g fx fy f B St) (fv x' y' (.slice a n c)) (pc x y X Y S g x' y' (.slice a n c) B St) :=
  Wr.agg (off := 6) (cs := pc x y X Y S g fx fy f B St) (ds := fc x' y' (.slice a n c)) sizeFx (by show _ ≤ 11; simp) (by intro u hu; simp at hu; rcases hu with rfl | rfl | rfl <;> rfl)
theorem wr_pK (B' St' : Int) : Wr Tryz.prog 35 9 (pc x y X Y S g fx fy f B St) (bk B' St') (pc x y X Y S g fx fy f B' St') :=
  Wr.agg (off := 9) (cs := pc x y X Y S g fx fy f B St) (ds := [.int .i64 B', .int .i64 St']) sizeK (by show _ ≤ 11; simp) (by intro u hu; simp at hu; rcases hu with rfl | rfl <;> rfl)
end
/-- The code's filter, and a book, are answered. -/
abbrev LAns18 (f : Nat) (args : Array Value) (x y : Int) (n : Nat) (us : List Nat) (w : World) : Prop := Calls Tryz.prog f args w fun e w' => ∃ a c, e = .returned (fv x y (.slice a n c)) ∧ IsV w' a n c us ∧ Below w.heap.size w w'
/-- A grid of one's own and a code are answered. -/
abbrev GOwn (f : Nat) (args : Array Value) (x y X Y S : Int) (n : Nat) (p : List Int) (c : Int) (w : World) : Prop := Calls Tryz.prog f args w (GRes x y X Y S n p c w)
theorem wr_p (c0 : List Value) (h0 : c0.length = 11) (x y X Y S fx fy B St : Int) (a a2 : Option Addr) (n c n2 c2 : Nat) : Wr Tryz.prog 37 0 c0 (pv x y X Y S (.slice a n c) fx fy (.slice a2 n2 c2) B St) (pc x y X Y S (.slice a n c) fx fy (.slice a2 n2 c2) B St) :=
  Wr.whole (ds := pc x y X Y S (.slice a n c) fx fy (.slice a2 n2 c2) B St) sizeP h0.symm (by intro u hu; simp at hu; rcases hu with rfl | rfl | rfl | rfl | rfl | rfl | rfl | rfl | rfl | rfl | rfl <;> rfl)
theorem noPart_p (x y X Y S fx fy B St : Int) (a a2 : Option Addr) (n c n2 c2 : Nat) : NoPart (pc x y X Y S (.slice a n c) fx fy (.slice a2 n2 c2) B St) := by
  intro u hu x e
  simp at hu
  rcases hu with rfl | rfl | rfl | rfl | rfl | rfl | rfl | rfl | rfl | rfl | rfl <;> cases e
end Go.Proofs.YtallbegibdlpaaaGreat
