/-
  Heights there and back; literal heights, and noughts; a field of nothing.
-/
import Derived.Test.YtapheokmoebgfaaTileR
import Derived.Test.YtapheokmoebgfaaTileG
import Derived.Test.YtapheokmoebgfaaTileF
import Derived.Test.YtapheokmoebgfaaMem
set_option linter.unusedVariables false
set_option linter.unusedSimpArgs false
namespace Go.Proofs.Ytapheokmoebgfaa
open Go Go.RowKit Go.Th

theorem Sl.i16 {w : World} (m : List Int) (t : TypeId) (n : Nat) (hn : n = m.length) (hm : n ≤ maxLen) : Sl (w.alloc (.cells (i16s m).toArray t)) 1 (.slice (some ⟨w.heap.size, 0, none⟩) n n) n (i16s m) := by
  subst hn
  refine ⟨_, _, rfl, by simp [i16s], Nat.le_refl _, hm, fun h => (by cases h), ?_⟩
  intro j u hu
  refine ⟨_, _, rfl, ?_⟩
  rw [World.cell?_alloc_at _ _ _ _ rfl]
  simpa using hu

/-- There and back. -/
theorem tget_back (x y n : Nat) (hT : isT x y = true) (hn : n = x * y) (v : Value) (z : List Int) (hz : z.length = n) (h16 : ∀ u ∈ z, In16 u) (w : World) (hS : Sl w 1 v (pack (row (deltas x z))).length (u8s (pack (row (deltas x z))))) :
    Calls Try.prog 10 #[.int .i64 x, .int .i64 y, v] w fun e w' => ∃ v, e = .returned (.tuple #[v, .int .i64 0]) ∧ w'.ownsRow w.heap.size 30 1 v n (i16s z) ∧ Below w.heap.size w w' := by
  obtain ⟨h1, h2, h3, h4⟩ := isT_yes hT
  have hr : raise x (deltas x z) n = z := by rw [raise_deltas x (by omega) z n (by omega), List.take_of_length_le (by omega)]
  refine (tget_row x y n hT hn v (deltas x z) (by rw [deltas_length, hz]) (deltas_room h16 x) w hS).mono ?_
  rintro e w' (⟨_, v', he, ho, hB⟩ | ⟨hno, _⟩)
  · rw [hr] at ho; exact ⟨v', he, ho, hB⟩
  · rw [hr] at hno; exact absurd h16 hno
theorem noRow_nil (n : Nat) : NoRow [] n := by
  intro m hm hr e
  have h1 := congrArg List.length e
  rw [pack_length, row_length] at h1
  simp at h1
  omega

theorem built_h0 : Try.prog.built 36 [] = some #[.int .i64 0, .int .i64 0, .slice none 0 0] := by kernel_rfl
/-- A field of nothing is built, behind a guard. -/
theorem wpH_0g {ops : Array Oper} {rest : List Oper} {o : Oper} {a : Act} {w : World} {Q : Exit → Act → World → Prop} (ho : o.op = .build 36 #[]) (hw : Region.wanted o (yielded ops a.tmps) = true)
    (h : wpList Try.prog ops Q rest (a.put o.dst (hv 0 0 (.slice none 0 0))) w) : wpList Try.prog ops Q (o :: rest) a w :=
  wpList_step fun K hK => by
    rw [if_pos hw]
    exact wp_bd (cs := [.int .i64 0, .int .i64 0, .slice none 0 0]) ho (by simpa using built_h0) (hK _ _ h)

/-- What the second reading answers: nothing, with a code, or heights of which the bytes are those that were read. -/
def Again (w0 : World) (x n : Nat) (bs : List Nat) (e : Ending) (w' : World) : Prop :=
  (∃ d v, e = .returned (.tuple #[v, .int .i64 0]) ∧ d.length = n ∧ (∀ u ∈ d, In16 u) ∧ bs = pack (row (deltas x d)) ∧ w'.ownsRow w0.heap.size 30 1 v n (i16s d) ∧ Below w0.heap.size w0 w') ∨
  (∃ c : Int, (c = 3 ∨ c = 2) ∧ e = .returned (.tuple #[.slice none 0 0, .int .i64 c]) ∧ Below w0.heap.size w0 w')
theorem tget_again (x y n : Nat) (hT : isT x y = true) (hn : n = x * y) (v : Value) (bs : List Nat) (hl : bs.length ≤ 1000000) (hb : ∀ u ∈ bs, u < 256) (w : World) (hS : Sl w 1 v bs.length (u8s bs)) :
    Calls Try.prog 10 #[.int .i64 x, .int .i64 y, v] w (Again w x n bs) := by
  by_cases H : NoRow bs n
  · exact (tget_no x y n hT hn v bs hl hb w hS H).mono fun e w' ⟨he, hB⟩ => .inr ⟨3, .inl rfl, he, hB⟩
  · have H' : ∃ m : List Int, m.length = n ∧ (∀ u ∈ m, Rm u) ∧ bs = pack (row m) := by
      refine Classical.byContradiction fun h => H fun m h1 h2 h3 => h ⟨m, h1, h2, h3⟩
    obtain ⟨m, hm, hr, rfl⟩ := H'
    have hx : 0 < x := by have := (isT_yes hT).1; omega
    refine (tget_row x y n hT hn v m hm hr w hS).mono ?_
    rintro e w' (⟨h16, v', he, ho, hB⟩ | ⟨_, he, hB⟩)
    · exact .inl ⟨raise x m n, v', he, raise_length x m n, h16, by rw [deltas_raise x hx m n hm], ho, hB⟩
    · exact .inr ⟨2, .inr rfl, he, hB⟩

theorem run_mk16 (m : Nat) (hm : m ≤ 1000000) (wx : World) : (Instr.makeSlice 22 (.int .i64 (m : Int)) (.int .i64 (m : Int))).run Try.prog wx = .ok (.slice (some ⟨wx.heap.size, 0, none⟩) m m) (wx.alloc (.cells (List.replicate m (Value.int .i16 0)).toArray 30)) := by
  obtain ⟨i, hi, h1, h2, h3⟩ := info_parts (P := Try.prog) (e := 30) (z := .int .i16 0) (size := 1) (bytes := 2) (by kernel_rfl)
  have hr := run_make (P := Try.prog) wx 22 30 i (.int .i16 0) Try.underlying22 hi h1 .i64 .i64 (m : Int) (m : Int) (by omega) (Int.le_refl _) (by rw [h3]; omega) (by omega)
  rw [hr, h2, Nat.mul_one]
  simp only [Int.toNat_natCast]
  congr 4
  apply Array.ext'
  exact toList_madeCells_one _ _
theorem made16 (w : World) (m base : Nat) (hm : m ≤ maxLen) (hb : base ≤ w.heap.size) : (w.alloc (.cells (Array.replicate m (Value.int .i16 0)) 30)).ownsRow base 30 1 (.slice (some ⟨w.heap.size, 0, none⟩) m m) m (List.replicate m (.int .i16 0)) := by
  have := World.ownsRow_lit (base := base) (e := 30) (size := 1) w (Array.replicate m (Value.int .i16 0)) m hb hm (by simp)
  simpa using this
end Go.Proofs.Ytapheokmoebgfaa
