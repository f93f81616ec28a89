/-
  A unit in memory: reading and writing it; what a call that turns a unit answers; numbers cut off at the ends, parts, places.
-/
import Derived.Test.YtggmjdaolekgmaaNum
import Derived.Test.YtggmjdaolekgmaaRefE
import Derived.Test.YtggmjdaolekgmaaWideE
set_option linter.unusedVariables false
set_option linter.unusedSimpArgs false
namespace Go.Th
open Go Go.RowKit

theorem Upd.perm {bs bs' : List (Nat × TypeId × List Value)} {g t cs cs'} (h : Upd bs g t cs cs' bs') : ∃ r, ((g, t, cs) :: r).Perm bs ∧ bs'.Perm ((g, t, cs') :: r) := by
  induction h with
  | head g t cs cs' r => exact ⟨r, .refl _, .refl _⟩
  | tail e r g t cs cs' r' _ ih =>
    obtain ⟨s, h1, h2⟩ := ih
    exact ⟨e :: s, (List.Perm.swap _ _ _).trans (h1.cons e), (h2.cons e).trans (List.Perm.swap _ _ _)⟩
theorem Mem.perm {w0 w : World} {bs bs' : List (Nat × TypeId × List Value)} (M : Mem w0 w bs) (h : bs'.Perm bs) : Mem w0 w bs' :=
  ⟨M.below, (h.map _).nodup_iff.2 M.nodup, fun e he => M.old e (h.mem_iff.1 he), fun e he => M.blk e (h.mem_iff.1 he)⟩

section
variable {P : Program}
/-- One cell of a list is written. -/
theorem wr_one {ty : TypeId} (hs : (P.info? ty).map (·.size) = some 1) {cs cs' : List Value} {i : Nat} {u v : Value} (hi : cs[i]? = some u) (hv : v.cells = #[v]) (h1 : v.oneCell' = true)
    (hst : ∀ (w : World) (g : Nat), w.cell? ⟨g, i, none⟩ = some u → w.frozen? ⟨g, i, none⟩ = false → (storeCells ⟨g, i, none⟩ [v] 0).run P w = .ok () (w.setCell ⟨g, i, none⟩ v)) (he : cs.set i v = cs') : Wr P ty i cs v cs' := by
  constructor
  intro w g t hb
  have hc := hb.cell hi
  have hf := hb.free i
  have e : w.setCell ⟨g, i, none⟩ v = w.setRow g cs'.toArray := by
    rw [setCell_eq_setRow w g i _ t (0, 0) _ hb]
    congr 1
    simp [← he]
  cases hq : P.info? ty with
  | none => simp [hq] at hs
  | some j =>
    have hz : j.size = 1 := by simpa [hq] using hs
    rw [← e]
    simp [storeVar, sizeOf, typeInfo, hq, hz, hv, hst w g hc hf]
end
end Go.Th

namespace Go.Th.Wide
/-- A number cut off at the ends, and whether it was. -/
def cutV (z : Int) : Int := if 9223372036854775807 < z then 9223372036854775807 else if z < -9223372036854775808 then -9223372036854775808 else z
def cutS (z : Int) : Bool := decide (9223372036854775807 < z) || decide (z < -9223372036854775808)
def endV (below : Bool) : Int := if below then -9223372036854775808 else 9223372036854775807
/-- A part. -/
def partV (a b c m : Int) : Int := if divE (a * b) c m = 0 then divV (a * b) c m else endV (decide (a * b < 0) != decide (c < 0))
def partS (a b c m : Int) : Bool := decide (divE (a * b) c m ≠ 0)
def placeV (q : Int) : Nat := if q < 0 then 0 else if 62 < q then 62 else q.toNat
def placeS (q : Int) : Bool := decide (q < 0) || decide (62 < q)
def powV (n : Nat) : Int := ((2 ^ n : Nat) : Int)
def mulV (a b q m : Int) : Int := partV a b (powV (placeV q)) m
def mulS (a b q m : Int) : Bool := partS a b (powV (placeV q)) m || placeS q
def quoV (a b q m : Int) : Int := partV a (powV (placeV q)) b m
def quoS (a b q m : Int) : Bool := partS a (powV (placeV q)) b m || placeS q
def scaleV (a f t m : Int) : Int := partV a (powV (placeV t - placeV f)) (powV (placeV f - placeV t)) m
def scaleS (a f t m : Int) : Bool := partS a (powV (placeV t - placeV f)) (powV (placeV f - placeV t)) m || placeS f || placeS t

theorem cutV_range (z : Int) : -9223372036854775808 ≤ cutV z ∧ cutV z ≤ 9223372036854775807 := by unfold cutV; split <;> (try split) <;> omega
theorem placeV_le (q : Int) : placeV q ≤ 62 := by unfold placeV; split <;> (try split) <;> omega
theorem pow62 {n : Nat} (h : n ≤ 62) : 0 < 2 ^ n ∧ 2 ^ n ≤ 4611686018427387904 := ⟨Nat.two_pow_pos n, (Nat.pow_le_pow_right (by decide) h : 2 ^ n ≤ 2 ^ 62)⟩
theorem powV_range {n : Nat} (h : n ≤ 62) : -9223372036854775808 ≤ powV n ∧ powV n ≤ 9223372036854775807 := by
  have := pow62 h
  unfold powV; omega
theorem endV_range (b : Bool) : -9223372036854775808 ≤ endV b ∧ endV b ≤ 9223372036854775807 := by cases b <;> decide
theorem signed_range63 (m : Bool) (q : Nat) (hf : fitsS m q 63 = true) : -9223372036854775808 ≤ signed m q ∧ signed m q ≤ 9223372036854775807 := by
  unfold fitsS at hf
  unfold signed
  cases m <;> simp at hf ⊢ <;> omega
theorem divV_range (z b m : Int) : -9223372036854775808 ≤ divV z b m ∧ divV z b m ≤ 9223372036854775807 := by
  unfold divV
  split
  · decide
  · dsimp only
    split
    · decide
    · split
      · rename_i h; exact signed_range63 _ _ h
      · decide
theorem partV_range (a b c m : Int) : -9223372036854775808 ≤ partV a b c m ∧ partV a b c m ≤ 9223372036854775807 := by
  unfold partV
  split
  · exact divV_range _ _ _
  · exact endV_range _
theorem mul_range (a b : Int) (ha : -9223372036854775808 ≤ a ∧ a ≤ 9223372036854775807) (hb : -9223372036854775808 ≤ b ∧ b ≤ 9223372036854775807) :
    -85070591730234615865843651857942052864 ≤ a * b ∧ a * b ≤ 85070591730234615865843651857942052864 := by
  have h1 : a.natAbs ≤ 9223372036854775808 := by omega
  have h2 : b.natAbs ≤ 9223372036854775808 := by omega
  have h3 : a.natAbs * b.natAbs ≤ 9223372036854775808 * 9223372036854775808 := Nat.mul_le_mul h1 h2
  rw [← Int.natAbs_mul] at h3
  omega
theorem sgn_z (z : Int) : signed (decide (z < 0)) z.natAbs = z := by
  unfold signed
  by_cases h : z < 0
  · rw [decide_eq_true h, if_pos rfl]; omega
  · rw [decide_eq_false h, if_neg (by decide)]; omega
end Go.Th.Wide

namespace Go.Proofs.Ytggmjdaolekgmaa
open Go Go.RowKit Go.Th Go.Th.Wide

theorem zeroU : (Try.prog.info? 28).map (·.zero) = some (some (.agg #[.bool false, .int .i64 0])) := by kernel_rfl
theorem sizeU : (Try.prog.info? 28).map (·.size) = some 2 := by kernel_rfl
theorem sizeB : (Try.prog.info? 4).map (·.size) = some 1 := by kernel_rfl
theorem sizeI : (Try.prog.info? 3).map (·.size) = some 1 := by kernel_rfl
theorem rd_unit (s : Bool) (c : Int) : Rd Try.prog 28 0 [.bool s, .int .i64 c] (.agg #[.bool s, .int .i64 c]) :=
  Rd.agg (ds := [.bool s, .int .i64 c]) Try.underlying28 rfl sizeU (fun j u hj => by rw [Nat.zero_add]; exact hj)
theorem rd_sat (s : Bool) (c : Int) : Rd Try.prog 4 0 [.bool s, .int .i64 c] (.bool s) := Rd.one Try.underlying4 rfl rfl
theorem rd_cnt (s : Bool) (c : Int) : Rd Try.prog 3 1 [.bool s, .int .i64 c] (.int .i64 c) := Rd.one Try.underlying3 rfl rfl
theorem wr_unit (cs : List Value) (hc : cs.length = 2) (s : Bool) (c : Int) : Wr Try.prog 28 0 cs (.agg #[.bool s, .int .i64 c]) [.bool s, .int .i64 c] :=
  Wr.whole (ds := [.bool s, .int .i64 c]) sizeU hc.symm (by intro u hu; simp at hu; rcases hu with rfl | rfl <;> rfl)
theorem wr_sat (s s' : Bool) (c : Int) : Wr Try.prog 4 0 [.bool s, .int .i64 c] (.bool s') [.bool s', .int .i64 c] := by
  refine wr_one (u := .bool s) sizeB rfl rfl rfl ?_ rfl
  intro w g hc hf
  have hst := run_store Try.prog w ⟨g, 0, none⟩ (.bool s') .plain rfl
  rw [hc] at hst
  simp only [hf, Bool.false_eq_true, if_false] at hst
  simp [storeCells, hst, add_none]
theorem wr_cnt (s : Bool) (c c' : Int) : Wr Try.prog 3 1 [.bool s, .int .i64 c] (.int .i64 c') [.bool s, .int .i64 c'] := by
  refine wr_one (u := .int .i64 c) sizeI rfl rfl rfl ?_ rfl
  intro w g hc hf
  have hst := run_store Try.prog w ⟨g, 1, none⟩ (.int .i64 c') .plain rfl
  rw [hc] at hst
  simp only [hf, Bool.false_eq_true, if_false] at hst
  simp [storeCells, hst, add_none]
theorem builtU : Try.prog.built 28 [] = some [Value.bool false, .int .i64 0].toArray := by kernel_rfl
theorem wpU_0 {ops : Array Oper} {rest : List Oper} {o : Oper} {a : Act} {w : World} {Q : Exit → Act → World → Prop}
    (hgd : o.guard = none) (ho : o.op = .build 28 #[]) (h : wpList Try.prog ops Q rest (a.put o.dst (.agg #[.bool false, .int .i64 0])) w) : wpList Try.prog ops Q (o :: rest) a w := wpL_bd0 hgd ho builtU h

/-- What a call answers that turns the unit g: the number, and the unit. -/
abbrev UAns (f : Nat) (g : Nat) (args : Array Value) (s : Bool) (c : Int) (v : Value) (s' : Bool) (c' : Int) : Prop :=
  ∀ (w0 w : World) (bs bs' : List (Nat × TypeId × List Value)), Mem w0 w bs → Upd bs g 28 [.bool s, .int .i64 c] [.bool s', .int .i64 c'] bs' →
    Calls Try.prog f args w fun e w' => e = .returned v ∧ Mem w0 w' bs'
theorem uans_of {f g : Nat} {args : Array Value} {s : Bool} {c : Int} {v : Value} {s' : Bool} {c' : Int}
    (h : ∀ (w0 w : World) (r : List (Nat × TypeId × List Value)), Mem w0 w ((g, 28, [.bool s, .int .i64 c]) :: r) →
      Calls Try.prog f args w fun e w' => e = .returned v ∧ Mem w0 w' ((g, 28, [.bool s', .int .i64 c']) :: r)) : UAns f g args s c v s' c' := by
  intro w0 w bs bs' M hu
  obtain ⟨r, h1, h2⟩ := hu.perm
  refine (h w0 w r (M.perm h1)).mono ?_
  rintro e w' ⟨he, M'⟩
  exact ⟨he, M'.perm h2⟩
theorem parts_z (z : Int) (hz : -170141183460469231731687303715884105728 ≤ z ∧ z < 170141183460469231731687303715884105728) : Ans 48 #[.agg (numC (decide (z < 0)) z.natAbs).toArray] (.tuple #[.int .i64 (z / 18446744073709551616), .int .u64 (z % 18446744073709551616)]) := by
  intro w
  have e : z.natAbs / 18446744073709551616 * 18446744073709551616 + z.natAbs % 18446744073709551616 = z.natAbs := by omega
  have s := sgn_z z
  have C := parts_any (decide (z < 0)) (z.natAbs / 18446744073709551616) (z.natAbs % 18446744073709551616) (by omega) (by omega) (by intro h; have := of_decide_eq_false h; omega) (by omega) w
  rw [e, s] at C
  exact C
end Go.Proofs.Ytggmjdaolekgmaa
