/-
  Grids as values; rows of numbers; whether numbers lie within bounds; numbers together: the code's.
-/
import Derived.Test.YtnfgogfbpggnfaaGridSpec
import Derived.Test.YtnfgogfbpggnfaaI64s
import Derived.Test.YtnfgogfbpggnfaaPackBits
import Derived.Deep.Cut
import Derived.Deep.QuietTactic
import Derived.BigQuiet
import Derived.OwnWalk
import Derived.Laws.OwnMore
set_option linter.unusedVariables false
set_option linter.unusedSimpArgs false
namespace Go.Th.Grid
open Go Go.RowKit Go.Th

/-- A slice of noughts is made. -/
theorem gmk {P : Program} {w : World} {ops : Array Oper} {rest : List Oper} {o : Oper} {a : Act} {Q : Exit → Act → World → Prop} {t e : TypeId} {z : Value} {bytes : Nat}
    (hU : P.underlying t = some (.slice e)) (hI : (P.info? e).map (fun i => (i.zero, i.size, i.bytes)) = some (some z, 1, bytes)) (hz : z.cells = #[z])
    (hg : o.guard = none) (l c : Operand) (hop : o.op = Op.makeSlice t l c) (base n : Nat) (kl kc : IntKind) (hl : a.eval l = .int kl (n : Int)) (hc : a.eval c = .int kc (n : Int))
    (b2 : bytes * n ≤ 281474976710656) (b3 : n ≤ maxLen) (b4 : base ≤ w.heap.size)
    (hK : ∀ w', w'.ownsRow base e 1 (.slice (some ⟨w.heap.size, 0, none⟩) n n) n (List.replicate n z) → w.grownBy w' none → wpList P ops Q rest (a.put o.dst (.slice (some ⟨w.heap.size, 0, none⟩) n n)) w') : wpList P ops Q (o :: rest) a w := by
  obtain ⟨i, hi, h1, h2, h3⟩ := info_parts hI
  refine wpList_make_full w hg l c t hop base e i z 1 hU hi h1 h2 kl kc n n n hl hc rfl rfl (by rw [h3]; exact b2) b3 b4 fun w' h hg => ?_
  rw [hz, Nat.mul_one, toList_madeCells_one] at h
  exact hK w' h hg
theorem ggrown {w w' : World} (h : w.grownBy w' none) : Below w.heap.size w w' := (Below.refl _ _).grown h (Nat.le_refl _) (fun j hj => by cases hj)
/-- A struct that is handed back out of its block, alone, and beside a code. -/
theorem gres_blk {P : Program} {fn : Func} {p : Tmp} {ty : TypeId} (h : fn.results = #[.cell p ty]) {tmps : Array Value} {w : World} {g : Nat} {t : TypeId} {cs : List Value} {d : TypeDesc}
    (hp : tmps.getD p undef = .pointer (some ⟨g, 0, none⟩)) (K : Blk w g t cs) (hu : P.underlying ty = some d) (hd : (match d with | .struct _ | .array _ _ => true | _ => false) = true) (hi : (P.info? ty).map (·.size) = some cs.length) :
    (results fn tmps).run P w = .ok (.agg cs.toArray) w :=
  results_cell_row h tmps w g t cs.toArray (0, 0) d hp K hu hd (by simpa using hi)
end Go.Th.Grid
namespace Go.Proofs.Ytnfgogfbpggnfaa
open Go Go.RowKit Go.Th Go.Th.Grid

/-- The world is as it was. -/
abbrev PureG (f : Nat) (args : Array Value) (v : Value) : Prop := ∀ w : World, Calls Try.prog f args w fun e w' => e = .returned v ∧ w = w'
theorem PureG.ans {f : Nat} {args : Array Value} {v : Value} (h : PureG f args v) : Ans f args v := fun w => (h w).mono fun e w' ⟨a, b⟩ => ⟨a, by subst b; exact Below.refl _ _⟩

/-- A grid as a value. -/
abbrev gv (W H X Y S : Int) (v : Value) : Value := .agg #[.int .i64 W, .int .i64 H, .int .i64 X, .int .i64 Y, .int .i64 S, v]
abbrev gc (W H X Y S : Int) (v : Value) : List Value := [.int .i64 W, .int .i64 H, .int .i64 X, .int .i64 Y, .int .i64 S, v]

theorem E64 : ElemOf Try.prog 22 2 1 8 := ElemOf.mk' Try.underlying22 (z := .int .i64 0) (by kernel_rfl) rfl (by decide)
theorem i64s_length (l : List Int) : (i64s l).length = l.length := by simp [i64s]
theorem i64s_snoc (l : List Int) (z : Int) : i64s (l ++ [z]) = i64s l ++ [.int .i64 z] := by simp [i64s]
theorem i64s_set (l : List Int) (i : Nat) (z : Int) : (i64s l).set i (.int .i64 z) = i64s (l.set i z) := by simp [i64s, List.map_set]
theorem i64s_rep (n : Nat) : List.replicate n (Value.int .i64 0) = i64s (List.replicate n 0) := by simp [i64s]
theorem oneCell_i64s (l : List Int) : ∀ u ∈ i64s l, u.oneCell' = true := by
  intro u hu
  simp only [i64s, List.mem_map] at hu
  obtain ⟨_, _, rfl⟩ := hu
  rfl
theorem cell64 {W : World} {a : Option Addr} {n cap : Nat} {l : List Int} (hS : Sl W 1 (.slice a n cap) n (i64s l)) (k : Nat) (hk : k < l.length) :
    ∃ b o, a = some ⟨b, o, none⟩ ∧ b < W.heap.size ∧ W.cell? ⟨b, o + k, none⟩ = some (.int .i64 (l.getD k 0)) := by
  obtain ⟨a', c', he, _, _, _, _, h5⟩ := hS
  cases he
  obtain ⟨b, o, ea, hc⟩ := h5 k _ (i64s_at l k hk)
  rw [← getD_at l k hk] at hc
  exact ⟨b, o, ea, World.block_lt_of_cell? W _ hc, hc⟩
/-- A cell of a row of the call's own. -/
theorem own64 {w : World} {base g n cap : Nat} {l : List Int} (h : w.ownsRow base 2 1 (.slice (some ⟨g, 0, none⟩) n cap) n (i64s l)) (k : Nat) (hk : k < l.length) : w.cell? ⟨g, k, none⟩ = some (.int .i64 (l.getD k 0)) := by
  have := ownsRow_cell h (i64s_at l k hk)
  rwa [← getD_at l k hk] at this

/-! ### Within bounds -/
def inR (x a b : Int) : Bool := decide (a ≤ x ∧ x ≤ b)
theorem inR_t {x a b : Int} (h : inR x a b = true) : a ≤ x ∧ x ≤ b := by unfold inR at h; exact of_decide_eq_true h
theorem inR_of {x a b : Int} (h : a ≤ x ∧ x ≤ b) : inR x a b = true := by unfold inR; exact decide_eq_true h
theorem inR_no {x a b : Int} (h : ¬ (a ≤ x ∧ x ≤ b)) : inR x a b = false := by unfold inR; exact decide_eq_false h

theorem within_int (x a b : Int) : PureG 52 #[.int .i64 x, .int .i64 a, .int .i64 b] (.bool (inR x a b)) := by
  intro w
  by_cases h1 : a ≤ x
  · by_cases h2 : x ≤ b
    · rw [inR_of ⟨h1, h2⟩]
      go_enter Try.func52, Try.ntmps52
      go_wp2_with fail
      go_ret
      exact ⟨rfl, rfl⟩
    · rw [inR_no (fun h => h2 h.2)]
      go_enter Try.func52, Try.ntmps52
      go_wp2_with fail
      go_ret
      exact ⟨rfl, rfl⟩
  · rw [inR_no (fun h => h1 h.1)]
    go_enter Try.func52, Try.ntmps52
    go_wp2_with fail
    go_ret
    exact ⟨rfl, rfl⟩
theorem within_64 (x a b : Int) : PureG 38 #[.int .i64 x, .int .i64 a, .int .i64 b] (.bool (inR x a b)) := by
  intro w
  by_cases h1 : a ≤ x
  · by_cases h2 : x ≤ b
    · rw [inR_of ⟨h1, h2⟩]
      go_enter Try.func38, Try.ntmps38
      go_wp2_with fail
      go_ret
      exact ⟨rfl, rfl⟩
    · rw [inR_no (fun h => h2 h.2)]
      go_enter Try.func38, Try.ntmps38
      go_wp2_with fail
      go_ret
      exact ⟨rfl, rfl⟩
  · rw [inR_no (fun h => h1 h.1)]
    go_enter Try.func38, Try.ntmps38
    go_wp2_with fail
    go_ret
    exact ⟨rfl, rfl⟩
def sdG (W H : Int) : Bool := inR W 1 64 && inR H 1 64
theorem sdG_t {W H : Int} (h : sdG W H = true) : (1 ≤ W ∧ W ≤ 64) ∧ 1 ≤ H ∧ H ≤ 64 := by
  unfold sdG at h
  rw [Bool.and_eq_true] at h
  exact ⟨inR_t h.1, inR_t h.2⟩
theorem sdG_of {W H : Int} (h : (1 ≤ W ∧ W ≤ 64) ∧ 1 ≤ H ∧ H ≤ 64) : sdG W H = true := by unfold sdG; rw [inR_of h.1, inR_of h.2]; rfl
theorem sidesG_is (W H S : Int) : sidesG W H S = (sdG W H && inR S 16 4096) := by
  unfold sidesG sdG inR
  rw [← Bool.decide_and, ← Bool.decide_and, decide_eq_decide]
  constructor
  · rintro ⟨a, b, c⟩; exact ⟨⟨a, b⟩, c⟩
  · rintro ⟨⟨a, b⟩, c⟩; exact ⟨a, b, c⟩
theorem sides_any (W H : Int) : PureG 35 #[.int .i64 W, .int .i64 H] (.bool (sdG W H)) := by
  intro w
  have C1 := within_int W 1 64
  have C2 := within_int H 1 64
  unfold sdG
  cases h1 : inR W 1 64
  · rw [h1] at C1
    have C1 := Lib.hid C1
    clear h1 C2
    go_enter Try.func35, Try.ntmps35
    go_wp2_with fail
    refine (C1.out _).mono ?_
    rintro e wx ⟨rfl, rfl⟩
    go_wp2_with fail
    go_ret
    exact ⟨rfl, rfl⟩
  · rw [h1] at C1
    have C1 := Lib.hid C1
    obtain ⟨b, hb⟩ : ∃ b, b = inR H 1 64 := ⟨_, rfl⟩
    rw [← hb] at C2 ⊢
    have C2 := Lib.hid C2
    clear h1 hb
    go_enter Try.func35, Try.ntmps35
    go_wp2_with fail
    refine (C1.out _).mono ?_
    rintro e wx ⟨rfl, rfl⟩
    go_wp2_with fail
    refine (C2.out _).mono ?_
    rintro e wx ⟨rfl, rfl⟩
    go_wp2_with fail
    go_ret
    exact ⟨rfl, rfl⟩
theorem step_any (S : Int) : PureG 36 #[.int .i64 S] (.bool (inR S 16 4096)) := by
  intro w
  have C1 := Lib.hid (within_64 S 16 4096)
  go_enter Try.func36, Try.ntmps36
  go_wp2_with fail
  refine (C1.out _).mono ?_
  rintro e wx ⟨rfl, rfl⟩
  go_wp2_with fail
  go_ret
  exact ⟨rfl, rfl⟩
theorem begin_any (x : Int) : PureG 50 #[.int .i64 x] (.bool (inR x (-64) 64)) := by
  intro w
  have C1 := Lib.hid (within_int x (-64) 64)
  go_enter Try.func50, Try.ntmps50
  go_wp2_with fail
  refine (C1.out _).mono ?_
  rintro e wx ⟨rfl, rfl⟩
  go_wp2_with fail
  go_ret
  exact ⟨rfl, rfl⟩

/-! ### Numbers together -/
set_option maxRecDepth 20000 in
theorem total_any (a : Option Addr) (n cap : Nat) (p : List Int) (hp : p.length = n) (hb : ∀ i, -9223372036854775808 ≤ sm (p.take i) ∧ sm (p.take i) ≤ 9223372036854775807) (w : World) (hS : Sl w 1 (.slice a n cap) n (i64s p)) :
    Calls Try.prog 48 #[.slice a n cap] w fun e w' => e = .returned (.int .i64 (sm p)) ∧ w = w' := by
  have hst := fun i (hi : i < n) => sm_take p i (by omega)
  have hall : sm (p.take n) = sm p := by rw [List.take_of_length_le (by omega)]
  have HB := Lib.hid hb
  have HST := Lib.hid hst
  have HALL := Lib.hid hall
  have HP := Lib.hid hp
  have HS := Lib.hid hS
  have hmx := hS.max
  clear hb hst hall hp hS
  go_enter Try.func48, Try.ntmps48
  go_wp2_with fail
  go_loopw [3, 8] (fun v c wx => ∃ i : Nat, i ≤ n ∧ c = .int .i64 i ∧ v = .int .i64 (sm (p.take i)) ∧ wx = w) (fun _ c _ => n - (intOf c).toNat)
  case atStart => exact ⟨0, Nat.zero_le _, rfl, rfl, rfl⟩
  case round =>
    obtain ⟨i, hi, rfl, rfl, rfl⟩ := hrel
    by_cases hlt : i < n
    · obtain ⟨b, o, rfl, _, hc⟩ := cell64 HS.out i (by rw [HP.out]; exact hlt)
      have h1 := HB.out i
      have h2 := HB.out (i + 1)
      have h3 := HST.out i hlt
      rw [h3] at h2
      obtain ⟨u, hu⟩ : ∃ u, u = p.getD i 0 := ⟨_, rfl⟩
      obtain ⟨s, hs⟩ : ∃ s, s = sm (p.take i) := ⟨_, rfl⟩
      rw [← hu, ← hs] at h2 h3
      rw [← hu] at hc
      rw [← hs] at h1 ⊢
      have H3 := Lib.hid h3
      clear hu hs h3
      go_wp2_with fail
      go_roundw
      case rel => exact ⟨i + 1, by omega, by go_num, by rw [H3.out], by first | rfl | trivial⟩
      case measure => simp [intOf]; omega
    · obtain rfl : i = n := by omega
      rw [HALL.out]
      go_wp2_with fail
      go_ret
      exact ⟨rfl, rfl⟩
set_option maxRecDepth 20000 in
theorem refSumG_any (a : Option Addr) (n cap : Nat) (p : List Int) (hp : p.length = n) (hb : ∀ i, -9223372036854775808 ≤ sm (p.take i) ∧ sm (p.take i) ≤ 9223372036854775807) (w : World) (hS : Sl w 1 (.slice a n cap) n (i64s p)) :
    Calls Try.prog 19 #[.slice a n cap] w fun e w' => e = .returned (.int .i64 (sm p)) ∧ w = w' := by
  have hst := fun i (hi : i < n) => sm_take p i (by omega)
  have hall : sm (p.take n) = sm p := by rw [List.take_of_length_le (by omega)]
  have HB := Lib.hid hb
  have HST := Lib.hid hst
  have HALL := Lib.hid hall
  have HP := Lib.hid hp
  have HS := Lib.hid hS
  have hmx := hS.max
  clear hb hst hall hp hS
  go_enter Try.func19, Try.ntmps19
  go_wp2_with fail
  go_loopw [3, 4] (fun v c wx => ∃ i : Nat, i ≤ n ∧ c = .int .i64 i ∧ v = .int .i64 (sm (p.take i)) ∧ wx = w) (fun _ c _ => n - (intOf c).toNat)
  case atStart => exact ⟨0, Nat.zero_le _, rfl, rfl, rfl⟩
  case round =>
    obtain ⟨i, hi, rfl, rfl, rfl⟩ := hrel
    by_cases hlt : i < n
    · obtain ⟨b, o, rfl, _, hc⟩ := cell64 HS.out i (by rw [HP.out]; exact hlt)
      have h1 := HB.out i
      have h2 := HB.out (i + 1)
      have h3 := HST.out i hlt
      rw [h3] at h2
      obtain ⟨u, hu⟩ : ∃ u, u = p.getD i 0 := ⟨_, rfl⟩
      obtain ⟨s, hs⟩ : ∃ s, s = sm (p.take i) := ⟨_, rfl⟩
      rw [← hu, ← hs] at h2 h3
      rw [← hu] at hc
      rw [← hs] at h1 ⊢
      have H3 := Lib.hid h3
      clear hu hs h3
      go_wp2_with fail
      go_roundw
      case rel => exact ⟨i + 1, by omega, by go_num, by rw [H3.out], by first | rfl | trivial⟩
      case measure => simp [intOf]; omega
    · obtain rfl : i = n := by omega
      rw [HALL.out]
      go_wp2_with fail
      go_ret
      exact ⟨rfl, rfl⟩
/-- Of a row with no number below 0 all are no less than some. -/
theorem sm_fits {p : List Int} (h : ∀ x ∈ p, 0 ≤ x) (hs : sm p ≤ 9223372036854775807) : ∀ i, -9223372036854775808 ≤ sm (p.take i) ∧ sm (p.take i) ≤ 9223372036854775807 := fun i => by
  have := sm_take_le h i
  omega

/-! ### All within bounds -/
theorem one_any (g : Nat) (x m : Int) (w : World) (hc : w.cell? ⟨g, 0, none⟩ = some (.int .i64 m)) :
    Calls Try.prog 54 #[.int .i64 x, .pointer (some ⟨g, 0, none⟩)] w fun e w' => e = .returned (.bool (!inR x 0 m)) ∧ w = w' := by
  have C1 := Lib.hid (within_64 x 0 m)
  go_enter Try.func54, Try.ntmps54
  go_wp2_with fail
  refine (C1.out _).mono ?_
  rintro e wx ⟨rfl, rfl⟩
  go_wp2_with fail
  go_ret
  exact ⟨rfl, rfl⟩
abbrev oneV (g : Nat) : Value := .func (.func 54) #[] #[.pointer (some ⟨g, 0, none⟩)]
set_option maxRecDepth 20000 in
theorem index_any (g : Nat) (m : Int) (a : Option Addr) (n cap : Nat) (p : List Int) (hp : p.length = n) (w : World) (hS : Sl w 1 (.slice a n cap) n (i64s p)) (hc : w.cell? ⟨g, 0, none⟩ = some (.int .i64 m)) :
    Calls Try.prog 59 #[.slice a n cap, oneV g] w fun e w' => ∃ i : Int, e = .returned (.int .i64 i) ∧ decide (0 ≤ i) = (!allIn p m) ∧ w = w' := by
  have C1 := Lib.hid (fun x => one_any g x m w hc)
  have HP := Lib.hid hp
  have HS := Lib.hid hS
  have hmx := hS.max
  clear hp hS
  go_enter Try.func59, Try.ntmps59
  go_wp2_with fail
  go_loopw [8] (fun c wx => ∃ i : Nat, i ≤ n ∧ c = .int .i64 i ∧ Hid (∀ j, j < i → inR (p.getD j 0) 0 m = true) ∧ wx = w) (fun c _ => n - (intOf c).toNat)
  case atStart => exact ⟨0, Nat.zero_le _, rfl, Lib.hid (fun j hj => by omega), rfl⟩
  case round =>
    obtain ⟨i, hi, rfl, hall, rfl⟩ := hrel
    by_cases hlt : i < n
    · obtain ⟨b, o, rfl, _, hcu⟩ := cell64 HS.out i (by rw [HP.out]; exact hlt)
      have K := C1.out (p.getD i 0)
      cases hin : inR (p.getD i 0) 0 m
      · rw [hin] at K
        have hno : allIn p m = false := by
          cases ha : allIn p m
          · rfl
          · have := allIn_iff.1 ha _ (List.getElem_mem (by rw [HP.out]; exact hlt : i < p.length))
            rw [← getD_at] at this
            rw [inR_of this] at hin; cases hin
        have HNO := Lib.hid hno
        obtain ⟨u, hu⟩ : ∃ u, u = p.getD i 0 := ⟨_, rfl⟩
        rw [← hu] at K hcu
        have K := Lib.hid K
        clear hin hu hno
        go_wp2_with fail
        refine K.out.mono ?_
        rintro e wx ⟨rfl, rfl⟩
        go_wp2_with fail
        go_ret
        exact ⟨i, rfl, by rw [HNO.out]; simp, rfl⟩
      · rw [hin] at K
        have hnx : ∀ j, j < i + 1 → inR (p.getD j 0) 0 m = true := by
          intro j hj
          by_cases hji : j < i
          · exact hall.out j hji
          · obtain rfl : j = i := by omega
            exact hin
        have HNX := Lib.hid hnx
        obtain ⟨u, hu⟩ : ∃ u, u = p.getD i 0 := ⟨_, rfl⟩
        rw [← hu] at K hcu
        have K := Lib.hid K
        clear hin hu hnx
        go_wp2_with fail
        refine K.out.mono ?_
        rintro e wx ⟨rfl, rfl⟩
        go_wp2_with fail
        go_roundw
        case rel => exact ⟨i + 1, by omega, by go_num, HNX, by first | rfl | trivial⟩
        case measure => simp [intOf]; omega
    · obtain rfl : i = n := by omega
      have hyes : allIn p m = true := by
        refine allIn_iff.2 (fun x hx => ?_)
        obtain ⟨j, hj, rfl⟩ := List.mem_iff_getElem.1 hx
        have := hall.out j (by rw [← HP.out]; exact hj)
        rw [getD_at _ _ hj] at this
        exact inR_t this
      have HY := Lib.hid hyes
      clear hyes hall
      go_wp2_with fail
      go_ret
      exact ⟨-1, rfl, by rw [HY.out]; rfl, rfl⟩
theorem contains_any (g : Nat) (m : Int) (a : Option Addr) (n cap : Nat) (p : List Int) (hp : p.length = n) (w : World) (hS : Sl w 1 (.slice a n cap) n (i64s p)) (hc : w.cell? ⟨g, 0, none⟩ = some (.int .i64 m)) :
    Calls Try.prog 53 #[.slice a n cap, oneV g] w fun e w' => e = .returned (.bool (!allIn p m)) ∧ w = w' := by
  have C1 := Lib.hid (index_any g m a n cap p hp w hS hc)
  clear hS hp hc
  go_enter Try.func53, Try.ntmps53
  go_wp2_with fail
  refine C1.out.mono ?_
  rintro e wx ⟨i, rfl, hi, rfl⟩
  have HI := Lib.hid hi
  clear hi
  go_wp2_with fail
  go_ret
  exact ⟨ret_bool HI.out, rfl⟩
theorem areWithin_any (m : Int) (a : Option Addr) (n cap : Nat) (p : List Int) (hp : p.length = n) (w : World) (hS : Sl w 1 (.slice a n cap) n (i64s p)) :
    Calls Try.prog 37 #[.slice a n cap, .int .i64 m] w fun e w' => e = .returned (.bool (allIn p m)) ∧ Below w.heap.size w w' := by
  have hmf : ∀ (fn : Fn) (first cap : Array Value) (w : World), (Instr.makeFunc fn first cap).run Try.prog w = .ok (.func fn first cap) w := fun _ _ _ _ => rfl
  obtain ⟨w1, hw1⟩ : ∃ w1, (w.alloc (.cells #[.int .i64 m] 2)) = w1 := ⟨_, rfl⟩
  have hB1 : Below w.heap.size w w1 := by rw [← hw1]; exact (Below.refl _ _).alloc (Nat.le_refl _) _
  have K1 : Blk w1 w.heap.size 2 [.int .i64 m] := by rw [← hw1]; exact Blk.new w _ _
  have C1 := Lib.hid (contains_any w.heap.size m a n cap p hp w1 (hS.below hB1) (K1.cell (i := 0) rfl))
  have HW1 := Lib.hid hw1
  clear hw1 hS hp K1
  go_enter Try.func37, Try.ntmps37
  go_upto_region 1 with fail
  rw [HW1.out]
  go_wp2_with fail
  refine C1.out.mono ?_
  rintro e wx ⟨rfl, rfl⟩
  go_wp2_with fail
  go_ret
  exact ⟨by simp, hB1⟩
end Go.Proofs.Ytnfgogfbpggnfaa
