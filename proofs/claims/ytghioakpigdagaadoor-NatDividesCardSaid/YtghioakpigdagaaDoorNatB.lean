/-
  Numbers as digits of 256: the same, less: the reference's.
-/
import Derived.Test.YtghioakpigdagaaDoorNatA
import Derived.Test.YtghioakpigdagaaDoorPackBits
set_option linter.unusedVariables false
set_option linter.unusedSimpArgs false
namespace Go.Th.Dig
theorem same_from {a b : List Nat} (hl : a.length = b.length) (i : Nat) (h : ∀ j, j < i → a.getD j 0 = b.getD j 0) (hi : a.length ≤ i) : a = b := by
  refine List.ext_getElem hl fun j h1 h2 => ?_
  have := h j (by omega)
  rwa [List.getD_eq_getElem?_getD, List.getD_eq_getElem?_getD, List.getElem?_eq_getElem h1, List.getElem?_eq_getElem h2] at this
theorem drop_step {l : List Nat} {i : Nat} (h : i < l.length) : l.drop i = l.getD i 0 :: l.drop (i + 1) := by
  rw [List.drop_eq_getElem_cons h, List.getD_eq_getElem?_getD, List.getElem?_eq_getElem h]; rfl
/-- The highest digit that is another one tells. -/
theorem val_differ {B : Nat} (hB : 0 < B) {a b : List Nat} (hl : a.length = b.length) (h1 : ∀ d ∈ a, d < B) (i : Nat) (hi : i < a.length) (hd : a.drop (i + 1) = b.drop (i + 1)) (h : a.getD i 0 < b.getD i 0) : val B a < val B b := by
  have ea := val_take B a i
  have eb := val_take B b i
  rw [drop_step hi, val, Nat.min_eq_left (by omega)] at ea
  rw [drop_step (hl ▸ hi), val, Nat.min_eq_left (by omega)] at eb
  have hlt := val_lt hB (l := a.take i) (fun d hd => h1 d (List.mem_of_mem_take hd))
  rw [List.length_take, Nat.min_eq_left (by omega)] at hlt
  rw [hd] at ea
  have : B ^ i * (a.getD i 0 + 1 + B * val B (b.drop (i + 1))) ≤ B ^ i * (b.getD i 0 + B * val B (b.drop (i + 1))) := Nat.mul_le_mul_left _ (by omega)
  have e2 : B ^ i * (a.getD i 0 + 1 + B * val B (b.drop (i + 1))) = B ^ i * (a.getD i 0 + B * val B (b.drop (i + 1))) + B ^ i := by
    rw [show a.getD i 0 + 1 + B * val B (b.drop (i + 1)) = (a.getD i 0 + B * val B (b.drop (i + 1))) + 1 by omega, Nat.mul_add, Nat.mul_one]
  omega
theorem dg_inj {B : Nat} (hB : 2 ≤ B) {p q : Nat} (h : dg B p = dg B q) : p = q := by rw [← dg_val hB p, h, dg_val hB]
theorem dg_top {B : Nat} (hB : 2 ≤ B) {p : Nat} (h : 0 < (dg B p).length) : B ^ ((dg B p).length - 1) ≤ p := by
  have h1 := val_take B (dg B p) ((dg B p).length - 1)
  rw [Nat.min_eq_left (by omega), dg_val hB, drop_step (by omega), show (dg B p).length - 1 + 1 = (dg B p).length by omega, List.drop_length] at h1
  have hne : (dg B p).getD ((dg B p).length - 1) 0 ≠ 0 := by
    refine dg_last hB p _ ?_
    rw [List.getLast?_eq_getElem?, List.getD_eq_getElem?_getD, List.getElem?_eq_getElem (by omega)]; rfl
  have h2 : B ^ ((dg B p).length - 1) * 1 ≤ B ^ ((dg B p).length - 1) * val B [(dg B p).getD ((dg B p).length - 1) 0] := Nat.mul_le_mul_left _ (by rw [val, val]; omega)
  omega
theorem dg_len_lt {B : Nat} (hB : 2 ≤ B) {p q : Nat} (h : (dg B p).length < (dg B q).length) : p < q := by
  have h1 := dg_top hB (p := q) (by omega)
  have h2 := val_lt (by omega) (dg_lt (by omega : 0 < B) p)
  rw [dg_val hB] at h2
  have h3 : B ^ (dg B p).length ≤ B ^ ((dg B q).length - 1) := Nat.pow_le_pow_right (by omega) (by omega)
  omega
end Go.Th.Dig
namespace Go.Proofs.YtghioakpigdagaaDoor
open Go Go.RowKit Go.Th Go.Th.Dig

/-- A row reads as the digits of a number. -/
def Is16 (w : World) (v : Value) (p : Nat) : Prop := Sl w 1 v (dg 256 p).length (digs (dg 256 p))
theorem Is16.below {w w' : World} {v : Value} {p : Nat} (h : Is16 w v p) (hb : Below w.heap.size w w') : Is16 w' v p := Sl.below h hb
theorem getD_lt {l : List Nat} (h : ∀ d ∈ l, d < 256) (i : Nat) : l.getD i 0 < 256 := by
  rw [List.getD_eq_getElem?_getD]
  by_cases hi : i < l.length
  · rw [List.getElem?_eq_getElem hi]; exact h _ (List.getElem_mem _)
  · rw [List.getElem?_eq_none (by omega)]; decide

set_option maxRecDepth 20000 in
theorem same_go (a b : Option Addr) (n m ca cb : Nat) (x y : List Nat) (r : Bool) (w : World) (ha : Sl w 1 (.slice a n ca) n (digs x)) (hb : Sl w 1 (.slice b m cb) m (digs y)) (hn : n ≤ 1000000) (hm : m ≤ 1000000) (hx : ∀ d ∈ x, d < 256) (hy : ∀ d ∈ y, d < 256) (hr : r = decide (x = y)) :
    Calls Tryd.prog 18 #[.slice a n ca, .slice b m cb] w fun e w' => e = .returned (.bool r) ∧ Below w.heap.size w w' := by
  have lx := sl_len ha
  have ly := sl_len hb
  have HA := Lib.hid ha
  have HB := Lib.hid hb
  have HX := Lib.hid hx
  have HY := Lib.hid hy
  have HR := Lib.hid hr
  clear ha hb hx hy hr
  go_enter Tryd.func18, Tryd.ntmps18
  by_cases hnm : n = m
  · subst hnm
    go_wp2_with fail
    go_loopw [5] (fun c wr => ∃ i : Nat, i ≤ n ∧ c = .int .i64 i ∧ Hid (∀ j, j < i → x.getD j 0 = y.getD j 0) ∧ Below w.heap.size w wr) (fun c _ => n - (intOf c).toNat)
    case atStart => exact ⟨0, Nat.zero_le _, rfl, Lib.hid (fun j h => absurd h (Nat.not_lt_zero _)), Below.refl _ _⟩
    case round =>
      obtain ⟨i, hi, rfl, HI, hB⟩ := hrel
      by_cases hlt : i < n
      · obtain ⟨b1, o1, rfl, hb1, hc1⟩ := cell_dig (HA.out.below hB) i (by omega)
        obtain ⟨b2, o2, rfl, hb2, hc2⟩ := cell_dig (HB.out.below hB) i (by omega)
        have hu := getD_lt HX.out i
        have hv := getD_lt HY.out i
        obtain ⟨u, eu⟩ : ∃ u, u = x.getD i 0 := ⟨_, rfl⟩
        obtain ⟨v, ev⟩ : ∃ v, v = y.getD i 0 := ⟨_, rfl⟩
        rw [← eu] at hc1 hu
        rw [← ev] at hc2 hv
        have EU := Lib.hid eu
        have EV := Lib.hid ev
        clear eu ev
        by_cases he : u = v
        · subst he
          have hd : ((u : Int) != (u : Int)) = false := by simp
          go_wp2_with fail
          go_quiet (fail)
          go_wp2_with fail
          go_roundw
          case rel => exact ⟨i + 1, by omega, by first | rfl | simp, Lib.hid (fun j hj => by
            by_cases e : j = i
            · rw [e, ← EU.out, ← EV.out]
            · exact HI.out j (by omega)), by first | exact below_dN hB _ | exact hB.drew⟩
          case measure => simp [intOf] <;> omega
        · have hd : ((u : Int) != (v : Int)) = true := by simp; omega
          have hf : r = false := by
            rw [HR.out, decide_eq_false_iff_not]
            intro e
            exact he (by rw [EU.out, EV.out, e])
          subst hf
          go_wp2_with fail
          go_quiet (fail)
          go_wp2_with fail
          go_ret
          exact ⟨rfl, by first | exact below_dN hB _ | exact hB.drew⟩
      · have ht : r = true := by
          rw [HR.out, decide_eq_true_eq]
          exact same_from (by omega) i HI.out (by omega)
        subst ht
        go_wp2_with fail
        go_ret
        exact ⟨rfl, hB⟩
  · have hf : r = false := by
      rw [HR.out, decide_eq_false_iff_not]
      intro e
      rw [e] at lx
      omega
    subst hf
    have hd : ((n : Int) != (m : Int)) = true := by simp; omega
    go_wp2_with fail
    go_ret
    exact ⟨rfl, Below.refl _ _⟩
theorem refSame16_any (v u : Value) (p q : Nat) (w : World) (hp : Is16 w v p) (hq : Is16 w u q) (h1 : (dg 256 p).length ≤ 1000000) (h2 : (dg 256 q).length ≤ 1000000) :
    Calls Tryd.prog 18 #[v, u] w fun e w' => e = .returned (.bool (decide (p = q))) ∧ Below w.heap.size w w' := by
  obtain ⟨a, ca, rfl, _⟩ := id hp
  obtain ⟨b, cb, rfl, _⟩ := id hq
  refine same_go a b _ _ ca cb _ _ _ w hp hq h1 h2 (dg_lt (by decide) p) (dg_lt (by decide) q) ?_
  by_cases h : p = q
  · subst h; simp
  · rw [decide_eq_false h]; symm; rw [decide_eq_false_iff_not]; exact fun e => h (dg_inj (by decide) e)

set_option maxRecDepth 20000 in
theorem less_go (a b : Option Addr) (n m ca cb : Nat) (x y : List Nat) (r : Bool) (w : World) (ha : Sl w 1 (.slice a n ca) n (digs x)) (hb : Sl w 1 (.slice b m cb) m (digs y)) (hn : n ≤ 1000000) (hm : m ≤ 1000000) (hx : ∀ d ∈ x, d < 256) (hy : ∀ d ∈ y, d < 256)
    (hr1 : n = m → r = decide (val 256 x < val 256 y)) (hr2 : n ≠ m → r = decide (n < m)) :
    Calls Tryd.prog 15 #[.slice a n ca, .slice b m cb] w fun e w' => e = .returned (.bool r) ∧ Below w.heap.size w w' := by
  have lx := sl_len ha
  have ly := sl_len hb
  have HA := Lib.hid ha
  have HB := Lib.hid hb
  have HX := Lib.hid hx
  have HY := Lib.hid hy
  have HR := Lib.hid hr1
  have HR2 := Lib.hid hr2
  clear ha hb hx hy hr1 hr2
  go_enter Tryd.func15, Tryd.ntmps15
  by_cases hnm : n = m
  · subst hnm
    clear HR2
    go_wp2_with fail
    go_loopw [5] (fun c wr => ∃ i : Int, -1 ≤ i ∧ i < n ∧ c = .int .i64 i ∧ Hid (x.drop (i + 1).toNat = y.drop (i + 1).toNat) ∧ Below w.heap.size w wr) (fun c _ => (intOf c + 1).toNat)
    case atStart => exact ⟨(n : Int) - 1, by omega, by omega, by first | rfl | simp, Lib.hid (by rw [show ((n : Int) - 1 + 1).toNat = n by omega, List.drop_of_length_le (by omega), List.drop_of_length_le (by omega)]), Below.refl _ _⟩
    case round =>
      obtain ⟨i, hi0, hi, rfl, HI, hB⟩ := hrel
      by_cases hlt : 0 ≤ i
      · obtain ⟨k, rfl⟩ : ∃ k : Nat, i = (k : Int) := ⟨i.toNat, by omega⟩
        have HI := Lib.hid (show x.drop (k + 1) = y.drop (k + 1) from HI.out)
        obtain ⟨b1, o1, rfl, hb1, hc1⟩ := cell_dig (HA.out.below hB) k (by omega)
        obtain ⟨b2, o2, rfl, hb2, hc2⟩ := cell_dig (HB.out.below hB) k (by omega)
        have hu := getD_lt HX.out k
        have hv := getD_lt HY.out k
        obtain ⟨u, eu⟩ : ∃ u, u = x.getD k 0 := ⟨_, rfl⟩
        obtain ⟨v, ev⟩ : ∃ v, v = y.getD k 0 := ⟨_, rfl⟩
        rw [← eu] at hc1 hu
        rw [← ev] at hc2 hv
        have EU := Lib.hid eu
        have EV := Lib.hid ev
        clear eu ev
        by_cases he : u = v
        · subst he
          have hd : ((u : Int) != (u : Int)) = false := by simp
          go_wp2_with fail
          go_quiet (fail)
          go_wp2_with fail
          go_roundw
          case rel => exact ⟨(k : Int) - 1, by omega, by omega, by first | rfl | simp, Lib.hid (by
            rw [show ((k : Int) - 1 + 1).toNat = k by omega, drop_step (l := x) (by omega), drop_step (l := y) (by omega), ← EU.out, ← EV.out, HI.out]), by first | exact below_dN hB _ | exact hB.drew⟩
          case measure => simp [intOf] <;> omega
        · have hd : ((u : Int) != (v : Int)) = true := by simp; omega
          have hf : decide (u < v) = r := by
            rw [HR.out trivial]
            by_cases h : u < v
            · rw [decide_eq_true h]
              symm
              rw [decide_eq_true_eq]
              exact val_differ (by decide) (by omega) HX.out k (by omega) HI.out (by rw [← EU.out, ← EV.out]; exact h)
            · rw [decide_eq_false h]
              symm
              rw [decide_eq_false_iff_not]
              have := val_differ (B := 256) (by decide) (a := y) (b := x) (by omega) HY.out k (by omega) HI.out.symm (by rw [← EU.out, ← EV.out]; omega)
              omega
          have HF := Lib.hid hf
          clear hf
          go_wp2_with fail
          go_quiet (fail)
          go_wp2_with fail
          go_quiet (fail)
          go_wp2_with fail
          go_ret
          exact ⟨ret_bool HF.out, by first | exact below_dN hB _ | exact below_dN (below_dN hB _) _⟩
      · obtain rfl : i = -1 := by omega
        have ht : r = false := by
          rw [HR.out trivial, decide_eq_false_iff_not]
          have h : x = y := HI.out
          rw [h]
          omega
        subst ht
        go_wp2_with fail
        go_ret
        exact ⟨rfl, hB⟩
  · have hf : decide (n < m) = r := by
      rw [HR2.out hnm]
    have HF := Lib.hid hf
    clear hf
    have hd : ((n : Int) != (m : Int)) = true := by simp; omega
    go_wp2_with fail
    go_ret
    exact ⟨ret_bool HF.out, Below.refl _ _⟩
theorem refLess16_any (v u : Value) (p q : Nat) (w : World) (hp : Is16 w v p) (hq : Is16 w u q) (h1 : (dg 256 p).length ≤ 1000000) (h2 : (dg 256 q).length ≤ 1000000) :
    Calls Tryd.prog 15 #[v, u] w fun e w' => e = .returned (.bool (decide (p < q))) ∧ Below w.heap.size w w' := by
  obtain ⟨a, ca, rfl, _⟩ := id hp
  obtain ⟨b, cb, rfl, _⟩ := id hq
  refine less_go a b _ _ ca cb _ _ _ w hp hq h1 h2 (dg_lt (by decide) p) (dg_lt (by decide) q) (fun _ => by rw [dg_val (by decide), dg_val (by decide)]) (fun hne => ?_)
  by_cases h : (dg 256 p).length < (dg 256 q).length
  · rw [decide_eq_true h, decide_eq_true (dg_len_lt (by decide) h)]
  · have := dg_len_lt (B := 256) (by decide) (p := q) (q := p) (by omega)
    rw [decide_eq_false h, decide_eq_false (by omega)]
end Go.Proofs.YtghioakpigdagaaDoor
