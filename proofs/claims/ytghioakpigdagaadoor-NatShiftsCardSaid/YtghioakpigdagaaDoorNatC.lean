/-
  Numbers as digits of 256: the sum, a power of two: the reference's.
-/
import Derived.Test.YtghioakpigdagaaDoorNatB
set_option linter.unusedVariables false
set_option linter.unusedSimpArgs false
namespace Go.Th.Dig
theorem drop_any (l : List Nat) (i : Nat) (B : Nat) : val B (l.drop i) = l.getD i 0 + B * val B (l.drop (i + 1)) := by
  by_cases h : i < l.length
  · rw [drop_step h, val]
  · rw [List.drop_of_length_le (by omega), List.drop_of_length_le (by omega), List.getD_eq_getElem?_getD, List.getElem?_eq_none (by omega)]; rfl
theorem getD_out {l : List Nat} {i : Nat} (h : l.length ≤ i) : l.getD i 0 = 0 := by
  rw [List.getD_eq_getElem?_getD, List.getElem?_eq_none h]; rfl
theorem dg_len_le {B : Nat} (hB : 2 ≤ B) {p k : Nat} (h : p < B ^ k) : (dg B p).length ≤ k := by
  refine Nat.le_of_not_lt fun hk => ?_
  have h1 := dg_top hB (p := p) (by omega)
  have h2 : B ^ k ≤ B ^ ((dg B p).length - 1) := Nat.pow_le_pow_right (by omega) (by omega)
  omega
theorem dg_len_of {B : Nat} (hB : 2 ≤ B) {p q k : Nat} (h : p ≤ q) (hq : (dg B q).length ≤ k) : (dg B p).length ≤ k := by
  by_cases e : (dg B p).length ≤ (dg B q).length
  · omega
  · have := dg_len_lt hB (p := q) (q := p) (by omega)
    omega
/-- A sum, digit by digit: so far, with what is carried. -/
structure Sum16 (x y : List Nat) (i c : Nat) (pre : List Nat) : Prop where
  len : pre.length = i
  dig : ∀ d ∈ pre, d < 256
  car : c ≤ 1
  sum : val 256 pre + 256 ^ i * (c + val 256 (x.drop i) + val 256 (y.drop i)) = val 256 x + val 256 y
  fin : i ≤ x.length ∨ i ≤ y.length ∨ c = 0
theorem Sum16.start (x y : List Nat) : Sum16 x y 0 0 [] := ⟨rfl, by simp, by omega, by simp [val], Or.inl (Nat.zero_le _)⟩
theorem Sum16.step {x y : List Nat} {i c : Nat} {pre : List Nat} (h : Sum16 x y i c pre) (hx : ∀ j, x.getD j 0 < 256) (hy : ∀ j, y.getD j 0 < 256) :
    Sum16 x y (i + 1) ((c + x.getD i 0 + y.getD i 0) / 256) (pre ++ [(c + x.getD i 0 + y.getD i 0) % 256]) := by
  obtain ⟨h1, h2, h3, h4, h5⟩ := h
  have a := hx i
  have b := hy i
  refine ⟨by simp [h1], ?_, by omega, ?_, ?_⟩
  · intro d hd
    rcases List.mem_append.1 hd with hd | hd
    · exact h2 d hd
    · rw [List.mem_singleton.1 hd]; omega
  · rw [val_snoc, h1, ← h4, drop_any x i, drop_any y i, Nat.pow_succ]
    obtain ⟨u, hu⟩ : ∃ u, u = c + x.getD i 0 + y.getD i 0 := ⟨_, rfl⟩
    rw [← hu]
    have e := Nat.mod_add_div u 256
    have e2 : c + (x.getD i 0 + 256 * val 256 (x.drop (i + 1))) + (y.getD i 0 + 256 * val 256 (y.drop (i + 1))) = u % 256 + 256 * (u / 256 + val 256 (x.drop (i + 1)) + val 256 (y.drop (i + 1))) := by omega
    rw [e2, Nat.mul_add (256 ^ i) (u % 256), Nat.add_assoc (val 256 pre), Nat.mul_assoc (256 ^ i) 256]
  · by_cases e1 : i < x.length
    · exact Or.inl e1
    · by_cases e2 : i < y.length
      · exact Or.inr (Or.inl e2)
      · rw [getD_out (by omega), getD_out (by omega)]
        exact Or.inr (Or.inr (by omega))
theorem Sum16.done {x y : List Nat} {i : Nat} {pre : List Nat} (h : Sum16 x y i 0 pre) (hx : x.length ≤ i) (hy : y.length ≤ i) : val 256 pre = val 256 x + val 256 y := by
  have := h.sum
  rw [List.drop_of_length_le hx, List.drop_of_length_le hy] at this
  simpa [val] using this
end Go.Th.Dig
namespace Go.Proofs.YtghioakpigdagaaDoor
open Go Go.RowKit Go.Th Go.Th.Dig

set_option maxRecDepth 20000 in
set_option maxHeartbeats 1600000 in
theorem add_go (a b : Option Addr) (n m ca cb : Nat) (x y : List Nat) (s : Nat) (w : World) (ha : Sl w 1 (.slice a n ca) n (digs x)) (hb : Sl w 1 (.slice b m cb) m (digs y)) (hn : n ≤ 100000) (hm : m ≤ 100000) (hx : ∀ d ∈ x, d < 256) (hy : ∀ d ∈ y, d < 256) (hs : s = val 256 x + val 256 y) :
    Calls Tryd.prog 14 #[.slice a n ca, .slice b m cb] w fun e w' => ∃ v, e = .returned v ∧ Is16 w' v s ∧ Below w.heap.size w w' := by
  have lx := sl_len ha
  have ly := sl_len hb
  have HA := Lib.hid ha
  have HB := Lib.hid hb
  have HX := Lib.hid (getD_lt hx)
  have HY := Lib.hid (getD_lt hy)
  have HS := Lib.hid hs
  clear ha hb hx hy hs
  go_enter Tryd.func14, Tryd.ntmps14
  go_wp2_with fail
  go_loopw [5, 6, 7] (fun v c k wr => ∃ (i r : Nat) (pre : List Nat), i ≤ n + m + 1 ∧ r ≤ 1 ∧ c = .int .i64 r ∧ k = .int .i64 i ∧ Hid (Sum16 x y i r pre) ∧ wr.ownsRow w.heap.size 3 1 v i (digs pre) ∧ Below w.heap.size w wr) (fun _ _ k _ => n + m + 1 - (intOf k).toNat)
  case atStart => exact ⟨0, 0, [], Nat.zero_le _, by omega, rfl, rfl, Lib.hid (Sum16.start x y), World.ownsRow_nil _ _ _ _, Below.refl _ _⟩
  case round =>
    obtain ⟨i, r, pre, hi, hr, rfl, rfl, HI, ho, hB⟩ := hrel
    have hsz := hB.size
    have on : (i < n ∨ i < m ∨ 0 < r) ∨ (¬ i < n ∧ ¬ i < m ∧ r = 0) := by omega
    rcases on with on | ⟨o1, o2, rfl⟩
    · have him : i ≤ n + m := by
        rcases HI.out.fin with h | h | h <;> omega
      have C1 := Lib.hid fun wx (hbx : Below w.heap.size w wx) => digit_any a n ca i x wx (HA.out.below hbx) (by omega)
      have C2 := Lib.hid fun wx (hbx : Below w.heap.size w wx) => digit_any b m cb i y wx (HB.out.below hbx) (by omega)
      have hu := HX.out i
      have hv := HY.out i
      have hst := HI.out.step HX.out HY.out
      obtain ⟨u, eu⟩ : ∃ u, u = x.getD i 0 := ⟨_, rfl⟩
      obtain ⟨v, ev⟩ : ∃ v, v = y.getD i 0 := ⟨_, rfl⟩
      rw [← eu] at C1 hu hst
      rw [← ev] at C2 hv hst
      have HST := Lib.hid hst
      clear eu ev hst HI
      by_cases h1 : i < n
      all_goals try by_cases h2 : i < m
      all_goals try (have h3 : 0 < r := by omega)
      all_goals
        go_wp2_with fail
        refine (C1.out _ hB).mono ?_
        rintro e w1 ⟨rfl, rfl⟩
        go_wp2_with fail
        refine (C2.out _ hB).mono ?_
        rintro e w1 ⟨rfl, rfl⟩
        go_wp2_with (at_builtin; refine wpList_app Edig rfl (.tmp 33) (.tmp 36) rfl w.heap.size rfl (ho.alloc _) rfl (Sl.one _ _ _) (by intro u hu; simp at hu; subst hu; rfl) (by unfold maxLen; omega) (by omega) (by simp; omega) ?_)
        intro v2 w3 ho3 hg3 _
        have hB3 := hB.trans (app_below ho hsz hg3)
        clear ho hg3 hB
        go_wp2_with fail
        go_roundw
        case rel => exact ⟨i + 1, (r + u + v) / 256, _, by omega, by omega, by go_num, by go_num, HST, by rw [digs_snoc]; exact_mod_cast ho3, hB3⟩
        case measure => simp [intOf]; omega
    · have hv := HI.out.done (by omega) (by omega)
      rw [← HS.out] at hv
      have S0 := Sl.of_own ho
      obtain ⟨va, vc, rfl, _⟩ := id S0
      have CT := Lib.hid (trim_any va i vc pre wr S0 HI.out.dig (by omega))
      rw [hv] at CT
      clear hv S0 HI HX HY HS
      go_wp2_with fail
      refine CT.out.mono ?_
      rintro e w1 ⟨rfl, rfl, S1⟩
      have S2 : Is16 wr (.slice va (dg 256 s).length vc) s := S1
      have HS2 := Lib.hid S2
      clear S1 S2 CT ho
      go_wp2_with fail
      go_ret
      exact ⟨_, rfl, HS2.out, hB⟩
theorem refAdd16_any (v u : Value) (p q : Nat) (w : World) (hp : Is16 w v p) (hq : Is16 w u q) (h1 : (dg 256 p).length ≤ 100000) (h2 : (dg 256 q).length ≤ 100000) :
    Calls Tryd.prog 14 #[v, u] w fun e w' => ∃ t, e = .returned t ∧ Is16 w' t (p + q) ∧ Below w.heap.size w w' := by
  obtain ⟨a, ca, rfl, _⟩ := id hp
  obtain ⟨b, cb, rfl, _⟩ := id hq
  exact add_go a b _ _ ca cb _ _ _ w hp hq h1 h2 (dg_lt (by decide) p) (dg_lt (by decide) q) (by rw [dg_val (by decide), dg_val (by decide)])

theorem pow_lt_256 {n k : Nat} (h : n < 8 * k) : 2 ^ n < 256 ^ k := by
  have h1 : 2 ^ n < 2 ^ (8 * k) := Nat.pow_lt_pow_right (by decide) h
  rwa [Nat.pow_mul] at h1
theorem pow_len {n k : Nat} (h : n < 8 * k) : (dg 256 (2 ^ n)).length ≤ k := dg_len_le (by decide) (pow_lt_256 h)
theorem dg_one : dg 256 1 = [1] := by
  unfold dg dgs
  rfl
set_option maxRecDepth 20000 in
theorem refPow16_any (n : Nat) (w : World) (hn : n ≤ 1000) :
    Calls Tryd.prog 26 #[.int .i64 n] w fun e w' => ∃ t, e = .returned t ∧ Is16 w' t (2 ^ n) ∧ Below w.heap.size w w' := by
  go_enter Tryd.func26, Tryd.ntmps26
  have hT : Is16 (w.alloc (.cells #[.int .i64 1] 3)) (.slice (some ⟨w.heap.size, 0, none⟩) 1 1) 1 := by
    unfold Is16
    rw [dg_one]
    exact Sl.one _ _ _
  have hB0 : Below w.heap.size w (w.alloc (.cells #[.int .i64 1] 3)) := (Below.refl _ _).alloc (Nat.le_refl _) _
  have HT := Lib.hid hT
  clear hT
  go_wp2_with fail
  go_loopw [3, 4] (fun v c wr => ∃ i : Nat, i ≤ n ∧ c = .int .i64 i ∧ Hid (Is16 wr v (2 ^ i)) ∧ Below w.heap.size w wr) (fun _ c _ => n - (intOf c).toNat)
  case atStart => exact ⟨0, Nat.zero_le _, rfl, HT, hB0⟩
  case round =>
    obtain ⟨i, hi, rfl, HI, hB⟩ := hrel
    by_cases hlt : i < n
    · have hl := pow_len (n := i) (k := 1001) (by omega)
      have C := Lib.hid (refAdd16_any _ _ _ _ wr HI.out HI.out (by omega) (by omega))
      rw [show 2 ^ i + 2 ^ i = 2 ^ (i + 1) by rw [Nat.pow_succ]; omega] at C
      clear hl
      go_wp2_with fail
      refine C.out.mono ?_
      rintro e w1 ⟨t, rfl, ht, hB1⟩
      have HN := Lib.hid ht
      have hB2 := hB.trans (hB1.mono hB.size)
      clear ht hB1 C
      go_wp2_with fail
      go_roundw
      case rel => exact ⟨i + 1, by omega, by first | rfl | go_num, HN, hB2⟩
      case measure => simp [intOf]; omega
    · obtain rfl : i = n := by omega
      go_wp2_with fail
      go_ret
      exact ⟨_, rfl, HI.out, hB⟩
end Go.Proofs.YtghioakpigdagaaDoor
