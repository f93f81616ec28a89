/-
  The law of rounding.
-/
import Derived.Test.YtbiblinaolmkdaaLaw03a
import Derived.Test.YtbiblinaolmkdaaRefI
import Derived.Deep.Cut
namespace Go.Proofs.Ytbiblinaolmkdaa
open Go Go.RowKit Go.Th Go.Th.Wide

/-- A struct of zeros, behind a guard. -/
theorem wpN_0g {ops : Array Oper} {rest : List Oper} {o : Oper} {a : Act} {w : World} {Q : Exit → Act → World → Prop} (ho : o.op = .build 29 #[]) (hw : Region.wanted o (yielded ops a.tmps) = true)
    (h : wpList Try.prog ops Q rest (a.put o.dst (.agg (numC false 0).toArray)) w) : wpList Try.prog ops Q (o :: rest) a w :=
  wpList_step fun K hK => by
    rw [if_pos hw]
    exact wp_bd ho (by simpa using built_0) (hK _ _ h)

/-- A rounded quotient, whether it has room or not. -/
def rX (z c mode : Int) : Int := signed (decide (z < 0) != decide (c < 0)) (magS z.natAbs (decide (z < 0) != decide (c < 0)) c.natAbs mode)
theorem more0t (r d : Nat) : moreS r d true 0 = decide (r ≠ 0) := by by_cases h : r = 0 <;> simp [moreS, h]
theorem more0f (r d : Nat) : moreS r d false 0 = false := by by_cases h : r = 0 <;> simp [moreS, h]
theorem more1t (r d : Nat) : moreS r d true 1 = false := by by_cases h : r = 0 <;> simp [moreS, h]
theorem more1f (r d : Nat) : moreS r d false 1 = decide (r ≠ 0) := by by_cases h : r = 0 <;> simp [moreS, h]
theorem more2 (r d : Nat) (m : Bool) : moreS r d m 2 = true → r ≠ 0 := by intro h e; simp [moreS, e] at h
theorem turn_m (z c : Int) (hc : c ≠ 0) : (decide (z < 0) != decide (-c < 0)) = !(decide (z < 0) != decide (c < 0)) := by
  by_cases h : c < 0
  · rw [decide_eq_true h, decide_eq_false (p := -c < 0) (by omega)]; cases decide (z < 0) <;> rfl
  · rw [decide_eq_false h, decide_eq_true (p := -c < 0) (by omega)]; cases decide (z < 0) <;> rfl
theorem rX_props (z c : Int) (hc : c ≠ 0) : rX z c 0 ≤ rX z c 2 ∧ rX z c 2 ≤ rX z c 1 ∧ rX z c 1 ≤ rX z c 0 + 1 ∧ rX z (-c) 1 = -rX z c 0 ∧ rX z (-c) 0 = -rX z c 1 := by
  unfold rX magS
  rw [turn_m z c hc, Int.natAbs_neg]
  generalize (decide (z < 0) != decide (c < 0)) = m
  generalize z.natAbs / c.natAbs = q
  generalize z.natAbs % c.natAbs = r
  generalize c.natAbs = d
  have h2 := more2 r d m
  cases m
  · simp only [Bool.not_false, signed_t, signed_f, more0t, more0f, more1t, more1f]
    by_cases h0 : r = 0
    · have e2 : moreS r d false 2 = false := by rw [Bool.eq_false_iff]; exact fun h => h2 h h0
      rw [e2]; simp [h0]; try omega
    · rw [decide_eq_true h0]
      cases moreS r d false 2 <;> simp <;> omega
  · simp only [Bool.not_true, signed_t, signed_f, more0t, more0f, more1t, more1f]
    by_cases h0 : r = 0
    · have e2 : moreS r d true 2 = false := by rw [Bool.eq_false_iff]; exact fun h => h2 h h0
      rw [e2]; simp [h0]; try omega
    · rw [decide_eq_true h0]
      cases moreS r d true 2 <;> simp <;> omega
/-- The two answers, told of it. -/
theorem divX (z c mode : Int) (hc : c ≠ 0) (hm : 0 ≤ mode ∧ mode ≤ 3) :
    (-9223372036854775808 ≤ rX z c mode ∧ rX z c mode ≤ 9223372036854775807 → divV z c mode = rX z c mode ∧ divE z c mode = 0) ∧
    (¬ (-9223372036854775808 ≤ rX z c mode ∧ rX z c mode ≤ 9223372036854775807) → divE z c mode = 10) := by
  obtain ⟨e1, e2⟩ := divVE z c mode (by omega) _ rfl (rX z c mode) rfl
  constructor
  · intro h
    rw [if_pos h] at e1 e2
    exact ⟨e1, e2⟩
  · intro h
    rw [if_neg h] at e2
    exact e2

set_option maxRecDepth 20000 in
set_option maxHeartbeats 16000000 in
theorem rounds_e (a b c lo hi m e f g : Int)
    (C0 : Ans 23 #[.int .i64 a, .int .i64 b, .int .i64 c, .int .i64 0] (.tuple #[.int .i64 lo, .int .i64 e]))
    (C1 : Ans 23 #[.int .i64 a, .int .i64 b, .int .i64 c, .int .i64 1] (.tuple #[.int .i64 hi, .int .i64 f]))
    (C2 : Ans 23 #[.int .i64 a, .int .i64 b, .int .i64 c, .int .i64 2] (.tuple #[.int .i64 m, .int .i64 g]))
    (he : (e != 0) = true)
    (w : World) :
    Calls Try.prog 6 #[.int .i64 a, .int .i64 b, .int .i64 c] w fun e w' => e = .returned (.bool true) ∧ Below w.heap.size w w' := by
  have C8 := works_any
  have M0 := Mem.start w
  go_enter Try.func6, Try.ntmps6
  go_wp2_with fail
  refine (C0 _).mono ?_
  rintro e w2 ⟨rfl, hBl⟩
  replace M0 := M0.call hBl
  clear hBl C0
  go_wp2_with fail
  refine (C1 _).mono ?_
  rintro e w2 ⟨rfl, hBl⟩
  replace M0 := M0.call hBl
  clear hBl C1
  go_wp2_with fail
  refine (C2 _).mono ?_
  rintro e w2 ⟨rfl, hBl⟩
  replace M0 := M0.call hBl
  clear hBl C2
  go_wp2_with fail
  refine (C8 _).mono ?_
  rintro e w2 ⟨rfl, hBl⟩
  replace M0 := M0.call hBl
  clear hBl C8
  go_wp2_with fail
  go_ret
  exact ⟨rfl, M0.below⟩

set_option maxRecDepth 20000 in
set_option maxHeartbeats 16000000 in
theorem rounds_f (a b c lo hi m f g : Int)
    (C0 : Ans 23 #[.int .i64 a, .int .i64 b, .int .i64 c, .int .i64 0] (.tuple #[.int .i64 lo, .int .i64 0]))
    (C1 : Ans 23 #[.int .i64 a, .int .i64 b, .int .i64 c, .int .i64 1] (.tuple #[.int .i64 hi, .int .i64 f]))
    (C2 : Ans 23 #[.int .i64 a, .int .i64 b, .int .i64 c, .int .i64 2] (.tuple #[.int .i64 m, .int .i64 g]))
    (hf : (f != 0) = true)
    (w : World) :
    Calls Try.prog 6 #[.int .i64 a, .int .i64 b, .int .i64 c] w fun e w' => e = .returned (.bool true) ∧ Below w.heap.size w w' := by
  have C8 := works_any
  have M0 := Mem.start w
  go_enter Try.func6, Try.ntmps6
  go_wp2_with fail
  refine (C0 _).mono ?_
  rintro e w2 ⟨rfl, hBl⟩
  replace M0 := M0.call hBl
  clear hBl C0
  go_wp2_with fail
  refine (C1 _).mono ?_
  rintro e w2 ⟨rfl, hBl⟩
  replace M0 := M0.call hBl
  clear hBl C1
  go_wp2_with fail
  refine (C2 _).mono ?_
  rintro e w2 ⟨rfl, hBl⟩
  replace M0 := M0.call hBl
  clear hBl C2
  go_wp2_with fail
  refine (C8 _).mono ?_
  rintro e w2 ⟨rfl, hBl⟩
  replace M0 := M0.call hBl
  clear hBl C8
  go_wp2_with fail
  go_ret
  exact ⟨rfl, M0.below⟩

set_option maxRecDepth 20000 in
set_option maxHeartbeats 16000000 in
theorem rounds_ok (a b c lo hi m  : Int)
    (C0 : Ans 23 #[.int .i64 a, .int .i64 b, .int .i64 c, .int .i64 0] (.tuple #[.int .i64 lo, .int .i64 0]))
    (C1 : Ans 23 #[.int .i64 a, .int .i64 b, .int .i64 c, .int .i64 1] (.tuple #[.int .i64 hi, .int .i64 0]))
    (C2 : Ans 23 #[.int .i64 a, .int .i64 b, .int .i64 c, .int .i64 2] (.tuple #[.int .i64 m, .int .i64 0]))
    (m1 : Bool) (n1 : Nat) (K : Int) (s : Bool)
    (C3 : Ans 12 #[.int .i64 lo] (.agg (numC m1 n1).toArray))
    (C4 : Ans 18 #[.agg (numC m1 n1).toArray, .agg (numC false 0).toArray] (.int .i64 K))
    (f1 : decide (m < lo) = false) (f2 : decide (hi < m) = false) (d1 : decide (lo < 0) = s) (d2 : decide (K < 0) = s)
    (hD : (hi != lo) = false ∨ (hi != lo) = true ∧ IntKind.i64.wrap (hi - 1) = lo)
    (nc x y : Int) (last : c = -9223372036854775808 ∨ hi = -9223372036854775808 ∨ lo = -9223372036854775808 ∨
      ((c == -9223372036854775808) = false ∧ (hi == -9223372036854775808) = false ∧ (lo == -9223372036854775808) = false ∧ IntKind.i64.wrap (-c) = nc ∧ IntKind.i64.wrap (-lo) = x ∧ IntKind.i64.wrap (-hi) = y ∧
        Ans 23 #[.int .i64 a, .int .i64 b, .int .i64 nc, .int .i64 1] (.tuple #[.int .i64 x, .int .i64 0]) ∧
        Ans 23 #[.int .i64 a, .int .i64 b, .int .i64 nc, .int .i64 0] (.tuple #[.int .i64 y, .int .i64 0])))
    (w : World) :
    Calls Try.prog 6 #[.int .i64 a, .int .i64 b, .int .i64 c] w fun e w' => e = .returned (.bool true) ∧ Below w.heap.size w w' := by
  have C8 := works_any
  have M0 := Mem.start w
  have ss : (s != s) = false := by cases s <;> rfl
  have ll : (lo != lo) = false := by simp
  go_enter Try.func6, Try.ntmps6
  go_wp2_with fail
  refine (C0 _).mono ?_
  rintro e w2 ⟨rfl, hBl⟩
  replace M0 := M0.call hBl
  clear hBl C0
  go_wp2_with fail
  refine (C1 _).mono ?_
  rintro e w2 ⟨rfl, hBl⟩
  replace M0 := M0.call hBl
  clear hBl C1
  go_wp2_with fail
  refine (C2 _).mono ?_
  rintro e w2 ⟨rfl, hBl⟩
  replace M0 := M0.call hBl
  clear hBl C2
  go_upto_region 6 with fail
  go_cut [85] from 17 (fun s85 wx => s85 = .bool false ∧ Mem w wx [])
  case first =>
    rcases hD with hD | ⟨hD, hW⟩
    · go_wp2_with ((with_reducible refine (?_ : Go.wpList _ _ _ (_ :: _) _ _)); (first | go_skip | (refine wpN_0g rfl rfl ?_)))
      refine (C3 _).mono ?_
      rintro e w2 ⟨rfl, hBl⟩
      replace M0 := M0.call hBl
      clear hBl C3
      go_wp2_with ((with_reducible refine (?_ : Go.wpList _ _ _ (_ :: _) _ _)); (first | go_skip | (refine wpN_0g rfl rfl ?_)))
      refine (C4 _).mono ?_
      rintro e w2 ⟨rfl, hBl⟩
      replace M0 := M0.call hBl
      clear hBl C4
      go_wp2_with ((with_reducible refine (?_ : Go.wpList _ _ _ (_ :: _) _ _)); (first | go_skip | (refine wpN_0g rfl rfl ?_)))
      go_meet
      exact ⟨rfl, M0⟩
    · go_wp2_with ((with_reducible refine (?_ : Go.wpList _ _ _ (_ :: _) _ _)); (first | go_skip | (refine wpN_0g rfl rfl ?_)))
      refine (C3 _).mono ?_
      rintro e w2 ⟨rfl, hBl⟩
      replace M0 := M0.call hBl
      clear hBl C3
      go_wp2_with ((with_reducible refine (?_ : Go.wpList _ _ _ (_ :: _) _ _)); (first | go_skip | (refine wpN_0g rfl rfl ?_)))
      refine (C4 _).mono ?_
      rintro e w2 ⟨rfl, hBl⟩
      replace M0 := M0.call hBl
      clear hBl C4
      go_wp2_with ((with_reducible refine (?_ : Go.wpList _ _ _ (_ :: _) _ _)); (first | go_skip | (refine wpN_0g rfl rfl ?_)))
      go_meet
      exact ⟨rfl, M0⟩
  obtain ⟨rfl, M1⟩ := hcut
  clear M0 C3 C4 f1 f2 d1 d2 hD ss ll
  rename Mem w _ _ => M0
  rcases last with h | h | h | ⟨g1, g2, g3, hnc, hx, hy, C5, C6⟩
  · have hb : (c == -9223372036854775808) = true := by rw [beq_iff_eq]; exact h
    clear h
    go_wp2_with fail
    refine (C8 _).mono ?_
    rintro e w2 ⟨rfl, hBl⟩
    replace M0 := M0.call hBl
    clear hBl C8
    go_wp2_with fail
    go_ret
    exact ⟨rfl, M0.below⟩
  · have hb : (hi == -9223372036854775808) = true := by rw [beq_iff_eq]; exact h
    clear h
    by_cases h2 : c = -9223372036854775808
    · have hb2 : (c == -9223372036854775808) = true := by rw [beq_iff_eq]; exact h2
      clear h2
      go_wp2_with fail
      refine (C8 _).mono ?_
      rintro e w2 ⟨rfl, hBl⟩
      replace M0 := M0.call hBl
      clear hBl C8
      go_wp2_with fail
      go_ret
      exact ⟨rfl, M0.below⟩
    · have hb2 : (c == -9223372036854775808) = false := by rw [beq_eq_false_iff_ne]; exact h2
      clear h2
      go_wp2_with fail
      refine (C8 _).mono ?_
      rintro e w2 ⟨rfl, hBl⟩
      replace M0 := M0.call hBl
      clear hBl C8
      go_wp2_with fail
      go_ret
      exact ⟨rfl, M0.below⟩
  · have hb : (lo == -9223372036854775808) = true := by rw [beq_iff_eq]; exact h
    clear h
    by_cases h2 : c = -9223372036854775808
    · have hb2 : (c == -9223372036854775808) = true := by rw [beq_iff_eq]; exact h2
      clear h2
      go_wp2_with fail
      refine (C8 _).mono ?_
      rintro e w2 ⟨rfl, hBl⟩
      replace M0 := M0.call hBl
      clear hBl C8
      go_wp2_with fail
      go_ret
      exact ⟨rfl, M0.below⟩
    · have hb2 : (c == -9223372036854775808) = false := by rw [beq_eq_false_iff_ne]; exact h2
      clear h2
      by_cases h3 : hi = -9223372036854775808
      · have hb3 : (hi == -9223372036854775808) = true := by rw [beq_iff_eq]; exact h3
        clear h3
        go_wp2_with fail
        refine (C8 _).mono ?_
        rintro e w2 ⟨rfl, hBl⟩
        replace M0 := M0.call hBl
        clear hBl C8
        go_wp2_with fail
        go_ret
        exact ⟨rfl, M0.below⟩
      · have hb3 : (hi == -9223372036854775808) = false := by rw [beq_eq_false_iff_ne]; exact h3
        clear h3
        go_wp2_with fail
        refine (C8 _).mono ?_
        rintro e w2 ⟨rfl, hBl⟩
        replace M0 := M0.call hBl
        clear hBl C8
        go_wp2_with fail
        go_ret
        exact ⟨rfl, M0.below⟩
  · have xx : (x == x) = true := by simp
    have yy : (y == y) = true := by simp
    have T0 : ∀ w : World, Calls Try.prog 24 #[.int .i64 0] w fun e w' => e = .returned (.int .i64 1) ∧ w = w' := Turned_any 0
    have T1 : ∀ w : World, Calls Try.prog 24 #[.int .i64 1] w fun e w' => e = .returned (.int .i64 0) ∧ w = w' := Turned_any 1
    go_wp2_with fail
    refine (T0 _).mono ?_
    rintro e w2 ⟨rfl, rfl⟩
    clear T0
    go_wp2_with fail
    refine (C5 _).mono ?_
    rintro e w2 ⟨rfl, hBl⟩
    replace M0 := M0.call hBl
    clear hBl C5
    go_wp2_with fail
    refine (T1 _).mono ?_
    rintro e w2 ⟨rfl, rfl⟩
    clear T1
    go_wp2_with fail
    refine (C6 _).mono ?_
    rintro e w2 ⟨rfl, hBl⟩
    replace M0 := M0.call hBl
    clear hBl C6
    go_wp2_with fail
    refine (C8 _).mono ?_
    rintro e w2 ⟨rfl, hBl⟩
    replace M0 := M0.call hBl
    clear hBl C8
    go_wp2_with fail
    go_ret
    exact ⟨rfl, M0.below⟩
theorem cmp_low (z : Int) : decide (cmpS z 0 < 0) = decide (z < 0) := by
  unfold cmpS
  by_cases h : z < 0
  · rw [if_pos h]; simp [h]
  · rw [if_neg h]
    by_cases h0 : z = 0
    · rw [if_pos h0]; simp [h0]
    · rw [if_neg h0]; simp [h]
theorem w_in (x : Int) (h : -9223372036854775808 ≤ x ∧ x ≤ 9223372036854775807) : IntKind.i64.wrap x = x := by rw [IntKind.wrap_i64]; omega
theorem beq_n (x y : Int) (h : x ≠ y) : (x == y) = false := by rw [beq_eq_false_iff_ne]; exact h

theorem wideRounds_any (a b c : Int) (ha : -9223372036854775808 ≤ a ∧ a ≤ 9223372036854775807) (hb : -9223372036854775808 ≤ b ∧ b ≤ 9223372036854775807) (hc : -9223372036854775808 ≤ c ∧ c ≤ 9223372036854775807) (w : World) :
    Calls Try.prog 6 #[.int .i64 a, .int .i64 b, .int .i64 c] w fun e w' => e = .returned (.bool true) ∧ Below w.heap.size w w' := by
  have hr := mul_range a b ha hb
  have C0 := MulDiv_any a b c 0 ha hb hc (by omega)
  have C1 := MulDiv_any a b c 1 ha hb hc (by omega)
  have C2 := MulDiv_any a b c 2 ha hb hc (by omega)
  have CN : ∀ nc mode : Int, -9223372036854775808 ≤ nc ∧ nc ≤ 9223372036854775807 → Ans 23 #[.int .i64 a, .int .i64 b, .int .i64 nc, .int .i64 mode] (.tuple #[.int .i64 (divV (a * b) nc mode), .int .i64 (divE (a * b) nc mode)]) :=
    fun nc mode h => MulDiv_any a b nc mode ha hb h (by omega)
  obtain ⟨z, hz⟩ : ∃ z, z = a * b := ⟨_, rfl⟩
  rw [← hz] at C0 C1 C2 CN
  by_cases hc0 : c = 0
  · have e0 : divE z c 0 = 1 := by unfold divE; rw [if_pos (Or.inl hc0)]
    rw [e0] at C0
    exact rounds_e a b c _ _ _ _ _ _ C0 C1 C2 (by decide) w
  obtain ⟨p1, p2, p3, p4, p5⟩ := rX_props z c hc0
  have D0 := divX z c 0 hc0 (by decide)
  have D1 := divX z c 1 hc0 (by decide)
  have D2 := divX z c 2 hc0 (by decide)
  have N1 := divX z (-c) 1 (by omega) (by decide)
  have N0 := divX z (-c) 0 (by omega) (by decide)
  rw [p4] at N1
  rw [p5] at N0
  obtain ⟨lo, hlo⟩ : ∃ x, x = rX z c 0 := ⟨_, rfl⟩
  obtain ⟨hi, hhi⟩ : ∃ x, x = rX z c 1 := ⟨_, rfl⟩
  obtain ⟨m, hm⟩ : ∃ x, x = rX z c 2 := ⟨_, rfl⟩
  rw [← hlo] at p1 p3 D0 N1
  rw [← hhi] at p2 p3 D1 N0
  rw [← hm] at p1 p2 D2
  clear p4 p5 hlo hhi hm hz hr
  by_cases h0 : -9223372036854775808 ≤ lo ∧ lo ≤ 9223372036854775807
  · obtain ⟨v0, e0⟩ := D0.1 h0
    rw [v0, e0] at C0
    by_cases h1 : -9223372036854775808 ≤ hi ∧ hi ≤ 9223372036854775807
    · obtain ⟨v1, e1⟩ := D1.1 h1
      have h2 : -9223372036854775808 ≤ m ∧ m ≤ 9223372036854775807 := by omega
      obtain ⟨v2, e2⟩ := D2.1 h2
      rw [v1, e1] at C1
      rw [v2, e2] at C2
      have C4 : Ans 18 #[.agg (numC (decide (lo < 0)) lo.natAbs).toArray, .agg (numC false 0).toArray] (.int .i64 (cmpS lo 0)) := by
        intro w
        have C := refCmp_any (decide (lo < 0)) false lo.natAbs 0 (by omega) (by omega) w
        rw [sgn_z] at C
        exact C
      refine rounds_ok a b c lo hi m C0 C1 C2 _ _ _ _ (of_any lo h0) C4 (decide_eq_false (by omega)) (decide_eq_false (by omega)) rfl (cmp_low lo) ?_ (-c) (-lo) (-hi) ?_ w
      · by_cases hd : hi = lo
        · left; rw [hd]; simp
        · right
          refine ⟨by rw [bne_iff_ne]; exact hd, ?_⟩
          rw [w_in _ (by omega)]; omega
      · by_cases g1 : c = -9223372036854775808
        · exact Or.inl g1
        · by_cases g2 : hi = -9223372036854775808
          · exact Or.inr (Or.inl g2)
          · by_cases g3 : lo = -9223372036854775808
            · exact Or.inr (Or.inr (Or.inl g3))
            · obtain ⟨nv1, ne1⟩ := N1.1 (by omega)
              obtain ⟨nv0, ne0⟩ := N0.1 (by omega)
              have X1 := CN (-c) 1 (by omega)
              have X0 := CN (-c) 0 (by omega)
              rw [nv1, ne1] at X1
              rw [nv0, ne0] at X0
              exact Or.inr (Or.inr (Or.inr ⟨beq_n _ _ g1, beq_n _ _ g2, beq_n _ _ g3, w_in _ (by omega), w_in _ (by omega), w_in _ (by omega), X1, X0⟩))
    · rw [D1.2 h1] at C1
      exact rounds_f a b c _ _ _ _ _ C0 C1 C2 (by decide) w
  · rw [D0.2 h0] at C0
    exact rounds_e a b c _ _ _ _ _ _ C0 C1 C2 (by decide) w
end Go.Proofs.Ytbiblinaolmkdaa
