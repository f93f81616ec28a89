/-
  GridChecks, GridBack, GridCuts: the walks put together.
-/
import Derived.Test.YtnfgogfbpggnfaaLaw14n
set_option linter.unusedVariables false
set_option linter.unusedSimpArgs false
namespace Go.Proofs.Ytnfgogfbpggnfaa
open Go Go.RowKit Go.Th Go.Th.Grid Go.Th.Wide

theorem checks_any (C0 : Ans 8 #[] (.bool true)) (x y X Y s W H X2 Y2 S2 : Int) (n cap : Nat) (a : Option Addr) (p : List Int) (hp : p.length = n) (w : World) (hS : Sl w 1 (.slice a n cap) n (i64s p)) :
    Calls Try.prog 3 #[gv x y X Y s (.slice a n cap), .int .i64 W, .int .i64 H, .int .i64 X2, .int .i64 Y2, .int .i64 S2] w fun e w' => e = .returned (.bool true) ∧ Below w.heap.size w w' := by
  have hmy := hS.max
  by_cases hk : (5000 : Int) < (n : Int)
  · exact checks_big C0 x y X Y s W H X2 Y2 S2 n cap a hk (by omega) w
  have hn : n ≤ 5000 := by omega
  have hE : ∃ (ew eh eX eY eS ce : Int) (m : Nat) (E : List Int), E.length = m ∧ m ≤ 5000 ∧ (ce = 0 → chk ew eh eS E = 0) ∧
      (∀ w, Calls Try.prog 11 #[.int .i64 W, .int .i64 H, .int .i64 X2, .int .i64 Y2, .int .i64 S2] w (GSaid ew eh eX eY eS m E ce w)) ∧
      (∀ w, Calls Try.prog 12 #[.int .i64 W, .int .i64 H, .int .i64 X2, .int .i64 Y2, .int .i64 S2] w (GSaid ew eh eX eY eS m E ce w)) := by
    cases hs : sidesG W H S2
    · exact ⟨0, 0, 0, 0, 0, 2, 0, [], rfl, by omega, fun h => absurd h (by decide), fun w => (even_no W H X2 Y2 S2 hs w).mono fun _ _ h => h.said, fun w => (reven_no W H X2 Y2 S2 hs w).mono fun _ _ h => h.said⟩
    · obtain ⟨q1, q2, q3⟩ := sidesG_iff.1 hs
      obtain ⟨i, rfl⟩ := Int.eq_ofNat_of_zero_le (by omega : 0 ≤ W)
      obtain ⟨j, rfl⟩ := Int.eq_ofNat_of_zero_le (by omega : 0 ≤ H)
      have hle : i * j ≤ 64 * 64 := Nat.mul_le_mul (by omega) (by omega)
      exact ⟨i, j, X2, Y2, S2, 0, i * j, even (i * j), tab_length _ _, by omega, fun _ => chk_even hs rfl, fun w => (even_yes i j _ X2 Y2 S2 hs rfl w).mono fun _ _ h => h.said, fun w => (reven_yes i j _ X2 Y2 S2 hs rfl w).mono fun _ _ h => h.said⟩
  obtain ⟨ew, eh, eX, eY, eS, ce, m, E, hEl, hm, hEc, E1, E2⟩ := hE
  have hN : chk x y s p = 0 → (∀ u ∈ p, 0 ≤ u ∧ u ≤ 1073741824) ∧ sm p ≤ 1073741824 ∧ chk x y s (norm p) = 0 := by
    intro h
    obtain ⟨h1, h2, h3, h4, h5⟩ := chk_ok h
    exact ⟨h3, h5, chk_norm h1 h2 (fun u hu => (h3 u hu).1) (by rw [hp] at h4; omega)⟩
  exact checks_go x y X Y s W H X2 Y2 S2 ew eh eX eY eS (chk x y s p) ce (normC p) n m cap a p E (norm p) hk hm
    (fun w hS => gcheck_any x y X Y s a n cap p hp (by omega) w hS) (fun w hS => rcheck_any x y X Y s a n cap p hp (by omega) w hS) E1 E2
    (fun a ca b cb w h1 h2 => rsame_any ew eh eX eY eS a b m ca cb E hEl (by omega) w h1 h2)
    (fun h a cap w hS => by have := gcheck_any ew eh eX eY eS a m cap E hEl (by omega) w hS; rw [hEc h] at this; exact this)
    (fun h w hS => (gnorm_any x y X Y s a n cap p hp (by omega) (fun u hu => ((hN h).1 u hu).1) (by have := (hN h).2.1; omega) w hS).mono fun _ _ h => h.said)
    (fun h w hS => rnorm_any x y X Y s a n cap p hp (by omega) (hN h).1 w hS)
    (fun a ca b cb w h1 h2 => rsame_any x y X Y s a b n ca cb (norm p) (by rw [norm_length, hp]) (by omega) w h1 h2)
    (fun h a cap w hS => by have := gcheck_any x y X Y s a n cap (norm p) (by rw [norm_length, hp]) (by omega) w hS; rw [(hN h).2.2] at this; exact this) C0 w hS

theorem tab_rng {f : Nat → Int} {M : Int} (n : Nat) (h : ∀ i, i < n → 0 ≤ f i ∧ f i ≤ M) : ∀ u ∈ tab f n, 0 ≤ u ∧ u ≤ M := tab_mem n h
theorem split_rng {G : List Int} {x y n S m : Nat} (R : Right G x y n S) (hn : n = x * y) (hm : m = 2 * y * (2 * x)) : ∀ u ∈ tab (splitAt4 G x) m, 0 ≤ u ∧ u ≤ 1073741824 := by
  refine tab_rng m (fun i hi => ?_)
  rw [hm] at hi
  have h1 := row_lt hi
  have h2 := col_lt hi
  have h3 := getD_mem (P := fun u => 0 ≤ u ∧ u ≤ 1073741824) R.rng (by rw [R.len, hn, Nat.mul_comm x y]; exact at_lt (by omega) (by omega) : i / (2 * x) / 2 * x + i % (2 * x) / 2 < G.length)
  unfold splitAt4
  omega

theorem back_any (C0 : Ans 8 #[] (.bool true)) (p q st k capl : Nat) (al : Option Addr) (z : List Int) (hp : p < 256) (hq : q < 256) (hst : st < 256) (hz : z.length = k) (hz0 : ∀ u ∈ z, 0 ≤ u ∧ u ≤ 65535) (w : World) (hT : Sl w 1 (.slice al k capl) k (u16s z)) :
    Calls Try.prog 7 #[.int .u8 p, .int .u8 q, .slice al k capl, .int .u8 st] w fun e w' => e = .returned (.bool true) ∧ Below w.heap.size w w' := by
  have hmy := hT.max
  by_cases hk : (100 : Int) < (k : Int)
  · exact back_big C0 p q st k capl al hk (by omega) w
  obtain ⟨x, hx⟩ : ∃ x, x = 1 + p % 8 := ⟨_, rfl⟩
  obtain ⟨y, hy⟩ : ∃ y, y = 1 + q % 8 := ⟨_, rfl⟩
  obtain ⟨n, hn⟩ : ∃ n, n = x * y := ⟨_, rfl⟩
  have hx8 : 1 ≤ x ∧ x ≤ 8 := by omega
  have hy8 : 1 ≤ y ∧ y ≤ 8 := by omega
  have hle : x * y ≤ 8 * 8 := Nat.mul_le_mul (by omega) (by omega)
  have hyx : n = y * x := by rw [hn, Nat.mul_comm]
  obtain ⟨hs1, hs4, _⟩ := stepN_rng st
  obtain ⟨S, hSS⟩ : ∃ S, S = stepN st := ⟨_, rfl⟩
  rw [← hSS] at hs1 hs4
  have R := right_made hz0 hx8 hy8 hn hs1
  have CM := fun w hT => made14_any p q st x y n S k capl al z hp hq hst hx hy hn hSS hz (by omega) hz0 w hT
  obtain ⟨G, hG⟩ : ∃ G, G = norm (madeL z n) := ⟨_, rfl⟩
  rw [← hG] at CM R
  by_cases h32 : S < 32
  · exact back_no p q st x y S n k capl al z G hk CM (by omega) (fun a cap w hS => (split14_no x y S 1000 (-1000) a n cap G R.len (by omega) (by omega) (by omega) h32 w hS).mono fun _ _ h => h.said) C0 w hT
  obtain ⟨d, hd⟩ : ∃ d, d = S / 4 := ⟨_, rfl⟩
  rw [← hd] at hs4
  have hAr := split_rng (m := 2 * y * (2 * x)) R hn rfl
  obtain ⟨A, hA⟩ : ∃ A, A = tab (splitAt4 G x) (2 * y * (2 * x)) := ⟨_, rfl⟩
  rw [← hA] at hAr
  have hAl : A.length = 2 * y * (2 * x) := by rw [hA, tab_length]
  have hm : 2 * y * (2 * x) ≤ 16 * 16 := Nat.mul_le_mul (by omega) (by omega)
  have hAs := sm_rng hAr
  rw [hAl] at hAs
  obtain ⟨B, hB⟩ : ∃ B, B = tab (joinAt A (2 * x)) n := ⟨_, rfl⟩
  have hBl : B.length = n := by rw [hB, tab_length]
  have hBs : sm B = sm A := by rw [hB, hyx]; exact joined_sum A x y hAl
  have hBv : ∀ i, i < n → B.getD i 0 = 4 * (G.getD i 0 / 4) := fun i hi => by rw [hB, tab_getD _ _ hi, hA]; exact back_at G (by rw [← hyx]; exact hi)
  have T2 := sums_of hBl (fun u hu => by
    obtain ⟨i, hi, rfl⟩ := List.mem_iff_getElem.1 hu
    rw [← getD_at B i hi, hBv i (by rw [← hBl]; exact hi)]
    have := getD_mem (P := fun u => 0 ≤ u ∧ u ≤ 1073741824) R.rng (by rw [R.len, ← hBl]; exact hi : i < G.length)
    omega) (by rw [hBs]; omega)
  rw [hBs] at T2
  have hB2 : B = tab (joinAt A ((2 * x : Nat))) n := hB
  have hsd2 : sdG ((2 * x : Nat) : Int) ((2 * y : Nat) : Int) = true := sdG_of ⟨⟨by omega, by omega⟩, by omega, by omega⟩
  exact back_yes p q st x y S n (2 * y * (2 * x)) k capl al z G hk CM ((2 * x : Nat) : Int) ((2 * y : Nat) : Int) (1000 - (d : Int)) (-1000 - (d : Int)) ((2 * d : Nat) : Int) (sm A) A B (by omega) R.len hBl
    (fun i hi => ⟨_, _, _, rfl, hBv i hi, rfl, by omega, by omega⟩)
    (fun a cap w hS => by rw [hA]; exact (split14_yes x y (2 * x) (2 * y) (2 * y * (2 * x)) d (2 * d) S 1000 (-1000) _ _ a n cap G R.len hn R.sd (by omega) (by omega) R.rng hs4 (by omega) rfl (by omega) (by omega) rfl rfl rfl rfl rfl w hS).mono fun _ _ h => h.said)
    (fun a cap w hS => by rw [hB]; exact (join14_yes (2 * x) (2 * y) x y n d S (2 * d) _ _ 1000 (-1000) a (2 * y * (2 * x)) cap A hAl (by rw [Nat.mul_comm]) hsd2 hAr rfl rfl rfl (by omega) hs4 (by omega) (by omega) hyx (by omega) (by omega) w hS).mono fun _ _ h => h.said)
    (sums_of hAl (fun u hu => (hAr u hu).1) (by omega)) T2 C0 w hT

/-- What a call answers with a grid, the code's and the reference's alike. -/
def Both (x y S n : Nat) (G : List Int) (f g : Nat) (ar : Array Value) : Prop :=
  ∃ (d1 d2 d3 d4 d5 c : Int) (m : Nat) (L : List Int), L.length = m ∧ m ≤ 5000 ∧
    (∀ a cap w, Sl w 1 (.slice a n cap) n (i64s G) → Calls Try.prog f (#[gv x y 1000 (-1000) S (.slice a n cap)] ++ ar) w (GSaid d1 d2 d3 d4 d5 m L c w)) ∧
    (∀ a cap w, Sl w 1 (.slice a n cap) n (i64s G) → Calls Try.prog g (#[gv x y 1000 (-1000) S (.slice a n cap)] ++ ar) w (GSaid d1 d2 d3 d4 d5 m L c w))
theorem cut_both {G : List Int} {x y n S : Nat} (R : Right G x y n S) (hn : n = x * y) (hn64 : n ≤ 64) (hS : S ≤ 4096) (cx cy cw ch : Int) :
    Both x y S n G 25 26 #[.int .i64 cx, .int .i64 cy, .int .i64 cw, .int .i64 ch] := by
  cases hc : (sdG cw ch && (inR cx (-64) 64 && inR cy (-64) 64))
  · exact ⟨_, _, _, _, _, _, n, G, R.len, by omega, fun a cap w hS => (cut14_no _ _ _ _ _ cx cy cw ch a n cap G R.len (by omega) hc w hS).mono fun _ _ h => h.said, fun a cap w hS => rcut_no _ _ _ _ _ cx cy cw ch a n cap G hc w hS⟩
  · rw [Bool.and_eq_true, Bool.and_eq_true] at hc
    obtain ⟨h1, h2, h3⟩ := hc
    obtain ⟨⟨q1, q2⟩, q3, q4⟩ := sdG_t h1
    obtain ⟨i, rfl⟩ := Int.eq_ofNat_of_zero_le (by omega : 0 ≤ cw)
    obtain ⟨j, rfl⟩ := Int.eq_ofNat_of_zero_le (by omega : 0 ≤ ch)
    have hle : j * i ≤ 64 * 64 := Nat.mul_le_mul (by omega) (by omega)
    exact ⟨i, j, 1000 + cx * S, -1000 + cy * S, S, 0, j * i, _, tab_length _ _, by omega, fun a cap w hS' => (cut14_yes x y i j (j * i) 1000 (-1000) S cx cy _ _ _ _ a n cap G R.len hn R.sd h1 h2 h3 (by omega) (by omega) (by omega) rfl rfl rfl rfl rfl w hS').mono fun _ _ h => h.said,
      fun a cap w hS' => rcut_yes x y i j (j * i) S 1000 (-1000) cx cy _ _ _ _ a n cap G R.len hn R.sd h1 h2 h3 hS (by omega) (by omega) rfl rfl rfl rfl rfl w hS'⟩
theorem split_both {G : List Int} {x y n S : Nat} (R : Right G x y n S) (hn : n = x * y) (hx : 1 ≤ x ∧ x ≤ 8) (hy : 1 ≤ y ∧ y ≤ 8) (hS : 16 ≤ S ∧ S ≤ 4096) (hs4 : S = 4 * (S / 4)) :
    Both x y S n G 27 28 #[] := by
  have hle : x * y ≤ 8 * 8 := Nat.mul_le_mul (by omega) (by omega)
  by_cases h32 : S < 32
  · exact ⟨_, _, _, _, _, _, n, G, R.len, by omega, fun a cap w hS => (split14_no x y S 1000 (-1000) a n cap G R.len (by omega) (by omega) (by omega) h32 w hS).mono fun _ _ h => h.said, fun a cap w hS => rsplit_no x y S 1000 (-1000) a n cap G (by omega) (by omega) h32 w hS⟩
  obtain ⟨d, hd⟩ : ∃ d, d = S / 4 := ⟨_, rfl⟩
  rw [← hd] at hs4
  have hm : 2 * y * (2 * x) ≤ 16 * 16 := Nat.mul_le_mul (by omega) (by omega)
  exact ⟨((2 * x : Nat) : Int), ((2 * y : Nat) : Int), 1000 - (d : Int), -1000 - (d : Int), ((2 * d : Nat) : Int), 0, 2 * y * (2 * x), _, tab_length _ _, by omega,
    fun a cap w hS => (split14_yes x y (2 * x) (2 * y) (2 * y * (2 * x)) d (2 * d) S 1000 (-1000) _ _ a n cap G R.len hn R.sd (by omega) (by omega) R.rng hs4 (by omega) rfl (by omega) (by omega) rfl rfl rfl rfl rfl w hS).mono fun _ _ h => h.said,
    fun a cap w hS => rsplit_yes x y (2 * x) (2 * y) (2 * y * (2 * x)) d (2 * d) S 1000 (-1000) _ _ a n cap G R.len hn R.sd (by omega) (by omega) R.rng hs4 (by omega) rfl (by omega) (by omega) rfl rfl rfl rfl rfl w hS⟩
theorem join_both {G : List Int} {x y n S : Nat} (R : Right G x y n S) (hn : n = x * y) (hx : 1 ≤ x ∧ x ≤ 8) (hy : 1 ≤ y ∧ y ≤ 8) (hS : 16 ≤ S ∧ S ≤ 4096) (hs2 : S = 2 * (S / 2)) :
    Both x y S n G 29 30 #[] := by
  have hle : x * y ≤ 8 * 8 := Nat.mul_le_mul (by omega) (by omega)
  by_cases h1 : x % 2 = 1
  · exact ⟨_, _, _, _, _, _, n, G, R.len, by omega, fun a cap w hS => (join14_odd x y S 1000 (-1000) a n cap G R.len (by omega) (by omega) h1 w hS).mono fun _ _ h => h.said, fun a cap w hS => rjoin_odd x y S 1000 (-1000) a n cap G (by omega) h1 w hS⟩
  by_cases h2 : y % 2 = 1
  · exact ⟨_, _, _, _, _, _, n, G, R.len, by omega, fun a cap w hS => (join14_odd2 x y S 1000 (-1000) a n cap G R.len (by omega) (by omega) (by omega) (by omega) h2 w hS).mono fun _ _ h => h.said, fun a cap w hS => rjoin_odd2 x y S 1000 (-1000) a n cap G (by omega) (by omega) (by omega) h2 w hS⟩
  by_cases h3 : 2048 < S
  · exact ⟨_, _, _, _, _, _, n, G, R.len, by omega, fun a cap w hS => (join14_far x y S 1000 (-1000) a n cap G R.len (by omega) (by omega) (by omega) (by omega) (by omega) h3 w hS).mono fun _ _ h => h.said, fun a cap w hS => rjoin_far x y S 1000 (-1000) a n cap G (by omega) (by omega) (by omega) (by omega) h3 w hS⟩
  obtain ⟨d, hd⟩ : ∃ d, d = S / 2 := ⟨_, rfl⟩
  rw [← hd] at hs2
  obtain ⟨u, hu⟩ : ∃ u, u = x / 2 := ⟨_, rfl⟩
  obtain ⟨v, hv⟩ : ∃ v, v = y / 2 := ⟨_, rfl⟩
  have hm : v * u ≤ 8 * 8 := Nat.mul_le_mul (by omega) (by omega)
  exact ⟨(u : Int), (v : Int), 1000 + (d : Int), -1000 + (d : Int), ((4 * d : Nat) : Int), 0, v * u, _, tab_length _ _, by omega,
    fun a cap w hS => (join14_yes x y u v (v * u) d (4 * d) S 1000 (-1000) _ _ a n cap G R.len hn R.sd R.rng (by omega) (by omega) hs2 (by omega) rfl (by omega) (by omega) rfl rfl rfl w hS).mono fun _ _ h => h.said,
    fun a cap w hS => rjoin_yes x y u v (v * u) d (4 * d) S 1000 (-1000) _ _ a n cap G R.len hn R.sd R.rng (by omega) (by omega) hs2 (by omega) rfl (by omega) (by omega) rfl rfl rfl w hS⟩

theorem cuts_any (C0 : Ans 8 #[] (.bool true)) (p q st k capl : Nat) (al : Option Addr) (z : List Int) (cx cy cw ch i : Int) (hp : p < 256) (hq : q < 256) (hst : st < 256) (hz : z.length = k) (hz0 : ∀ u ∈ z, 0 ≤ u ∧ u ≤ 65535) (w : World) (hT : Sl w 1 (.slice al k capl) k (u16s z)) :
    Calls Try.prog 6 #[.int .u8 p, .int .u8 q, .slice al k capl, .int .u8 st, .int .i64 cx, .int .i64 cy, .int .i64 cw, .int .i64 ch, .int .i64 i] w fun e w' => e = .returned (.bool true) ∧ Below w.heap.size w w' := by
  have hmy := hT.max
  by_cases hk : (100 : Int) < (k : Int)
  · exact cuts_big C0 p q st k capl al cx cy cw ch i hk (by omega) w
  obtain ⟨x, hx⟩ : ∃ x, x = 1 + p % 8 := ⟨_, rfl⟩
  obtain ⟨y, hy⟩ : ∃ y, y = 1 + q % 8 := ⟨_, rfl⟩
  obtain ⟨n, hn⟩ : ∃ n, n = x * y := ⟨_, rfl⟩
  have hx8 : 1 ≤ x ∧ x ≤ 8 := by omega
  have hy8 : 1 ≤ y ∧ y ≤ 8 := by omega
  have hle : x * y ≤ 8 * 8 := Nat.mul_le_mul (by omega) (by omega)
  obtain ⟨hs1, hs4, hs2⟩ := stepN_rng st
  obtain ⟨S, hSS⟩ : ∃ S, S = stepN st := ⟨_, rfl⟩
  rw [← hSS] at hs1 hs4 hs2
  have R := right_made hz0 hx8 hy8 hn hs1
  have CM := fun w hT => made14_any p q st x y n S k capl al z hp hq hst hx hy hn hSS hz (by omega) hz0 w hT
  obtain ⟨G, hG⟩ : ∃ G, G = norm (madeL z n) := ⟨_, rfl⟩
  rw [← hG] at CM R
  obtain ⟨d1, d2, d3, d4, d5, c1, m1, L1, hL1, hm1, K1, K2⟩ := cut_both R hn (by omega) hs1.2 cx cy cw ch
  obtain ⟨e1, e2, e3, e4, e5, c2, m2, L2, hL2, hm2, K3, K4⟩ := split_both R hn hx8 hy8 hs1 hs4
  obtain ⟨f1, f2, f3, f4, f5, c3, m3, L3, hL3, hm3, K5, K6⟩ := join_both R hn hx8 hy8 hs1 hs2
  have S1 := fun a ca b cb w h1 h2 => rsame_any d1 d2 d3 d4 d5 a b m1 ca cb L1 hL1 (by omega) w h1 h2
  have S2 := fun a ca b cb w h1 h2 => rsame_any e1 e2 e3 e4 e5 a b m2 ca cb L2 hL2 (by omega) w h1 h2
  have S3 := fun a ca b cb w h1 h2 => rsame_any f1 f2 f3 f4 f5 a b m3 ca cb L3 hL3 (by omega) w h1 h2
  cases hb : inR i 0 ((n : Int) - 1)
  · have hno : ¬ (0 ≤ i ∧ i ≤ (n : Int) - 1) := by unfold inR at hb; exact of_decide_eq_false hb
    exact cuts_out p q st x y S n m1 m2 m3 k capl al z G L1 L2 L3 cx cy cw ch i d1 d2 d3 d4 d5 e1 e2 e3 e4 e5 f1 f2 f3 f4 f5 c1 c2 c3 0 0 hk (by omega) hx8.1 hx8.2 hs1.2 CM K1 K2 K3 K4 K5 K6 S1 S2 S3
      (fun a cap => at_any x y S 1000 (-1000) i 0 0 false a n cap hn R.sd hs1.2 (by omega) (by omega) hb (fun _ => ⟨rfl, rfl⟩) (fun h => by cases h)) (by omega) C0 w hT
  · have hyes := inR_t hb
    exact cuts_in p q st x y S n m1 m2 m3 k capl al z G L1 L2 L3 cx cy cw ch i d1 d2 d3 d4 d5 e1 e2 e3 e4 e5 f1 f2 f3 f4 f5 c1 c2 c3 _ _ hk (by omega) hx8.1 hx8.2 hs1.2 CM K1 K2 K3 K4 K5 K6 S1 S2 S3
      (fun a cap => at_any x y S 1000 (-1000) i _ _ true a n cap hn R.sd hs1.2 (by omega) (by omega) hb (fun h => by cases h) (fun _ => ⟨rfl, rfl⟩)) (by omega) rfl rfl C0 w hT
end Go.Proofs.Ytnfgogfbpggnfaa
