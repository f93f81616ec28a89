/-
  An act on grid, filter and book: cut, split, joined; what it answers.
-/
import Derived.Test.YtallbegibdlpaaaGreatPlayG
set_option linter.unusedVariables false
set_option linter.unusedSimpArgs false
namespace Go.Proofs.YtallbegibdlpaaaGreat
open Go Go.RowKit Go.Th Go.Th.Dig Go.Th.Ex Go.Th.Grid Go.Th.Wide Go.Th.Up Go.Th.Led

section
variable (o : OpV) (j x y n : Nat) (X Y S B St : Int) (p : List Int) (us : List Nat) (aG aF : Option Addr) (cG cF : Nat) (H : PlayOk j x y n X Y S B St p us) (w : World) (ho : OpOk w o)
  (hS : Sl w 1 (.slice aG n cG) n (i64s p)) (hV : IsV w aF n cF us) (hj : j ≤ 7)
include H ho hS hV hj
theorem doCut18 (h : o.k % 5 = 2) : Calls Tryz.prog 8 #[pv x y X Y S (.slice aG n cG) x y (.slice aF n cF) B St, opv o] w (DoR j x y n X Y S B St aG aF cG cF w) := by
  have C0 := sum_of18 j x y n X Y S B St p us aG cG H w hS
  have hR := led_rng H.led
  have hx8 := H.x8
  have hy8 := H.y8
  have hn64 := H.n64
  have hpl := H.led.pl
  have hB0 := H.led.b0
  have hB1 := H.B1
  have hSt := H.St
  have hhi := H.led.hi
  have hlo := H.led.lo
  have hX := H.X
  have hY := H.Y
  have oX := ho.X
  have oY := ho.Y
  have hk : o.k.tmod 5 = 2 := by rw [Int.tmod_eq_emod_of_nonneg ho.k.1]; exact h
  have hcx : IntKind.i64.wrap o.X = o.X := by rw [IntKind.wrap_i64]; omega
  have hcy : IntKind.i64.wrap o.Y = o.Y := by rw [IntKind.wrap_i64]; omega
  have s1 := side17_rng ho.W.1
  have s2 := side17_rng ho.H.1
  have CS : ∀ wx, Below w.heap.size w wx → Calls Tryz.prog 29 #[opv o] wx fun e w' => e = .returned (.tuple #[.int .i64 (side17 o.W : Nat), .int .i64 (side17 o.H : Nat)]) ∧ Below wx.heap.size wx w' := fun wx _ => sides17_any o ho.W ho.H wx
  obtain ⟨cw, hcw⟩ : ∃ cw, cw = side17 o.W := ⟨_, rfl⟩
  obtain ⟨ch, hch⟩ : ∃ ch, ch = side17 o.H := ⟨_, rfl⟩
  rw [← hcw] at s1 CS
  rw [← hch] at s2 CS
  have hsd : sdG x y = true := sdG_of ⟨⟨by omega, by omega⟩, by omega, by omega⟩
  have hcd : sdG cw ch = true := sdG_of ⟨⟨by omega, by omega⟩, by omega, by omega⟩
  have hyx : n = y * x := by rw [H.hn, Nat.mul_comm]
  obtain ⟨e, he8, hSe⟩ := H.S
  have hse := step_rng18 he8
  by_cases hin : (inR o.X (-64) 64 && inR o.Y (-64) 64) = true
  · rw [Bool.and_eq_true] at hin
    have i1 := inR_t hin.1
    have i2 := inR_t hin.2
    have q1 := prod_rng18 (c := o.X) (S := S) ⟨by omega, by omega⟩ ⟨by omega, by omega⟩
    have q2 := prod_rng18 (c := o.Y) (S := S) ⟨by omega, by omega⟩ ⟨by omega, by omega⟩
    obtain ⟨m, hm⟩ : ∃ m, m = ch * cw := ⟨_, rfl⟩
    have hm1 := Nat.mul_le_mul s2.2 s1.2
    have hm2 := Nat.mul_le_mul s2.1 s1.1
    rw [← hm] at hm1 hm2
    have CG : ∀ wx, Below w.heap.size w wx → GOwn 30 #[gv x y X Y S (.slice aG n cG), .int .i64 o.X, .int .i64 o.Y, .int .i64 cw, .int .i64 ch] cw ch (X + o.X * S) (Y + o.Y * S) S m (tab (cutAt p x y o.X o.Y cw) m) 0 wx := fun wx hx =>
      cut14_yes x y cw ch m X Y S o.X o.Y _ _ _ _ aG n cG p hpl H.hn hsd hcd hin.1 hin.2 ⟨by omega, by omega⟩ ⟨by omega, by omega⟩ ⟨by omega, by omega⟩ hm rfl rfl rfl rfl wx (hS.below hx)
    have hr1 : ∀ u ∈ tab (cutAt p x y o.X o.Y cw) m, 0 ≤ u ∧ u ≤ 1073741824 := tab_mem m fun i _ => bel_rng (M := 1073741824) (by rw [hpl, hyx]) (by omega) hR _ _
    have hl1 : (tab (cutAt p x y o.X o.Y cw) m).length = m := tab_length _ _
    have hks := sm_rng hr1
    rw [hl1] at hks
    have CF : ∀ wx, Below w.heap.size w wx → LAns18 31 #[fv x y (.slice aF n cF), .int .i64 o.X, .int .i64 o.Y, .int .i64 cw, .int .i64 ch] cw ch m (cutU us x y o.X o.Y cw ch) wx := fun wx hx => ResX.ans (cut_any17 x y cw ch n o.X o.Y aF cF us H.hn (by omega) (by omega) (by omega) (by omega) (by omega) (by omega) wx (hV.below hx)) (by rw [cutU_length, hm])
    obtain ⟨kept, hkp⟩ := Int.eq_ofNat_of_zero_le hks.1
    obtain ⟨b, hb⟩ := Int.eq_ofNat_of_zero_le hB0
    obtain ⟨sp, hsp⟩ := Int.eq_ofNat_of_zero_le (show 0 ≤ sm p by omega)
    obtain ⟨t, ht⟩ := Int.eq_ofNat_of_zero_le hSt.1
    have CK : ∀ wx, Below w.heap.size w wx → KAns 18 #[bk B St, .int .i64 m, .int .i64 (sm p), .int .i64 (sm (tab (cutAt p x y o.X o.Y cw) m))] (Led.plus (upD (b * 1 * sp) kept : Int) (costN m : Int)) (St + 1) wx := fun wx hx => by
      rw [hb, hkp, hsp, ht]
      exact Cut18 b sp t m kept _ (by omega) (by omega) (by omega) (by omega) (by omega) (plus_min _ _) wx
    have C1 : ∀ wx a c, Sl wx 1 (.slice a m c) m (i64s (tab (cutAt p x y o.X o.Y cw) m)) → Calls Tryz.prog 20 #[.slice a m c] wx fun e w' => e = .returned (.int .i64 (sm (tab (cutAt p x y o.X o.Y cw) m))) ∧ wx = w' := fun wx a c hs => sums18 hl1 (fun u hu => (hr1 u hu).1) (by omega) a c wx hs
    by_cases h0 : sm (tab (cutAt p x y o.X o.Y cw) m) = 0
    · have hc : normC (tab (cutAt p x y o.X o.Y cw) m) = 7 := by unfold normC; rw [if_pos h0]
      refine (do18_cut_no x y X Y S B St o.k o.q o.X o.Y o.W o.H (sm p) aG aF o.a n cG cF o.n o.c p us cw ch _ _ S cw ch m _ hcx hcy _ _ _ _ hk w hS hV C0 CS CG C1 (fun wx a c hs => norm18 hl1 (by omega) (fun u hu => ⟨(hr1 u hu).1, by have := (hr1 u hu).2; omega⟩) hc wx a c hs) CF CK).mono ?_
      exact fun _ _ r => .inl r
    · have hc : normC (tab (cutAt p x y o.X o.Y cw) m) = 0 := by unfold normC; rw [if_neg h0]
      refine (do18_cut x y X Y S B St o.k o.q o.X o.Y o.W o.H (sm p) aG aF o.a n cG cF o.n o.c p us cw ch _ _ S cw ch m _ hcx hcy _ _ _ _ hk w hS hV C0 CS CG C1 (fun wx a c hs => norm18 hl1 (by omega) (fun u hu => ⟨(hr1 u hu).1, by have := (hr1 u hu).2; omega⟩) hc wx a c hs) CF CK).mono ?_
      rintro e w' ⟨a1, c1, a2, c2, he, h1, h2, hB⟩
      have hup := upD_le (b * 1 * sp) kept
      have hcn : 0 ≤ (costN m : Int) := by omega
      have hbb : (upD (b * 1 * sp) kept : Int) = Led.One ∨ sm p * B ≤ (upD (b * 1 * sp) kept : Int) * sm (tab (cutAt p x y o.X o.Y cw) m) := by
        rcases up_enough (p := b * 1 * sp) (q := kept) (by omega) with hu | hu
        · left
          rw [hu]
          rfl
        · right
          rw [hsp, hb, hkp, ← Int.natCast_mul, show sp * b = b * 1 * sp by rw [Nat.mul_one, Nat.mul_comm], ← Int.natCast_mul]
          exact Int.ofNat_le.2 hu
      refine .inr ⟨cw, ch, m, _, _, S, _, St + 1, _, _, a1, a2, c1, c2, he, ?_, h1, h2, hB⟩
      exact ⟨by rw [hm, Nat.mul_comm], s1, s2, H.led.cut hyx hm (by omega) (by omega) (by omega) hbb (cost_ok (by omega)), (lt_cut H.lt x y o.X o.Y cw ch).mono (by omega), by omega, by omega, H.S, (plus_ok (show 0 ≤ (upD (b * 1 * sp) kept : Int) by omega) hcn).2.1, by omega⟩
  · have hno : (sdG cw ch && (inR o.X (-64) 64 && inR o.Y (-64) 64)) = false := by
      rw [Bool.not_eq_true] at hin
      rw [hin, Bool.and_false]
    have CG : ∀ wx, Below w.heap.size w wx → GOwn 30 #[gv x y X Y S (.slice aG n cG), .int .i64 o.X, .int .i64 o.Y, .int .i64 cw, .int .i64 ch] x y X Y S n p 2 wx := fun wx hx =>
      cut14_no x y X Y S o.X o.Y cw ch aG n cG p hpl (by omega) hno wx (hS.below hx)
    refine (do18_cut_early x y X Y S B St o.k o.q o.X o.Y o.W o.H (sm p) aG aF o.a n cG cF o.n o.c p us x y X Y S cw ch n _ hcx hcy 2 rfl rfl hk w hS hV C0 CS CG).mono ?_
    exact fun _ _ r => .inl r
theorem doSplit18 (h : o.k % 5 = 3) : Calls Tryz.prog 8 #[pv x y X Y S (.slice aG n cG) x y (.slice aF n cF) B St, opv o] w (DoR j x y n X Y S B St aG aF cG cF w) := by
  have C0 := sum_of18 j x y n X Y S B St p us aG cG H w hS
  have hR := led_rng H.led
  have hx8 := H.x8
  have hy8 := H.y8
  have hn64 := H.n64
  have hpl := H.led.pl
  have hB0 := H.led.b0
  have hB1 := H.B1
  have hSt := H.St
  have hX := H.X
  have hY := H.Y
  have hk : o.k.tmod 5 = 3 := by rw [Int.tmod_eq_emod_of_nonneg ho.k.1]; exact h
  have hsd : sdG x y = true := sdG_of ⟨⟨by omega, by omega⟩, by omega, by omega⟩
  have hyx : n = y * x := by rw [H.hn, Nat.mul_comm]
  by_cases hx4 : 4 < x
  · exact (do18_split_w x y X Y S B St o.k o.q o.X o.Y o.W o.H (sm p) aG aF o.a n cG cF o.n o.c p us hk w hS hV C0 (decide_eq_true (by omega))).mono fun _ _ r => .inl r
  have dx4 : decide ((4 : Int) < (x : Int)) = false := decide_eq_false (by omega)
  by_cases hy4 : 4 < y
  · exact (do18_split_h x y X Y S B St o.k o.q o.X o.Y o.W o.H (sm p) aG aF o.a n cG cF o.n o.c p us hk w hS hV C0 dx4 (decide_eq_true (by omega))).mono fun _ _ r => .inl r
  have dy4 : decide ((4 : Int) < (y : Int)) = false := decide_eq_false (by omega)
  obtain ⟨e, he8, hSe⟩ := H.S
  have hse := step_rng18 he8
  by_cases he0 : e = 0
  · subst he0
    have CG : ∀ wx, Below w.heap.size w wx → GOwn 32 #[gv x y X Y S (.slice aG n cG)] x y X Y S n p 12 wx := fun wx hx => by
      rw [hSe]
      exact split14_no x y (16 * 2 ^ 0) X Y aG n cG p hpl (by omega) (by omega) (by omega) (by decide) wx (hS.below hx)
    exact (do18_split_early x y X Y S B St o.k o.q o.X o.Y o.W o.H (sm p) aG aF o.a n cG cF o.n o.c p us x y X Y S n _ 12 rfl rfl hk w hS hV C0 CG dx4 dy4).mono fun _ _ r => .inl r
  · obtain ⟨f, rfl⟩ : ∃ f, e = f + 1 := ⟨e - 1, by omega⟩
    obtain ⟨m, hm⟩ : ∃ m, m = 2 * y * (2 * x) := ⟨_, rfl⟩
    have hm1 := Nat.mul_le_mul (show 2 * y ≤ 8 by omega) (show 2 * x ≤ 8 by omega)
    have hm2 := Nat.mul_le_mul (show 1 ≤ 2 * y by omega) (show 1 ≤ 2 * x by omega)
    rw [← hm] at hm1 hm2
    have hf := step_rng18 (e := f) (by omega)
    have h2f : 16 * 2 ^ (f + 1) = 4 * (8 * 2 ^ f) := by rw [Nat.pow_succ]; omega
    have CG : ∀ wx, Below w.heap.size w wx → GOwn 32 #[gv x y X Y S (.slice aG n cG)] (2 * x : Nat) (2 * y : Nat) (X - ((8 * 2 ^ f : Nat) : Int)) (Y - ((8 * 2 ^ f : Nat) : Int)) ((16 * 2 ^ f : Nat) : Int) m (tab (splitAt4 p x) m) 0 wx := fun wx hx => by
      rw [hSe]
      exact split14_yes x y (2 * x) (2 * y) m (8 * 2 ^ f) (16 * 2 ^ f) (16 * 2 ^ (f + 1)) X Y _ _ aG n cG p hpl H.hn hsd (by omega) (by omega) hR h2f ⟨by omega, by omega⟩ (by omega) ⟨by omega, by omega⟩ ⟨by omega, by omega⟩ rfl rfl hm rfl rfl wx (hS.below hx)
    have hr1 : ∀ u ∈ tab (splitAt4 p x) m, 0 ≤ u ∧ u ≤ 1073741824 := tab_mem m fun i _ => by
      have hg := getD_rng hR (by omega) (i / (2 * x) / 2 * x + i % (2 * x) / 2)
      unfold splitAt4
      omega
    have hl1 : (tab (splitAt4 p x) m).length = m := tab_length _ _
    have CF : ∀ wx, Below w.heap.size w wx → LAns18 33 #[fv x y (.slice aF n cF)] (2 * x : Nat) (2 * y : Nat) m (splitU us x y) wx := fun wx hx => ResX.ans (split_any17 x y n (2 * x) (2 * y) aF cF us H.hn (by omega) (by omega) rfl rfl wx (hV.below hx)) (by rw [splitU_length, hm])
    have CK : ∀ wx, Below w.heap.size w wx → KAns 17 #[bk B St, .int .i64 m] (Led.plus B (2 * (costN m : Int))) (St + 1) wx := fun wx hx => Split18 B St _ m (by omega) (by omega) ⟨hB0, hB1⟩ (plus_min _ _) wx
    by_cases h0 : sm (tab (splitAt4 p x) m) = 0
    · have hc : normC (tab (splitAt4 p x) m) = 7 := by unfold normC; rw [if_pos h0]
      refine (do18_split_no x y X Y S B St o.k o.q o.X o.Y o.W o.H (sm p) aG aF o.a n cG cF o.n o.c p us (2 * x : Nat) (2 * y : Nat) _ _ _ _ m _ _ _ hk w hS hV C0 CG (fun wx a c hs => norm18 hl1 (by omega) (fun u hu => ⟨(hr1 u hu).1, by have := (hr1 u hu).2; omega⟩) hc wx a c hs) CF CK dx4 dy4).mono ?_
      exact fun _ _ r => .inl r
    · have hc : normC (tab (splitAt4 p x) m) = 0 := by unfold normC; rw [if_neg h0]
      refine (do18_split x y X Y S B St o.k o.q o.X o.Y o.W o.H (sm p) aG aF o.a n cG cF o.n o.c p us (2 * x : Nat) (2 * y : Nat) _ _ _ _ m _ _ _ hk w hS hV C0 CG (fun wx a c hs => norm18 hl1 (by omega) (fun u hu => ⟨(hr1 u hu).1, by have := (hr1 u hu).2; omega⟩) hc wx a c hs) CF CK dx4 dy4).mono ?_
      rintro e w' ⟨a1, c1, a2, c2, he, h1, h2, hB⟩
      refine .inr ⟨2 * x, 2 * y, m, _, _, _, _, St + 1, _, _, a1, a2, c1, c2, he, ?_, h1, h2, hB⟩
      exact ⟨by rw [hm, Nat.mul_comm], ⟨by omega, by omega⟩, ⟨by omega, by omega⟩, H.led.split hyx hm (by omega) (cost_ok (by omega)), (lt_split H.lt x y).mono (by omega), by omega, by omega, ⟨f, by omega, rfl⟩, (plus_ok hB0 (show 0 ≤ 2 * (costN m : Int) by omega)).2.1, by omega⟩
theorem doJoin18 (h : o.k % 5 = 4) : Calls Tryz.prog 8 #[pv x y X Y S (.slice aG n cG) x y (.slice aF n cF) B St, opv o] w (DoR j x y n X Y S B St aG aF cG cF w) := by
  have C0 := sum_of18 j x y n X Y S B St p us aG cG H w hS
  have hR := led_rng H.led
  have hx8 := H.x8
  have hy8 := H.y8
  have hn64 := H.n64
  have hpl := H.led.pl
  have hB0 := H.led.b0
  have hB1 := H.B1
  have hSt := H.St
  have hX := H.X
  have hY := H.Y
  have hk : o.k.tmod 5 = 4 := by rw [Int.tmod_eq_emod_of_nonneg ho.k.1]; exact h
  have hsd : sdG x y = true := sdG_of ⟨⟨by omega, by omega⟩, by omega, by omega⟩
  obtain ⟨e, he8, hSe⟩ := H.S
  have hse := step_rng18 he8
  have no : (∀ wx, Below w.heap.size w wx → GOwn 34 #[gv x y X Y S (.slice aG n cG)] x y X Y S n p 12 wx) → Calls Tryz.prog 8 #[pv x y X Y S (.slice aG n cG) x y (.slice aF n cF) B St, opv o] w (DoR j x y n X Y S B St aG aF cG cF w) := fun CG =>
    (do18_join_early x y X Y S B St o.k o.q o.X o.Y o.W o.H (sm p) aG aF o.a n cG cF o.n o.c p us x y X Y S n _ 12 rfl rfl hk w hS hV C0 CG).mono fun _ _ r => .inl r
  by_cases hxo : x % 2 = 1
  · exact no fun wx hx => by
      rw [hSe]
      exact join14_odd x y _ X Y aG n cG p hpl (by omega) (by omega) hxo wx (hS.below hx)
  by_cases hyo : y % 2 = 1
  · exact no fun wx hx => by
      rw [hSe]
      exact join14_odd2 x y _ X Y aG n cG p hpl (by omega) (by omega) (by omega) (by omega) hyo wx (hS.below hx)
  by_cases he : e = 8
  · exact no fun wx hx => by
      rw [hSe, he]
      exact join14_far x y _ X Y aG n cG p hpl (by omega) (by omega) (by omega) (by omega) (by omega) (by decide) wx (hS.below hx)
  obtain ⟨u, rfl⟩ : ∃ u, x = 2 * u := ⟨x / 2, by omega⟩
  obtain ⟨v, rfl⟩ : ∃ v, y = 2 * v := ⟨y / 2, by omega⟩
  obtain ⟨m, hm⟩ : ∃ m, m = v * u := ⟨_, rfl⟩
  have hm1 := Nat.mul_le_mul (show v ≤ 4 by omega) (show u ≤ 4 by omega)
  have hm2 := Nat.mul_le_mul (show 1 ≤ v by omega) (show 1 ≤ u by omega)
  rw [← hm] at hm1 hm2
  have hnn : n = 2 * v * (2 * u) := by rw [H.hn, Nat.mul_comm]
  have hf := step_rng18 (e := e + 1) (by omega)
  have hpe : 2 ^ (e + 1) = 2 * 2 ^ e := by rw [Nat.pow_succ]; omega
  have h2f : 16 * 2 ^ e = 2 * (8 * 2 ^ e) := by omega
  have h3f : 16 * 2 ^ (e + 1) = 4 * (8 * 2 ^ e) := by omega
  have CG : ∀ wx, Below w.heap.size w wx → GOwn 34 #[gv (2 * u : Nat) (2 * v : Nat) X Y S (.slice aG n cG)] u v (X + ((8 * 2 ^ e : Nat) : Int)) (Y + ((8 * 2 ^ e : Nat) : Int)) ((16 * 2 ^ (e + 1) : Nat) : Int) m (tab (joinAt p (2 * u)) m) 0 wx := fun wx hx => by
    rw [hSe]
    exact join14_yes (2 * u) (2 * v) u v m (8 * 2 ^ e) (16 * 2 ^ (e + 1)) (16 * 2 ^ e) X Y _ _ aG n cG p hpl H.hn hsd hR rfl rfl h2f (by omega) h3f ⟨by omega, by omega⟩ ⟨by omega, by omega⟩ hm rfl rfl wx (hS.below hx)
  have hr1 : ∀ u2 ∈ tab (joinAt p (2 * u)) m, 0 ≤ u2 ∧ u2 ≤ 4294967296 := tab_mem m fun i _ => by
    unfold joinAt
    have g1 := getD_rng hR (by omega) (2 * (i / (2 * u / 2)) * (2 * u) + 2 * (i % (2 * u / 2)))
    have g2 := getD_rng hR (by omega) (2 * (i / (2 * u / 2)) * (2 * u) + 2 * (i % (2 * u / 2)) + 1)
    have g3 := getD_rng hR (by omega) ((2 * (i / (2 * u / 2)) + 1) * (2 * u) + 2 * (i % (2 * u / 2)))
    have g4 := getD_rng hR (by omega) ((2 * (i / (2 * u / 2)) + 1) * (2 * u) + 2 * (i % (2 * u / 2)) + 1)
    exact ⟨by omega, by omega⟩
  have hl1 : (tab (joinAt p (2 * u)) m).length = m := tab_length _ _
  have CF : ∀ wx, Below w.heap.size w wx → LAns18 35 #[fv (2 * u : Nat) (2 * v : Nat) (.slice aF n cF)] u v m (joinU us (2 * u) u v) wx := fun wx hx => ResX.ans (join_any17 (2 * u) (2 * v) u v n (31 + 24 * j) aF cF us H.hn rfl rfl (by omega) (by omega) H.lt (by omega) wx (hV.below hx)) (by rw [joinU_length, hm])
  have CK : ∀ wx, Below w.heap.size w wx → KAns 14 #[bk B St, .int .i64 m] (Led.plus B (costN m : Int)) (St + 1) wx := fun wx hx => Join18 B St _ m (by omega) (by omega) ⟨hB0, hB1⟩ (plus_min _ _) wx
  by_cases h0 : sm (tab (joinAt p (2 * u)) m) = 0
  · have hc : normC (tab (joinAt p (2 * u)) m) = 7 := by unfold normC; rw [if_pos h0]
    refine (do18_join_no (2 * u : Nat) (2 * v : Nat) X Y S B St o.k o.q o.X o.Y o.W o.H (sm p) aG aF o.a n cG cF o.n o.c p us u v _ _ _ _ m _ _ _ hk w hS hV C0 CG (fun wx a c hs => norm18 hl1 (by omega) hr1 hc wx a c hs) CF CK).mono ?_
    exact fun _ _ r => .inl r
  · have hc : normC (tab (joinAt p (2 * u)) m) = 0 := by unfold normC; rw [if_neg h0]
    refine (do18_join (2 * u : Nat) (2 * v : Nat) X Y S B St o.k o.q o.X o.Y o.W o.H (sm p) aG aF o.a n cG cF o.n o.c p us u v _ _ _ _ m _ _ _ hk w hS hV C0 CG (fun wx a c hs => norm18 hl1 (by omega) hr1 hc wx a c hs) CF CK).mono ?_
    rintro e w' ⟨a1, c1, a2, c2, he, h1, h2, hB⟩
    refine .inr ⟨u, v, m, _, _, _, _, St + 1, _, _, a1, a2, c1, c2, he, ?_, h1, h2, hB⟩
    exact ⟨by rw [hm, Nat.mul_comm], ⟨by omega, by omega⟩, ⟨by omega, by omega⟩, H.led.join hnn hm (by omega) (cost_ok (by omega)), (lt_join H.lt (2 * u) u v).mono (by omega), by omega, by omega, ⟨_, by omega, rfl⟩, (plus_ok hB0 (show 0 ≤ (costN m : Int) by omega)).2.1, by omega⟩
/-- An act, whichever it is. -/
theorem do_any18 (hon : o.n ≤ 300) : Calls Tryz.prog 8 #[pv x y X Y S (.slice aG n cG) x y (.slice aF n cF) B St, opv o] w (DoR j x y n X Y S B St aG aF cG cF w) := by
  have h5 : o.k % 5 = 0 ∨ o.k % 5 = 1 ∨ o.k % 5 = 2 ∨ o.k % 5 = 3 ∨ o.k % 5 = 4 := by omega
  rcases h5 with h | h | h | h | h
  · exact doSpread18 o j x y n X Y S B St p us aG aF cG cF H w ho hS hV hj h
  · exact doWeigh18 o j x y n X Y S B St p us aG aF cG cF H w ho hS hV hj hon h
  · exact doCut18 o j x y n X Y S B St p us aG aF cG cF H w ho hS hV hj h
  · exact doSplit18 o j x y n X Y S B St p us aG aF cG cF H w ho hS hV hj h
  · exact doJoin18 o j x y n X Y S B St p us aG aF cG cF H w ho hS hV hj h
end
end Go.Proofs.YtallbegibdlpaaaGreat
