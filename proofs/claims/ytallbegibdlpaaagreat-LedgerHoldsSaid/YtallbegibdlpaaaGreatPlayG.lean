/-
  An act on grid, filter and book: what it answers; the bound holds.
-/
import Derived.Test.YtallbegibdlpaaaGreatPlayB
import Derived.Test.YtallbegibdlpaaaGreatPlayC
import Derived.Test.YtallbegibdlpaaaGreatPlayD
import Derived.Test.YtallbegibdlpaaaGreatPlayE
import Derived.Test.YtallbegibdlpaaaGreatPlayF
import Derived.Test.YtallbegibdlpaaaGreatPackExcB
import Derived.Test.YtallbegibdlpaaaGreatPackGridR
import Derived.Test.YtallbegibdlpaaaGreatLaw14m
import Derived.Test.YtallbegibdlpaaaGreatLedgD
import Derived.Test.YtallbegibdlpaaaGreatExactR
set_option linter.unusedVariables false
set_option linter.unusedSimpArgs false
namespace Go.Proofs.YtallbegibdlpaaaGreat
open Go Go.RowKit Go.Th Go.Th.Dig Go.Th.Ex Go.Th.Grid Go.Th.Wide Go.Th.Up Go.Th.Led

/-! ### Plain -/
theorem led_rng {p : List Int} {us : List Nat} {n : Nat} {b : Int} (H : Led p us n b) : ∀ u ∈ p, 0 ≤ u ∧ u ≤ 1073741824 := by
  have h0 : ∀ u ∈ p, 0 ≤ u := fun u hu => by
    obtain ⟨i, hi, rfl⟩ := List.getElem_of_mem hu
    have h := H.near.f0 i (by rw [← H.pl]; exact hi)
    unfold gf at h
    rwa [getD_at _ _ hi] at h
  exact fun u hu => ⟨h0 u hu, Int.le_trans (sm_ge h0 u hu) H.hi⟩
theorem cost_ok {n : Nat} (hn : n ≤ 4096) : CostOk n (costN n : Int) := by
  obtain ⟨e1, e2⟩ := costN_eq hn
  refine ⟨by omega, ?_⟩
  have hD : 0 < 1073741824 - 4 * n := by omega
  have h2 := Nat.div_add_mod (n * 1099511627776) (1073741824 - 4 * n)
  have h3 := Nat.mod_lt (n * 1099511627776) hD
  have h1 : n * 1099511627776 ≤ (1073741824 - 4 * n) * costN n := by
    rw [e1, Nat.mul_add]
    split
    · omega
    · rw [Nat.mul_one]; omega
  have h4 : ((n * 1099511627776 : Nat) : Int) ≤ (((1073741824 - 4 * n) * costN n : Nat) : Int) := by omega
  rw [Int.natCast_mul, Int.natCast_mul] at h4
  have e3 : ((1073741824 - 4 * n : Nat) : Int) = 1073741824 - 4 * (n : Int) := by omega
  rw [e3] at h4
  show (1099511627776 : Int) * (n : Int) ≤ _
  rw [Int.mul_comm]
  exact h4
theorem up_enough {p q : Nat} (hq : 0 < q) : upD p q = 1099511627776 ∨ p ≤ upD p q * q := by
  by_cases h : upD p q = 1099511627776
  · exact .inl h
  · refine .inr ?_
    unfold upD at h ⊢
    rw [if_neg (show ¬ q = 0 by omega)] at h ⊢
    have h1 : (p + q - 1) / q < 1099511627776 := by omega
    rw [Nat.min_eq_left (by omega)]
    have h2 := (Nat.div_le_iff_le_mul hq (x := p + q - 1) (y := (p + q - 1) / q)).1 (Nat.le_refl _)
    omega
theorem plus_min (a b : Int) : Led.plus a b = min (a + b) 1099511627776 := by
  unfold Led.plus
  show (if (1099511627776 : Int) < a + b then (1099511627776 : Int) else a + b) = _
  split <;> omega
theorem step_rng18 {e : Nat} (h : e ≤ 8) : 16 ≤ 16 * 2 ^ e ∧ 16 * 2 ^ e ≤ 4096 := by
  have h1 := Nat.two_pow_pos e
  have h2 : 2 ^ e ≤ 2 ^ 8 := Nat.pow_le_pow_right (by decide) h
  have h3 : (2 : Nat) ^ 8 = 256 := by decide
  omega
theorem prod_rng18 {c S : Int} (hc : -64 ≤ c ∧ c ≤ 64) (hS : 0 ≤ S ∧ S ≤ 4096) : -262144 ≤ c * S ∧ c * S ≤ 262144 := by
  have h1 := Int.mul_le_mul_of_nonneg_right hc.1 hS.1
  have h2 := Int.mul_le_mul_of_nonneg_right hc.2 hS.1
  omega
theorem getD_rng {l : List Int} {M : Int} (h : ∀ x ∈ l, 0 ≤ x ∧ x ≤ M) (hM : 0 ≤ M) (i : Nat) : 0 ≤ l.getD i 0 ∧ l.getD i 0 ≤ M := by
  by_cases hi : i < l.length
  · exact getD_mem (P := fun x => 0 ≤ x ∧ x ≤ M) h hi
  · rw [List.getD_eq_getElem?_getD, List.getElem?_eq_none (by omega)]
    exact ⟨Int.le_refl _, hM⟩
theorem map_tab18 {h : Nat → Int} (h0 : ∀ i, 0 ≤ h i) : ∀ n, (tabN (fun i => (h i).toNat) n).map Int.ofNat = tab h n
  | 0 => rfl
  | n + 1 => by
    rw [← tabN_next, List.map_append, map_tab18 h0 n, tab_next]
    congr 1
    have := h0 n
    simp
    omega
theorem wts_map18 {o : OpV} (hz : ∀ z ∈ o.zs, 0 ≤ z ∧ z < 65536) (n : Nat) : (wts o n).map Int.ofNat = tab (inAt o.zs 65536) n :=
  map_tab18 (fun i => (inAt_rng (z := o.zs) (d := 65536) (fun u hu => ⟨(hz u hu).1, by have := (hz u hu).2; omega⟩) ⟨by omega, by omega⟩ i).1) n
theorem mxl_ge : ∀ (l : List Int) (a : Int), a ≤ l.foldl max a ∧ ∀ x ∈ l, x ≤ l.foldl max a
  | [], a => ⟨Int.le_refl _, fun x hx => by cases hx⟩
  | z :: l, a => by
    have h := mxl_ge l (max a z)
    refine ⟨Int.le_trans (by omega) h.1, fun x hx => ?_⟩
    rcases List.mem_cons.1 hx with rfl | hx
    · exact Int.le_trans (by omega) h.1
    · exact h.2 x hx
theorem mxl_le : ∀ (l : List Int) (a M : Int), a ≤ M → (∀ x ∈ l, x ≤ M) → l.foldl max a ≤ M
  | [], a, M, h, _ => h
  | z :: l, a, M, h, hl => mxl_le l (max a z) M (by have := hl z (List.mem_cons_self ..); omega) (fun x hx => hl x (List.mem_cons_of_mem _ hx))

/-! ### Grid, filter and book -/
structure PlayOk (j x y n : Nat) (X Y S B St : Int) (p : List Int) (us : List Nat) : Prop where
  hn : n = x * y
  x8 : 1 ≤ x ∧ x ≤ 8
  y8 : 1 ≤ y ∧ y ≤ 8
  led : Led p us n B
  lt : Lt (31 + 24 * j) us
  X : -1000 - 300000 * (j : Int) ≤ X ∧ X ≤ 1000 + 300000 * (j : Int)
  Y : -1000 - 300000 * (j : Int) ≤ Y ∧ Y ≤ 1000 + 300000 * (j : Int)
  S : ∃ e, e ≤ 8 ∧ S = ((16 * 2 ^ e : Nat) : Int)
  B1 : B ≤ 1099511627776
  St : 0 ≤ St ∧ St ≤ (j : Int)
theorem PlayOk.n64 {j x y n : Nat} {X Y S B St : Int} {p : List Int} {us : List Nat} (H : PlayOk j x y n X Y S B St p us) : 1 ≤ n ∧ n ≤ 64 := by
  have h1 := Nat.mul_le_mul H.x8.2 H.y8.2
  have h2 := Nat.mul_le_mul H.x8.1 H.y8.1
  rw [← H.hn] at h1 h2
  omega
/-- What an act answers: nothing is changed, or all three are as they are to be. -/
def DoR (j x y n : Nat) (X Y S B St : Int) (aG aF : Option Addr) (cG cF : Nat) (w : World) (e : Ending) (w' : World) : Prop :=
  (e = .returned (.tuple #[pv x y X Y S (.slice aG n cG) x y (.slice aF n cF) B St, .bool false]) ∧ Below w.heap.size w w') ∨
  ∃ (x2 y2 m : Nat) (X2 Y2 S2 B2 St2 : Int) (p2 : List Int) (us2 : List Nat) (a1 a2 : Option Addr) (c1 c2 : Nat), e = .returned (.tuple #[pv x2 y2 X2 Y2 S2 (.slice a1 m c1) x2 y2 (.slice a2 m c2) B2 St2, .bool true]) ∧ PlayOk (j + 1) x2 y2 m X2 Y2 S2 B2 St2 p2 us2 ∧ (∃ base, w'.ownsRow base 2 1 (.slice a1 m c1) m (i64s p2)) ∧ IsV w' a2 m c2 us2 ∧ Below w.heap.size w w'
theorem DoR.one {j x y n : Nat} {X Y S B St : Int} {aG aF : Option Addr} {cG cF : Nat} {w : World} {e : Ending} {w' : World} (h : DoR j x y n X Y S B St aG aF cG cF w e w') :
    ∃ (x2 y2 m : Nat) (X2 Y2 S2 B2 St2 : Int) (a1 a2 : Option Addr) (c1 c2 : Nat) (b : Bool), e = .returned (.tuple #[pv x2 y2 X2 Y2 S2 (.slice a1 m c1) x2 y2 (.slice a2 m c2) B2 St2, .bool b]) ∧ Below w.heap.size w w' ∧ (b = true → ∃ p2 us2, PlayOk (j + 1) x2 y2 m X2 Y2 S2 B2 St2 p2 us2 ∧ (∃ base, w'.ownsRow base 2 1 (.slice a1 m c1) m (i64s p2)) ∧ IsV w' a2 m c2 us2) := by
  rcases h with ⟨h1, h2⟩ | ⟨x2, y2, m, X2, Y2, S2, B2, St2, p2, us2, a1, a2, c1, c2, h1, h2, h3, h4, h5⟩
  · exact ⟨x, y, n, X, Y, S, B, St, aG, aF, cG, cF, false, h1, h2, fun h => by cases h⟩
  · exact ⟨x2, y2, m, X2, Y2, S2, B2, St2, a1, a2, c1, c2, true, h1, h5, fun _ => ⟨p2, us2, h2, h3, h4⟩⟩
theorem PlayOk.mono {j x y n : Nat} {X Y S B St : Int} {p : List Int} {us : List Nat} (H : PlayOk j x y n X Y S B St p us) : PlayOk (j + 1) x y n X Y S B St p us := by
  have hX := H.X
  have hY := H.Y
  have hSt := H.St
  exact ⟨H.hn, H.x8, H.y8, H.led, H.lt.mono (by omega), by omega, by omega, H.S, H.B1, by omega⟩
theorem ResX.ans {f : Nat} {args : Array Value} {x y : Int} {n : Nat} {us : List Nat} {w : World} (h : Calls Tryz.prog f args w (ResX x y us w)) (hn : us.length = n) : LAns18 f args x y n us w := by
  refine h.mono ?_
  rintro e w' ⟨a, c, h1, h2, h3⟩
  rw [hn] at h1 h2
  exact ⟨a, c, h1, h2, h3⟩
theorem sums18 {G : List Int} {n : Nat} (hl : G.length = n) (h0 : ∀ u ∈ G, 0 ≤ u) (hs : sm G ≤ 9223372036854775807) (a : Option Addr) (cap : Nat) (w : World) (hS : Sl w 1 (.slice a n cap) n (i64s G)) :
    Calls Tryz.prog 20 #[.slice a n cap] w fun e w' => e = .returned (.int .i64 (sm G)) ∧ w = w' := refSumG_any a n cap G hl (sm_fits h0 hs) w hS
/-- Made normal: a row of numbers from 0 on. -/
theorem norm18 {x y X Y S c : Int} {n : Nat} {L : List Int} (hl : L.length = n) (hn : n ≤ 4096) (hr : ∀ u ∈ L, 0 ≤ u ∧ u ≤ 4294967296) (hc : normC L = c) (wx : World) (a : Option Addr) (cap : Nat) (h : Sl wx 1 (.slice a n cap) n (i64s L)) :
    GOwn 24 #[gv x y X Y S (.slice a n cap)] x y X Y S n (norm L) c wx := by
  have hs := (sm_rng hr).2
  rw [hl] at hs
  have r := gnorm_any x y X Y S a n cap L hl (by omega) (fun u hu => (hr u hu).1) (by omega) wx h
  rw [hc] at r
  exact r
theorem sum_of18 (j x y n : Nat) (X Y S B St : Int) (p : List Int) (us : List Nat) (aG : Option Addr) (cG : Nat) (H : PlayOk j x y n X Y S B St p us) (w : World) (hS : Sl w 1 (.slice aG n cG) n (i64s p)) : ∀ wx, Below w.heap.size w wx → Calls Tryz.prog 20 #[.slice aG n cG] wx fun e w' => e = .returned (.int .i64 (sm p)) ∧ wx = w' :=
  fun wx hx => sums18 H.led.pl (fun u hu => (led_rng H.led u hu).1) (by have := H.led.hi; omega) aG cG wx (hS.below hx)
section
variable (o : OpV) (j x y n : Nat) (X Y S B St : Int) (p : List Int) (us : List Nat) (aG aF : Option Addr) (cG cF : Nat) (H : PlayOk j x y n X Y S B St p us) (w : World) (ho : OpOk w o)
  (hS : Sl w 1 (.slice aG n cG) n (i64s p)) (hV : IsV w aF n cF us) (hj : j ≤ 7)
include H ho hS hV hj
theorem doSpread18 (h : o.k % 5 = 0) : Calls Tryz.prog 8 #[pv x y X Y S (.slice aG n cG) x y (.slice aF n cF) B St, opv o] w (DoR j x y n X Y S B St aG aF cG cF w) := by
  have C0 := sum_of18 j x y n X Y S B St p us aG cG H w hS
  have hR := led_rng H.led
  have hx8 := H.x8
  have hy8 := H.y8
  have hn64 := H.n64
  have hpl := H.led.pl
  have hB0 := H.led.b0
  have hB1 := H.B1
  have hSt := H.St
  have hk : o.k.tmod 5 = 0 := by rw [Int.tmod_eq_emod_of_nonneg ho.k.1]; exact h
  obtain ⟨Q, hQ⟩ : ∃ Q, Q = (o.q % 86).toNat := ⟨_, rfl⟩
  have hq : o.q.tmod 86 = (Q : Int) := by rw [Int.tmod_eq_emod_of_nonneg ho.q.1]; omega
  have hQ85 : Q ≤ 85 := by omega
  have hq64 : IntKind.i64.wrap (Q : Int) = (Q : Int) := by rw [IntKind.wrap_i64]; omega
  have hqu : IntKind.u64.wrap (Q : Int) = (Q : Int) := by rw [IntKind.wrap_u64]; omega
  have hsd : sdG x y = true := sdG_of ⟨⟨by omega, by omega⟩, by omega, by omega⟩
  have hyx : n = y * x := by rw [H.hn, Nat.mul_comm]
  have hr1 := spread_rng (q := (Q : Int)) (w := x) (h := y) ⟨by omega, by omega⟩ (by rw [hpl, hyx]) hR
  have hl1 : (spread p x y Q).length = n := by rw [spread_length, hyx]
  have CG : ∀ wx, Below w.heap.size w wx → GOwn 23 #[gv x y X Y S (.slice aG n cG), .int .i64 Q] x y X Y S n (spread p x y Q) 0 wx := fun wx hx => spread_yes x y X Y S Q aG n cG p hpl H.hn hsd hR (inR_of ⟨by omega, by omega⟩) wx (hS.below hx)
  have CF : ∀ wx, Below w.heap.size w wx → LAns18 25 #[fv x y (.slice aF n cF), .int .u64 Q] x y n (spreadU us x y Q) wx := fun wx hx => ResX.ans (spread_any17 x y n Q (31 + 24 * j) aF cF us H.hn (by omega) (by omega) hQ85 H.lt (by omega) wx (hV.below hx)) (by rw [spreadU_length]; exact H.led.ul)
  have CK : ∀ wx, Below w.heap.size w wx → KAns 11 #[bk B St, .int .i64 n] (Led.plus B (3 * (costN n : Int))) (St + 1) wx := fun wx hx => Spread18 B St _ n (by omega) (by omega) ⟨hB0, hB1⟩ (plus_min _ _) wx
  by_cases h0 : sm (spread p x y Q) = 0
  · have hc : normC (spread p x y Q) = 7 := by unfold normC; rw [if_pos h0]
    refine (do18_spread_no x y X Y S B St o.k o.q o.X o.Y o.W o.H (sm p) aG aF o.a n cG cF o.n o.c p us x y X Y S _ n Q _ _ _ hq hq64 hqu hk w hS hV C0 0 CG (fun wx a c hs => norm18 hl1 (by omega) (fun u hu => ⟨(hr1 u hu).1, by have := (hr1 u hu).2; omega⟩) hc wx a c hs) CF CK).mono ?_
    exact fun _ _ r => .inl r
  · have hc : normC (spread p x y Q) = 0 := by unfold normC; rw [if_neg h0]
    refine (do18_spread x y X Y S B St o.k o.q o.X o.Y o.W o.H (sm p) aG aF o.a n cG cF o.n o.c p us x y X Y S _ n Q _ _ _ hq hq64 hqu hk w hS hV C0 0 CG (fun wx a c hs => norm18 hl1 (by omega) (fun u hu => ⟨(hr1 u hu).1, by have := (hr1 u hu).2; omega⟩) hc wx a c hs) CF CK).mono ?_
    rintro e w' ⟨a1, c1, a2, c2, he, h1, h2, hB⟩
    have hX := H.X
    have hY := H.Y
    refine .inr ⟨x, y, n, X, Y, S, _, St + 1, _, _, a1, a2, c1, c2, he, ?_, h1, h2, hB⟩
    exact ⟨H.hn, H.x8, H.y8, H.led.spread hyx hQ85 (cost_ok (by omega)), (Lt.spread H.lt hQ85 x y).mono (by omega), by omega, by omega, H.S, (plus_ok hB0 (show 0 ≤ 3 * (costN n : Int) by omega)).2.1, by omega⟩
theorem doWeigh18 (hon : o.n ≤ 300) (h : o.k % 5 = 1) : Calls Tryz.prog 8 #[pv x y X Y S (.slice aG n cG) x y (.slice aF n cF) B St, opv o] w (DoR j x y n X Y S B St aG aF cG cF w) := by
  have C0 := sum_of18 j x y n X Y S B St p us aG cG H w hS
  have hR := led_rng H.led
  have hx8 := H.x8
  have hy8 := H.y8
  have hn64 := H.n64
  have hpl := H.led.pl
  have hul := H.led.ul
  have hB0 := H.led.b0
  have hB1 := H.B1
  have hSt := H.St
  have hhi := H.led.hi
  have hlo := H.led.lo
  have hk : o.k.tmod 5 = 1 := by rw [Int.tmod_eq_emod_of_nonneg ho.k.1]; exact h
  have hz0 : ∀ u ∈ o.zs, 0 ≤ u ∧ u ≤ 65535 := fun u hu => ⟨(ho.rng u hu).1, by have := (ho.rng u hu).2; omega⟩
  have hmap := wts_map18 ho.rng n
  have hwl : (wts o n).length = n := tabN_length _ _
  have hall : allIn (tab (inAt o.zs 65536) n) 65536 = true := allIn_iff.2 (tab_mem n fun i _ => inAt_rng hz0 ⟨by omega, by omega⟩ i)
  have hget : ∀ i, i < n → (tab (inAt o.zs 65536) n).getD i 0 = (((wts o n).getD i 0 : Nat) : Int) := fun i hi => by
    rw [tab_getD _ _ hi]
    unfold wts
    rw [tabN_getD _ _ i hi]
    have := (inAt_rng (z := o.zs) (d := 65536) hz0 ⟨by omega, by omega⟩ i).1
    omega
  have hlt := (lt_weigh H.lt (wts_lt ho.rng n)).mono (m := 31 + 24 * (j + 1)) (by omega)
  have CW : ∀ wx, Below w.heap.size w wx → Calls Tryz.prog 26 #[gv x y X Y S (.slice aG n cG), .slice o.a o.n o.c] wx fun e w' => ∃ v, e = .returned v ∧ w'.ownsRow wx.heap.size 2 1 v n (i64s (tab (inAt o.zs 65536) n)) ∧ Below wx.heap.size wx w' :=
    fun wx hx => weights_any x y X Y S aG o.a n cG o.n o.c p o.zs ho.len (by omega) (by omega) hz0 wx (ho.row.below hx)
  have CF : ∀ wx a c, Below w.heap.size w wx → Sl wx 1 (.slice a n c) n (i64s (tab (inAt o.zs 65536) n)) → LAns18 28 #[fv x y (.slice aF n cF), .slice a n c] x y n (weighU us (wts o n)) wx := fun wx a c hx hs => by
    rw [← hmap] at hs
    exact ResX.ans (weigh_any17 x y aF a n cF c (31 + 24 * j) us (wts o n) H.lt (by omega) ((wts_lt ho.rng n).mono (by omega)) hwl (by omega) wx (hV.below hx) hs) (by rw [weighU_length]; exact hul)
  obtain ⟨ls, hls⟩ : ∃ ls, ls = tab (inAt o.zs 65536) n := ⟨_, rfl⟩
  rw [← hls] at hall hget CW CF hmap
  have hll : ls.length = n := by rw [hls, tab_length]
  clear hls
  have hin := allIn_iff.1 hall
  have hM0 : 0 ≤ mxl ls := (mxl_ge ls 0).1
  have hM : ∀ i, i < n → ls.getD i 0 ≤ mxl ls := fun i hi => by
    rw [getD_at _ _ (by omega)]
    exact (mxl_ge ls 0).2 _ (List.getElem_mem _)
  have hM6 : mxl ls ≤ 65536 := mxl_le ls 0 65536 (by omega) fun u hu => (hin u hu).2
  have hwr := sm_rng (wd_rng (by rw [hll, hpl]) hR hin)
  rw [wd_length, hll] at hwr
  obtain ⟨T, hT⟩ := Int.eq_ofNat_of_zero_le hwr.1
  obtain ⟨M, hMn⟩ := Int.eq_ofNat_of_zero_le hM0
  obtain ⟨b, hb⟩ := Int.eq_ofNat_of_zero_le hB0
  obtain ⟨sp, hsp⟩ := Int.eq_ofNat_of_zero_le (show 0 ≤ sm p by omega)
  obtain ⟨t, ht⟩ := Int.eq_ofNat_of_zero_le hSt.1
  have CK : ∀ wx, Below w.heap.size w wx → KAns 12 #[bk B St, .int .i64 n, .int .i64 (mxl ls), .int .i64 (sm p), wv (hiZ (T : Int)) (loZ (T : Int))] (Led.plus (upD (b * M * sp) T : Int) (costN n : Int)) (St + 1) wx := fun wx hx => by
    rw [hb, hMn, hsp, ht]
    exact Weigh18 b sp t n M T _ (by omega) (by omega) (by omega) (by omega) (by omega) (by omega) (plus_min _ _) wx
  by_cases h0 : sm (wd p ls) = 0
  · have hc : normC (wd p ls) = 7 := by unfold normC; rw [if_pos h0]
    refine (do18_weigh_no x y X Y S B St o.k o.q o.X o.Y o.W o.H (sm p) aG aF o.a n cG cF o.n o.c p us x y X Y S _ (mxl ls) n T ls (wgh p ls) _ hk w hS hV C0 CW (fun wx a c hx hs => ?_) CF CK).mono ?_
    · have r := weigh_any x y X Y S aG a n cG c p ls hpl hll (by omega) hR hall wx (hS.below hx) hs
      rw [hc, hT] at r
      exact r
    · exact fun _ _ r => .inl r
  · have hc : normC (wd p ls) = 0 := by unfold normC; rw [if_neg h0]
    refine (do18_weigh x y X Y S B St o.k o.q o.X o.Y o.W o.H (sm p) aG aF o.a n cG cF o.n o.c p us x y X Y S _ (mxl ls) n T ls (wgh p ls) _ hk w hS hV C0 CW (fun wx a c hx hs => ?_) CF CK).mono ?_
    · have r := weigh_any x y X Y S aG a n cG c p ls hpl hll (by omega) hR hall wx (hS.below hx) hs
      rw [hc, hT] at r
      exact r
    · rintro e w' ⟨a1, c1, a2, c2, he, h1, h2, hB⟩
      have hX := H.X
      have hY := H.Y
      have hup := upD_le (b * M * sp) T
      have hbb : (upD (b * M * sp) T : Int) = Led.One ∨ mxl ls * sm p * B ≤ (upD (b * M * sp) T : Int) * sm (wd p ls) := by
        rcases up_enough (p := b * M * sp) (q := T) (by omega) with hu | hu
        · left
          rw [hu]
          rfl
        · right
          rw [hMn, hsp, hb, hT]
          have e : (M : Int) * (sp : Int) * (b : Int) = ((b * M * sp : Nat) : Int) := by rw [Int.natCast_mul, Int.natCast_mul, Int.mul_comm ((M : Int) * sp), Int.mul_assoc]
          rw [e, ← Int.natCast_mul]
          exact Int.ofNat_le.2 hu
      have hcn : 0 ≤ (costN n : Int) := by omega
      refine .inr ⟨x, y, n, X, Y, S, _, St + 1, _, _, a1, a2, c1, c2, he, ?_, h1, h2, hB⟩
      exact ⟨H.hn, H.x8, H.y8, H.led.weigh hll hget hM hM0 (by omega) (by omega) hbb (cost_ok (by omega)), hlt, by omega, by omega, H.S, (plus_ok (show 0 ≤ (upD (b * M * sp) T : Int) by omega) hcn).2.1, by omega⟩
end
end Go.Proofs.YtallbegibdlpaaaGreat
