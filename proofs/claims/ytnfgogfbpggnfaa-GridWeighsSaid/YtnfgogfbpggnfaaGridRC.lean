/-
  A grid that is spread: the reference's.
-/
import Derived.Test.YtnfgogfbpggnfaaGridRB
import Derived.Deep.Cut
import Derived.Deep.CutRange
set_option linter.unusedVariables false
set_option linter.unusedSimpArgs false
namespace Go.Proofs.Ytnfgogfbpggnfaa
open Go Go.RowKit Go.Th Go.Th.Grid Go.Th.Wide

set_option maxRecDepth 20000 in
set_option maxHeartbeats 1600000 in
theorem beside_any (x y cx cy : Nat) (X Y s ax ay : Int) (a : Option Addr) (n cap : Nat) (p : List Int) (hp : p.length = n) (hxy : n = x * y) (hx1 : 1 ≤ x) (hy1 : 1 ≤ y) (hx : x ≤ 64) (hy : y ≤ 64) (hax : -100 ≤ ax ∧ ax ≤ 200) (hay : -100 ≤ ay ∧ ay ≤ 200)
    (hcx : (ax < 0 ∧ cx = 0) ∨ (0 ≤ ax ∧ ax ≤ (x : Int) - 1 ∧ ax = (cx : Int)) ∨ ((x : Int) - 1 < ax ∧ cx = x - 1)) (hcy : (ay < 0 ∧ cy = 0) ∨ (0 ≤ ay ∧ ay ≤ (y : Int) - 1 ∧ ay = (cy : Int)) ∨ ((y : Int) - 1 < ay ∧ cy = y - 1)) (w : World) (hS : Sl w 1 (.slice a n cap) n (i64s p)) :
    Calls Try.prog 58 #[gv x y X Y s (.slice a n cap), .int .i64 ax, .int .i64 ay] w fun e w' => e = .returned (.int .i64 (p.getD (cy * x + cx) 0)) ∧ Below w.heap.size w w' := by
  have hle : x * y ≤ 64 * 64 := Nat.mul_le_mul hx hy
  have hi : cx < x := by omega
  have hj : cy < y := by omega
  have hk : cy * x + cx < n := by rw [hxy, Nat.mul_comm x y]; exact at_lt hi hj
  obtain ⟨m1, hm1, hm1'⟩ : ∃ m1 : Int, (ax < 0 → m1 = 0) ∧ (¬ ax < 0 → m1 = ax) := by
    by_cases h : ax < 0
    · exact ⟨0, fun _ => rfl, fun h' => absurd h h'⟩
    · exact ⟨ax, fun h' => absurd h' h, fun _ => rfl⟩
  obtain ⟨m2, hm2, hm2'⟩ : ∃ m2 : Int, (ay < 0 → m2 = 0) ∧ (¬ ay < 0 → m2 = ay) := by
    by_cases h : ay < 0
    · exact ⟨0, fun _ => rfl, fun h' => absurd h h'⟩
    · exact ⟨ay, fun h' => absurd h' h, fun _ => rfl⟩
  have h1 : ((x : Int) - 1 < m1 → (cx : Int) = (x : Int) - 1) ∧ (¬ (x : Int) - 1 < m1 → (cx : Int) = m1) ∧ -100 ≤ m1 ∧ m1 ≤ 200 := by
    by_cases h : ax < 0
    · have := hm1 h; omega
    · have := hm1' h; omega
  have h2 : ((y : Int) - 1 < m2 → (cy : Int) = (y : Int) - 1) ∧ (¬ (y : Int) - 1 < m2 → (cy : Int) = m2) ∧ -100 ≤ m2 ∧ m2 ≤ 200 := by
    by_cases h : ay < 0
    · have := hm2 h; omega
    · have := hm2' h; omega
  obtain ⟨h1a, h1b, h1c, h1d⟩ := h1
  obtain ⟨h2a, h2b, h2c, h2d⟩ := h2
  have H1 := Lib.hid hm1
  have H1' := Lib.hid hm1'
  have H2 := Lib.hid hm2
  have H2' := Lib.hid hm2'
  have H1a := Lib.hid h1a
  have H1b := Lib.hid h1b
  have H2a := Lib.hid h2a
  have H2b := Lib.hid h2b
  clear hm1 hm1' hm2 hm2' h1a h1b h2a h2b hcx hcy
  (obtain ⟨w1, hw1⟩ : ∃ w1, w.alloc (.cells #[.int .i64 x, .int .i64 y, .int .i64 X, .int .i64 Y, .int .i64 s, .slice a n cap] 24) = w1 := ⟨_, rfl⟩; have M1 := (Mem.start w).alloc 24 (gc x y X Y s (.slice a n cap)); rw [show w.alloc (.cells (gc x y X Y s (.slice a n cap)).toArray 24) = w1 from hw1] at M1; have HW1 := Lib.hid hw1; clear hw1)
  obtain ⟨b, o, rfl, _, hc⟩ := cell64 (hS.below M1.below) (cy * x + cx) (by omega)
  obtain ⟨k0, hk0⟩ : ∃ k0, k0 = cy * x := ⟨_, rfl⟩
  have hmul : (cy : Int) * (x : Int) = (k0 : Int) := by rw [hk0]; simp
  rw [← hk0] at hk hc ⊢
  obtain ⟨u, hu⟩ : ∃ u, u = p.getD (k0 + cx) 0 := ⟨_, rfl⟩
  rw [← hu] at hc ⊢
  have hmx := hS.max
  clear hu hk0 hS hp hxy hle
  go_enter Try.func58, Try.ntmps58
  ((go_upto_region 1 with fail); rw [HW1.out]; clear HW1; obtain ⟨gA, hgA⟩ : ∃ gA, gA = w.heap.size := ⟨_, rfl⟩; rw [← hgA] at M1 ⊢; clear hgA)
  obtain ⟨c0, c1, c2, c3, c4, c5⟩ := gcells (M1.has (Has.head _ _ _ _))
  go_upto_if 11 with fail
  go_cut [7] from 10 (fun s7 wx => wx = w1 ∧ s7 = .int .i64 m1)
  case first =>
    by_cases h : ax < 0
    · have HE := Lib.hid (H1.out h)
      go_wp2_with fail
      go_meet
      exact ⟨rfl, by rw [HE.out]⟩
    · have HE := Lib.hid (H1'.out h)
      go_wp2_with fail
      go_meet
      exact ⟨rfl, by rw [HE.out]⟩
  obtain ⟨rfl, rfl⟩ := hcut
  go_upto_if 16 with fail
  go_cut [7] from 10 (fun s7 wx => wx = wc ∧ s7 = .int .i64 (cx : Int))
  case first =>
    by_cases h : (x : Int) - 1 < m1
    · have HE := Lib.hid (H1a.out h)
      go_wp2_with fail
      go_meet
      exact ⟨rfl, by rw [HE.out]⟩
    · have HE := Lib.hid (H1b.out h)
      go_wp2_with fail
      go_meet
      exact ⟨rfl, by rw [HE.out]⟩
  obtain ⟨rfl, rfl⟩ := hcut
  go_upto_if 22 with fail
  go_cut [8] from 10 (fun s8 wx => wx = wc ∧ s8 = .int .i64 m2)
  case first =>
    by_cases h : ay < 0
    · have HE := Lib.hid (H2.out h)
      go_wp2_with fail
      go_meet
      exact ⟨rfl, by rw [HE.out]⟩
    · have HE := Lib.hid (H2'.out h)
      go_wp2_with fail
      go_meet
      exact ⟨rfl, by rw [HE.out]⟩
  obtain ⟨rfl, rfl⟩ := hcut
  go_upto_if 27 with fail
  go_cut [8] from 10 (fun s8 wx => wx = wc ∧ s8 = .int .i64 (cy : Int))
  case first =>
    by_cases h : (y : Int) - 1 < m2
    · have HE := Lib.hid (H2a.out h)
      go_wp2_with fail
      go_meet
      exact ⟨rfl, by rw [HE.out]⟩
    · have HE := Lib.hid (H2b.out h)
      go_wp2_with fail
      go_meet
      exact ⟨rfl, by rw [HE.out]⟩
  obtain ⟨rfl, rfl⟩ := hcut
  go_wp2_with fail
  go_ret
  exact ⟨rfl, M1.below⟩

set_option maxRecDepth 20000 in
set_option maxHeartbeats 6400000 in
theorem pass_any (x y q dx dy : Nat) (X Y s : Int) (a : Option Addr) (n cap : Nat) (p : List Int) (hp : p.length = n) (hxy : n = x * y) (hsd : sdG x y = true) (hr : ∀ u ∈ p, 0 ≤ u ∧ u ≤ 1073741824) (hq : q ≤ 85) (hdx : dx ≤ 1) (hdy : dy ≤ 1) (w : World) (hS : Sl w 1 (.slice a n cap) n (i64s p)) :
    Calls Try.prog 47 #[gv x y X Y s (.slice a n cap), .int .i64 q, .int .i64 dx, .int .i64 dy] w fun e w' => ∃ a' cap', e = .returned (gv x y X Y s (.slice a' n cap')) ∧ w'.ownsRow w.heap.size 2 1 (.slice a' n cap') n (i64s (pass p x y q dx dy)) ∧ Below w.heap.size w w' := by
  obtain ⟨⟨q1, q2⟩, q3, q4⟩ := sdG_t hsd
  have hle : x * y ≤ 64 * 64 := Nat.mul_le_mul (by omega) (by omega)
  have hyx : n = y * x := by rw [hxy, Nat.mul_comm]
  have hn : n ≤ 4096 := by omega
  obtain ⟨f, hf⟩ : ∃ f, f = mixAt p x y q dx dy := ⟨_, rfl⟩
  have ht : pass p x y q dx dy = tab f n := by rw [hf, hyx]; rfl
  rw [ht]
  obtain ⟨Q2, hQ2⟩ : ∃ Q2 : Nat, 256 - 2 * (q : Int) = (Q2 : Int) := ⟨256 - 2 * q, by omega⟩
  have hst : ∀ i, i < n → ∃ (A1 B1 A2 B2 : Int) (xm ym u1 u2 u3 P1 P2 P3 P12 PS V : Nat), Hid ((((xm : Int) - (dx : Int) = A1 ∧ (ym : Int) - (dy : Int) = B1 ∧ (xm : Int) + (dx : Int) = A2 ∧ (ym : Int) + (dy : Int) = B2) ∧ (q : Int) * (u1 : Int) = (P1 : Int) ∧ (Q2 : Int) * (u2 : Int) = (P2 : Int) ∧ (q : Int) * (u3 : Int) = (P3 : Int) ∧ (P1 : Int) + (P2 : Int) = (P12 : Int) ∧ (P12 : Int) + (P3 : Int) = (PS : Int) ∧ (PS : Int) / 256 = (V : Int)) ∧ IntKind.i64.wrap A1 = A1 ∧ IntKind.i64.wrap B1 = B1 ∧ IntKind.i64.wrap A2 = A2 ∧ IntKind.i64.wrap B2 = B2 ∧ IntKind.i64.wrap (P1 : Int) = (P1 : Int) ∧ IntKind.i64.wrap (P2 : Int) = (P2 : Int) ∧ IntKind.i64.wrap (P3 : Int) = (P3 : Int) ∧ IntKind.i64.wrap (P12 : Int) = (P12 : Int) ∧ IntKind.i64.wrap (PS : Int) = (PS : Int) ∧ IntKind.i64.wrap (V : Int) = (V : Int)) ∧ Hid (((i : Int) % (x : Int) = (xm : Int) ∧ (i : Int) / (x : Int) = (ym : Int) ∧ (i : Int).tmod (x : Int) = (xm : Int) ∧ (i : Int).tdiv (x : Int) = (ym : Int)) ∧ IntKind.i64.wrap (xm : Int) = (xm : Int) ∧ IntKind.i64.wrap (ym : Int) = (ym : Int) ∧ wrap64 (xm : Int) = (xm : Int) ∧ wrap64 (ym : Int) = (ym : Int)) ∧
      Hid (∀ wx, Sl wx 1 (.slice a n cap) n (i64s p) → Calls Try.prog 58 #[gv x y X Y s (.slice a n cap), .int .i64 A1, .int .i64 B1] wx fun e w' => e = .returned (.int .i64 u1) ∧ Below wx.heap.size wx w') ∧
      Hid (∀ wx, Sl wx 1 (.slice a n cap) n (i64s p) → Calls Try.prog 58 #[gv x y X Y s (.slice a n cap), .int .i64 A2, .int .i64 B2] wx fun e w' => e = .returned (.int .i64 u3) ∧ Below wx.heap.size wx w') ∧
      Hid (p.getD i 0 = (u2 : Int)) ∧ Hid (f i = (V : Int)) := by
    intro i hi
    have hm : i % x < x := Nat.mod_lt _ (by omega)
    have hd : i / x < y := row_lt (by rw [← hyx]; exact hi)
    have he : i / x * x + i % x = i := by rw [Nat.mul_comm]; exact Nat.div_add_mod i x
    have hfi : f i = mix (q : Int) (p.getD ((i / x - dy) * x + (i % x - dx)) 0) (p.getD i 0) (p.getD (min (i / x + dy) (y - 1) * x + min (i % x + dx) (x - 1)) 0) := by rw [hf]; rfl
    obtain ⟨xm, hxm⟩ : ∃ xm, xm = i % x := ⟨_, rfl⟩
    obtain ⟨ym, hym⟩ : ∃ ym, ym = i / x := ⟨_, rfl⟩
    rw [← hxm, ← hym] at hfi
    rw [← hxm] at hm
    rw [← hym] at hd
    have k1 : (ym - dy) * x + (xm - dx) < n := by rw [hyx]; exact at_lt (by omega) (by omega)
    have k3 : min (ym + dy) (y - 1) * x + min (xm + dx) (x - 1) < n := by rw [hyx]; exact at_lt (by omega) (by omega)
    have r1 := getD_mem (P := fun u => 0 ≤ u ∧ u ≤ 1073741824) hr (by rw [hp]; exact k1 : _ < p.length)
    have r2 := getD_mem (P := fun u => 0 ≤ u ∧ u ≤ 1073741824) hr (by rw [hp]; exact hi : i < p.length)
    have r3 := getD_mem (P := fun u => 0 ≤ u ∧ u ≤ 1073741824) hr (by rw [hp]; exact k3 : _ < p.length)
    have C1 := fun wx hs => beside_any x y (xm - dx) (ym - dy) X Y s ((xm : Int) - (dx : Int)) ((ym : Int) - (dy : Int)) a n cap p hp hxy (by omega) (by omega) (by omega) (by omega) (by omega) (by omega) (by omega) (by omega) wx hs
    have C3 := fun wx hs => beside_any x y (min (xm + dx) (x - 1)) (min (ym + dy) (y - 1)) X Y s ((xm : Int) + (dx : Int)) ((ym : Int) + (dy : Int)) a n cap p hp hxy (by omega) (by omega) (by omega) (by omega) (by omega) (by omega) (by omega) (by omega) wx hs
    have hms := mix_sum (q := (q : Int)) (by omega) r1 r2 r3
    obtain ⟨u1, hu1⟩ := Int.eq_ofNat_of_zero_le r1.1
    obtain ⟨u2, hu2⟩ := Int.eq_ofNat_of_zero_le r2.1
    obtain ⟨u3, hu3⟩ := Int.eq_ofNat_of_zero_le r3.1
    rw [hu1, hu2, hu3] at hfi hms
    rw [hu1] at C1
    rw [hu3] at C3
    rw [hQ2] at hms
    have e1 : (q : Int) * (u1 : Int) = ((q * u1 : Nat) : Int) := by simp
    have e2 : (Q2 : Int) * (u2 : Int) = ((Q2 * u2 : Nat) : Int) := by simp
    have e3 : (q : Int) * (u3 : Int) = ((q * u3 : Nat) : Int) := by simp
    obtain ⟨P1, hP1⟩ : ∃ P, P = q * u1 := ⟨_, rfl⟩
    obtain ⟨P2, hP2⟩ : ∃ P, P = Q2 * u2 := ⟨_, rfl⟩
    obtain ⟨P3, hP3⟩ : ∃ P, P = q * u3 := ⟨_, rfl⟩
    rw [← hP1] at e1
    rw [← hP2] at e2
    rw [← hP3] at e3
    unfold mix at hfi
    rw [hQ2, e1, e2, e3] at hfi
    rw [e1, e2, e3] at hms
    have em : (i : Int) % (x : Int) = (xm : Int) := by rw [hxm]; simp
    have ed : (i : Int) / (x : Int) = (ym : Int) := by rw [hym]; simp
    have emt : (i : Int).tmod (x : Int) = (xm : Int) := by rw [Int.tmod_eq_emod_of_nonneg (Int.natCast_nonneg i)]; exact em
    have edt : (i : Int).tdiv (x : Int) = (ym : Int) := by rw [Int.tdiv_eq_ediv_of_nonneg (Int.natCast_nonneg i)]; exact ed
    have HDM : ((i : Int) % (x : Int) = (xm : Int) ∧ (i : Int) / (x : Int) = (ym : Int) ∧ (i : Int).tmod (x : Int) = (xm : Int) ∧ (i : Int).tdiv (x : Int) = (ym : Int)) := ⟨em, ed, emt, edt⟩
    have HDM := Lib.hid HDM
    clear em ed emt edt hxm hym he k1 k3
    have hfi2 : f i = (((P1 + P2 + P3) / 256 : Nat) : Int) := by rw [hfi]; omega
    have hE : ((P1 : Int) + (P2 : Int) = ((P1 + P2 : Nat) : Int)) ∧ ((P1 + P2 : Nat) : Int) + (P3 : Int) = ((P1 + P2 + P3 : Nat) : Int) ∧ ((P1 + P2 + P3 : Nat) : Int) / 256 = (((P1 + P2 + P3) / 256 : Nat) : Int) := ⟨by omega, by omega, by omega⟩
    have hb : P1 ≤ 1000000000000 ∧ P2 ≤ 1000000000000 ∧ P3 ≤ 1000000000000 := by omega
    clear hms hfi r1 r2 r3
    refine ⟨_, _, _, _, xm, ym, u1, u2, u3, P1, P2, P3, P1 + P2, P1 + P2 + P3, (P1 + P2 + P3) / 256, Lib.hid ⟨⟨⟨rfl, rfl, rfl, rfl⟩, e1, e2, e3, hE⟩, ?_⟩, Lib.hid ⟨HDM.out, IntWalk.i64_in _ (by omega), IntWalk.i64_in _ (by omega), IntWalk.wrap64_in _ (by omega), IntWalk.wrap64_in _ (by omega)⟩, Lib.hid C1, Lib.hid C3, Lib.hid hu2, Lib.hid hfi2⟩
    clear e1 e2 e3 hE
    exact ⟨IntWalk.i64_in _ (by omega), IntWalk.i64_in _ (by omega), IntWalk.i64_in _ (by omega), IntWalk.i64_in _ (by omega), IntWalk.i64_in _ (by omega), IntWalk.i64_in _ (by omega), IntWalk.i64_in _ (by omega), IntWalk.i64_in _ (by omega), IntWalk.i64_in _ (by omega), IntWalk.i64_in _ (by omega)⟩
  have HST := Lib.hid hst
  have CW := Lib.hid (fun a' cap' => rwith_any x y X Y s a n cap a' n cap')
  have HT := Lib.hid (fun i => i64s_tab f i)
  have HP := Lib.hid hp
  have HS := Lib.hid hS
  have hmx := hS.max
  have wq2 : IntKind.i64.wrap (2 * (q : Int)) = 2 * (q : Int) := IntWalk.i64_in _ (by omega)
  have wQ2 : IntKind.i64.wrap (Q2 : Int) = (Q2 : Int) := IntWalk.i64_in _ (by omega)
  have hx0 : ¬ ((x : Int) = 0) := by omega
  have hx1 : ¬ (x = 0) := by omega
  clear hst hp hS hr hsd hxy hle hyx hf ht
  obtain ⟨w1, hw1⟩ : ∃ w1, w.alloc (.cells #[.int .i64 x, .int .i64 y, .int .i64 X, .int .i64 Y, .int .i64 s, .slice a n cap] 24) = w1 := ⟨_, rfl⟩
  have M1 := (Mem.start w).alloc 24 (gc x y X Y s (.slice a n cap))
  rw [show w.alloc (.cells (gc x y X Y s (.slice a n cap)).toArray 24) = w1 from hw1] at M1
  obtain ⟨w2, hw2⟩ : ∃ w2, w1.alloc (.cells #[.int .i64 0, .int .i64 0, .int .i64 0, .int .i64 0, .int .i64 0, .slice none 0 0] 24) = w2 := ⟨_, rfl⟩
  have M2 := M1.alloc 24 (gc 0 0 0 0 0 (.slice none 0 0))
  rw [show w1.alloc (.cells (gc 0 0 0 0 0 (.slice none 0 0)).toArray 24) = w2 from hw2] at M2
  have hsz : w1.heap.size = w.heap.size + 1 := by rw [← hw1]; simp
  have HW1 := Lib.hid hw1
  have HW2 := Lib.hid hw2
  clear hw1 hw2 M1
  go_enter Try.func47, Try.ntmps47
  ((go_upto_region 1 with fail); rw [HW1.out, HW2.out, ← hsz]; clear HW1 HW2; obtain ⟨gB, hgB⟩ : ∃ gB, gB = w1.heap.size := ⟨_, rfl⟩; obtain ⟨gA, hgA⟩ : ∃ gA, gA = w.heap.size := ⟨_, rfl⟩; rw [← hgB] at M2 ⊢; rw [← hgA] at M2 ⊢; have hne : gA ≠ gB := (by omega); clear hgA hgB hsz)
  have hown : w2.ownsRow w.heap.size 2 1 (.slice none 0 0) 0 (i64s (tab f 0)) := World.ownsRow_nil _ _ _ _
  go_wp2_with fail
  go_loopw [9, 10] (fun v c wx => ∃ i : Nat, i ≤ n ∧ c = .int .i64 i ∧ wx.ownsRow w.heap.size 2 1 v i (i64s (tab f i)) ∧ Mem w wx [(gB, 24, gc 0 0 0 0 0 (.slice none 0 0)), (gA, 24, gc x y X Y s (.slice a n cap))]) (fun _ c _ => n - (intOf c).toNat)
  case atStart => exact ⟨0, Nat.zero_le _, rfl, hown, M2⟩
  case round =>
    clear hown M2
    obtain ⟨i, hi, rfl, ho, M⟩ := hrel
    obtain ⟨c0, c1, c2, c3, c4, c5⟩ := gcells (M.has (.tail _ _ _ _ _ (Has.head _ _ _ _)))
    by_cases hlt : i < n
    · obtain ⟨A1, B1, A2, B2, xm, ym, u1, u2, u3, P1, P2, P3, P12, PS, V, HE, HDM, C1, C3, HU, HFI⟩ := HST.out i hlt
      obtain ⟨b, o, rfl, hbl, cu⟩ := cell64 (HS.out.below M.below) i (by rw [HP.out]; exact hlt)
      rw [HU.out] at cu
      have hb63 : i + 1 ≤ maxLen := by unfold maxLen; omega
      have hb8 : (i + 1) * 8 ≤ 140737488355328 := by omega
      have hi1 : i + 1 ≤ n := by omega
      obtain ⟨⟨em, ed, emt, edt⟩, wxm, wym, wxm2, wym2⟩ := HDM.out
      go_upto_region 7 with fail
      clear em ed emt edt wxm wym wxm2 wym2
      obtain ⟨⟨⟨eA1, eB1, eA2, eB2⟩, e1, e2, e3, e12, eS, eV⟩, wA1, wB1, wA2, wB2, wP1, wP2, wP3, wP12, wPS, wV⟩ := HE.out
      refine wp_region_held_drew (S := (fun w' : World => w'.cell? ⟨gA, 0, none⟩ = some (.int .i64 x) ∧ w'.cell? ⟨gA, 1, none⟩ = some (.int .i64 y) ∧ w'.cell? ⟨gA, 2, none⟩ = some (.int .i64 X) ∧ w'.cell? ⟨gA, 3, none⟩ = some (.int .i64 Y) ∧ w'.cell? ⟨gA, 4, none⟩ = some (.int .i64 s) ∧ w'.cell? ⟨gA, 5, none⟩ = some (.slice (some ⟨b, o, none⟩) n cap) ∧ w'.cell? ⟨b, o + i, none⟩ = some (.int .i64 (u2 : Int)))) (by kernel_rfl) (⟨c0, c1, c2, c3, c4, c5, cu⟩) (fun hHeld => ?_)
      refine wpAnyH_take (i := 0) (v := ?v11) rfl (by kernel_rfl) (by kernel_rfl) (by kernel_rfl) (fun _ _ _ h => h) (Or.inl ⟨by rfl, ?hy11⟩) hHeld ?rest11
      case hy11 => (intro w' hSw; (try dsimp only at hSw); go_simp; (try with_reducible rfl))
      try simp only [Act.put, List.setIfInBounds_toArray, List.set_cons_zero, List.set_cons_succ, List.getElem_toArray, List.getElem_cons_zero, List.getElem_cons_succ]
      refine wpAnyH_take (i := 1) (v := ?v12) rfl (by kernel_rfl) (by kernel_rfl) (by kernel_rfl) (fun _ _ _ h => h) (Or.inl ⟨by rfl, ?hy12⟩) hHeld ?rest12
      case hy12 => (intro w' hSw; (try dsimp only at hSw); go_simp; (try with_reducible rfl))
      try simp only [Act.put, List.setIfInBounds_toArray, List.set_cons_zero, List.set_cons_succ, List.getElem_toArray, List.getElem_cons_zero, List.getElem_cons_succ]
      refine wpAnyH_take (i := 2) (v := ?v13) rfl (by kernel_rfl) (by kernel_rfl) (by kernel_rfl) (fun _ _ _ h => h) (Or.inl ⟨by rfl, ?hy13⟩) hHeld ?rest13
      case hy13 => (intro w' hSw; (try dsimp only at hSw); go_simp; (try with_reducible rfl))
      try simp only [Act.put, List.setIfInBounds_toArray, List.set_cons_zero, List.set_cons_succ, List.getElem_toArray, List.getElem_cons_zero, List.getElem_cons_succ]
      refine wpAnyH_take (i := 3) (v := ?v14) rfl (by kernel_rfl) (by kernel_rfl) (by kernel_rfl) (fun _ _ _ h => h) (Or.inl ⟨by rfl, ?hy14⟩) hHeld ?rest14
      case hy14 => (intro w' hSw; (try dsimp only at hSw); go_simp; (try with_reducible rfl))
      try simp only [Act.put, List.setIfInBounds_toArray, List.set_cons_zero, List.set_cons_succ, List.getElem_toArray, List.getElem_cons_zero, List.getElem_cons_succ]
      refine wpAnyH_take (i := 4) (v := ?v15) rfl (by kernel_rfl) (by kernel_rfl) (by kernel_rfl) (fun _ _ _ h => h) (Or.inl ⟨by rfl, ?hy15⟩) hHeld ?rest15
      case hy15 => (intro w' hSw; (try dsimp only at hSw); go_simp; (try with_reducible rfl))
      try simp only [Act.put, List.setIfInBounds_toArray, List.set_cons_zero, List.set_cons_succ, List.getElem_toArray, List.getElem_cons_zero, List.getElem_cons_succ]
      refine wpAnyH_take (i := 5) (v := ?v16) rfl (by kernel_rfl) (by kernel_rfl) (by kernel_rfl) (fun _ _ _ h => h) (Or.inl ⟨by rfl, ?hy16⟩) hHeld ?rest16
      case hy16 => (intro w' hSw; (try dsimp only at hSw); go_simp; (try with_reducible rfl))
      try simp only [Act.put, List.setIfInBounds_toArray, List.set_cons_zero, List.set_cons_succ, List.getElem_toArray, List.getElem_cons_zero, List.getElem_cons_succ]
      refine wpAnyH_take (i := 6) (v := ?v17) rfl (by kernel_rfl) (by kernel_rfl) (by kernel_rfl) (fun _ _ _ h => h) (Or.inl ⟨by rfl, ?hy17⟩) hHeld ?rest17
      case hy17 => (intro w' hSw; (try dsimp only at hSw); go_simp; (try with_reducible rfl))
      try simp only [Act.put, List.setIfInBounds_toArray, List.set_cons_zero, List.set_cons_succ, List.getElem_toArray, List.getElem_cons_zero, List.getElem_cons_succ]
      refine wpAnyH_take (i := 7) (v := ?v18) rfl (by kernel_rfl) (by kernel_rfl) (by kernel_rfl) (fun _ _ _ h => h) (Or.inl ⟨by rfl, ?hy18⟩) hHeld ?rest18
      case hy18 => (intro w' hSw; (try dsimp only at hSw); go_simp; (try with_reducible rfl))
      try simp only [Act.put, List.setIfInBounds_toArray, List.set_cons_zero, List.set_cons_succ, List.getElem_toArray, List.getElem_cons_zero, List.getElem_cons_succ]
      refine wpAnyH_take (i := 8) (v := ?v19) rfl (by kernel_rfl) (by kernel_rfl) (by kernel_rfl) (fun _ _ _ h => h) (Or.inl ⟨by rfl, ?hy19⟩) hHeld ?rest19
      case hy19 => (intro w' hSw; (try dsimp only at hSw); go_simp; (try with_reducible rfl))
      try simp only [Act.put, List.setIfInBounds_toArray, List.set_cons_zero, List.set_cons_succ, List.getElem_toArray, List.getElem_cons_zero, List.getElem_cons_succ]
      refine wpAnyH_take (i := 11) (v := ?v20) rfl (by kernel_rfl) (by kernel_rfl) (by kernel_rfl) (fun _ _ _ h => h) (Or.inl ⟨by rfl, ?hy20⟩) hHeld ?rest20
      case hy20 => (intro w' hSw; (try dsimp only at hSw); go_simp; (try with_reducible rfl))
      try simp only [Act.put, List.setIfInBounds_toArray, List.set_cons_zero, List.set_cons_succ, List.getElem_toArray, List.getElem_cons_zero, List.getElem_cons_succ]
      refine wpAnyH_take (i := 12) (v := ?v21) rfl (by kernel_rfl) (by kernel_rfl) (by kernel_rfl) (fun _ _ _ h => h) (Or.inl ⟨by rfl, ?hy21⟩) hHeld ?rest21
      case hy21 => (intro w' hSw; (try dsimp only at hSw); go_simp; (try with_reducible rfl))
      try simp only [Act.put, List.setIfInBounds_toArray, List.set_cons_zero, List.set_cons_succ, List.getElem_toArray, List.getElem_cons_zero, List.getElem_cons_succ]
      refine wpAnyH_take (i := 13) (v := ?v22) rfl (by kernel_rfl) (by kernel_rfl) (by kernel_rfl) (fun _ _ _ h => h) (Or.inl ⟨by rfl, ?hy22⟩) hHeld ?rest22
      case hy22 => (intro w' hSw; (try dsimp only at hSw); go_simp; (try with_reducible rfl))
      try simp only [Act.put, List.setIfInBounds_toArray, List.set_cons_zero, List.set_cons_succ, List.getElem_toArray, List.getElem_cons_zero, List.getElem_cons_succ]
      refine wpAnyH_take (i := 14) (v := ?v23) rfl (by kernel_rfl) (by kernel_rfl) (by kernel_rfl) (fun _ _ _ h => h) (Or.inl ⟨by rfl, ?hy23⟩) hHeld ?rest23
      case hy23 => (intro w' hSw; (try dsimp only at hSw); go_simp; (try with_reducible rfl))
      try simp only [Act.put, List.setIfInBounds_toArray, List.set_cons_zero, List.set_cons_succ, List.getElem_toArray, List.getElem_cons_zero, List.getElem_cons_succ]
      refine wpAnyH_take (i := 15) (v := ?v24) rfl (by kernel_rfl) (by kernel_rfl) (by kernel_rfl) (fun _ _ _ h => h) (Or.inl ⟨by rfl, ?hy24⟩) hHeld ?rest24
      case hy24 => (intro w' hSw; (try dsimp only at hSw); go_simp; (try with_reducible rfl))
      try simp only [Act.put, List.setIfInBounds_toArray, List.set_cons_zero, List.set_cons_succ, List.getElem_toArray, List.getElem_cons_zero, List.getElem_cons_succ]
      refine wpAnyH_take (i := 16) (v := ?v25) rfl (by kernel_rfl) (by kernel_rfl) (by kernel_rfl) (fun _ _ _ h => h) (Or.inl ⟨by rfl, ?hy25⟩) hHeld ?rest25
      case hy25 => (intro w' hSw; (try dsimp only at hSw); go_simp; (try with_reducible rfl))
      try simp only [Act.put, List.setIfInBounds_toArray, List.set_cons_zero, List.set_cons_succ, List.getElem_toArray, List.getElem_cons_zero, List.getElem_cons_succ]
      refine wpAnyH_take (i := 17) (v := ?v26) rfl (by kernel_rfl) (by kernel_rfl) (by kernel_rfl) (fun _ _ _ h => h) (Or.inl ⟨by rfl, ?hy26⟩) hHeld ?rest26
      case hy26 => (intro w' hSw; (try dsimp only at hSw); go_simp; (try with_reducible rfl))
      try simp only [Act.put, List.setIfInBounds_toArray, List.set_cons_zero, List.set_cons_succ, List.getElem_toArray, List.getElem_cons_zero, List.getElem_cons_succ]
      refine wpAnyH_take (i := 18) (v := ?v27) rfl (by kernel_rfl) (by kernel_rfl) (by kernel_rfl) (fun _ _ _ h => h) (Or.inl ⟨by rfl, ?hy27⟩) hHeld ?rest27
      case hy27 => (intro w' hSw; (try dsimp only at hSw); go_simp; (try with_reducible rfl))
      try simp only [Act.put, List.setIfInBounds_toArray, List.set_cons_zero, List.set_cons_succ, List.getElem_toArray, List.getElem_cons_zero, List.getElem_cons_succ]
      refine wpAnyH_take (i := 19) (v := ?v28) rfl (by kernel_rfl) (by kernel_rfl) (by kernel_rfl) (fun _ _ _ h => h) (Or.inl ⟨by rfl, ?hy28⟩) hHeld ?rest28
      case hy28 => (intro w' hSw; (try dsimp only at hSw); go_simp; (try with_reducible rfl))
      try simp only [Act.put, List.setIfInBounds_toArray, List.set_cons_zero, List.set_cons_succ, List.getElem_toArray, List.getElem_cons_zero, List.getElem_cons_succ]
      refine wpAnyH_take (i := 21) (v := ?v29) rfl (by kernel_rfl) (by kernel_rfl) (by kernel_rfl) (fun _ _ _ h => h) (Or.inl ⟨by rfl, ?hy29⟩) hHeld ?rest29
      case hy29 => (intro w' hSw; (try dsimp only at hSw); go_simp; (try with_reducible rfl))
      try simp only [Act.put, List.setIfInBounds_toArray, List.set_cons_zero, List.set_cons_succ, List.getElem_toArray, List.getElem_cons_zero, List.getElem_cons_succ]
      refine wpAnyH_take (i := 22) (v := ?v30) rfl (by kernel_rfl) (by kernel_rfl) (by kernel_rfl) (fun _ _ _ h => h) (Or.inl ⟨by rfl, ?hy30⟩) hHeld ?rest30
      case hy30 => (intro w' hSw; (try dsimp only at hSw); go_simp; (try with_reducible rfl))
      try simp only [Act.put, List.setIfInBounds_toArray, List.set_cons_zero, List.set_cons_succ, List.getElem_toArray, List.getElem_cons_zero, List.getElem_cons_succ]
      refine wpAnyH_take (i := 23) (v := ?v31) rfl (by kernel_rfl) (by kernel_rfl) (by kernel_rfl) (fun _ _ _ h => h) (Or.inl ⟨by rfl, ?hy31⟩) hHeld ?rest31
      case hy31 => (intro w' hSw; (try dsimp only at hSw); go_simp; (try with_reducible rfl))
      try simp only [Act.put, List.setIfInBounds_toArray, List.set_cons_zero, List.set_cons_succ, List.getElem_toArray, List.getElem_cons_zero, List.getElem_cons_succ]
      refine wpAnyH_take (i := 24) (v := ?v32) rfl (by kernel_rfl) (by kernel_rfl) (by kernel_rfl) (fun _ _ _ h => h) (Or.inl ⟨by rfl, ?hy32⟩) hHeld ?rest32
      case hy32 => (intro w' hSw; (try dsimp only at hSw); go_simp; (try with_reducible rfl))
      try simp only [Act.put, List.setIfInBounds_toArray, List.set_cons_zero, List.set_cons_succ, List.getElem_toArray, List.getElem_cons_zero, List.getElem_cons_succ]
      refine wpAnyH_take (i := 25) (v := ?v33) rfl (by kernel_rfl) (by kernel_rfl) (by kernel_rfl) (fun _ _ _ h => h) (Or.inl ⟨by rfl, ?hy33⟩) hHeld ?rest33
      case hy33 => (intro w' hSw; (try dsimp only at hSw); go_simp; (try with_reducible rfl))
      try simp only [Act.put, List.setIfInBounds_toArray, List.set_cons_zero, List.set_cons_succ, List.getElem_toArray, List.getElem_cons_zero, List.getElem_cons_succ]
      refine wpAnyH_take (i := 26) (v := ?v34) rfl (by kernel_rfl) (by kernel_rfl) (by kernel_rfl) (fun _ _ _ h => h) (Or.inl ⟨by rfl, ?hy34⟩) hHeld ?rest34
      case hy34 => (intro w' hSw; (try dsimp only at hSw); go_simp; (try with_reducible rfl))
      try simp only [Act.put, List.setIfInBounds_toArray, List.set_cons_zero, List.set_cons_succ, List.getElem_toArray, List.getElem_cons_zero, List.getElem_cons_succ]
      refine wpAnyH_take (i := 27) (v := ?v35) rfl (by kernel_rfl) (by kernel_rfl) (by kernel_rfl) (fun _ _ _ h => h) (Or.inl ⟨by rfl, ?hy35⟩) hHeld ?rest35
      case hy35 => (intro w' hSw; (try dsimp only at hSw); go_simp; (try with_reducible rfl))
      try simp only [Act.put, List.setIfInBounds_toArray, List.set_cons_zero, List.set_cons_succ, List.getElem_toArray, List.getElem_cons_zero, List.getElem_cons_succ]
      refine wpAnyH_take (i := 28) (v := ?v36) rfl (by kernel_rfl) (by kernel_rfl) (by kernel_rfl) (fun _ _ _ h => h) (Or.inl ⟨by rfl, ?hy36⟩) hHeld ?rest36
      case hy36 => (intro w' hSw; (try dsimp only at hSw); go_simp; (try with_reducible rfl))
      try simp only [Act.put, List.setIfInBounds_toArray, List.set_cons_zero, List.set_cons_succ, List.getElem_toArray, List.getElem_cons_zero, List.getElem_cons_succ]
      refine wpAnyH_ready (rs := [9]) (by kernel_rfl) (by simp) ?_
      refine AllReadyH.cons rfl (fun K hK => ?_) AllReadyH.nil
      go_simp
      refine (C1.out _ (HS.out.below M.drew.below)).mono ?_
      rintro e w6 ⟨rfl, hA⟩
      have M6 := M.drew.call hA
      have ho6 := ownsRow_below (w := wr.drew) ho hA
      try go_wp2_with fail
      refine hK.out _ _ (⟨M6.cell (.tail _ _ _ _ _ (Has.head _ _ _ _)) (i := 0) rfl, M6.cell (.tail _ _ _ _ _ (Has.head _ _ _ _)) (i := 1) rfl, M6.cell (.tail _ _ _ _ _ (Has.head _ _ _ _)) (i := 2) rfl, M6.cell (.tail _ _ _ _ _ (Has.head _ _ _ _)) (i := 3) rfl, M6.cell (.tail _ _ _ _ _ (Has.head _ _ _ _)) (i := 4) rfl, M6.cell (.tail _ _ _ _ _ (Has.head _ _ _ _)) (i := 5) rfl, (hA.cell (p := ⟨b, o + i, none⟩) hbl).trans cu⟩) (fun hHeld => ?_)
      clear hK K
      try simp only [Act.put, List.setIfInBounds_toArray, List.set_cons_zero, List.set_cons_succ, List.getElem_toArray, List.getElem_cons_zero, List.getElem_cons_succ]
      refine wpAnyH_take (i := 10) (v := ?v38) rfl (by kernel_rfl) (by kernel_rfl) (by kernel_rfl) (fun _ _ _ h => h) (Or.inl ⟨by rfl, ?hy38⟩) hHeld ?rest38
      case hy38 => (intro w' hSw; (try dsimp only at hSw); go_simp; (try with_reducible rfl))
      try simp only [Act.put, List.setIfInBounds_toArray, List.set_cons_zero, List.set_cons_succ, List.getElem_toArray, List.getElem_cons_zero, List.getElem_cons_succ]
      refine wpAnyH_take (i := 20) (v := ?v39) rfl (by kernel_rfl) (by kernel_rfl) (by kernel_rfl) (fun _ _ _ h => h) (Or.inl ⟨by rfl, ?hy39⟩) hHeld ?rest39
      case hy39 => (intro w' hSw; (try dsimp only at hSw); go_simp; (try with_reducible rfl))
      try simp only [Act.put, List.setIfInBounds_toArray, List.set_cons_zero, List.set_cons_succ, List.getElem_toArray, List.getElem_cons_zero, List.getElem_cons_succ]
      refine wpAnyH_ready (rs := [29]) (by kernel_rfl) (by simp) ?_
      refine AllReadyH.cons rfl (fun K hK => ?_) AllReadyH.nil
      go_simp
      refine (C3.out _ (HS.out.below M6.below)).mono ?_
      rintro e w7 ⟨rfl, hA7⟩
      have M7 := M6.call hA7
      have ho7 := ownsRow_below ho6 hA7
      obtain ⟨_, _, hee, _, e77⟩ := cell64 (HS.out.below M7.below) i (by rw [HP.out]; exact hlt)
      cases hee
      rw [HU.out] at e77
      try go_wp2_with fail
      refine hK.out _ _ (⟨M7.cell (.tail _ _ _ _ _ (Has.head _ _ _ _)) (i := 0) rfl, M7.cell (.tail _ _ _ _ _ (Has.head _ _ _ _)) (i := 1) rfl, M7.cell (.tail _ _ _ _ _ (Has.head _ _ _ _)) (i := 2) rfl, M7.cell (.tail _ _ _ _ _ (Has.head _ _ _ _)) (i := 3) rfl, M7.cell (.tail _ _ _ _ _ (Has.head _ _ _ _)) (i := 4) rfl, M7.cell (.tail _ _ _ _ _ (Has.head _ _ _ _)) (i := 5) rfl, e77⟩) (fun hHeld => ?_)
      clear hK K
      try simp only [Act.put, List.setIfInBounds_toArray, List.set_cons_zero, List.set_cons_succ, List.getElem_toArray, List.getElem_cons_zero, List.getElem_cons_succ]
      refine wpAnyH_take (i := 30) (v := ?v41) rfl (by kernel_rfl) (by kernel_rfl) (by kernel_rfl) (fun _ _ _ h => h) (Or.inl ⟨by rfl, ?hy41⟩) hHeld ?rest41
      case hy41 => (intro w' hSw; (try dsimp only at hSw); go_simp; (try with_reducible rfl))
      try simp only [Act.put, List.setIfInBounds_toArray, List.set_cons_zero, List.set_cons_succ, List.getElem_toArray, List.getElem_cons_zero, List.getElem_cons_succ]
      refine wpAnyH_take (i := 31) (v := ?v42) rfl (by kernel_rfl) (by kernel_rfl) (by kernel_rfl) (fun _ _ _ h => h) (Or.inl ⟨by rfl, ?hy42⟩) hHeld ?rest42
      case hy42 => (intro w' hSw; (try dsimp only at hSw); go_simp; (try with_reducible rfl))
      try simp only [Act.put, List.setIfInBounds_toArray, List.set_cons_zero, List.set_cons_succ, List.getElem_toArray, List.getElem_cons_zero, List.getElem_cons_succ]
      refine wpAnyH_take (i := 32) (v := ?v43) rfl (by kernel_rfl) (by kernel_rfl) (by kernel_rfl) (fun _ _ _ h => h) (Or.inl ⟨by rfl, ?hy43⟩) hHeld ?rest43
      case hy43 => (intro w' hSw; (try dsimp only at hSw); go_simp; (try with_reducible rfl))
      try simp only [Act.put, List.setIfInBounds_toArray, List.set_cons_zero, List.set_cons_succ, List.getElem_toArray, List.getElem_cons_zero, List.getElem_cons_succ]
      refine wpAnyH_ready (rs := [33]) (by kernel_rfl) (by simp) ?_
      refine AllReadyH.cons rfl (fun K hK => ?_) AllReadyH.nil
      go_simp
      obtain ⟨w8, hw8⟩ : ∃ w8, w7.alloc (.cells #[.int .i64 (V : Int)] 2) = w8 := ⟨_, rfl⟩
      have hA8 : Below w7.heap.size w7 w8 := by rw [← hw8]; exact (Below.refl _ _).alloc (Nat.le_refl _) _
      have p8 : Sl w8 1 (.slice (some ⟨w7.heap.size, 0, none⟩) 1 1) 1 [.int .i64 (V : Int)] := by rw [← hw8]; exact Sl.one w7 _ _
      have M8 := M7.call hA8
      have ho8 := ownsRow_below ho7 hA8
      obtain ⟨_, _, hee, _, e88⟩ := cell64 (HS.out.below M8.below) i (by rw [HP.out]; exact hlt)
      cases hee
      rw [HU.out] at e88
      (try simp only [hw8])
      clear hw8
      try go_wp2_with fail
      refine hK.out _ _ (⟨M8.cell (.tail _ _ _ _ _ (Has.head _ _ _ _)) (i := 0) rfl, M8.cell (.tail _ _ _ _ _ (Has.head _ _ _ _)) (i := 1) rfl, M8.cell (.tail _ _ _ _ _ (Has.head _ _ _ _)) (i := 2) rfl, M8.cell (.tail _ _ _ _ _ (Has.head _ _ _ _)) (i := 3) rfl, M8.cell (.tail _ _ _ _ _ (Has.head _ _ _ _)) (i := 4) rfl, M8.cell (.tail _ _ _ _ _ (Has.head _ _ _ _)) (i := 5) rfl, e88⟩) (fun hHeld => ?_)
      clear hK K
      try simp only [Act.put, List.setIfInBounds_toArray, List.set_cons_zero, List.set_cons_succ, List.getElem_toArray, List.getElem_cons_zero, List.getElem_cons_succ]
      refine wpAnyH_ready (rs := [34]) (by kernel_rfl) (by simp) ?_
      refine AllReadyH.cons rfl (fun K hK => ?_) AllReadyH.nil
      rw [if_pos (by rfl)]
      refine wp_app E64 (.tmp 28) (.tmp 61) rfl w.heap.size rfl ho8 rfl p8 (by intro u hu; simp at hu; subst hu; rfl) hb63 hb8 M8.below.size ?_
      intro v9 w9 ho9 hg9 _
      have M9 := app_mem M8 (Below.refl _ _) ho8 hg9 (Nat.le_refl _) (by simp)
      obtain ⟨_, _, hee, _, e99⟩ := cell64 (HS.out.below M9.below) i (by rw [HP.out]; exact hlt)
      cases hee
      rw [HU.out] at e99
      obtain ⟨a9, c9, rfl, _, _⟩ := ownsRow_slice ho9
      rw [← HFI.out, HT.out i] at ho9
      refine hK.out _ _ (⟨M9.cell (.tail _ _ _ _ _ (Has.head _ _ _ _)) (i := 0) rfl, M9.cell (.tail _ _ _ _ _ (Has.head _ _ _ _)) (i := 1) rfl, M9.cell (.tail _ _ _ _ _ (Has.head _ _ _ _)) (i := 2) rfl, M9.cell (.tail _ _ _ _ _ (Has.head _ _ _ _)) (i := 3) rfl, M9.cell (.tail _ _ _ _ _ (Has.head _ _ _ _)) (i := 4) rfl, M9.cell (.tail _ _ _ _ _ (Has.head _ _ _ _)) (i := 5) rfl, e99⟩) (fun hHeld => ?_)
      clear hK K
      try simp only [Act.put, List.setIfInBounds_toArray, List.set_cons_zero, List.set_cons_succ, List.getElem_toArray, List.getElem_cons_zero, List.getElem_cons_succ]
      refine wpAnyH_take (i := 35) (v := ?v46) rfl (by kernel_rfl) (by kernel_rfl) (by kernel_rfl) (fun _ _ _ h => h) (Or.inl ⟨by rfl, ?hy46⟩) hHeld ?rest46
      case hy46 => (intro w' hSw; (try dsimp only at hSw); go_simp; (try with_reducible rfl))
      try simp only [Act.put, List.setIfInBounds_toArray, List.set_cons_zero, List.set_cons_succ, List.getElem_toArray, List.getElem_cons_zero, List.getElem_cons_succ]
      refine wpAnyH_done (by kernel_rfl) ?_ _
      clear eA1 eB1 eA2 eB2 e1 e2 e3 e12 eS eV wA1 wB1 wA2 wB2 wP1 wP2 wP3 wP12 wPS wV e77 e88 e99 cu c0 c1 c2 c3 c4 c5 ho6 ho7 ho8 p8 hg9 M8 M7 M6 hA hA7 hA8 ho M
      go_wp2_with fail
      go_roundw
      case rel => exact ⟨i + 1, by omega, by go_num, ho9, M9⟩
      case measure => simp [intOf]; omega
    · obtain rfl : n = i := by omega
      obtain ⟨a5, cap5, rfl, _, _⟩ := ownsRow_slice ho
      go_wp2_with fail
      refine (CW.out a5 cap5 _).mono ?_
      rintro e w5 ⟨rfl, hA⟩
      have M3 := M.call hA
      have ho5 := ownsRow_below ho hA
      clear c0 c1 c2 c3 c4 c5
      go_wp2_with ((with_reducible refine (?_ : Go.wpList _ _ _ (_ :: _) _ _)); (first | go_skip | (refine wpL_stM (v := gv x y X Y s (.slice a5 n cap5)) M3 rfl rfl rfl rfl (wr_g _ _ _ _ _ _ _ _ _ _ _ _ _ _) (Upd.head _ _ _ _ _) ?_; intro w4 M4 hT4)))
      have ho6 := gown_turned ho5 (M3.has (Has.head _ _ _ _)) (by decide) hT4
      ((try simp only [Exit.inBlock, Exit.then]); refine bodyPost_ret (res_cell rfl M4 rfl (Has.head _ _ _ _) (rd_g _ _ _ _ _ _)) rfl ?_)
      exact ⟨_, _, rfl, ho6, M4.below⟩

set_option maxRecDepth 20000 in
set_option maxHeartbeats 1600000 in
theorem rspread_no (x y X Y s q : Int) (a : Option Addr) (n cap : Nat) (p : List Int) (hp : p.length = n) (hq : inR q 0 85 = false) (w : World) (hS : Sl w 1 (.slice a n cap) n (i64s p)) :
    Calls Try.prog 18 #[gv x y X Y s (.slice a n cap), .int .i64 q] w (GSaid x y X Y s n p 2 w) := by
  have hqn : ¬ (0 ≤ q ∧ q ≤ 85) := by unfold inR at hq; exact of_decide_eq_false hq
  have HS := Lib.hid hS
  clear hq hS hp
  by_cases h : q < 0
  · clear hqn
    (obtain ⟨w1, hw1⟩ : ∃ w1, w.alloc (.cells #[.int .i64 x, .int .i64 y, .int .i64 X, .int .i64 Y, .int .i64 s, .slice a n cap] 24) = w1 := ⟨_, rfl⟩; have M1 := (Mem.start w).alloc 24 (gc x y X Y s (.slice a n cap)); rw [show w.alloc (.cells (gc x y X Y s (.slice a n cap)).toArray 24) = w1 from hw1] at M1; obtain ⟨w2, hw2⟩ : ∃ w2, w1.alloc (.cells #[.int .i64 0, .int .i64 0, .int .i64 0, .int .i64 0, .int .i64 0, .slice none 0 0] 24) = w2 := ⟨_, rfl⟩; have M2 := M1.alloc 24 (gc 0 0 0 0 0 (.slice none 0 0)); rw [show w1.alloc (.cells (gc 0 0 0 0 0 (.slice none 0 0)).toArray 24) = w2 from hw2] at M2; have hsz : w1.heap.size = w.heap.size + 1 := (by rw [← hw1]; simp); have HW1 := Lib.hid hw1; have HW2 := Lib.hid hw2; clear hw1 hw2 M1)
    go_enter Try.func18, Try.ntmps18
    ((go_upto_region 1 with fail); rw [HW1.out, HW2.out, ← hsz]; clear HW1 HW2; obtain ⟨gB, hgB⟩ : ∃ gB, gB = w1.heap.size := ⟨_, rfl⟩; obtain ⟨gA, hgA⟩ : ∃ gA, gA = w.heap.size := ⟨_, rfl⟩; rw [← hgB] at M2 ⊢; rw [← hgA] at M2 ⊢; have hne : gA ≠ gB := (by omega); clear hgA hgB hsz)
    obtain ⟨c0, c1, c2, c3, c4, c5⟩ := gcells (M2.has (.tail _ _ _ _ _ (Has.head _ _ _ _)))
    go_wp2_with ((with_reducible refine (?_ : Go.wpList _ _ _ (_ :: _) _ _)); (first | go_skip | (refine wpL_stM (v := gv x y X Y s (.slice a n cap)) M2 rfl rfl rfl rfl (wr_g _ _ _ _ _ _ _ _ _ _ _ _ _ _) (Upd.head _ _ _ _ _) ?_; intro w4 M4 hT4)))
    ((try simp only [Exit.inBlock, Exit.then]); refine bodyPost_ret (res_cell_tmp rfl M4 rfl (Has.head _ _ _ _) (rd_g _ _ _ _ _ _) rfl) rfl ?_)
    exact ⟨_, _, rfl, HS.out.below M4.below, M4.below⟩
  · have h2 : 85 < q := by omega
    clear hqn
    (obtain ⟨w1, hw1⟩ : ∃ w1, w.alloc (.cells #[.int .i64 x, .int .i64 y, .int .i64 X, .int .i64 Y, .int .i64 s, .slice a n cap] 24) = w1 := ⟨_, rfl⟩; have M1 := (Mem.start w).alloc 24 (gc x y X Y s (.slice a n cap)); rw [show w.alloc (.cells (gc x y X Y s (.slice a n cap)).toArray 24) = w1 from hw1] at M1; obtain ⟨w2, hw2⟩ : ∃ w2, w1.alloc (.cells #[.int .i64 0, .int .i64 0, .int .i64 0, .int .i64 0, .int .i64 0, .slice none 0 0] 24) = w2 := ⟨_, rfl⟩; have M2 := M1.alloc 24 (gc 0 0 0 0 0 (.slice none 0 0)); rw [show w1.alloc (.cells (gc 0 0 0 0 0 (.slice none 0 0)).toArray 24) = w2 from hw2] at M2; have hsz : w1.heap.size = w.heap.size + 1 := (by rw [← hw1]; simp); have HW1 := Lib.hid hw1; have HW2 := Lib.hid hw2; clear hw1 hw2 M1)
    go_enter Try.func18, Try.ntmps18
    ((go_upto_region 1 with fail); rw [HW1.out, HW2.out, ← hsz]; clear HW1 HW2; obtain ⟨gB, hgB⟩ : ∃ gB, gB = w1.heap.size := ⟨_, rfl⟩; obtain ⟨gA, hgA⟩ : ∃ gA, gA = w.heap.size := ⟨_, rfl⟩; rw [← hgB] at M2 ⊢; rw [← hgA] at M2 ⊢; have hne : gA ≠ gB := (by omega); clear hgA hgB hsz)
    obtain ⟨c0, c1, c2, c3, c4, c5⟩ := gcells (M2.has (.tail _ _ _ _ _ (Has.head _ _ _ _)))
    go_wp2_with ((with_reducible refine (?_ : Go.wpList _ _ _ (_ :: _) _ _)); (first | go_skip | (refine wpL_stM (v := gv x y X Y s (.slice a n cap)) M2 rfl rfl rfl rfl (wr_g _ _ _ _ _ _ _ _ _ _ _ _ _ _) (Upd.head _ _ _ _ _) ?_; intro w4 M4 hT4)))
    ((try simp only [Exit.inBlock, Exit.then]); refine bodyPost_ret (res_cell_tmp rfl M4 rfl (Has.head _ _ _ _) (rd_g _ _ _ _ _ _) rfl) rfl ?_)
    exact ⟨_, _, rfl, HS.out.below M4.below, M4.below⟩

set_option maxRecDepth 20000 in
set_option maxHeartbeats 1600000 in
theorem rspread_yes (x y q : Nat) (X Y s : Int) (a : Option Addr) (n cap : Nat) (p : List Int) (hp : p.length = n) (hxy : n = x * y) (hsd : sdG x y = true) (hr : ∀ u ∈ p, 0 ≤ u ∧ u ≤ 1073741824) (hq : q ≤ 85) (w : World) (hS : Sl w 1 (.slice a n cap) n (i64s p)) :
    Calls Try.prog 18 #[gv x y X Y s (.slice a n cap), .int .i64 q] w (GSaid x y X Y s n (spread p x y q) 0 w) := by
  have hyx : n = y * x := by rw [hxy, Nat.mul_comm]
  have C1 := Lib.hid (fun wx hs => pass_any x y q 1 0 X Y s a n cap p hp hxy hsd hr hq (by omega) (by omega) wx hs)
  have hr2 : ∀ u ∈ pass p x y q 1 0, 0 ≤ u ∧ u ≤ 1073741824 := pass_rng 1 0 (by omega) (by rw [hp, hyx]) hr
  have C2 := Lib.hid (fun a' cap' wx hs => pass_any x y q 0 1 X Y s a' n cap' (pass p x y q 1 0) (by rw [pass_length, hyx]) hxy hsd hr2 hq (by omega) (by omega) wx hs)
  have HS := Lib.hid hS
  have he : spread p x y q = pass (pass p x y q 1 0) x y q 0 1 := rfl
  rw [he]
  clear hyx hr2 hp hxy hsd hr hS he
  (obtain ⟨w1, hw1⟩ : ∃ w1, w.alloc (.cells #[.int .i64 x, .int .i64 y, .int .i64 X, .int .i64 Y, .int .i64 s, .slice a n cap] 24) = w1 := ⟨_, rfl⟩; have M1 := (Mem.start w).alloc 24 (gc x y X Y s (.slice a n cap)); rw [show w.alloc (.cells (gc x y X Y s (.slice a n cap)).toArray 24) = w1 from hw1] at M1; obtain ⟨w2, hw2⟩ : ∃ w2, w1.alloc (.cells #[.int .i64 0, .int .i64 0, .int .i64 0, .int .i64 0, .int .i64 0, .slice none 0 0] 24) = w2 := ⟨_, rfl⟩; have M2 := M1.alloc 24 (gc 0 0 0 0 0 (.slice none 0 0)); rw [show w1.alloc (.cells (gc 0 0 0 0 0 (.slice none 0 0)).toArray 24) = w2 from hw2] at M2; have hsz : w1.heap.size = w.heap.size + 1 := (by rw [← hw1]; simp); have HW1 := Lib.hid hw1; have HW2 := Lib.hid hw2; clear hw1 hw2 M1)
  go_enter Try.func18, Try.ntmps18
  ((go_upto_region 1 with fail); rw [HW1.out, HW2.out, ← hsz]; clear HW1 HW2; obtain ⟨gB, hgB⟩ : ∃ gB, gB = w1.heap.size := ⟨_, rfl⟩; obtain ⟨gA, hgA⟩ : ∃ gA, gA = w.heap.size := ⟨_, rfl⟩; rw [← hgB] at M2 ⊢; rw [← hgA] at M2 ⊢; have hne : gA ≠ gB := (by omega); clear hgA hgB hsz)
  obtain ⟨c0, c1, c2, c3, c4, c5⟩ := gcells (M2.has (.tail _ _ _ _ _ (Has.head _ _ _ _)))
  go_wp2_with fail
  refine (C1.out _ (HS.out.below M2.below)).mono ?_
  rintro e w3 ⟨a3, cap3, rfl, ho3, hA⟩
  have M3 := M2.call hA
  clear c0 c1 c2 c3 c4 c5
  go_wp2_with fail
  refine (C2.out a3 cap3 _ (Sl.of_own ho3)).mono ?_
  rintro e w4 ⟨a5, cap5, rfl, ho4, hA4⟩
  replace M3 := M3.call hA4
  go_wp2_with ((with_reducible refine (?_ : Go.wpList _ _ _ (_ :: _) _ _)); (first | go_skip | (refine wpL_stM (v := gv x y X Y s (.slice a5 n cap5)) M3 rfl rfl rfl rfl (wr_g _ _ _ _ _ _ _ _ _ _ _ _ _ _) (Upd.head _ _ _ _ _) ?_; intro w4 M4 hT4)))
  have ho6 := gown_turned ho4 (M3.has (Has.head _ _ _ _)) (by decide) hT4
  ((try simp only [Exit.inBlock, Exit.then]); refine bodyPost_ret (res_cell_tmp rfl M4 rfl (Has.head _ _ _ _) (rd_g _ _ _ _ _ _) rfl) rfl ?_)
  exact ⟨_, _, rfl, Sl.of_own ho6, M4.below⟩
end Go.Proofs.Ytnfgogfbpggnfaa
