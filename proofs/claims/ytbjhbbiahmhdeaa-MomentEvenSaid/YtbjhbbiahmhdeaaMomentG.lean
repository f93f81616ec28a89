/-
  All places together: the code's six sums.
-/
import Derived.Sort.CutIn
import Derived.Test.YtbjhbbiahmhdeaaMomentD
import Derived.Test.YtbjhbbiahmhdeaaMomentT
set_option linter.unusedVariables false
set_option linter.unusedSimpArgs false
namespace Go.Proofs.Ytbjhbbiahmhdeaa
open Go Go.RowKit Go.Shelf Go.Th Go.Th.Grid Go.Th.Moment Go.Th.Wide

/-- Columns, rows, and products of two of them. -/
def f1 (_ : Nat) : Int := 1
def fx (x i : Nat) : Int := ((i % x : Nat) : Int)
def fy (x i : Nat) : Int := ((i / x : Nat) : Int)
def fxx (x i : Nat) : Int := fx x i * fx x i
def fxy (x i : Nat) : Int := fx x i * fy x i
def fyy (x i : Nat) : Int := fy x i * fy x i
def sumC (x : Nat) (l : List (Nat × Int)) : List Value := suc (mo f1 l) (mo (fx x) l) (mo (fy x) l) (mo (fxx x) l) (mo (fxy x) l) (mo (fyy x) l)
def sumV (x : Nat) (l : List (Nat × Int)) : Value := .agg (sumC x l).toArray

theorem prod_rng {u k U K : Int} (h1 : 0 ≤ u ∧ u ≤ U) (h2 : 0 ≤ k ∧ k ≤ K) : 0 ≤ u * k ∧ u * k ≤ U * K :=
  ⟨Int.mul_nonneg h1.1 h2.1, Int.mul_le_mul h1.2 h2.2 h2.1 (by omega)⟩
theorem cols_rng {x y n i : Nat} (hx : 1 ≤ x ∧ x ≤ 64) (hy : 1 ≤ y ∧ y ≤ 64) (hn : n = x * y) (hi : i < n) : (i % x ≤ 63 ∧ i / x ≤ 63) ∧ (0 ≤ f1 i ∧ f1 i ≤ 1) ∧ (0 ≤ fx x i ∧ fx x i ≤ 63) ∧ (0 ≤ fy x i ∧ fy x i ≤ 63) ∧ (0 ≤ fxx x i ∧ fxx x i ≤ 3969) ∧ (0 ≤ fxy x i ∧ fxy x i ≤ 3969) ∧ (0 ≤ fyy x i ∧ fyy x i ≤ 3969) := by
  have h1 : i % x < x := Nat.mod_lt _ (by omega)
  have h2 : i / x < y := Nat.div_lt_of_lt_mul (by rw [← hn]; exact hi)
  have k0 : ∀ k : Nat, k ≤ 63 → 0 ≤ (k : Int) ∧ (k : Int) ≤ 63 := fun k hk => by omega
  have k1 : 0 ≤ fx x i ∧ fx x i ≤ 63 := k0 _ (by omega)
  have k2 : 0 ≤ fy x i ∧ fy x i ≤ 63 := k0 _ (by omega)
  exact ⟨⟨by omega, by omega⟩, by unfold f1; omega, k1, k2, prod_rng k1 k1, prod_rng k1 k2, prod_rng k2 k2⟩

theorem sucells {w : World} {g : Nat} {a b c d e f : Int} (K : Blk w g 58 (suc a b c d e f)) :
    w.cell? ⟨g, 0, none⟩ = some (.int .i64 a) ∧ w.cell? ⟨g, 1, none⟩ = some (.int .i64 b) ∧ w.cell? ⟨g, 2, none⟩ = some (.int .i64 c) ∧ w.cell? ⟨g, 3, none⟩ = some (.int .i64 d) ∧ w.cell? ⟨g, 4, none⟩ = some (.int .i64 e) ∧ w.cell? ⟨g, 5, none⟩ = some (.int .i64 f) :=
  ⟨K.cell (i := 0) rfl, K.cell (i := 1) rfl, K.cell (i := 2) rfl, K.cell (i := 3) rfl, K.cell (i := 4) rfl, K.cell (i := 5) rfl⟩
theorem sufree {w : World} {g : Nat} {a b c d e f : Int} (K : Blk w g 58 (suc a b c d e f)) :
    w.frozen? ⟨g, 0, none⟩ = false ∧ w.frozen? ⟨g, 1, none⟩ = false ∧ w.frozen? ⟨g, 2, none⟩ = false ∧ w.frozen? ⟨g, 3, none⟩ = false ∧ w.frozen? ⟨g, 4, none⟩ = false ∧ w.frozen? ⟨g, 5, none⟩ = false :=
  ⟨K.free 0, K.free 1, K.free 2, K.free 3, K.free 4, K.free 5⟩

section
variable {w W0 W V : World} {g : Nat} {t : TypeId} {N : Nat}
/-- One more cell turned. -/
structure RunS (w W0 : World) (g : Nat) (t : TypeId) (c : List Value) (W V : World) : Prop where
  from_ : KeepsFrom W0.heap.size W V
  step : KeptF (fun j => j < W0.heap.size ∧ j ≠ g) W V
  kept : KeptF (fun j => j < W0.heap.size ∧ j ≠ g) W0 V
  own : Blk V g t c
  below : Below w.heap.size w V
  size : W0.heap.size ≤ V.heap.size
theorem RunS.set {c : List Value} (h : RunS w W0 g t c W V) (hw : w.heap.size ≤ g) (i : Nat) (u : Value) (hi : i < c.length) : RunS w W0 g t (c.set i u) W (V.setCell ⟨g, i, none⟩ u) :=
  ⟨h.from_.trans ((KeepsOthers.setCell _ _ _).from _), fun k hk => (Below.heap_setCell _ _ _ _ (by simpa using hk.2)).trans (h.step k hk), fun k hk => (Below.heap_setCell _ _ _ _ (by simpa using hk.2)).trans (h.kept k hk), h.own.set i u hi, h.below.setCell (p := ⟨g, i, none⟩) hw _, by have := h.size; simpa [World.setCell] using this⟩
theorem RunI.s {cs : List (Pl N) → List Value} {pre : List (Pl N)} (h : RunI w W0 g t cs pre W) : RunS w W0 g t (cs pre) W W.drew :=
  ⟨(KeepsOthers.drew _).from _, fun _ _ => rfl, h.kept, h.own.drew, h.below.drew, h.size⟩
end

attribute [local go_sem] Oper.semAt_some
set_option maxRecDepth 100000 in
set_option maxHeartbeats 8000000 in
theorem summed_any (x y n : Nat) (X Y s : Int) (a : Option Addr) (cap : Nat) (p : List Int) (hp : p.length = n) (hr : ∀ u ∈ p, 0 ≤ u ∧ u ≤ 1073741824) (hsd : sdG x y = true) (hn : n = x * y)
    (w : World) (hS : Sl w 1 (.slice a n cap) n (i64s p)) :
    Calls Try.prog 29 #[gv x y X Y s (.slice a n cap)] w fun e w' => e = .returned (sumV x (en p n)) ∧ Below w.heap.size w w' := by
  obtain ⟨⟨q1, q2⟩, q3, q4⟩ := sdG_t hsd
  have hle : x * y ≤ 64 * 64 := Nat.mul_le_mul (by omega) (by omega)
  have hn4 : n ≤ 4096 := by omega
  have hn0 : 0 < n := by rw [hn]; exact Nat.mul_pos (by omega) (by omega)
  have hlt := sl_lt hp hn0 hS
  obtain ⟨ys, hys⟩ := exists_pl (en p n) (en_ok (by omega) hr)
  have HAST := Lib.hid (fun Bx K hKa hKx w hKl hG => places_stops Bx x y n X Y s a cap p ys hys hp hsd hn K hKa hKx w hKl hG)
  have HYS := Lib.hid hys
  have hEN := enters_of Try.func60 (by kernel_rfl) rfl
  have HRNG := Lib.hid (fun i hi => cols_rng (x := x) (y := y) (n := n) (i := i) (by omega) (by omega) hn hi)
  have HSS := Lib.hid hS
  have HLT := Lib.hid hlt
  clear hys hp hr hsd hn hle q1 q2 q3 q4 hS hlt
  refine (callsIn_wide (n := 10)).1 ?_
  refine callsIn_of_wp_marks Try.func29 rfl trivial ?_ rfl
  simp only [Try.ntmps29, List.size_toArray, List.length_cons, List.length_nil, Nat.reduceAdd, Nat.reduceSub, Array.replicate_succ, Array.replicate_zero, List.push_toArray, List.append_toArray, List.nil_append, List.cons_append]
  refine wpIn_wide.2 ?_
  have M0 := Mem.start w
  go_upto_region 2 with (((with_reducible refine (?_ : Go.wpList _ _ _ (_ :: _) _ _)); (first | go_skip | (refine wpL_bx M0 rfl rfl rfl rfl ?_; clear M0; intro g1 w1 M1) | (refine wpL_alc M0 rfl rfl ?_; clear M0; intro g1 w1 M1) | (refine wpL_ldc M0 rfl rfl rfl ?_) | (refine wpL_lgc M0 rfl rfl rfl ?_) | (refine wpL_stc M0 rfl rfl rfl rfl ?_; clear M0; intro w' M0) | (refine wpL_sti M0 rfl rfl rfl rfl ?_; clear M0; intro w' M0) | (refine wpL_sth M0 rfl rfl rfl rfl (wr_minus _ _ _) ?_; clear M0; intro w' M0) | (refine wpL_bx M1 rfl rfl rfl rfl ?_; clear M1; intro g2 w2 M2) | (refine wpL_alc M1 rfl rfl ?_; clear M1; intro g2 w2 M2) | (refine wpL_ldc M1 rfl rfl rfl ?_) | (refine wpL_lgc M1 rfl rfl rfl ?_) | (refine wpL_stc M1 rfl rfl rfl rfl ?_; clear M1; intro w' M1) | (refine wpL_sti M1 rfl rfl rfl rfl ?_; clear M1; intro w' M1) | (refine wpL_sth M1 rfl rfl rfl rfl (wr_minus _ _ _) ?_; clear M1; intro w' M1) | (refine wpL_bx M2 rfl rfl rfl rfl ?_; clear M2; intro g3 w3 M3) | (refine wpL_alc M2 rfl rfl ?_; clear M2; intro g3 w3 M3) | (refine wpL_ldc M2 rfl rfl rfl ?_) | (refine wpL_lgc M2 rfl rfl rfl ?_) | (refine wpL_stc M2 rfl rfl rfl rfl ?_; clear M2; intro w' M2) | (refine wpL_sti M2 rfl rfl rfl rfl ?_; clear M2; intro w' M2) | (refine wpL_sth M2 rfl rfl rfl rfl (wr_minus _ _ _) ?_; clear M2; intro w' M2) | (refine wpL_ldc M3 rfl rfl rfl ?_) | (refine wpL_lgc M3 rfl rfl rfl ?_) | (refine wpL_stc M3 rfl rfl rfl rfl ?_; clear M3; intro w' M3) | (refine wpL_sti M3 rfl rfl rfl rfl ?_; clear M3; intro w' M3) | (refine wpL_sth M3 rfl rfl rfl rfl (wr_minus _ _ _) ?_; clear M3; intro w' M3))))
  have hnd := M3.nodup
  simp only [List.map_cons, List.map_nil, List.nodup_cons, List.mem_cons, List.not_mem_nil, or_false, not_or, not_false_eq_true, List.nodup_nil, and_true] at hnd
  obtain ⟨⟨n1, n2⟩, n3⟩ := hnd
  have hw3 := M3.from (Has.head _ _ _ _)
  go_wp2_with ((with_reducible refine (?_ : Go.wpList _ _ _ (_ :: _) _ _)); (first | go_skip | (refine wpL_ldc M3 rfl rfl rfl ?_) | (refine wpL_lgc M3 rfl rfl rfl ?_) | (refine wpL_stc M3 rfl rfl rfl rfl ?_; clear M3; intro w' M3) | (refine wpL_sti M3 rfl rfl rfl rfl ?_; clear M3; intro w' M3) | (refine wpL_sth M3 rfl rfl rfl rfl (wr_minus _ _ _) ?_; clear M3; intro w' M3)))
  refine (places_any x y X Y s a n cap _).mono ?_
  rintro e W0 ⟨rfl, hW0⟩
  have G0 := GridAt.new w3 x y n X Y s a cap p (HSS.out.below M3.below)
  have M4 := M3.alloc 26 (gc x y X Y s (.slice a n cap))
  rw [show w3.alloc (.cells (gc x y X Y s (.slice a n cap)).toArray 26) = W0 from hW0.symm] at M4
  rw [← hW0] at G0
  have l3 := M4.lt (.tail _ _ _ _ _ (Has.head _ _ _ _))
  have l2 := M4.lt (.tail _ _ _ _ _ (.tail _ _ _ _ _ (Has.head _ _ _ _)))
  have lP := M4.lt (Has.head _ _ _ _)
  have n11 := M3.lt (Has.head _ _ _ _)
  obtain ⟨gP, hgP⟩ : ∃ gP, gP = w3.heap.size := ⟨_, rfl⟩
  rw [← hgP] at M4 G0 lP n11 ⊢
  have hfn := func_someM gP
  have hzW := M4.below.size
  clear hW0 hgP HSS M3
  go_wp2_with fail
  refine with_tmps (fun A hA => ?_)
  refine (wpIn_wide (n := 10)).1 ?_
  refine wpIn_rangeFunc_ownH rfl (by omega) (gf := 60) (lb := #[.pointer (some ⟨gP, 0, none⟩)]) (by rw [hA]; rfl) trivial hEN
    (HAST.out gP (fun j => j < W0.heap.size ∧ j ≠ g3) (fun q hq => by have := HLT.out q hq; exact ⟨by omega, by omega⟩) ⟨by omega, by omega⟩ W0 (fun k hk => hk.1) G0) (fun h k => h.trans k) (keptF_b (fun k hk => hk.1)) (Below.refl _ _) (fun _ => rfl)
    (fun (pre : List (Pl n)) W => RunI w W0 g3 58 (fun pre => sumC x (pre.map (·.1))) pre W) (fun _ _ _ => False) (runI_from hzW) (fun _ _ _ _ _ hs _ _ => hs)
    ⟨KeptF.refl _ _, M4.has (.tail _ _ _ _ _ (Has.head _ _ _ _)), M4.below, Nat.le_refl _⟩
    (fun (q : Pl n) a' W => ∃ B, W0.heap.size ≤ B ∧ Blk W B 65 (plc (q.1.1 : Nat) (q.1.1 % x : Nat) (q.1.1 / x : Nat)) ∧ a' = { tmps := (((A.setIfInBounds 10 (plv (q.1.1 : Nat) (q.1.1 % x : Nat) (q.1.1 / x : Nat))).setIfInBounds 11 (.int .i64 q.1.2)).setIfInBounds 4 (.pointer (some ⟨B, 0, none⟩))).setIfInBounds 5 (.int .i64 q.1.2), defers := [] })
    (fun q a' u X Y row hs hg hr => by
      obtain ⟨B, h1, h2, h3⟩ := hs
      exact ⟨B, h1, blk_grown h2 hg (fun r e => (hr r e).2), h3⟩) ?assign ?body ?done ?stop
  case assign =>
    rintro l pre q W K HI hK
    subst hA
    have hsz := HI.size
    gi_wp2
    exact hK _ _ ((KeepsOthers.alloc _ _).from _) (fun k hk => Below.heap_alloc W _ k (by omega)) ⟨fun k hk => (Below.heap_alloc W _ k (by omega)).trans (HI.kept k hk), HI.own.alloc _, HI.below.alloc HI.below.size _, by simp; omega⟩ ⟨W.heap.size, hsz, Blk.new W _ _, rfl⟩
  case body =>
    rintro l pre q a' W hl hr HI ⟨B, hB, KX, rfl⟩ hlt
    subst hA
    have hq := q.2
    obtain ⟨⟨k, u⟩, hqq⟩ := q
    dsimp only at KX hq ⊢
    have hpre : ∀ q ∈ pre.map (·.1), PlOk n q := fun q hq => by
      obtain ⟨y, _, rfl⟩ := List.mem_map.1 hq
      exact y.2
    have hlen : (pre.map (·.1)).length < n := by rw [List.length_map]; exact hlt
    obtain ⟨t1, t2, t3⟩ := hq
    dsimp only at t1 t2 t3
    have r1 := mo_rng (F := 1) hpre (fun i hi => (HRNG.out i hi).2.1)
    have r2 := mo_rng (F := 63) hpre (fun i hi => (HRNG.out i hi).2.2.1)
    have r3 := mo_rng (F := 63) hpre (fun i hi => (HRNG.out i hi).2.2.2.1)
    have r4 := mo_rng (F := 3969) hpre (fun i hi => (HRNG.out i hi).2.2.2.2.1)
    have r5 := mo_rng (F := 3969) hpre (fun i hi => (HRNG.out i hi).2.2.2.2.2.1)
    have r6 := mo_rng (F := 3969) hpre (fun i hi => (HRNG.out i hi).2.2.2.2.2.2)
    obtain ⟨⟨b1, b2⟩, _⟩ := HRNG.out k t1
    have hnx : sumC x ((pre ++ [(⟨(k, u), hqq⟩ : Pl n)]).map (·.1)) = suc (mo f1 (pre.map (·.1)) + u) (mo (fx x) (pre.map (·.1)) + u * (k % x : Nat)) (mo (fy x) (pre.map (·.1)) + u * (k / x : Nat)) (mo (fxx x) (pre.map (·.1)) + u * (k % x : Nat) * (k % x : Nat)) (mo (fxy x) (pre.map (·.1)) + u * (k % x : Nat) * (k / x : Nat)) (mo (fyy x) (pre.map (·.1)) + u * (k / x : Nat) * (k / x : Nat)) := by
      have e : (pre ++ [(⟨(k, u), hqq⟩ : Pl n)]).map (·.1) = pre.map (·.1) ++ [(k, u)] := by simp
      rw [e]
      unfold sumC
      rw [mo_snoc, mo_snoc, mo_snoc, mo_snoc, mo_snoc, mo_snoc]
      show suc (_ + u * 1) (_ + u * ((k % x : Nat) : Int)) (_ + u * ((k / x : Nat) : Int)) (_ + u * (((k % x : Nat) : Int) * ((k % x : Nat) : Int))) (_ + u * (((k % x : Nat) : Int) * ((k / x : Nat) : Int))) (_ + u * (((k / x : Nat) : Int) * ((k / x : Nat) : Int))) = _
      rw [Int.mul_one, ← Int.mul_assoc, ← Int.mul_assoc, ← Int.mul_assoc]
    obtain ⟨km, hkm⟩ : ∃ km, km = k % x := ⟨_, rfl⟩
    obtain ⟨kd, hkd⟩ : ∃ kd, kd = k / x := ⟨_, rfl⟩
    rw [← hkm, ← hkd] at hnx
    rw [← hkm] at b1 KX
    rw [← hkd] at b2 KX
    rw [← hkm, ← hkd]
    obtain ⟨e0, e1, e2⟩ := plcells KX
    have hown := HI.own
    obtain ⟨v1, h1⟩ : ∃ v1, v1 = mo f1 (pre.map (·.1)) := ⟨_, rfl⟩
    obtain ⟨v2, h2⟩ : ∃ v2, v2 = mo (fx x) (pre.map (·.1)) := ⟨_, rfl⟩
    obtain ⟨v3, h3⟩ : ∃ v3, v3 = mo (fy x) (pre.map (·.1)) := ⟨_, rfl⟩
    obtain ⟨v4, h4⟩ : ∃ v4, v4 = mo (fxx x) (pre.map (·.1)) := ⟨_, rfl⟩
    obtain ⟨v5, h5⟩ : ∃ v5, v5 = mo (fxy x) (pre.map (·.1)) := ⟨_, rfl⟩
    obtain ⟨v6, h6⟩ : ∃ v6, v6 = mo (fyy x) (pre.map (·.1)) := ⟨_, rfl⟩
    have hcs : sumC x (pre.map (·.1)) = suc v1 v2 v3 v4 v5 v6 := by rw [h1, h2, h3, h4, h5, h6]; rfl
    have HI0 := HI.s
    rw [hcs] at HI0 hown
    rw [← h1] at r1
    rw [← h2] at r2
    rw [← h3] at r3
    rw [← h4] at r4
    rw [← h5] at r5
    rw [← h6] at r6
    rw [← h1, ← h2, ← h3, ← h4, ← h5, ← h6] at hnx
    have p1 := prod_rng ⟨t2, t3⟩ (by omega : 0 ≤ (km : Int) ∧ (km : Int) ≤ 63)
    have p2 := prod_rng ⟨t2, t3⟩ (by omega : 0 ≤ (kd : Int) ∧ (kd : Int) ≤ 63)
    have p3 := prod_rng p1 (by omega : 0 ≤ (km : Int) ∧ (km : Int) ≤ 63)
    have p4 := prod_rng p1 (by omega : 0 ≤ (kd : Int) ∧ (kd : Int) ≤ 63)
    have p5 := prod_rng p2 (by omega : 0 ≤ (kd : Int) ∧ (kd : Int) ≤ 63)
    obtain ⟨m1, hm1⟩ : ∃ m1, u * (km : Int) = m1 := ⟨_, rfl⟩
    obtain ⟨m2, hm2⟩ : ∃ m2, u * (kd : Int) = m2 := ⟨_, rfl⟩
    rw [hm1] at p1 p3 p4 hnx
    rw [hm2] at p2 p5 hnx
    obtain ⟨m3, hm3⟩ : ∃ m3, m1 * (km : Int) = m3 := ⟨_, rfl⟩
    obtain ⟨m4, hm4⟩ : ∃ m4, m1 * (kd : Int) = m4 := ⟨_, rfl⟩
    obtain ⟨m5, hm5⟩ : ∃ m5, m2 * (kd : Int) = m5 := ⟨_, rfl⟩
    rw [hm3] at p3 hnx
    rw [hm4] at p4 hnx
    rw [hm5] at p5 hnx
    have hlen2 : ((pre.map (·.1)).length : Int) ≤ 4096 := by omega
    obtain ⟨L, hL⟩ : ∃ L : Int, L = ((pre.map (·.1)).length : Int) := ⟨_, rfl⟩
    rw [← hL] at r1 r2 r3 r4 r5 r6 hlen2
    have w1 : IntKind.i64.wrap m1 = m1 := IntWalk.i64_in _ (by omega)
    have w2 : IntKind.i64.wrap m2 = m2 := IntWalk.i64_in _ (by omega)
    have w3 : IntKind.i64.wrap m3 = m3 := IntWalk.i64_in _ (by omega)
    have w4 : IntKind.i64.wrap m4 = m4 := IntWalk.i64_in _ (by omega)
    have w5 : IntKind.i64.wrap m5 = m5 := IntWalk.i64_in _ (by omega)
    have z1 : IntKind.i64.wrap (v1 + u) = v1 + u := IntWalk.i64_in _ (by omega)
    have z2 : IntKind.i64.wrap (v2 + m1) = v2 + m1 := IntWalk.i64_in _ (by omega)
    have z3 : IntKind.i64.wrap (v3 + m2) = v3 + m2 := IntWalk.i64_in _ (by omega)
    have z4 : IntKind.i64.wrap (v4 + m3) = v4 + m3 := IntWalk.i64_in _ (by omega)
    have z5 : IntKind.i64.wrap (v5 + m4) = v5 + m4 := IntWalk.i64_in _ (by omega)
    have z6 : IntKind.i64.wrap (v6 + m5) = v6 + m5 := IntWalk.i64_in _ (by omega)
    have HNX := Lib.hid hnx
    have HI0 := Lib.hid HI0
    clear hkm hkd h1 h2 h3 h4 h5 h6 hcs hnx HI hown r1 r2 r3 r4 r5 r6 p1 p2 p3 p4 p5 hpre hlen hlen2 hL hl hr b1 b2 HRNG HAST HLT G0 M4 hlt
    gi_wp2
    refine wpIn_region_round (by simp) (fun _ _ h => h) (S := (fun w' : World => w'.cell? ⟨B, 0, none⟩ = some (.int .i64 k) ∧ w'.cell? ⟨B, 1, none⟩ = some (.int .i64 km) ∧ w'.cell? ⟨B, 2, none⟩ = some (.int .i64 kd))) (by kernel_rfl) (⟨e0, e1, e2⟩) (fun hHeld => ?_)
    refine tkT 0 ?v1 ?hy1 hHeld ?rest1
    case hy1 => (intro w' hSw; (try dsimp only at hSw); go_simp; (try with_reducible rfl))
    try simp only [Act.put, puts]
    refine tkT 1 ?v2 ?hy2 hHeld ?rest2
    case hy2 => (intro w' hSw; (try dsimp only at hSw); go_simp; (try with_reducible rfl))
    try simp only [Act.put, puts]
    refine tkT 2 ?v3 ?hy3 hHeld ?rest3
    case hy3 => (intro w' hSw; (try dsimp only at hSw); go_simp; (try with_reducible rfl))
    try simp only [Act.put, puts]
    refine tkT 3 ?v4 ?hy4 hHeld ?rest4
    case hy4 => (intro w' hSw; (try dsimp only at hSw); go_simp; (try with_reducible rfl))
    try simp only [Act.put, puts]
    refine tkT 4 ?v5 ?hy5 hHeld ?rest5
    case hy5 => (intro w' hSw; (try dsimp only at hSw); go_simp; (try with_reducible rfl))
    try simp only [Act.put, puts]
    refine tkT 5 ?v6 ?hy6 hHeld ?rest6
    case hy6 => (intro w' hSw; (try dsimp only at hSw); go_simp; (try with_reducible rfl))
    try simp only [Act.put, puts]
    refine wpAnyH_done (by kernel_rfl) ?_ _
    clear e0 e1 e2 KX
    obtain ⟨V0, hV0⟩ : ∃ V0, W.drew = V0 := ⟨_, rfl⟩
    rw [hV0] at HI0 ⊢
    clear hV0
    have hc := (sucells HI0.out.own).1
    have hf := HI0.out.own.free 0
    have hn := HI0.out.set hw3 0 (.int .i64 (v1 + u)) (by simp)
    gi_upto_region 7 with (fail)
    obtain ⟨V1, hV⟩ : ∃ V1, V0.setCell ⟨g3, 0, none⟩ (.int .i64 (v1 + u)) = V1 := ⟨_, rfl⟩
    rw [hV] at hn ⊢
    have HI1 : Hid (RunS w W0 g3 58 (suc (v1 + u) v2 v3 v4 v5 v6) W V1) := Lib.hid hn
    clear hV hn hc hf HI0
    have hc := (sucells HI1.out.own).2.1
    have hf := HI1.out.own.free 1
    have hn := HI1.out.set hw3 1 (.int .i64 (v2 + m1)) (by simp)
    gi_upto_region 8 with (fail)
    obtain ⟨V2, hV⟩ : ∃ V2, V1.setCell ⟨g3, 1, none⟩ (.int .i64 (v2 + m1)) = V2 := ⟨_, rfl⟩
    rw [hV] at hn ⊢
    have HI2 : Hid (RunS w W0 g3 58 (suc (v1 + u) (v2 + m1) v3 v4 v5 v6) W V2) := Lib.hid hn
    clear hV hn hc hf HI1
    have hc := (sucells HI2.out.own).2.2.1
    have hf := HI2.out.own.free 2
    have hn := HI2.out.set hw3 2 (.int .i64 (v3 + m2)) (by simp)
    gi_upto_region 9 with (fail)
    obtain ⟨V3, hV⟩ : ∃ V3, V2.setCell ⟨g3, 2, none⟩ (.int .i64 (v3 + m2)) = V3 := ⟨_, rfl⟩
    rw [hV] at hn ⊢
    have HI3 : Hid (RunS w W0 g3 58 (suc (v1 + u) (v2 + m1) (v3 + m2) v4 v5 v6) W V3) := Lib.hid hn
    clear hV hn hc hf HI2
    have hc := (sucells HI3.out.own).2.2.2.1
    have hf := HI3.out.own.free 3
    have hn := HI3.out.set hw3 3 (.int .i64 (v4 + m3)) (by simp)
    gi_upto_region 10 with (fail)
    obtain ⟨V4, hV⟩ : ∃ V4, V3.setCell ⟨g3, 3, none⟩ (.int .i64 (v4 + m3)) = V4 := ⟨_, rfl⟩
    rw [hV] at hn ⊢
    have HI4 : Hid (RunS w W0 g3 58 (suc (v1 + u) (v2 + m1) (v3 + m2) (v4 + m3) v5 v6) W V4) := Lib.hid hn
    clear hV hn hc hf HI3
    have hc := (sucells HI4.out.own).2.2.2.2.1
    have hf := HI4.out.own.free 4
    have hn := HI4.out.set hw3 4 (.int .i64 (v5 + m4)) (by simp)
    gi_upto_region 11 with (fail)
    obtain ⟨V5, hV⟩ : ∃ V5, V4.setCell ⟨g3, 4, none⟩ (.int .i64 (v5 + m4)) = V5 := ⟨_, rfl⟩
    rw [hV] at hn ⊢
    have HI5 : Hid (RunS w W0 g3 58 (suc (v1 + u) (v2 + m1) (v3 + m2) (v4 + m3) (v5 + m4) v6) W V5) := Lib.hid hn
    clear hV hn hc hf HI4
    have hc := (sucells HI5.out.own).2.2.2.2.2
    have hf := HI5.out.own.free 5
    have hn := HI5.out.set hw3 5 (.int .i64 (v6 + m5)) (by simp)
    have HI6 : Hid (RunS w W0 g3 58 (suc (v1 + u) (v2 + m1) (v3 + m2) (v4 + m3) (v5 + m4) (v6 + m5)) W (V5.setCell ⟨g3, 5, none⟩ (.int .i64 (v6 + m5)))) := Lib.hid hn
    clear hn HI5
    gi_wp2
    refine ⟨HI6.out.from_, HI6.out.step, HI6.out.kept, ?_, HI6.out.below, HI6.out.size⟩
    show Blk _ g3 _ (sumC x _)
    rw [HNX.out]
    exact HI6.out.own
  case done =>
    rintro D zs W hD hzs HI hK
    subst hA
    subst hzs
    have hown := HI.own
    rw [HYS.out] at hown
    obtain ⟨v1, h1⟩ : ∃ v1, v1 = mo f1 (en p n) := ⟨_, rfl⟩
    obtain ⟨v2, h2⟩ : ∃ v2, v2 = mo (fx x) (en p n) := ⟨_, rfl⟩
    obtain ⟨v3, h3⟩ : ∃ v3, v3 = mo (fy x) (en p n) := ⟨_, rfl⟩
    obtain ⟨v4, h4⟩ : ∃ v4, v4 = mo (fxx x) (en p n) := ⟨_, rfl⟩
    obtain ⟨v5, h5⟩ : ∃ v5, v5 = mo (fxy x) (en p n) := ⟨_, rfl⟩
    obtain ⟨v6, h6⟩ : ∃ v6, v6 = mo (fyy x) (en p n) := ⟨_, rfl⟩
    have hcs : sumC x (en p n) = suc v1 v2 v3 v4 v5 v6 := by rw [h1, h2, h3, h4, h5, h6]; rfl
    have HBV : Hid (sumV x (en p n) = suv v1 v2 v3 v4 v5 v6) := Lib.hid (by unfold sumV; rw [hcs])
    rw [hcs] at hown
    have hDl := lt_of_block hK
    have KR := (M4.has (.tail _ _ _ _ _ (.tail _ _ _ _ _ (Has.head _ _ _ _)))).of_block (HI.kept _ ⟨by omega, by omega⟩)
    have hw2 := M4.from (.tail _ _ _ _ _ (.tail _ _ _ _ _ (Has.head _ _ _ _)))
    obtain ⟨d0, d1, d2, d3, d4, d5⟩ := sucells hown
    obtain ⟨r0, r1, r2, r3, r4, r5⟩ := sucells KR
    obtain ⟨f0, f1, f2, f3, f4, f5⟩ := sufree KR
    have KR3 := ((((((KR.set 0 (.int .i64 v1) (by simp)).set 1 (.int .i64 v2) (by simp)).set 2 (.int .i64 v3) (by simp)).set 3 (.int .i64 v4) (by simp)).set 4 (.int .i64 v5) (by simp)).set 5 (.int .i64 v6) (by simp))
    have HB3 := Lib.hid ((((((HI.below.setCell (p := ⟨g2, 0, none⟩) hw2 (.int .i64 v1)).setCell (p := ⟨g2, 1, none⟩) hw2 (.int .i64 v2)).setCell (p := ⟨g2, 2, none⟩) hw2 (.int .i64 v3)).setCell (p := ⟨g2, 3, none⟩) hw2 (.int .i64 v4)).setCell (p := ⟨g2, 4, none⟩) hw2 (.int .i64 v5)).setCell (p := ⟨g2, 5, none⟩) hw2 (.int .i64 v6))
    have hD3 : ((((((W.setCell ⟨g2, 0, none⟩ (.int .i64 v1)).setCell ⟨g2, 1, none⟩ (.int .i64 v2)).setCell ⟨g2, 2, none⟩ (.int .i64 v3)).setCell ⟨g2, 3, none⟩ (.int .i64 v4)).setCell ⟨g2, 4, none⟩ (.int .i64 v5)).setCell ⟨g2, 5, none⟩ (.int .i64 v6)).heap[D]? = some (.deferred (some [])) := ((Below.heap_setCell _ _ _ _ (by simp; omega)).trans ((Below.heap_setCell _ _ _ _ (by simp; omega)).trans ((Below.heap_setCell _ _ _ _ (by simp; omega)).trans ((Below.heap_setCell _ _ _ _ (by simp; omega)).trans ((Below.heap_setCell _ _ _ _ (by simp; omega)).trans ((Below.heap_setCell _ _ _ _ (by simp; omega)).trans hK))))))
    have HKK := Lib.hid hD3
    have HKR := Lib.hid KR3
    have hDz : w.heap.size ≤ D := by omega
    have hDg : g2 ≠ D := by omega
    clear HI hK KR KR3 hD3 hDl h1 h2 h3 h4 h5 h6 hcs hown M4 HAST HLT HRNG G0
    go_wp2_with fail
    refine ⟨by simp, .inl ⟨_, _, rfl, run_takeDeferred HKK.out, ?_⟩⟩
    have hfin := (World.putObj_heap_other (w := ((((((W.setCell ⟨g2, 0, none⟩ (.int .i64 v1)).setCell ⟨g2, 1, none⟩ (.int .i64 v2)).setCell ⟨g2, 2, none⟩ (.int .i64 v3)).setCell ⟨g2, 3, none⟩ (.int .i64 v4)).setCell ⟨g2, 4, none⟩ (.int .i64 v5)).setCell ⟨g2, 5, none⟩ (.int .i64 v6))) (o := .deferred none) hDg).trans HKR.out
    exact ⟨_, gres_blk rfl rfl hfin Try.underlying58 rfl sizeSu, by rw [HBV.out]; rfl, HB3.out.trans (belowK_b (w := w) (Nat.le_refl _) _ D _ _ hDz HKK.out rfl rfl)⟩
  case stop =>
    rintro D c pre W _ hSp hIx _
    exact hIx.elim
end Go.Proofs.Ytbjhbbiahmhdeaa
