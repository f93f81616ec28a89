/-
  Of the places that count the one that is believed most: the code's.
-/
import Derived.Test.YtbjhbbiahmhdeaaMomentD
import Derived.Test.YtbjhbbiahmhdeaaMomentT
set_option linter.unusedVariables false
set_option linter.unusedSimpArgs false
namespace Go.Proofs.Ytbjhbbiahmhdeaa
open Go Go.RowKit Go.Shelf Go.Th Go.Th.Grid Go.Th.Moment

/-- Between two rounds of a loop over places that turns two blocks of its own. -/
structure RunC (w W0 : World) (g1 : Nat) (t1 : TypeId) (c1 : List Value) (g2 : Nat) (t2 : TypeId) (c2 : List Value) (W : World) : Prop where
  kept : KeptF (fun j => j < W0.heap.size ∧ j ≠ g1 ∧ j ≠ g2) W0 W
  a_ : Blk W g1 t1 c1
  b_ : Blk W g2 t2 c2
  below : Below w.heap.size w W
  size : W0.heap.size ≤ W.heap.size
theorem runC_from {w W0 : World} {g1 g2 : Nat} {t1 t2 : TypeId} {N : Nat} {c1 c2 : List (Pl N) → List Value} (hw : w.heap.size ≤ W0.heap.size) : OwnFrom W0.heap.size (fun (pre : List (Pl N)) W => RunC w W0 g1 t1 (c1 pre) g2 t2 (c2 pre) W) := by
  intro s X Y row hs hg hr
  exact ⟨fun k hk => (hg.block k (by have := hs.size; omega) (fun e => by have := (hr k e.symm).1; omega)).trans (hs.kept k hk), blk_grown hs.a_ hg (fun r e => (hr r e).2), blk_grown hs.b_ hg (fun r e => (hr r e).2), hs.below.grown hg (Nat.le_trans hw hs.size) (fun k e => Nat.le_trans hw (hr k e).1), Nat.le_trans hs.size hg.size⟩
section
variable {w W0 W V : World} {g1 g2 : Nat} {t1 t2 : TypeId} {c1 c2 : List Value}
theorem RunC.to (h : RunC w W0 g1 t1 c1 g2 t2 c2 W) (hB : Below W.heap.size W V) : RunC w W0 g1 t1 c1 g2 t2 c2 V :=
  ⟨h.kept.below hB (fun k hk => by have := h.size; omega), h.a_.below hB h.a_.lt, h.b_.below hB h.b_.lt, h.below.trans (hB.mono h.below.size), Nat.le_trans h.size hB.size⟩
theorem RunC.setA (h : RunC w W0 g1 t1 c1 g2 t2 c2 W) (hne : g1 ≠ g2) (hw : w.heap.size ≤ g1) (i : Nat) (u : Value) (hi : i < c1.length) : RunC w W0 g1 t1 (c1.set i u) g2 t2 c2 (W.setCell ⟨g1, i, none⟩ u) :=
  ⟨fun k hk => (Below.heap_setCell _ _ _ _ (by simpa using hk.2.1)).trans (h.kept k hk), h.a_.set i u hi, h.b_.other _ _ hne, h.below.setCell (p := ⟨g1, i, none⟩) hw _, by have := h.size; simpa [World.setCell] using this⟩
theorem RunC.setB (h : RunC w W0 g1 t1 c1 g2 t2 c2 W) (hne : g1 ≠ g2) (hw : w.heap.size ≤ g2) (i : Nat) (u : Value) (hi : i < c2.length) : RunC w W0 g1 t1 c1 g2 t2 (c2.set i u) (W.setCell ⟨g2, i, none⟩ u) :=
  ⟨fun k hk => (Below.heap_setCell _ _ _ _ (by simpa using hk.2.2)).trans (h.kept k hk), h.a_.other _ _ (Ne.symm hne), h.b_.set i u hi, h.below.setCell (p := ⟨g2, i, none⟩) hw _, by have := h.size; simpa [World.setCell] using this⟩
end
/-- What a round may do. -/
structure Stp (W0 : World) (g1 g2 : Nat) (W V : World) : Prop where
  from_ : KeepsFrom W0.heap.size W V
  kept : KeptF (fun j => j < W0.heap.size ∧ j ≠ g1 ∧ j ≠ g2) W V
section
variable {W0 W V : World} {g1 g2 : Nat}
theorem Stp.refl (W0 : World) (g1 g2 : Nat) (W : World) : Stp W0 g1 g2 W W := ⟨KeepsFrom.refl _ _, KeptF.refl _ _⟩
theorem Stp.to {U : World} (h : Stp W0 g1 g2 W V) (hs : W0.heap.size ≤ V.heap.size) (hB : Below V.heap.size V U) : Stp W0 g1 g2 W U := ⟨h.from_.trans (keepsFrom_below hB), fun k hk => (hB.block k (by omega)).trans (h.kept k hk)⟩
theorem Stp.setA (h : Stp W0 g1 g2 W V) (i : Nat) (u : Value) : Stp W0 g1 g2 W (V.setCell ⟨g1, i, none⟩ u) := ⟨h.from_.trans ((KeepsOthers.setCell _ _ _).from _), fun k hk => (Below.heap_setCell _ _ _ _ (by simpa using hk.2.1)).trans (h.kept k hk)⟩
theorem Stp.setB (h : Stp W0 g1 g2 W V) (i : Nat) (u : Value) : Stp W0 g1 g2 W (V.setCell ⟨g2, i, none⟩ u) := ⟨h.from_.trans ((KeepsOthers.setCell _ _ _).from _), fun k hk => (Below.heap_setCell _ _ _ _ (by simpa using hk.2.2)).trans (h.kept k hk)⟩
theorem Stp.drew (h : Stp W0 g1 g2 W V) : Stp W0 g1 g2 W V.drew := ⟨h.from_.trans ((KeepsOthers.drew _).from _), h.kept⟩
end
theorem RunC.drew {w W0 W : World} {g1 g2 : Nat} {t1 t2 : TypeId} {c1 c2 : List Value} (h : RunC w W0 g1 t1 c1 g2 t2 c2 W) : RunC w W0 g1 t1 c1 g2 t2 c2 W.drew := ⟨h.kept, h.a_.drew, h.b_.drew, h.below.drew, h.size⟩

/-- What is found, as a place. -/
def bestC (x : Nat) : Option (Nat × Int) → List Value
  | none => plc (-1) 0 0
  | some q => plc (q.1 : Nat) (q.1 % x : Nat) (q.1 / x : Nat)
def bestV (x : Nat) (o : Option (Nat × Int)) : Value := .agg (bestC x o).toArray
theorem bestC_plc (x : Nat) (o : Option (Nat × Int)) : ∃ a u v, bestC x o = plc a u v := by cases o <;> exact ⟨_, _, _, rfl⟩

attribute [local go_sem] Oper.semAt_some
set_option maxRecDepth 100000 in
set_option maxHeartbeats 8000000 in
theorem top_any (x y n : Nat) (X Y s : Int) (a : Option Addr) (cap : Nat) (p : List Int) (f : Nat) (caps : Array Value) (c : Nat → Bool) (hp : p.length = n) (hr : ∀ u ∈ p, 0 ≤ u ∧ u ≤ 1073741824) (hsd : sdG x y = true) (hn : n = x * y)
    (w : World) (hS : Sl w 1 (.slice a n cap) n (i64s p)) (HC : CntF f caps x c w) :
    Calls Try.prog 34 #[gv x y X Y s (.slice a n cap), .func (.func f) #[] caps] w fun e w' => e = .returned (bestV x (tp c (en p n))) ∧ Below w.heap.size w w' := by
  obtain ⟨⟨q1, q2⟩, q3, q4⟩ := sdG_t hsd
  have hle : x * y ≤ 64 * 64 := Nat.mul_le_mul (by omega) (by omega)
  have hn4 : n ≤ 4096 := by omega
  have hn0 : 0 < n := by rw [hn]; exact Nat.mul_pos (by omega) (by omega)
  have hlt := sl_lt hp hn0 hS
  obtain ⟨ys, hys⟩ := exists_pl (en p n) (en_ok (by omega) hr)
  have HAST := Lib.hid (fun Bx K hKa hKx w hKl hG => places_stops Bx x y n X Y s a cap p ys hys hp hsd hn K hKa hKx w hKl hG)
  have HYS := Lib.hid hys
  have hEN := enters_of Try.func60 (by kernel_rfl) rfl
  have HE := HC.enter
  have HCC := Lib.hid HC
  have HSS := Lib.hid hS
  have HLT := Lib.hid hlt
  clear hys hp hr hsd hn hle q1 q2 q3 q4 HC hS hlt
  refine (callsIn_wide (n := 10)).1 ?_
  refine callsIn_of_wp_marks Try.func34 rfl trivial ?_ rfl
  simp only [Try.ntmps34, List.size_toArray, List.length_cons, List.length_nil, Nat.reduceAdd, Nat.reduceSub, Array.replicate_succ, Array.replicate_zero, List.push_toArray, List.append_toArray, List.nil_append, List.cons_append]
  refine wpIn_wide.2 ?_
  have M0 := Mem.start w
  go_upto_region 2 with (((with_reducible refine (?_ : Go.wpList _ _ _ (_ :: _) _ _)); (first | go_skip | (refine wpL_bx M0 rfl rfl rfl rfl ?_; clear M0; intro g1 w1 M1) | (refine wpL_alc M0 rfl rfl ?_; clear M0; intro g1 w1 M1) | (refine wpL_ldc M0 rfl rfl rfl ?_) | (refine wpL_lgc M0 rfl rfl rfl ?_) | (refine wpL_stc M0 rfl rfl rfl rfl ?_; clear M0; intro w' M0) | (refine wpL_sti M0 rfl rfl rfl rfl ?_; clear M0; intro w' M0) | (refine wpL_sth M0 rfl rfl rfl rfl (wr_minus _ _ _) ?_; clear M0; intro w' M0) | (refine wpL_bx M1 rfl rfl rfl rfl ?_; clear M1; intro g2 w2 M2) | (refine wpL_alc M1 rfl rfl ?_; clear M1; intro g2 w2 M2) | (refine wpL_ldc M1 rfl rfl rfl ?_) | (refine wpL_lgc M1 rfl rfl rfl ?_) | (refine wpL_stc M1 rfl rfl rfl rfl ?_; clear M1; intro w' M1) | (refine wpL_sti M1 rfl rfl rfl rfl ?_; clear M1; intro w' M1) | (refine wpL_sth M1 rfl rfl rfl rfl (wr_minus _ _ _) ?_; clear M1; intro w' M1) | (refine wpL_bx M2 rfl rfl rfl rfl ?_; clear M2; intro g3 w3 M3) | (refine wpL_alc M2 rfl rfl ?_; clear M2; intro g3 w3 M3) | (refine wpL_ldc M2 rfl rfl rfl ?_) | (refine wpL_lgc M2 rfl rfl rfl ?_) | (refine wpL_stc M2 rfl rfl rfl rfl ?_; clear M2; intro w' M2) | (refine wpL_sti M2 rfl rfl rfl rfl ?_; clear M2; intro w' M2) | (refine wpL_sth M2 rfl rfl rfl rfl (wr_minus _ _ _) ?_; clear M2; intro w' M2) | (refine wpL_bx M3 rfl rfl rfl rfl ?_; clear M3; intro g4 w4 M4) | (refine wpL_alc M3 rfl rfl ?_; clear M3; intro g4 w4 M4) | (refine wpL_ldc M3 rfl rfl rfl ?_) | (refine wpL_lgc M3 rfl rfl rfl ?_) | (refine wpL_stc M3 rfl rfl rfl rfl ?_; clear M3; intro w' M3) | (refine wpL_sti M3 rfl rfl rfl rfl ?_; clear M3; intro w' M3) | (refine wpL_sth M3 rfl rfl rfl rfl (wr_minus _ _ _) ?_; clear M3; intro w' M3) | (refine wpL_bx M4 rfl rfl rfl rfl ?_; clear M4; intro g5 w5 M5) | (refine wpL_alc M4 rfl rfl ?_; clear M4; intro g5 w5 M5) | (refine wpL_ldc M4 rfl rfl rfl ?_) | (refine wpL_lgc M4 rfl rfl rfl ?_) | (refine wpL_stc M4 rfl rfl rfl rfl ?_; clear M4; intro w' M4) | (refine wpL_sti M4 rfl rfl rfl rfl ?_; clear M4; intro w' M4) | (refine wpL_sth M4 rfl rfl rfl rfl (wr_minus _ _ _) ?_; clear M4; intro w' M4) | (refine wpL_ldc M5 rfl rfl rfl ?_) | (refine wpL_lgc M5 rfl rfl rfl ?_) | (refine wpL_stc M5 rfl rfl rfl rfl ?_; clear M5; intro w' M5) | (refine wpL_sti M5 rfl rfl rfl rfl ?_; clear M5; intro w' M5) | (refine wpL_sth M5 rfl rfl rfl rfl (wr_minus _ _ _) ?_; clear M5; intro w' M5))))
  have hnd := M5.nodup
  simp only [List.map_cons, List.map_nil, List.nodup_cons, List.mem_cons, List.not_mem_nil, or_false, not_or, not_false_eq_true, List.nodup_nil, and_true] at hnd
  obtain ⟨⟨n1, n2, n3, n4⟩, ⟨n5, n6, n7⟩, ⟨n8, n9⟩, n10⟩ := hnd
  have hw5 := M5.from (.tail _ _ _ _ _ (Has.head _ _ _ _))
  have hw6 := M5.from (Has.head _ _ _ _)
  go_wp2_with ((with_reducible refine (?_ : Go.wpList _ _ _ (_ :: _) _ _)); (first | go_skip | (refine wpL_ldc M5 rfl rfl rfl ?_) | (refine wpL_lgc M5 rfl rfl rfl ?_) | (refine wpL_stc M5 rfl rfl rfl rfl ?_; clear M5; intro w' M5) | (refine wpL_sti M5 rfl rfl rfl rfl ?_; clear M5; intro w' M5) | (refine wpL_sth M5 rfl rfl rfl rfl (wr_minus _ _ _) ?_; clear M5; intro w' M5)))
  refine (places_any x y X Y s a n cap _).mono ?_
  rintro e W0 ⟨rfl, hW0⟩
  have G0 := GridAt.new w' x y n X Y s a cap p (HSS.out.below M5.below)
  have M6 := M5.alloc 26 (gc x y X Y s (.slice a n cap))
  rw [show w'.alloc (.cells (gc x y X Y s (.slice a n cap)).toArray 26) = W0 from hW0.symm] at M6
  rw [← hW0] at G0
  have l5 := M6.lt (.tail _ _ _ _ _ (.tail _ _ _ _ _ (Has.head _ _ _ _)))
  have l6 := M6.lt (.tail _ _ _ _ _ (Has.head _ _ _ _))
  have l7 := M6.lt (Has.head _ _ _ _)
  have l4 := M6.lt (.tail _ _ _ _ _ (.tail _ _ _ _ _ (.tail _ _ _ _ _ (Has.head _ _ _ _))))
  have l2 := M6.lt (.tail _ _ _ _ _ (.tail _ _ _ _ _ (.tail _ _ _ _ _ (.tail _ _ _ _ _ (Has.head _ _ _ _)))))
  have n11 := M5.lt (Has.head _ _ _ _)
  have n12 := M5.lt (.tail _ _ _ _ _ (Has.head _ _ _ _))
  obtain ⟨gP, hgP⟩ : ∃ gP, gP = w'.heap.size := ⟨_, rfl⟩
  rw [← hgP] at M6 G0 l7 n11 n12 ⊢
  have hfn := func_someM gP
  have hzW := M6.below.size
  clear hW0 hgP HSS M5
  go_wp2_with fail
  refine with_tmps (fun A hA => ?_)
  refine (wpIn_wide (n := 10)).1 ?_
  refine wpIn_rangeFunc_ownH rfl (by omega) (gf := 60) (lb := #[.pointer (some ⟨gP, 0, none⟩)]) (by rw [hA]; rfl) trivial hEN
    (HAST.out gP (fun j => j < W0.heap.size ∧ j ≠ g4 ∧ j ≠ g5) (fun q hq => by have := HLT.out q hq; exact ⟨by omega, by omega, by omega⟩) ⟨by omega, by omega, by omega⟩ W0 (fun k hk => hk.1) G0) (fun h k => h.trans k) (keptF_b (fun k hk => hk.1)) (Below.refl _ _) (fun _ => rfl)
    (fun (pre : List (Pl n)) W => RunC w W0 g4 65 (bestC x (tp c (pre.map (·.1)))) g5 2 [.int .i64 (most (tp c (pre.map (·.1))))] W) (fun _ _ _ => False) (runC_from hzW) (fun _ _ _ _ _ hs _ _ => hs)
    ⟨KeptF.refl _ _, M6.has (.tail _ _ _ _ _ (.tail _ _ _ _ _ (Has.head _ _ _ _))), M6.has (.tail _ _ _ _ _ (Has.head _ _ _ _)), M6.below, Nat.le_refl _⟩
    (fun (q : Pl n) a' W => ∃ B, W0.heap.size ≤ B ∧ Blk W B 65 (plc (q.1.1 : Nat) (q.1.1 % x : Nat) (q.1.1 / x : Nat)) ∧ a' = { tmps := (((A.setIfInBounds 12 (plv (q.1.1 : Nat) (q.1.1 % x : Nat) (q.1.1 / x : Nat))).setIfInBounds 13 (.int .i64 q.1.2)).setIfInBounds 7 (.pointer (some ⟨B, 0, none⟩))).setIfInBounds 8 (.int .i64 q.1.2), defers := [] })
    (fun q a' u X Y row hs hg hr => by
      obtain ⟨B, h1, h2, h3⟩ := hs
      exact ⟨B, h1, blk_grown h2 hg (fun r e => (hr r e).2), h3⟩) ?assign ?body ?done ?stop
  case assign =>
    rintro l pre q W K HI hK
    subst hA
    have hsz := HI.size
    gi_wp2
    exact hK _ _ ((KeepsOthers.alloc _ _).from _) (fun k hk => Below.heap_alloc W _ k (by omega)) (HI.to ((Below.refl _ _).alloc (Nat.le_refl _) _)) ⟨W.heap.size, hsz, Blk.new W _ _, rfl⟩
  case body =>
    rintro l pre q a' W hl hr HI ⟨B, hB, KX, rfl⟩ hlt
    subst hA
    have kf := ((M6.has (.tail _ _ _ _ _ (.tail _ _ _ _ _ (.tail _ _ _ _ _ (.tail _ _ _ _ _ (Has.head _ _ _ _)))))).of_block (HI.kept _ ⟨by omega, by omega, by omega⟩)).cell (i := 0) rfl
    have hq := q.2
    have CC := HCC.out.tells W HI.below q.1.1 (by have := hq.1; omega)
    obtain ⟨⟨k, u⟩, hqq⟩ := q
    dsimp only at KX CC hq ⊢
    obtain ⟨hm0, hm1⟩ : 0 ≤ most (tp c (pre.map (·.1))) ∧ True := ⟨most_pos _, trivial⟩
    have HYES := Lib.hid (fun h1 h2 => tp_yes (c := c) (l := pre.map (·.1)) (q := (k, u)) h1 h2)
    have HNO1 := Lib.hid (fun h => tp_no1 (c := c) (l := pre.map (·.1)) (q := (k, u)) h)
    have HNO2 := Lib.hid (fun h => tp_no2 (c := c) (l := pre.map (·.1)) (q := (k, u)) h)
    have HPM : Hid ((pre ++ [(⟨(k, u), hqq⟩ : Pl n)]).map (·.1) = pre.map (·.1) ++ [(k, u)]) := Lib.hid (by simp)
    have HBC : Hid (bestC x (some (k, u)) = plc (k : Nat) (k % x : Nat) (k / x : Nat)) := Lib.hid rfl
    obtain ⟨km, hkm⟩ : ∃ km, km = k % x := ⟨_, rfl⟩
    obtain ⟨kd, hkd⟩ : ∃ kd, kd = k / x := ⟨_, rfl⟩
    rw [← hkm, ← hkd] at KX CC HBC
    rw [← hkm, ← hkd]
    obtain ⟨e0, e1, e2⟩ := plcells KX
    have CC := Lib.hid CC
    obtain ⟨o, ho⟩ : ∃ o, o = tp c (pre.map (·.1)) := ⟨_, rfl⟩
    rw [← ho] at hm0 HI HYES HNO1 HNO2
    have HO := Lib.hid ho
    have kn := HI.b_.cell (i := 0) rfl
    obtain ⟨m, hm⟩ : ∃ m, m = most o := ⟨_, rfl⟩
    rw [← hm] at kn hm0 HI HYES HNO1
    have HM := Lib.hid hm
    have HIH := Lib.hid HI
    obtain ⟨b, hb⟩ : ∃ b, b = c k := ⟨_, rfl⟩
    have HYES2 : Hid (m < u → b = true → tp c ((pre ++ [(⟨(k, u), hqq⟩ : Pl n)]).map (·.1)) = some (k, u)) := Lib.hid (fun h1 h2 => by rw [HPM.out]; exact HYES.out h1 (hb.symm.trans h2))
    have HNO3 : Hid (¬ m < u → tp c ((pre ++ [(⟨(k, u), hqq⟩ : Pl n)]).map (·.1)) = o) := Lib.hid (fun h1 => by rw [HPM.out]; exact HNO1.out h1)
    have HNO4 : Hid (b = false → tp c ((pre ++ [(⟨(k, u), hqq⟩ : Pl n)]).map (·.1)) = o) := Lib.hid (fun h1 => by rw [HPM.out]; exact HNO2.out (hb.symm.trans h1))
    rw [← hb] at CC
    obtain ⟨t1, t2, t3⟩ := hq
    dsimp only at t1 t2 t3
    clear hkm hkd hb hm ho HI hl hr HYES HNO1 HNO2 HPM
    by_cases hmu : m < u
    · gi_wp2
      refine ⟨trivial, (CallsIn.inRound l (callsIn_wide.2 CC.out)).mono ?_⟩
      rintro e W2 ⟨rfl, hB2⟩
      have HI2 := HIH.out.to hB2
      have HS2 := Lib.hid ((Stp.refl W0 g4 g5 W).to HIH.out.size hB2)
      cases b
      · have HI3 := Lib.hid HI2
        clear CC hB2 HI2
        gi_wp2
        refine ⟨HS2.out.from_, HS2.out.kept, ?_⟩
        show RunC w W0 g4 _ (bestC x (tp c _)) g5 _ [.int .i64 (most (tp c _))] W2
        rw [HNO4.out trivial, ← HM.out]
        exact HI3.out
      · have KX2 := KX.below hB2 KX.lt
        obtain ⟨e0, e1, e2⟩ := plcells KX2
        obtain ⟨y0, y1, y2, hy⟩ := bestC_plc x o
        rw [hy] at HI2
        obtain ⟨d0, d1, d2⟩ := plcells HI2.a_
        have kn2 := HI2.b_.cell (i := 0) rfl
        have f0 := HI2.a_.free 0
        have f1 := HI2.a_.free 1
        have f2 := HI2.a_.free 2
        have f3 := HI2.b_.free 0
        have HI3 := Lib.hid ((((HI2.setA (by omega) hw5 0 (.int .i64 k) (by simp)).setA (by omega) hw5 1 (.int .i64 km) (by simp)).setA (by omega) hw5 2 (.int .i64 kd) (by simp)).setB (by omega) hw6 0 (.int .i64 u) (by simp))
        have HS3 := Lib.hid ((((HS2.out.setA 0 (.int .i64 k)).setA 1 (.int .i64 km)).setA 2 (.int .i64 kd)).setB 0 (.int .i64 u))
        have HYY := Lib.hid (HYES2.out hmu rfl)
        clear CC hB2 HI2 KX KX2 hy
        gi_wp2
        refine ⟨HS3.out.from_, HS3.out.kept, ?_⟩
        show RunC w W0 g4 _ (bestC x (tp c _)) g5 _ [.int .i64 (most (tp c _))] _
        rw [HYY.out, HBC.out]
        exact HI3.out
    · have HYY := Lib.hid (HNO3.out hmu)
      gi_wp2
      refine ⟨by simp, ?_⟩
      gi_wp2
      refine ⟨KeepsFrom.refl _ _, KeptF.refl _ _, ?_⟩
      show RunC w W0 g4 _ (bestC x (tp c _)) g5 _ [.int .i64 (most (tp c _))] _
      rw [HYY.out, ← HM.out]
      exact HIH.out
  case done =>
    rintro D zs W hD hzs HI hK
    subst hA
    subst hzs
    rw [HYS.out] at HI
    obtain ⟨o, ho⟩ : ∃ o, o = tp c (en p n) := ⟨_, rfl⟩
    rw [← ho] at HI
    obtain ⟨y0, y1, y2, hy⟩ := bestC_plc x o
    have HBV : Hid (bestV x (tp c (en p n)) = plv y0 y1 y2) := Lib.hid (by rw [← ho]; unfold bestV; rw [hy])
    rw [hy] at HI
    have hDl := lt_of_block hK
    have KR := (M6.has (.tail _ _ _ _ _ (.tail _ _ _ _ _ (.tail _ _ _ _ _ (Has.head _ _ _ _))))).of_block (HI.kept _ ⟨by omega, by omega, by omega⟩)
    obtain ⟨d0, d1, d2⟩ := plcells HI.a_
    obtain ⟨r0, r1, r2⟩ := plcells KR
    have f0 := KR.free 0
    have f1 := KR.free 1
    have f2 := KR.free 2
    have KR3 := ((KR.set 0 (.int .i64 y0) (by simp)).set 1 (.int .i64 y1) (by simp)).set 2 (.int .i64 y2) (by simp)
    have hw4 := M6.from (.tail _ _ _ _ _ (.tail _ _ _ _ _ (.tail _ _ _ _ _ (Has.head _ _ _ _))))
    have HB3 := Lib.hid (((HI.below.setCell (p := ⟨g3, 0, none⟩) hw4 (.int .i64 y0)).setCell (p := ⟨g3, 1, none⟩) hw4 (.int .i64 y1)).setCell (p := ⟨g3, 2, none⟩) hw4 (.int .i64 y2))
    have hD3 : (((W.setCell ⟨g3, 0, none⟩ (.int .i64 y0)).setCell ⟨g3, 1, none⟩ (.int .i64 y1)).setCell ⟨g3, 2, none⟩ (.int .i64 y2)).heap[D]? = some (.deferred (some [])) :=
      (Below.heap_setCell _ _ _ _ (by simp; omega)).trans ((Below.heap_setCell _ _ _ _ (by simp; omega)).trans ((Below.heap_setCell _ _ _ _ (by simp; omega)).trans hK))
    have HKK := Lib.hid hD3
    have HKR := Lib.hid KR3
    have hDz : w.heap.size ≤ D := by omega
    have hDg : g3 ≠ D := by omega
    clear HI hK KR KR3 hD3 hDl ho hy
    go_wp2_with fail
    refine ⟨by simp, .inl ⟨_, _, rfl, run_takeDeferred HKK.out, ?_⟩⟩
    have hfin := (World.putObj_heap_other (w := ((W.setCell ⟨g3, 0, none⟩ (.int .i64 y0)).setCell ⟨g3, 1, none⟩ (.int .i64 y1)).setCell ⟨g3, 2, none⟩ (.int .i64 y2)) (o := .deferred none) hDg).trans HKR.out
    exact ⟨_, gres_blk rfl rfl hfin Try.underlying65 rfl sizePl, by rw [HBV.out]; rfl, HB3.out.trans (belowK_b (w := w) (Nat.le_refl _) _ D _ _ hDz HKK.out rfl rfl)⟩
  case stop =>
    rintro D c pre W _ hSp hIx _
    exact hIx.elim
end Go.Proofs.Ytbjhbbiahmhdeaa
