/-
  How much the places that count are believed, together: the code's.
-/
import Derived.Shelf.AbstractIn
import Derived.Test.YtbjhbbiahmhdeaaMomentC
import Derived.Test.YtbjhbbiahmhdeaaRoundReg
set_option linter.unusedVariables false
set_option linter.unusedSimpArgs false
namespace Go.Proofs.Ytbjhbbiahmhdeaa
open Go Go.RowKit Go.Shelf Go.Th Go.Th.Grid Go.Th.Moment

set_option maxRecDepth 20000 in
theorem func_someM (B : Nat) (wx : World) : (binOp .eql 75 (.func (.func 60) #[] #[.pointer (some ⟨B, 0, none⟩)]) .nilFunc).run Try.prog wx = .ok (.bool false) wx := by
  first | rfl | kernel_rfl | simp [binOp, Op.equal, Op.equalIn]

/-- Between two rounds of a loop over places that turns one block of its own. -/
structure RunI (w W0 : World) (g : Nat) (t : TypeId) {N : Nat} (cs : List (Pl N) → List Value) (pre : List (Pl N)) (W : World) : Prop where
  kept : KeptF (fun j => j < W0.heap.size ∧ j ≠ g) W0 W
  own : Blk W g t (cs pre)
  below : Below w.heap.size w W
  size : W0.heap.size ≤ W.heap.size
theorem runI_from {w W0 : World} {g : Nat} {t : TypeId} {N : Nat} {cs : List (Pl N) → List Value} (hw : w.heap.size ≤ W0.heap.size) : OwnFrom W0.heap.size (fun (pre : List (Pl N)) W => RunI w W0 g t cs pre W) := by
  intro s X Y row hs hg hr
  exact ⟨fun k hk => (hg.block k (by have := hs.size; omega) (fun e => by have := (hr k e.symm).1; omega)).trans (hs.kept k hk), blk_grown hs.own hg (fun r e => (hr r e).2), hs.below.grown hg (Nat.le_trans hw hs.size) (fun k e => Nat.le_trans hw (hr k e).1), Nat.le_trans hs.size hg.size⟩

attribute [local go_sem] Oper.semAt_some
set_option maxRecDepth 100000 in
set_option maxHeartbeats 8000000 in
theorem together_any (x y n : Nat) (X Y s : Int) (a : Option Addr) (cap : Nat) (p : List Int) (f : Nat) (caps : Array Value) (c : Nat → Bool) (hp : p.length = n) (hr : ∀ u ∈ p, 0 ≤ u ∧ u ≤ 1073741824) (hsd : sdG x y = true) (hn : n = x * y)
    (w : World) (hS : Sl w 1 (.slice a n cap) n (i64s p)) (HC : CntF f caps x c w) :
    Calls Try.prog 40 #[gv x y X Y s (.slice a n cap), .func (.func f) #[] caps] w fun e w' => e = .returned (.int .i64 (so c (en p n))) ∧ Below w.heap.size w w' := by
  obtain ⟨⟨q1, q2⟩, q3, q4⟩ := sdG_t hsd
  have hle : x * y ≤ 64 * 64 := Nat.mul_le_mul (by omega) (by omega)
  have hn4 : n ≤ 4096 := by omega
  have hn0 : 0 < n := by rw [hn]; exact Nat.mul_pos (by omega) (by omega)
  have hlt := sl_lt hp hn0 hS
  obtain ⟨ys, hys⟩ := exists_pl (en p n) (en_ok (by omega) hr)
  have HAST := Lib.hid (fun Bx K hKa hKx w hKl hG => places_stops Bx x y n X Y s a cap p ys hys hp hsd hn K hKa hKx w hKl hG)
  have HYS := Lib.hid hys
  have hEN := enters_of Try.func60 (by kernel_rfl) rfl
  have HE := HC.enter
  have HCC := Lib.hid HC
  have HSS := Lib.hid hS
  have HLT := Lib.hid hlt
  clear hys hp hr hsd hn hle q1 q2 q3 q4 HC hS hlt
  refine (callsIn_wide (n := 10)).1 ?_
  refine callsIn_of_wp_marks Try.func40 rfl trivial ?_ rfl
  simp only [Try.ntmps40, List.size_toArray, List.length_cons, List.length_nil, Nat.reduceAdd, Nat.reduceSub, Array.replicate_succ, Array.replicate_zero, List.push_toArray, List.append_toArray, List.nil_append, List.cons_append]
  refine wpIn_wide.2 ?_
  obtain ⟨w1, hw1⟩ : ∃ w1, w.alloc (.cells #[.int .i64 x, .int .i64 y, .int .i64 X, .int .i64 Y, .int .i64 s, .slice a n cap] 26) = w1 := ⟨_, rfl⟩
  have K1 : Blk w1 w.heap.size 26 (gc x y X Y s (.slice a n cap)) := by rw [← hw1]; exact Blk.new w _ _
  have B1 : Below w.heap.size w w1 := by rw [← hw1]; exact (Below.refl _ _).alloc (Nat.le_refl _) _
  obtain ⟨w2, hw2⟩ : ∃ w2, w1.alloc (.cells #[.func (.func f) #[] caps] 69) = w2 := ⟨_, rfl⟩
  have K2 : Blk w2 w1.heap.size 69 [.func (.func f) #[] caps] := by rw [← hw2]; exact Blk.new w1 _ _
  have B2 : Below w1.heap.size w1 w2 := by rw [← hw2]; exact (Below.refl _ _).alloc (Nat.le_refl _) _
  have z1 : w1.heap.size = w.heap.size + 1 := by rw [← hw1]; simp
  have z2 : w2.heap.size = w1.heap.size + 1 := by rw [← hw2]; simp
  have HW1 := Lib.hid hw1
  have HW2 := Lib.hid hw2
  clear hw1 hw2
  go_upto_region 1 with fail
  rw [HW1.out, HW2.out, ← z1]
  clear HW1 HW2
  obtain ⟨w3, hw3⟩ : ∃ w3, w2.alloc (.cells #[.int .i64 0] 2) = w3 := ⟨_, rfl⟩
  have K3 : Blk w3 w2.heap.size 2 [.int .i64 0] := by rw [← hw3]; exact Blk.new w2 _ _
  have B3 : Below w2.heap.size w2 w3 := by rw [← hw3]; exact (Below.refl _ _).alloc (Nat.le_refl _) _
  have z3 : w3.heap.size = w2.heap.size + 1 := by rw [← hw3]; simp
  have HB1 := Lib.hid B1
  have K13 := (K1.below B2 K1.lt).below B3 (K1.below B2 K1.lt).lt
  have K23 := K2.below B3 K2.lt
  have BW3 := (B1.trans (B2.mono B1.size)).trans (B3.mono (B1.trans (B2.mono B1.size)).size)
  obtain ⟨gG, hgG⟩ : ∃ gG, gG = w.heap.size := ⟨_, rfl⟩
  obtain ⟨gF, hgF⟩ : ∃ gF, gF = w1.heap.size := ⟨_, rfl⟩
  obtain ⟨gS, hgS⟩ : ∃ gS, gS = w2.heap.size := ⟨_, rfl⟩
  obtain ⟨gP, hgP⟩ : ∃ gP, gP = w3.heap.size := ⟨_, rfl⟩
  have HGG := Lib.hid hgG
  have o1 : gG < gF := by omega
  have o2 : gF < gS := by omega
  have o3 : gS < gP := by omega
  rw [← hgF, ← hgG]
  rw [← hgG] at K13
  rw [← hgF] at K23
  rw [← hgS] at K3
  have HW3 := Lib.hid hw3
  have HGS := Lib.hid hgS
  have HGP := Lib.hid hgP
  clear hw3 z1 z2 z3 hgG hgF hgS hgP K1 K2 B1 B2 B3
  go_upto_region 2 with fail
  rw [HW3.out, ← HGS.out]
  clear HW3
  obtain ⟨c0, c1, c2, c3, c4, c5⟩ := gcells K13
  go_wp2_with fail
  refine (places_any x y X Y s a n cap _).mono ?_
  rintro e W0 ⟨rfl, hW0⟩
  have G0 := GridAt.new w3 x y n X Y s a cap p (HSS.out.below BW3)
  have B4 : Below w3.heap.size w3 (w3.alloc (.cells #[.int .i64 x, .int .i64 y, .int .i64 X, .int .i64 Y, .int .i64 s, .slice a n cap] 26)) := (Below.refl _ _).alloc (Nat.le_refl _) _
  rw [← hW0] at G0 B4
  have K20 := K23.below B4 K23.lt
  have K30 := K3.below B4 K3.lt
  have BW0 := BW3.trans (B4.mono BW3.size)
  have o4 : gP < W0.heap.size := by rw [HGP.out, hW0]; simp
  rw [← HGP.out] at G0 ⊢
  have hfn := func_someM gP
  have HB0 := Lib.hid BW0
  have hwS : w.heap.size ≤ gG := by rw [HGG.out]; exact Nat.le_refl _
  have hqb : ∀ q, a = some q → q.block < gG := fun q hq => by rw [HGG.out]; exact HLT.out q hq
  have HQB := Lib.hid hqb
  clear hW0 c0 c1 c2 c3 c4 c5 K13 K23 K3 B4 BW3 HSS BW0 hqb HLT
  go_wp2_with fail
  refine with_tmps (fun A hA => ?_)
  refine (wpIn_wide (n := 10)).1 ?_
  refine wpIn_rangeFunc_ownH rfl (by omega) (gf := 60) (lb := #[.pointer (some ⟨gP, 0, none⟩)]) (by rw [hA]; rfl) trivial hEN
    (HAST.out gP (fun j => j < W0.heap.size ∧ j ≠ gS) (fun q hq => by have := HQB.out q hq; exact ⟨by omega, by omega⟩) ⟨by omega, by omega⟩ W0 (fun k hk => hk.1) G0) (fun h k => h.trans k) (keptF_b (fun k hk => hk.1)) (Below.refl _ _) (fun _ => rfl)
    (fun (pre : List (Pl n)) W => RunI w W0 gS 2 (fun pre => [.int .i64 (so c (pre.map (·.1)))]) pre W) (fun _ _ _ => False) (runI_from HB0.out.size) (fun _ _ _ _ _ hs _ _ => hs)
    ⟨KeptF.refl _ _, K30, HB0.out, Nat.le_refl _⟩
    (fun (q : Pl n) a' W => ∃ B, W0.heap.size ≤ B ∧ Blk W B 65 (plc (q.1.1 : Nat) (q.1.1 % x : Nat) (q.1.1 / x : Nat)) ∧ a' = { tmps := (((A.setIfInBounds 10 (plv (q.1.1 : Nat) (q.1.1 % x : Nat) (q.1.1 / x : Nat))).setIfInBounds 11 (.int .i64 q.1.2)).setIfInBounds 6 (.pointer (some ⟨B, 0, none⟩))).setIfInBounds 7 (.int .i64 q.1.2), defers := [] })
    (fun q a' u X Y row hs hg hr => by
      obtain ⟨B, h1, h2, h3⟩ := hs
      exact ⟨B, h1, blk_grown h2 hg (fun r e => (hr r e).2), h3⟩) ?assign ?body ?done ?stop
  case assign =>
    rintro l pre q W K HI hK
    subst hA
    have hsz := HI.size
    gi_wp2
    exact hK _ _ ((KeepsOthers.alloc _ _).from _) (fun k hk => Below.heap_alloc W _ k (by omega)) ⟨fun k hk => (Below.heap_alloc W _ k (by omega)).trans (HI.kept k hk), HI.own.alloc _, HI.below.alloc HI.below.size _, by simp; omega⟩ ⟨W.heap.size, hsz, Blk.new W _ _, rfl⟩
  case body =>
    rintro l pre q a' W hl hr HI ⟨B, hB, KX, rfl⟩ hlt
    subst hA
    have kf := (K20.of_block (HI.kept _ ⟨by omega, by omega⟩)).cell (i := 0) rfl
    have hq := q.2
    have CC := HCC.out.tells W HI.below q.1.1 (by have := hq.1; omega)
    obtain ⟨⟨k, u⟩, hqq⟩ := q
    dsimp only at KX CC hq ⊢
    obtain ⟨km, hkm⟩ : ∃ km, km = k % x := ⟨_, rfl⟩
    obtain ⟨kd, hkd⟩ : ∃ kd, kd = k / x := ⟨_, rfl⟩
    rw [← hkm, ← hkd] at KX CC
    rw [← hkm, ← hkd]
    obtain ⟨e0, e1, e2⟩ := plcells KX
    have CC := Lib.hid CC
    have HIH := Lib.hid HI
    clear hkm hkd HI
    have hpre : ∀ q ∈ pre.map (·.1), PlOk n q := fun q hq => by
      obtain ⟨y, _, rfl⟩ := List.mem_map.1 hq
      exact y.2
    obtain ⟨r1, r2⟩ := so_rng (c := c) hpre
    rw [List.length_map] at r2
    have hyes := fun h => so_yes (c := c) (l := pre.map (·.1)) (q := (k, u)) h
    have hno := fun h => so_no (c := c) (l := pre.map (·.1)) (q := (k, u)) h
    obtain ⟨t, ht⟩ : ∃ t, t = so c (pre.map (·.1)) := ⟨_, rfl⟩
    have kn := HIH.out.own.cell (i := 0) rfl
    rw [← ht] at kn r1 r2 hyes hno
    obtain ⟨g1, g2, g3⟩ := hq
    dsimp only at g1 g2 g3
    have wt : IntKind.i64.wrap (t + u) = t + u := IntWalk.i64_in _ (by omega)
    have wt2 : wrap64 (t + u) = t + u := IntWalk.wrap64_in _ (by omega)
    obtain ⟨b, hb⟩ : ∃ b, b = c k := ⟨_, rfl⟩
    rw [← hb] at CC hyes hno
    have HYES := Lib.hid hyes
    have HNO := Lib.hid hno
    have HPM : Hid ((pre ++ [(⟨(k, u), hqq⟩ : Pl n)]).map (·.1) = pre.map (·.1) ++ [(k, u)]) := Lib.hid (by simp)
    have HTT := Lib.hid ht
    clear hyes hno hb ht hpre hl hr
    gi_wp2
    refine ⟨trivial, (CallsIn.inRound l (callsIn_wide.2 CC.out)).mono ?_⟩
    rintro e W2 ⟨rfl, hB2⟩
    have hsz := HIH.out.size
    have HI2 : RunI w W0 gS 2 (fun pre => [.int .i64 (so c (pre.map (·.1)))]) pre W2 := ⟨HIH.out.kept.below hB2 (fun k hk => by omega), HIH.out.own.below hB2 HIH.out.own.lt, HIH.out.below.trans (hB2.mono HIH.out.below.size), Nat.le_trans hsz hB2.size⟩
    have HK2 := Lib.hid (keepsFrom_below (B := W0.heap.size) hB2)
    have HF2 : Hid (KeptF (fun j => j < W0.heap.size ∧ j ≠ gS) W W2) := Lib.hid (fun k hk => hB2.block k (by omega))
    have kn2 := HI2.own.cell (i := 0) rfl
    have fn2 := HI2.own.free 0
    rw [← HTT.out] at kn2
    have HI2H := Lib.hid HI2
    clear CC kn kf e0 e1 e2 KX hB2 HI2
    cases b
    · gi_wp2
      refine ⟨HK2.out, HF2.out, HI2H.out.kept, ?_, HI2H.out.below, HI2H.out.size⟩
      show Blk W2 gS _ [.int .i64 (so c _)]
      rw [HPM.out, HNO.out trivial, HTT.out]
      exact HI2H.out.own
    · gi_wp2
      refine ⟨HK2.out.trans ((KeepsOthers.setCell _ _ _).from _), fun k hk => (Below.heap_setCell _ _ _ _ (by simpa using hk.2)).trans (HF2.out k hk), fun k hk => (Below.heap_setCell _ _ _ _ (by simpa using hk.2)).trans (HI2H.out.kept k hk), ?_, HI2H.out.below.setCell (p := ⟨gS, 0, none⟩) (by simp; omega) _, by have := HI2H.out.size; simpa [World.setCell] using this⟩
      show Blk _ gS _ [.int .i64 (so c _)]
      rw [HPM.out, HYES.out trivial]
      exact HI2H.out.own.set 0 (.int .i64 (t + u)) (by simp)
  case done =>
    rintro D zs W hD hzs HI hK
    subst hA
    subst hzs
    have kn := HI.own.cell (i := 0) rfl
    rw [HYS.out] at kn
    have hDl := lt_of_block hK
    have HIH := Lib.hid HI
    have HKK := Lib.hid hK
    clear HI hK
    go_wp2_with fail
    refine ⟨by simp, .inl ⟨_, _, rfl, run_takeDeferred HKK.out, ?_⟩⟩
    exact ⟨_, results_tmp rfl _ _ _, rfl, HIH.out.below.trans (belowK_b (w := w) (Nat.le_refl _) W D _ _ (by have := HB0.out.size; omega) HKK.out rfl rfl)⟩
  case stop =>
    rintro D c pre W _ hSp hIx _
    exact hIx.elim
end Go.Proofs.Ytbjhbbiahmhdeaa
