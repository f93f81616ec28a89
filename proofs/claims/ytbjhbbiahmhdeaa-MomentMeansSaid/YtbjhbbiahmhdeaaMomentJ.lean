/-
  How many places would be believed as much: the code's.
-/
import Derived.Test.YtbjhbbiahmhdeaaMomentI
set_option linter.unusedVariables false
set_option linter.unusedSimpArgs false
namespace Go.Proofs.Ytbjhbbiahmhdeaa
open Go Go.RowKit Go.Shelf Go.Th Go.Th.Grid Go.Th.Moment Go.Th.Wide

theorem wrap_more (t m : Int) : IntKind.i64.wrap (IntKind.i64.wrap t + m) = IntKind.i64.wrap (t + m) := by
  simp only [IntKind.wrap, IntKind.bits, IntKind.signed]; simp; omega

attribute [local go_sem] Oper.semAt_some
set_option maxRecDepth 100000 in
set_option maxHeartbeats 8000000 in
theorem even_go (x y n : Nat) (X Y s : Int) (a : Option Addr) (cap : Nat) (p : List Int) (G : GOk x y n p) (r e : Int)
    (C : Ans 30 #[.int .i64 (mo f1 (en p n)), .int .i64 (mo f1 (en p n)), .int .i64 (IntKind.i64.wrap (sqs (en p n))), .int .i64 0] (.tuple #[.int .i64 r, .int .i64 e]))
    (w : World) (hS : Sl w 1 (.slice a n cap) n (i64s p)) :
    Calls Try.prog 23 #[gv x y X Y s (.slice a n cap)] w fun e w' => e = .returned (.int .i64 r) ∧ Below w.heap.size w w' := by
  obtain ⟨hp, hr, hsd, hn⟩ := G
  obtain ⟨⟨q1, q2⟩, q3, q4⟩ := sdG_t hsd
  have hle : x * y ≤ 64 * 64 := Nat.mul_le_mul (by omega) (by omega)
  have hn4 : n ≤ 4096 := by omega
  have hn0 : 0 < n := by rw [hn]; exact Nat.mul_pos (by omega) (by omega)
  have hlt := sl_lt hp hn0 hS
  obtain ⟨ys, hys⟩ := exists_pl (en p n) (en_ok (by omega) hr)
  have HAST := Lib.hid (fun Bx K hKa hKx w hKl hG => places_stops Bx x y n X Y s a cap p ys hys hp hsd hn K hKa hKx w hKl hG)
  have HYS := Lib.hid hys
  have hEN := enters_of Try.func60 (by kernel_rfl) rfl
  have HSS := Lib.hid hS
  have HLT := Lib.hid hlt
  have HC := Lib.hid C
  clear hys hp hr hsd hn hle q1 q2 q3 q4 hS hlt C
  refine (callsIn_wide (n := 10)).1 ?_
  refine callsIn_of_wp_marks Try.func23 rfl trivial ?_ rfl
  simp only [Try.ntmps23, List.size_toArray, List.length_cons, List.length_nil, Nat.reduceAdd, Nat.reduceSub, Array.replicate_succ, Array.replicate_zero, List.push_toArray, List.append_toArray, List.nil_append, List.cons_append]
  refine wpIn_wide.2 ?_
  have M0 := Mem.start w
  go_upto_region 2 with (((with_reducible refine (?_ : Go.wpList _ _ _ (_ :: _) _ _)); (first | go_skip | (refine wpL_bx M0 rfl rfl rfl rfl ?_; clear M0; intro g1 w1 M1) | (refine wpL_alc M0 rfl rfl ?_; clear M0; intro g1 w1 M1) | (refine wpL_ldc M0 rfl rfl rfl ?_) | (refine wpL_lgc M0 rfl rfl rfl ?_) | (refine wpL_stc M0 rfl rfl rfl rfl ?_; clear M0; intro w' M0) | (refine wpL_sti M0 rfl rfl rfl rfl ?_; clear M0; intro w' M0) | (refine wpL_sth M0 rfl rfl rfl rfl (wr_minus _ _ _) ?_; clear M0; intro w' M0) | (refine wpL_bx M1 rfl rfl rfl rfl ?_; clear M1; intro g2 w2 M2) | (refine wpL_alc M1 rfl rfl ?_; clear M1; intro g2 w2 M2) | (refine wpL_ldc M1 rfl rfl rfl ?_) | (refine wpL_lgc M1 rfl rfl rfl ?_) | (refine wpL_stc M1 rfl rfl rfl rfl ?_; clear M1; intro w' M1) | (refine wpL_sti M1 rfl rfl rfl rfl ?_; clear M1; intro w' M1) | (refine wpL_sth M1 rfl rfl rfl rfl (wr_minus _ _ _) ?_; clear M1; intro w' M1) | (refine wpL_bx M2 rfl rfl rfl rfl ?_; clear M2; intro g3 w3 M3) | (refine wpL_alc M2 rfl rfl ?_; clear M2; intro g3 w3 M3) | (refine wpL_ldc M2 rfl rfl rfl ?_) | (refine wpL_lgc M2 rfl rfl rfl ?_) | (refine wpL_stc M2 rfl rfl rfl rfl ?_; clear M2; intro w' M2) | (refine wpL_sti M2 rfl rfl rfl rfl ?_; clear M2; intro w' M2) | (refine wpL_sth M2 rfl rfl rfl rfl (wr_minus _ _ _) ?_; clear M2; intro w' M2) | (refine wpL_ldc M3 rfl rfl rfl ?_) | (refine wpL_lgc M3 rfl rfl rfl ?_) | (refine wpL_stc M3 rfl rfl rfl rfl ?_; clear M3; intro w' M3) | (refine wpL_sti M3 rfl rfl rfl rfl ?_; clear M3; intro w' M3) | (refine wpL_sth M3 rfl rfl rfl rfl (wr_minus _ _ _) ?_; clear M3; intro w' M3))))
  have hnd := M3.nodup
  simp only [List.map_cons, List.map_nil, List.nodup_cons, List.mem_cons, List.not_mem_nil, or_false, not_or, not_false_eq_true, List.nodup_nil, and_true] at hnd
  obtain ⟨⟨n1, n2⟩, n3⟩ := hnd
  have hw3 := M3.from (Has.head _ _ _ _)
  have hw2 := M3.from (.tail _ _ _ _ _ (Has.head _ _ _ _))
  go_wp2_with ((with_reducible refine (?_ : Go.wpList _ _ _ (_ :: _) _ _)); (first | go_skip | (refine wpL_ldc M3 rfl rfl rfl ?_) | (refine wpL_lgc M3 rfl rfl rfl ?_) | (refine wpL_stc M3 rfl rfl rfl rfl ?_; clear M3; intro w' M3) | (refine wpL_sti M3 rfl rfl rfl rfl ?_; clear M3; intro w' M3) | (refine wpL_sth M3 rfl rfl rfl rfl (wr_minus _ _ _) ?_; clear M3; intro w' M3)))
  refine (places_any x y X Y s a n cap _).mono ?_
  rintro e W0 ⟨rfl, hW0⟩
  have G0 := GridAt.new w' x y n X Y s a cap p (HSS.out.below M3.below)
  have M4 := M3.alloc 26 (gc x y X Y s (.slice a n cap))
  rw [show w'.alloc (.cells (gc x y X Y s (.slice a n cap)).toArray 26) = W0 from hW0.symm] at M4
  rw [← hW0] at G0
  have l3 := M4.lt (.tail _ _ _ _ _ (Has.head _ _ _ _))
  have l2 := M4.lt (.tail _ _ _ _ _ (.tail _ _ _ _ _ (Has.head _ _ _ _)))
  have lP := M4.lt (Has.head _ _ _ _)
  have n11 := M3.lt (Has.head _ _ _ _)
  have n12 := M3.lt (.tail _ _ _ _ _ (Has.head _ _ _ _))
  obtain ⟨gP, hgP⟩ : ∃ gP, gP = w'.heap.size := ⟨_, rfl⟩
  rw [← hgP] at M4 G0 lP n11 n12 ⊢
  have hfn := func_someM gP
  have hzW := M4.below.size
  clear hW0 hgP HSS M3
  go_wp2_with fail
  refine with_tmps (fun A hA => ?_)
  refine (wpIn_wide (n := 10)).1 ?_
  refine wpIn_rangeFunc_ownH rfl (by omega) (gf := 60) (lb := #[.pointer (some ⟨gP, 0, none⟩)]) (by rw [hA]; rfl) trivial hEN
    (HAST.out gP (fun j => j < W0.heap.size ∧ j ≠ g2 ∧ j ≠ g3) (fun q hq => by have := HLT.out q hq; exact ⟨by omega, by omega, by omega⟩) ⟨by omega, by omega, by omega⟩ W0 (fun k hk => hk.1) G0) (fun h k => h.trans k) (keptF_b (fun k hk => hk.1)) (Below.refl _ _) (fun _ => rfl)
    (fun (pre : List (Pl n)) W => RunC w W0 g2 2 [.int .i64 (mo f1 (pre.map (·.1)))] g3 2 [.int .i64 (IntKind.i64.wrap (sqs (pre.map (·.1))))] W) (fun _ _ _ => False) (runC_from hzW) (fun _ _ _ _ _ hs _ _ => hs)
    ⟨KeptF.refl _ _, M4.has (.tail _ _ _ _ _ (.tail _ _ _ _ _ (Has.head _ _ _ _))), M4.has (.tail _ _ _ _ _ (Has.head _ _ _ _)), M4.below, Nat.le_refl _⟩
    (fun (q : Pl n) a' W => a' = { tmps := ((A.setIfInBounds 11 (plv (q.1.1 : Nat) (q.1.1 % x : Nat) (q.1.1 / x : Nat))).setIfInBounds 12 (.int .i64 q.1.2)).setIfInBounds 6 (.int .i64 q.1.2), defers := [] })
    (fun q a' u X Y row hs hg hr => hs) ?assign ?body ?done ?stop
  case assign =>
    rintro l pre q W K HI hK
    subst hA
    gi_wp2
    exact hK _ _ (KeepsFrom.refl _ _) (KeptF.refl _ _) HI rfl
  case body =>
    rintro l pre q a' W hl hr HI rfl hlt
    subst hA
    have hq := q.2
    obtain ⟨⟨k, u⟩, hqq⟩ := q
    dsimp only at hq ⊢
    have hpre : ∀ q ∈ pre.map (·.1), PlOk n q := fun q hq => by
      obtain ⟨y, _, rfl⟩ := List.mem_map.1 hq
      exact y.2
    have hlen : (pre.map (·.1)).length < n := by rw [List.length_map]; exact hlt
    obtain ⟨t1, t2, t3⟩ := hq
    dsimp only at t1 t2 t3
    have r1 := mo_rng (F := 1) hpre (fun i _ => (by unfold f1; omega : 0 ≤ f1 i ∧ f1 i ≤ 1))
    obtain ⟨L, hL⟩ : ∃ L : Int, L = ((pre.map (·.1)).length : Int) := ⟨_, rfl⟩
    have hL2 : L ≤ 4096 := by omega
    rw [← hL] at r1
    have e : (pre ++ [(⟨(k, u), hqq⟩ : Pl n)]).map (·.1) = pre.map (·.1) ++ [(k, u)] := by simp
    have HN1 : Hid (mo f1 ((pre ++ [(⟨(k, u), hqq⟩ : Pl n)]).map (·.1)) = mo f1 (pre.map (·.1)) + u) := Lib.hid (by rw [e, mo_snoc]; unfold f1; rw [Int.mul_one])
    have HN2 : Hid (IntKind.i64.wrap (sqs ((pre ++ [(⟨(k, u), hqq⟩ : Pl n)]).map (·.1))) = IntKind.i64.wrap (IntKind.i64.wrap (sqs (pre.map (·.1))) + u * u)) := Lib.hid (by rw [wrap_more, e, sqs_snoc])
    obtain ⟨v1, h1⟩ : ∃ v1, v1 = mo f1 (pre.map (·.1)) := ⟨_, rfl⟩
    obtain ⟨v2, h2⟩ : ∃ v2, v2 = IntKind.i64.wrap (sqs (pre.map (·.1))) := ⟨_, rfl⟩
    have pq := prod_rng ⟨t2, t3⟩ ⟨t2, t3⟩
    obtain ⟨m, hm⟩ : ∃ m, u * u = m := ⟨_, rfl⟩
    rw [hm] at pq HN2
    rw [← h1] at r1 HN1 HI
    rw [← h2] at HN2 HI
    obtain ⟨v3, h3⟩ : ∃ v3, IntKind.i64.wrap (v2 + m) = v3 := ⟨_, rfl⟩
    rw [h3] at HN2
    have wm : IntKind.i64.wrap m = m := IntWalk.i64_in _ (by omega)
    have w1 : IntKind.i64.wrap (v1 + u) = v1 + u := IntWalk.i64_in _ (by omega)
    have c1 := HI.a_.cell (i := 0) rfl
    have c2 := HI.b_.cell (i := 0) rfl
    have z1 := HI.a_.free 0
    have z2 := HI.b_.free 0
    have HS := Lib.hid (((Stp.refl W0 g2 g3 W).setA 0 (.int .i64 (v1 + u))).setB 0 (.int .i64 v3))
    have HR := Lib.hid ((HI.setA (by omega) hw2 0 (.int .i64 (v1 + u)) (by simp)).setB (by omega) hw3 0 (.int .i64 v3) (by simp))
    clear HI h1 h2 r1 pq hpre hlen hL hL2 e hl hr hlt
    gi_wp2
    refine ⟨HS.out.from_, HS.out.kept, ?_⟩
    show RunC w W0 g2 _ [.int .i64 (mo f1 _)] g3 _ [.int .i64 (IntKind.i64.wrap (sqs _))] _
    rw [HN1.out, HN2.out]
    exact HR.out
  case done =>
    rintro D zs W hD hzs HI hK
    subst hA
    subst hzs
    rw [HYS.out] at HI
    obtain ⟨v1, h1⟩ : ∃ v1, v1 = mo f1 (en p n) := ⟨_, rfl⟩
    obtain ⟨v2, h2⟩ : ∃ v2, v2 = IntKind.i64.wrap (sqs (en p n)) := ⟨_, rfl⟩
    rw [← h1] at HI HC
    rw [← h2] at HI HC
    have c1 := HI.a_.cell (i := 0) rfl
    have c2 := HI.b_.cell (i := 0) rfl
    have hDl := lt_of_block hK
    have HIB := Lib.hid HI.below
    have HKK := Lib.hid hK
    clear HI hK h1 h2 M4 HAST HLT G0
    go_wp2_with fail
    refine (HC.out _).mono ?_
    rintro e W2 ⟨rfl, hB2⟩
    have hD2 := (hB2.block D hDl).trans HKK.out
    have hBW := HIB.out.trans (hB2.mono HIB.out.size)
    have HD2 := Lib.hid hD2
    clear HC HKK hD2 hB2
    go_wp2_with fail
    refine ⟨by simp, .inl ⟨_, _, rfl, run_takeDeferred HD2.out, ?_⟩⟩
    exact ⟨_, results_tmp rfl _ _ _, rfl, hBW.trans (belowK_b (w := w) (Nat.le_refl _) _ D _ _ (by omega) HD2.out rfl rfl)⟩
  case stop =>
    rintro D c pre W _ hSp hIx _
    exact hIx.elim
end Go.Proofs.Ytbjhbbiahmhdeaa
