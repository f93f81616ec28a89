/-
  The place that is believed most, and the one far from it; what is believed around a place, and outermost: the code's.
-/
import Derived.Test.YtbjhbbiahmhdeaaMomentE
set_option linter.unusedVariables false
set_option linter.unusedSimpArgs false
namespace Go.Proofs.Ytbjhbbiahmhdeaa
open Go Go.RowKit Go.Shelf Go.Th Go.Th.Grid Go.Th.Moment Go.Th.Wide

/-- A right grid. -/
structure GOk (x y n : Nat) (p : List Int) : Prop where
  len : p.length = n
  rng : ∀ u ∈ p, 0 ≤ u ∧ u ≤ 1073741824
  sd : sdG x y = true
  side : n = x * y

section
variable (x y n : Nat) (X Y s : Int) (a : Option Addr) (cap : Nat) (p : List Int) (G : GOk x y n p)
include G
set_option maxRecDepth 20000 in
set_option maxHeartbeats 1600000 in
theorem peak_any (w : World) (hS : Sl w 1 (.slice a n cap) n (i64s p)) :
    Calls Try.prog 33 #[gv x y X Y s (.slice a n cap)] w fun e w' => e = .returned (bestV x (pk p n)) ∧ Below w.heap.size w w' := by
  have CT := Lib.hid (fun wx hs => top_any x y n X Y s a cap p _ _ _ G.len G.rng G.sd G.side wx hs (all_cnt x wx))
  obtain ⟨y0, y1, y2, hy⟩ := bestC_plc x (pk p n)
  have HBV : Hid (bestV x (pk p n) = plv y0 y1 y2) := Lib.hid (by unfold bestV; rw [hy])
  have HPK : Hid (pk p n = tp (fun _ => true) (en p n)) := Lib.hid rfl
  have HS := Lib.hid hS
  clear hy hS G
  have M0 := Mem.start w
  go_enter Try.func33, Try.ntmps33
  go_wp2_with ((with_reducible refine (?_ : Go.wpList _ _ _ (_ :: _) _ _)); (first | go_skip | (refine wpL_bx M0 rfl rfl rfl rfl ?_; clear M0; intro g1 w1 M1) | (refine wpL_alc M0 rfl rfl ?_; clear M0; intro g1 w1 M1) | (refine wpL_ldc M0 rfl rfl rfl ?_) | (refine wpL_lgc M0 rfl rfl rfl ?_) | (refine wpL_stc M0 rfl rfl rfl rfl ?_; clear M0; intro w' M0) | (refine wpL_sti M0 rfl rfl rfl rfl ?_; clear M0; intro w' M0) | (refine wpL_sth M0 rfl rfl rfl rfl (wr_minus _ _ _) ?_; clear M0; intro w' M0) | (refine wpL_bx M1 rfl rfl rfl rfl ?_; clear M1; intro g2 w2 M2) | (refine wpL_alc M1 rfl rfl ?_; clear M1; intro g2 w2 M2) | (refine wpL_ldc M1 rfl rfl rfl ?_) | (refine wpL_lgc M1 rfl rfl rfl ?_) | (refine wpL_stc M1 rfl rfl rfl rfl ?_; clear M1; intro w' M1) | (refine wpL_sti M1 rfl rfl rfl rfl ?_; clear M1; intro w' M1) | (refine wpL_sth M1 rfl rfl rfl rfl (wr_minus _ _ _) ?_; clear M1; intro w' M1) | (refine wpL_ldc M2 rfl rfl rfl ?_) | (refine wpL_lgc M2 rfl rfl rfl ?_) | (refine wpL_stc M2 rfl rfl rfl rfl ?_; clear M2; intro w' M2) | (refine wpL_sti M2 rfl rfl rfl rfl ?_; clear M2; intro w' M2) | (refine wpL_sth M2 rfl rfl rfl rfl (wr_minus _ _ _) ?_; clear M2; intro w' M2)))
  refine (CT.out _ (HS.out.below M2.below)).mono ?_
  rintro e w3 ⟨rfl, hB⟩
  replace M2 := M2.call hB
  rw [← HPK.out, HBV.out]
  clear CT
  go_wp2_with ((with_reducible refine (?_ : Go.wpList _ _ _ (_ :: _) _ _)); (first | go_skip | (refine wpL_ldc M2 rfl rfl rfl ?_) | (refine wpL_lgc M2 rfl rfl rfl ?_) | (refine wpL_stc M2 rfl rfl rfl rfl ?_; clear M2; intro w' M2) | (refine wpL_sti M2 rfl rfl rfl rfl ?_; clear M2; intro w' M2) | (refine wpL_sth M2 rfl rfl rfl rfl (wr_minus _ _ _) ?_; clear M2; intro w' M2)))
  ((try simp only [Exit.inBlock, Exit.then]); refine bodyPost_ret (res_cell rfl M2 rfl (Has.head _ _ _ _) (rd_pl _ _ _)) rfl ?_)
  exact ⟨by rw [HBV.out], M2.below⟩

set_option maxRecDepth 20000 in
set_option maxHeartbeats 1600000 in
theorem Peak_any (w : World) (hS : Sl w 1 (.slice a n cap) n (i64s p)) :
    Calls Try.prog 15 #[gv x y X Y s (.slice a n cap)] w fun e w' => e = .returned (.int .i64 (ix (pk p n))) ∧ Below w.heap.size w w' := by
  have CT := Lib.hid (fun wx hs => peak_any x y n X Y s a cap p G wx hs)
  obtain ⟨y0, y1, y2, hy⟩ := bestC_plc x (pk p n)
  have HBV : Hid (bestV x (pk p n) = plv y0 y1 y2) := Lib.hid (by unfold bestV; rw [hy])
  have h0 : y0 = ix (pk p n) := by
    cases hq : pk p n with
    | none => rw [hq] at hy; injection hy with h _; injection h with _ h; exact h.symm
    | some q => rw [hq] at hy; injection hy with h _; injection h with _ h; exact h.symm
  have HS := Lib.hid hS
  have H0 := Lib.hid h0
  clear hy hS G h0
  have hfd : ∀ wx : World, (Instr.field 65 (plv y0 y1 y2) 0).run Try.prog wx = .ok (.int .i64 y0) wx := fun wx => by first | rfl | kernel_rfl | simp [Instr.field]
  have M0 := Mem.start w
  go_enter Try.func15, Try.ntmps15
  go_wp2_with ((with_reducible refine (?_ : Go.wpList _ _ _ (_ :: _) _ _)); (first | go_skip | (refine wpL_bx M0 rfl rfl rfl rfl ?_; clear M0; intro g1 w1 M1) | (refine wpL_alc M0 rfl rfl ?_; clear M0; intro g1 w1 M1) | (refine wpL_ldc M0 rfl rfl rfl ?_) | (refine wpL_lgc M0 rfl rfl rfl ?_) | (refine wpL_stc M0 rfl rfl rfl rfl ?_; clear M0; intro w' M0) | (refine wpL_sti M0 rfl rfl rfl rfl ?_; clear M0; intro w' M0) | (refine wpL_sth M0 rfl rfl rfl rfl (wr_minus _ _ _) ?_; clear M0; intro w' M0) | (refine wpL_ldc M1 rfl rfl rfl ?_) | (refine wpL_lgc M1 rfl rfl rfl ?_) | (refine wpL_stc M1 rfl rfl rfl rfl ?_; clear M1; intro w' M1) | (refine wpL_sti M1 rfl rfl rfl rfl ?_; clear M1; intro w' M1) | (refine wpL_sth M1 rfl rfl rfl rfl (wr_minus _ _ _) ?_; clear M1; intro w' M1)))
  refine (CT.out _ (HS.out.below M1.below)).mono ?_
  rintro e w3 ⟨rfl, hB⟩
  replace M1 := M1.call hB
  rw [HBV.out]
  clear CT
  go_wp2_with ((with_reducible refine (?_ : Go.wpList _ _ _ (_ :: _) _ _)); (first | go_skip | (refine wpL_ldc M1 rfl rfl rfl ?_) | (refine wpL_lgc M1 rfl rfl rfl ?_) | (refine wpL_stc M1 rfl rfl rfl rfl ?_; clear M1; intro w' M1) | (refine wpL_sti M1 rfl rfl rfl rfl ?_; clear M1; intro w' M1) | (refine wpL_sth M1 rfl rfl rfl rfl (wr_minus _ _ _) ?_; clear M1; intro w' M1)))
  go_ret
  exact ⟨by rw [H0.out]; rfl, M1.below⟩

set_option maxRecDepth 20000 in
set_option maxHeartbeats 3200000 in
theorem Second_any (far : Int) (w : World) (hS : Sl w 1 (.slice a n cap) n (i64s p)) :
    Calls Try.prog 16 #[gv x y X Y s (.slice a n cap), .int .i64 far] w fun e w' => e = .returned (.int .i64 (ix (sec x far p n))) ∧ Below w.heap.size w w' := by
  obtain ⟨⟨q1, q2⟩, q3, q4⟩ := sdG_t G.sd
  have hle : x * y ≤ 64 * 64 := Nat.mul_le_mul (by omega) (by omega)
  have hn4 : n ≤ 4096 := by rw [G.side]; omega
  have CP := Lib.hid (fun wx hs => peak_any x y n X Y s a cap p G wx hs)
  have CT := Lib.hid (fun f caps c wx hs hc => top_any x y n X Y s a cap p f caps c G.len G.rng G.sd G.side wx hs hc)
  obtain ⟨j, b, hj, hbv, hsec⟩ : ∃ (j : Nat) (b : Int), j ≤ 1000000 ∧ bestV x (pk p n) = plv b (j % x : Nat) (j / x : Nat) ∧ sec x far p n = tp (fun i => !near x far i j) (en p n) := by
    cases hq : pk p n with
    | none =>
      refine ⟨0, -1, by omega, by simp [bestV, bestC], ?_⟩
      unfold sec
      rw [hq]
      exact (tp_none _ (none_all hq)).symm
    | some q =>
      obtain ⟨h1, _⟩ := tp_mem _ q hq
      have := (en_mem h1).1
      exact ⟨q.1, q.1, by omega, rfl, by unfold sec; rw [hq]⟩
  obtain ⟨km, hkm⟩ : ∃ km, km = j % x := ⟨_, rfl⟩
  obtain ⟨kd, hkd⟩ : ∃ kd, kd = j / x := ⟨_, rfl⟩
  have CF := Lib.hid (fun g gf W K KF => far_cnt x j g gf far b (by omega) hj W K KF)
  rw [← hkm, ← hkd] at hbv CF
  have HBV := Lib.hid hbv
  have HSEC := Lib.hid hsec
  obtain ⟨o, ho⟩ : ∃ o, o = tp (fun i => !near x far i j) (en p n) := ⟨_, rfl⟩
  obtain ⟨y0, y1, y2, hy⟩ := bestC_plc x o
  have HOV : Hid (bestV x (tp (fun i => !near x far i j) (en p n)) = plv y0 y1 y2) := Lib.hid (by rw [← ho]; unfold bestV; rw [hy])
  have h0 : y0 = ix (sec x far p n) := by
    rw [hsec, ← ho]
    cases hq : o with
    | none => rw [hq] at hy; injection hy with h _; injection h with _ h; exact h.symm
    | some q => rw [hq] at hy; injection hy with h _; injection h with _ h; exact h.symm
  have HS := Lib.hid hS
  have H0 := Lib.hid h0
  clear hy hS G h0 hsec hbv ho hkm hkd q1 q2 q3 q4 hle
  have hfd : ∀ wx : World, (Instr.field 65 (plv y0 y1 y2) 0).run Try.prog wx = .ok (.int .i64 y0) wx := fun wx => by first | rfl | kernel_rfl | simp [Instr.field]
  have hmf : ∀ (B C : Nat) (wx : World), (Instr.makeFunc (.func 35) #[] #[.pointer (some ⟨B, 0, none⟩), .pointer (some ⟨C, 0, none⟩)]).run Try.prog wx = .ok (.func (.func 35) #[] #[.pointer (some ⟨B, 0, none⟩), .pointer (some ⟨C, 0, none⟩)]) wx := fun _ _ _ => rfl
  have M0 := Mem.start w
  go_enter Try.func16, Try.ntmps16
  go_wp2_with ((with_reducible refine (?_ : Go.wpList _ _ _ (_ :: _) _ _)); (first | go_skip | (refine wpL_bx M0 rfl rfl rfl rfl ?_; clear M0; intro g1 w1 M1) | (refine wpL_alc M0 rfl rfl ?_; clear M0; intro g1 w1 M1) | (refine wpL_ldc M0 rfl rfl rfl ?_) | (refine wpL_lgc M0 rfl rfl rfl ?_) | (refine wpL_stc M0 rfl rfl rfl rfl ?_; clear M0; intro w' M0) | (refine wpL_sti M0 rfl rfl rfl rfl ?_; clear M0; intro w' M0) | (refine wpL_sth M0 rfl rfl rfl rfl (wr_minus _ _ _) ?_; clear M0; intro w' M0) | (refine wpL_bx M1 rfl rfl rfl rfl ?_; clear M1; intro g2 w2 M2) | (refine wpL_alc M1 rfl rfl ?_; clear M1; intro g2 w2 M2) | (refine wpL_ldc M1 rfl rfl rfl ?_) | (refine wpL_lgc M1 rfl rfl rfl ?_) | (refine wpL_stc M1 rfl rfl rfl rfl ?_; clear M1; intro w' M1) | (refine wpL_sti M1 rfl rfl rfl rfl ?_; clear M1; intro w' M1) | (refine wpL_sth M1 rfl rfl rfl rfl (wr_minus _ _ _) ?_; clear M1; intro w' M1) | (refine wpL_ldc M2 rfl rfl rfl ?_) | (refine wpL_lgc M2 rfl rfl rfl ?_) | (refine wpL_stc M2 rfl rfl rfl rfl ?_; clear M2; intro w' M2) | (refine wpL_sti M2 rfl rfl rfl rfl ?_; clear M2; intro w' M2) | (refine wpL_sth M2 rfl rfl rfl rfl (wr_minus _ _ _) ?_; clear M2; intro w' M2)))
  refine (CP.out _ (HS.out.below M2.below)).mono ?_
  rintro e w3 ⟨rfl, hB⟩
  replace M2 := M2.call hB
  rw [HBV.out]
  clear CP hB
  go_wp2_with ((with_reducible refine (?_ : Go.wpList _ _ _ (_ :: _) _ _)); (first | go_skip | (refine wpL_bx M2 rfl rfl rfl rfl ?_; clear M2; intro g3 w3 M3) | (refine wpL_alc M2 rfl rfl ?_; clear M2; intro g3 w3 M3) | (refine wpL_ldc M2 rfl rfl rfl ?_) | (refine wpL_lgc M2 rfl rfl rfl ?_) | (refine wpL_stc M2 rfl rfl rfl rfl ?_; clear M2; intro w' M2) | (refine wpL_sti M2 rfl rfl rfl rfl ?_; clear M2; intro w' M2) | (refine wpL_sth M2 rfl rfl rfl rfl (wr_minus _ _ _) ?_; clear M2; intro w' M2) | (refine wpL_ldc M3 rfl rfl rfl ?_) | (refine wpL_lgc M3 rfl rfl rfl ?_) | (refine wpL_stc M3 rfl rfl rfl rfl ?_; clear M3; intro w' M3) | (refine wpL_sti M3 rfl rfl rfl rfl ?_; clear M3; intro w' M3) | (refine wpL_sth M3 rfl rfl rfl rfl (wr_minus _ _ _) ?_; clear M3; intro w' M3)))
  refine (CT.out _ _ (fun i => !near x far i j) _ (HS.out.below M3.below) (CF.out _ _ _ (M3.has (Has.head _ _ _ _)) (M3.has (.tail _ _ _ _ _ (Has.head _ _ _ _))))).mono ?_
  rintro e w4 ⟨rfl, hB⟩
  replace M3 := M3.call hB
  rw [HOV.out]
  clear CT hB
  go_wp2_with ((with_reducible refine (?_ : Go.wpList _ _ _ (_ :: _) _ _)); (first | go_skip | (refine wpL_ldc M3 rfl rfl rfl ?_) | (refine wpL_lgc M3 rfl rfl rfl ?_) | (refine wpL_stc M3 rfl rfl rfl rfl ?_; clear M3; intro w' M3) | (refine wpL_sti M3 rfl rfl rfl rfl ?_; clear M3; intro w' M3) | (refine wpL_sth M3 rfl rfl rfl rfl (wr_minus _ _ _) ?_; clear M3; intro w' M3)))
  go_ret
  exact ⟨by rw [H0.out]; rfl, M3.below⟩

set_option maxRecDepth 20000 in
set_option maxHeartbeats 1600000 in
theorem Edge_any (w : World) (hS : Sl w 1 (.slice a n cap) n (i64s p)) :
    Calls Try.prog 21 #[gv x y X Y s (.slice a n cap)] w fun e w' => e = .returned (.int .i64 (so (edge x y) (en p n))) ∧ Below w.heap.size w w' := by
  obtain ⟨⟨q1, q2⟩, q3, q4⟩ := sdG_t G.sd
  have CT := Lib.hid (fun f caps c wx hs hc => together_any x y n X Y s a cap p f caps c G.len G.rng G.sd G.side wx hs hc)
  have CF := Lib.hid (fun g W K => edge_cnt x y n cap g X Y s a (by omega) (by omega) W K)
  have HS := Lib.hid hS
  clear hS G q1 q2 q3 q4
  have hmf : ∀ (B : Nat) (wx : World), (Instr.makeFunc (.func 42) #[] #[.pointer (some ⟨B, 0, none⟩)]).run Try.prog wx = .ok (.func (.func 42) #[] #[.pointer (some ⟨B, 0, none⟩)]) wx := fun _ _ => rfl
  have M0 := Mem.start w
  go_enter Try.func21, Try.ntmps21
  go_wp2_with ((with_reducible refine (?_ : Go.wpList _ _ _ (_ :: _) _ _)); (first | go_skip | (refine wpL_bx M0 rfl rfl rfl rfl ?_; clear M0; intro g1 w1 M1) | (refine wpL_alc M0 rfl rfl ?_; clear M0; intro g1 w1 M1) | (refine wpL_ldc M0 rfl rfl rfl ?_) | (refine wpL_lgc M0 rfl rfl rfl ?_) | (refine wpL_stc M0 rfl rfl rfl rfl ?_; clear M0; intro w' M0) | (refine wpL_sti M0 rfl rfl rfl rfl ?_; clear M0; intro w' M0) | (refine wpL_sth M0 rfl rfl rfl rfl (wr_minus _ _ _) ?_; clear M0; intro w' M0) | (refine wpL_ldc M1 rfl rfl rfl ?_) | (refine wpL_lgc M1 rfl rfl rfl ?_) | (refine wpL_stc M1 rfl rfl rfl rfl ?_; clear M1; intro w' M1) | (refine wpL_sti M1 rfl rfl rfl rfl ?_; clear M1; intro w' M1) | (refine wpL_sth M1 rfl rfl rfl rfl (wr_minus _ _ _) ?_; clear M1; intro w' M1)))
  refine (CT.out _ _ (edge x y) _ (HS.out.below M1.below) (CF.out _ _ (M1.has (Has.head _ _ _ _)))).mono ?_
  rintro e w3 ⟨rfl, hB⟩
  replace M1 := M1.call hB
  clear CT
  obtain ⟨r, hr⟩ : ∃ r, r = so (edge x y) (en p n) := ⟨_, rfl⟩
  rw [← hr]
  have HR := Lib.hid hr
  clear hr
  go_wp2_with ((with_reducible refine (?_ : Go.wpList _ _ _ (_ :: _) _ _)); (first | go_skip | (refine wpL_ldc M1 rfl rfl rfl ?_) | (refine wpL_lgc M1 rfl rfl rfl ?_) | (refine wpL_stc M1 rfl rfl rfl rfl ?_; clear M1; intro w' M1) | (refine wpL_sti M1 rfl rfl rfl rfl ?_; clear M1; intro w' M1) | (refine wpL_sth M1 rfl rfl rfl rfl (wr_minus _ _ _) ?_; clear M1; intro w' M1)))
  go_ret
  exact ⟨by rw [HR.out]; rfl, M1.below⟩
end

set_option maxRecDepth 20000 in
set_option maxHeartbeats 3200000 in
theorem around_no (x y n s : Nat) (X Y i far : Int) (a : Option Addr) (cap : Nat) (C : Ans 38 #[gv x y X Y s (.slice a n cap), .int .i64 i] (.tuple #[spv 0 0, .bool false])) (w : World) :
    Calls Try.prog 19 #[gv x y X Y s (.slice a n cap), .int .i64 i, .int .i64 far] w fun e w' => e = .returned (.int .i64 0) ∧ Below w.heap.size w w' := by
  have HC := Lib.hid C
  clear C
  have M0 := Mem.start w
  go_enter Try.func19, Try.ntmps19
  go_wp2_with ((with_reducible refine (?_ : Go.wpList _ _ _ (_ :: _) _ _)); (first | go_skip | (refine wpL_bx M0 rfl rfl rfl rfl ?_; clear M0; intro g1 w1 M1) | (refine wpL_alc M0 rfl rfl ?_; clear M0; intro g1 w1 M1) | (refine wpL_ldc M0 rfl rfl rfl ?_) | (refine wpL_lgc M0 rfl rfl rfl ?_) | (refine wpL_stc M0 rfl rfl rfl rfl ?_; clear M0; intro w' M0) | (refine wpL_sti M0 rfl rfl rfl rfl ?_; clear M0; intro w' M0) | (refine wpL_sth M0 rfl rfl rfl rfl (wr_minus _ _ _) ?_; clear M0; intro w' M0) | (refine wpL_bx M1 rfl rfl rfl rfl ?_; clear M1; intro g2 w2 M2) | (refine wpL_alc M1 rfl rfl ?_; clear M1; intro g2 w2 M2) | (refine wpL_ldc M1 rfl rfl rfl ?_) | (refine wpL_lgc M1 rfl rfl rfl ?_) | (refine wpL_stc M1 rfl rfl rfl rfl ?_; clear M1; intro w' M1) | (refine wpL_sti M1 rfl rfl rfl rfl ?_; clear M1; intro w' M1) | (refine wpL_sth M1 rfl rfl rfl rfl (wr_minus _ _ _) ?_; clear M1; intro w' M1) | (refine wpL_ldc M2 rfl rfl rfl ?_) | (refine wpL_lgc M2 rfl rfl rfl ?_) | (refine wpL_stc M2 rfl rfl rfl rfl ?_; clear M2; intro w' M2) | (refine wpL_sti M2 rfl rfl rfl rfl ?_; clear M2; intro w' M2) | (refine wpL_sth M2 rfl rfl rfl rfl (wr_minus _ _ _) ?_; clear M2; intro w' M2)))
  refine (HC.out _).mono ?_
  rintro e w3 ⟨rfl, hB⟩
  replace M2 := M2.call hB
  clear HC
  go_wp2_with ((with_reducible refine (?_ : Go.wpList _ _ _ (_ :: _) _ _)); (first | go_skip | (refine wpL_bx M2 rfl rfl rfl rfl ?_; clear M2; intro g3 w3 M3) | (refine wpL_alc M2 rfl rfl ?_; clear M2; intro g3 w3 M3) | (refine wpL_ldc M2 rfl rfl rfl ?_) | (refine wpL_lgc M2 rfl rfl rfl ?_) | (refine wpL_stc M2 rfl rfl rfl rfl ?_; clear M2; intro w' M2) | (refine wpL_sti M2 rfl rfl rfl rfl ?_; clear M2; intro w' M2) | (refine wpL_sth M2 rfl rfl rfl rfl (wr_minus _ _ _) ?_; clear M2; intro w' M2) | (refine wpL_ldc M3 rfl rfl rfl ?_) | (refine wpL_lgc M3 rfl rfl rfl ?_) | (refine wpL_stc M3 rfl rfl rfl rfl ?_; clear M3; intro w' M3) | (refine wpL_sti M3 rfl rfl rfl rfl ?_; clear M3; intro w' M3) | (refine wpL_sth M3 rfl rfl rfl rfl (wr_minus _ _ _) ?_; clear M3; intro w' M3)))
  go_ret
  exact ⟨rfl, M3.below⟩
set_option maxRecDepth 20000 in
set_option maxHeartbeats 3200000 in
theorem around_yes (x y n s i : Nat) (X Y far u v : Int) (a : Option Addr) (cap : Nat) (p : List Int) (G : GOk x y n p) (hi : i < n) (C : Ans 38 #[gv x y X Y s (.slice a n cap), .int .i64 i] (.tuple #[spv u v, .bool true])) (w : World) (hS : Sl w 1 (.slice a n cap) n (i64s p)) :
    Calls Try.prog 19 #[gv x y X Y s (.slice a n cap), .int .i64 i, .int .i64 far] w fun e w' => e = .returned (.int .i64 (so (fun j => near x far j i) (en p n))) ∧ Below w.heap.size w w' := by
  obtain ⟨⟨q1, q2⟩, q3, q4⟩ := sdG_t G.sd
  have hle : x * y ≤ 64 * 64 := Nat.mul_le_mul (by omega) (by omega)
  have hn4 : n ≤ 4096 := by rw [G.side]; omega
  have CT := Lib.hid (fun f caps c wx hs hc => together_any x y n X Y s a cap p f caps c G.len G.rng G.sd G.side wx hs hc)
  have CP := placeAt_any x i y X Y s a n cap (by omega) (by omega)
  obtain ⟨km, hkm⟩ : ∃ km, km = i % x := ⟨_, rfl⟩
  obtain ⟨kd, hkd⟩ : ∃ kd, kd = i / x := ⟨_, rfl⟩
  have CF := Lib.hid (fun g gf W K KF => nearby_cnt x i g gf far (i : Nat) (by omega) (by omega) W K KF)
  rw [← hkm, ← hkd] at CP CF
  have HP := Lib.hid CP
  have HC := Lib.hid C
  have HS := Lib.hid hS
  clear hS G q1 q2 q3 q4 hle C CP hkm hkd
  have hmf : ∀ (B C : Nat) (wx : World), (Instr.makeFunc (.func 41) #[] #[.pointer (some ⟨B, 0, none⟩), .pointer (some ⟨C, 0, none⟩)]).run Try.prog wx = .ok (.func (.func 41) #[] #[.pointer (some ⟨B, 0, none⟩), .pointer (some ⟨C, 0, none⟩)]) wx := fun _ _ _ => rfl
  have M0 := Mem.start w
  go_enter Try.func19, Try.ntmps19
  go_wp2_with ((with_reducible refine (?_ : Go.wpList _ _ _ (_ :: _) _ _)); (first | go_skip | (refine wpL_bx M0 rfl rfl rfl rfl ?_; clear M0; intro g1 w1 M1) | (refine wpL_alc M0 rfl rfl ?_; clear M0; intro g1 w1 M1) | (refine wpL_ldc M0 rfl rfl rfl ?_) | (refine wpL_lgc M0 rfl rfl rfl ?_) | (refine wpL_stc M0 rfl rfl rfl rfl ?_; clear M0; intro w' M0) | (refine wpL_sti M0 rfl rfl rfl rfl ?_; clear M0; intro w' M0) | (refine wpL_sth M0 rfl rfl rfl rfl (wr_minus _ _ _) ?_; clear M0; intro w' M0) | (refine wpL_bx M1 rfl rfl rfl rfl ?_; clear M1; intro g2 w2 M2) | (refine wpL_alc M1 rfl rfl ?_; clear M1; intro g2 w2 M2) | (refine wpL_ldc M1 rfl rfl rfl ?_) | (refine wpL_lgc M1 rfl rfl rfl ?_) | (refine wpL_stc M1 rfl rfl rfl rfl ?_; clear M1; intro w' M1) | (refine wpL_sti M1 rfl rfl rfl rfl ?_; clear M1; intro w' M1) | (refine wpL_sth M1 rfl rfl rfl rfl (wr_minus _ _ _) ?_; clear M1; intro w' M1) | (refine wpL_ldc M2 rfl rfl rfl ?_) | (refine wpL_lgc M2 rfl rfl rfl ?_) | (refine wpL_stc M2 rfl rfl rfl rfl ?_; clear M2; intro w' M2) | (refine wpL_sti M2 rfl rfl rfl rfl ?_; clear M2; intro w' M2) | (refine wpL_sth M2 rfl rfl rfl rfl (wr_minus _ _ _) ?_; clear M2; intro w' M2)))
  refine (HC.out _).mono ?_
  rintro e w3 ⟨rfl, hB⟩
  replace M2 := M2.call hB
  clear HC hB
  go_wp2_with ((with_reducible refine (?_ : Go.wpList _ _ _ (_ :: _) _ _)); (first | go_skip | (refine wpL_bx M2 rfl rfl rfl rfl ?_; clear M2; intro g3 w3 M3) | (refine wpL_alc M2 rfl rfl ?_; clear M2; intro g3 w3 M3) | (refine wpL_ldc M2 rfl rfl rfl ?_) | (refine wpL_lgc M2 rfl rfl rfl ?_) | (refine wpL_stc M2 rfl rfl rfl rfl ?_; clear M2; intro w' M2) | (refine wpL_sti M2 rfl rfl rfl rfl ?_; clear M2; intro w' M2) | (refine wpL_sth M2 rfl rfl rfl rfl (wr_minus _ _ _) ?_; clear M2; intro w' M2) | (refine wpL_ldc M3 rfl rfl rfl ?_) | (refine wpL_lgc M3 rfl rfl rfl ?_) | (refine wpL_stc M3 rfl rfl rfl rfl ?_; clear M3; intro w' M3) | (refine wpL_sti M3 rfl rfl rfl rfl ?_; clear M3; intro w' M3) | (refine wpL_sth M3 rfl rfl rfl rfl (wr_minus _ _ _) ?_; clear M3; intro w' M3)))
  refine (HP.out _).mono ?_
  rintro e w3 ⟨rfl, hB⟩
  replace M3 := M3.call hB
  clear HP hB
  go_wp2_with ((with_reducible refine (?_ : Go.wpList _ _ _ (_ :: _) _ _)); (first | go_skip | (refine wpL_bx M3 rfl rfl rfl rfl ?_; clear M3; intro g4 w4 M4) | (refine wpL_alc M3 rfl rfl ?_; clear M3; intro g4 w4 M4) | (refine wpL_ldc M3 rfl rfl rfl ?_) | (refine wpL_lgc M3 rfl rfl rfl ?_) | (refine wpL_stc M3 rfl rfl rfl rfl ?_; clear M3; intro w' M3) | (refine wpL_sti M3 rfl rfl rfl rfl ?_; clear M3; intro w' M3) | (refine wpL_sth M3 rfl rfl rfl rfl (wr_minus _ _ _) ?_; clear M3; intro w' M3) | (refine wpL_ldc M4 rfl rfl rfl ?_) | (refine wpL_lgc M4 rfl rfl rfl ?_) | (refine wpL_stc M4 rfl rfl rfl rfl ?_; clear M4; intro w' M4) | (refine wpL_sti M4 rfl rfl rfl rfl ?_; clear M4; intro w' M4) | (refine wpL_sth M4 rfl rfl rfl rfl (wr_minus _ _ _) ?_; clear M4; intro w' M4)))
  refine (CT.out _ _ (fun j => near x far j i) _ (HS.out.below M4.below) (CF.out _ _ _ (M4.has (Has.head _ _ _ _)) (M4.has (.tail _ _ _ _ _ (.tail _ _ _ _ _ (Has.head _ _ _ _)))))).mono ?_
  rintro e w4 ⟨rfl, hB⟩
  replace M4 := M4.call hB
  clear CT hB
  obtain ⟨r, hr⟩ : ∃ r, r = so (fun j => near x far j i) (en p n) := ⟨_, rfl⟩
  rw [← hr]
  have HR := Lib.hid hr
  clear hr
  go_wp2_with ((with_reducible refine (?_ : Go.wpList _ _ _ (_ :: _) _ _)); (first | go_skip | (refine wpL_ldc M4 rfl rfl rfl ?_) | (refine wpL_lgc M4 rfl rfl rfl ?_) | (refine wpL_stc M4 rfl rfl rfl rfl ?_; clear M4; intro w' M4) | (refine wpL_sti M4 rfl rfl rfl rfl ?_; clear M4; intro w' M4) | (refine wpL_sth M4 rfl rfl rfl rfl (wr_minus _ _ _) ?_; clear M4; intro w' M4)))
  go_ret
  exact ⟨by rw [HR.out]; rfl, M4.below⟩
theorem Around_any (x y n s : Nat) (X Y i far : Int) (a : Option Addr) (cap : Nat) (p : List Int) (G : GOk x y n p) (hs : s ≤ 4096) (hX : -1000000000000 ≤ X ∧ X ≤ 1000000000000) (hY : -1000000000000 ≤ Y ∧ Y ≤ 1000000000000) (w : World) (hS : Sl w 1 (.slice a n cap) n (i64s p)) :
    Calls Try.prog 19 #[gv x y X Y s (.slice a n cap), .int .i64 i, .int .i64 far] w fun e w' => e = .returned (.int .i64 (aro x p n i far)) ∧ Below w.heap.size w w' := by
  by_cases hi : 0 ≤ i ∧ i < (n : Int)
  · obtain ⟨k, rfl⟩ := Int.eq_ofNat_of_zero_le hi.1
    have e : aro x p n (k : Int) far = so (fun j => near x far j k) (en p n) := by unfold aro; rw [if_pos hi, Int.toNat_natCast]
    rw [e]
    exact around_yes x y n s k X Y far _ _ a cap p G (by omega) (at_any x y s X Y k _ _ true a n cap G.side G.sd hs hX hY (inR_of (by omega)) (fun h => by cases h) (fun _ => ⟨rfl, rfl⟩)) w hS
  · have e : aro x p n i far = 0 := by unfold aro; rw [if_neg hi]
    rw [e]
    exact around_no x y n s X Y i far a cap (at_any x y s X Y i 0 0 false a n cap G.side G.sd hs hX hY (inR_no (by omega)) (fun _ => ⟨rfl, rfl⟩) (fun h => by cases h)) w
end Go.Proofs.Ytbjhbbiahmhdeaa
