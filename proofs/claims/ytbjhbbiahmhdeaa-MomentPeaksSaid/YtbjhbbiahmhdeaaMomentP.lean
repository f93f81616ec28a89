/-
  The place far from the one that is believed most, of any right grid; what is believed around, and outermost: the reference's.
-/
import Derived.Test.YtbjhbbiahmhdeaaMomentS
set_option linter.unusedVariables false
set_option linter.unusedSimpArgs false
namespace Go.Proofs.Ytbjhbbiahmhdeaa
open Go Go.RowKit Go.Th Go.Th.Grid Go.Th.Moment Go.Th.Wide

theorem refSecond_any (x y n : Nat) (X Y s far : Int) (a : Option Addr) (cap : Nat) (p : List Int) (G : GOk x y n p) (w : World) (hS : Sl w 1 (.slice a n cap) n (i64s p)) :
    Calls Try.prog 18 #[gv x y X Y s (.slice a n cap), .int .i64 far] w fun e w' => e = .returned (.int .i64 (ix (sec x far p n))) ∧ Below w.heap.size w w' := by
  obtain ⟨⟨q1, q2⟩, q3, q4⟩ := sdG_t G.sd
  have hn0 : 0 < n := by rw [G.side]; exact Nat.mul_pos (by omega) (by omega)
  obtain ⟨b, o, rfl, _, _⟩ := cell64 hS 0 (by rw [G.len]; exact hn0)
  have C := fun w1 hB => refPeak_any x y n X Y s (some ⟨b, o, none⟩) cap p G w1 (hS.below hB)
  cases hq : pk p n with
  | none =>
    have e : sec x far p n = none := by unfold sec; rw [hq]
    rw [e]
    rw [hq] at C
    exact rsecond_no x y n X Y s far _ cap hn0 w C
  | some t =>
    obtain ⟨h1, _⟩ := tp_mem _ t hq
    have e : sec x far p n = tp (fun i => !near x far i t.1) (en p n) := by unfold sec; rw [hq]
    rw [e]
    rw [hq] at C
    exact rsecond_yes x y n t.1 X Y s far b o cap p G (en_mem h1).1 w hS C

set_option maxRecDepth 20000 in
set_option maxHeartbeats 3200000 in
theorem raround_no (x y n : Nat) (X Y s i far : Int) (a : Option Addr) (cap : Nat) (hn : n ≤ 1000000) (hi : ¬ (0 ≤ i ∧ i < (n : Int))) (w : World) :
    Calls Try.prog 20 #[gv x y X Y s (.slice a n cap), .int .i64 i, .int .i64 far] w fun e w' => e = .returned (.int .i64 0) ∧ Below w.heap.size w w' := by
  (obtain ⟨w1, hw1⟩ : ∃ w1, w.alloc (.cells #[.int .i64 x, .int .i64 y, .int .i64 X, .int .i64 Y, .int .i64 s, .slice a n cap] 26) = w1 := ⟨_, rfl⟩; have M1 := (Mem.start w).alloc 26 (gc x y X Y s (.slice a n cap)); rw [show w.alloc (.cells (gc x y X Y s (.slice a n cap)).toArray 26) = w1 from hw1] at M1; have HW1 := Lib.hid hw1; clear hw1)
  go_enter Try.func20, Try.ntmps20
  ((go_upto_region 1 with fail); rw [HW1.out]; clear HW1; obtain ⟨gA, hgA⟩ : ∃ gA, gA = w.heap.size := ⟨_, rfl⟩; rw [← hgA] at M1 ⊢; clear hgA)
  have c5 := M1.cell (Has.head _ _ _ _) (i := 5) rfl
  have HB := Lib.hid M1.below
  have HI := Lib.hid hi
  clear hi M1
  go_wp2_with fail
  go_loopw [7, 8] (fun t d wx => ∃ k : Nat, k ≤ n ∧ d = .int .i64 k ∧ t = .int .i64 0 ∧ wx = w1) (fun _ c _ => n - (intOf c).toNat)
  case atStart => exact ⟨0, Nat.zero_le _, rfl, rfl, rfl⟩
  case round =>
    obtain ⟨k, hk, rfl, rfl, rfl⟩ := hrel
    by_cases hlt : k < n
    · by_cases h0 : 0 ≤ i
      · have h1 : ¬ i < (n : Int) := fun h => HI.out ⟨h0, h⟩
        go_wp2_with fail
        go_roundw
        case rel => exact ⟨k + 1, by omega, by go_num, rfl, trivial⟩
        case measure => simp [intOf]; omega
      · go_wp2_with fail
        go_roundw
        case rel => exact ⟨k + 1, by omega, by go_num, rfl, trivial⟩
        case measure => simp [intOf]; omega
    · obtain rfl : k = n := by omega
      go_wp2_with fail
      go_ret
      exact ⟨rfl, HB.out⟩

set_option maxRecDepth 20000 in
set_option maxHeartbeats 3200000 in
theorem raround_yes (x y n i : Nat) (X Y s far : Int) (b o cap : Nat) (p : List Int) (G : GOk x y n p) (hi : i < n) (w : World) (hS : Sl w 1 (.slice (some ⟨b, o, none⟩) n cap) n (i64s p)) :
    Calls Try.prog 20 #[gv x y X Y s (.slice (some ⟨b, o, none⟩) n cap), .int .i64 i, .int .i64 far] w fun e w' => e = .returned (.int .i64 (so (fun j => near x far j i) (en p n))) ∧ Below w.heap.size w w' := by
  obtain ⟨⟨q1, q2⟩, q3, q4⟩ := sdG_t G.sd
  have hle : x * y ≤ 64 * 64 := Nat.mul_le_mul (by omega) (by omega)
  have hn4 : n ≤ 4096 := by rw [G.side]; omega
  have HCELL := Lib.hid (fun (W : World) (h : Sl W 1 (.slice (some ⟨b, o, none⟩) n cap) n (i64s p)) k hk => rowcell h k (by rw [G.len]; exact hk : k < p.length))
  have HPR := Lib.hid (fun i hi => getD_mem (P := fun u => 0 ≤ u ∧ u ≤ 1073741824) G.rng (by rw [G.len]; exact hi : i < p.length))
  have HNEAR := Lib.hid (fun k hk => refNear_any x k i n cap y X Y s far (some ⟨b, o, none⟩) (by omega) hk (by omega))
  have HS := Lib.hid hS
  obtain ⟨c, hc⟩ : ∃ c : Nat → Bool, c = fun j => near x far j i := ⟨_, rfl⟩
  have HCF : Hid (∀ k, near x far k i = c k) := Lib.hid (fun k => by rw [hc])
  have HSUM : Hid (∀ k, k ≤ n → 0 ≤ so c (en p k) ∧ so c (en p k) ≤ 1073741824 * 4096) := Lib.hid (fun k hk => by
    have h := so_rng (c := c) (en_ok (k := k) (by rw [G.len]; exact hk) G.rng)
    rw [en_length] at h
    omega)
  rw [← hc]
  obtain ⟨a, ha⟩ : ∃ a : Option Addr, a = some ⟨b, o, none⟩ := ⟨_, rfl⟩
  have HA := Lib.hid ha
  rw [← ha]
  (obtain ⟨w1, hw1⟩ : ∃ w1, w.alloc (.cells #[.int .i64 x, .int .i64 y, .int .i64 X, .int .i64 Y, .int .i64 s, .slice a n cap] 26) = w1 := ⟨_, rfl⟩; have M1 := (Mem.start w).alloc 26 (gc x y X Y s (.slice a n cap)); rw [show w.alloc (.cells (gc x y X Y s (.slice a n cap)).toArray 26) = w1 from hw1] at M1; have HW1 := Lib.hid hw1; clear hw1)
  clear hS G hle q1 q2 q3 q4 ha hc
  go_enter Try.func20, Try.ntmps20
  ((go_upto_region 1 with fail); rw [HW1.out]; clear HW1; obtain ⟨gA, hgA⟩ : ∃ gA, gA = w.heap.size := ⟨_, rfl⟩; rw [← hgA] at M1 ⊢; clear hgA)
  rw [HA.out] at M1 ⊢
  have hin : (i : Int) < (n : Int) := by omega
  go_wp2_with fail
  go_loopw [7, 8] (fun t d wx => ∃ k : Nat, k ≤ n ∧ d = .int .i64 k ∧ t = .int .i64 (so c (en p k)) ∧ Mem w wx [(gA, 26, gc x y X Y s (.slice (some ⟨b, o, none⟩) n cap))]) (fun _ c _ => n - (intOf c).toNat)
  case atStart => exact ⟨0, Nat.zero_le _, rfl, rfl, M1⟩
  case round =>
    clear M1
    obtain ⟨k, hk, rfl, rfl, M⟩ := hrel
    obtain ⟨c0, c1, c2, c3, c4, c5⟩ := gcells (M.has (Has.head _ _ _ _))
    obtain ⟨r1, r2⟩ := HSUM.out k hk
    by_cases hlt : k < n
    · have hu := HPR.out k hlt
      have hyes := fun h => so_yes (c := c) (l := en p k) (q := (k, p.getD k 0)) h
      have hno := fun h => so_no (c := c) (l := en p k) (q := (k, p.getD k 0)) h
      rw [← en_next] at hyes hno
      have HCU := Lib.hid (fun W hW => HCELL.out W hW k hlt)
      obtain ⟨u, huu⟩ : ∃ u, u = p.getD k 0 := ⟨_, rfl⟩
      rw [← huu] at HCU hu hyes hno
      obtain ⟨t, ht⟩ : ∃ t, t = so c (en p k) := ⟨_, rfl⟩
      rw [← ht] at hyes hno r1 r2 ⊢
      have wt : IntKind.i64.wrap (t + u) = t + u := IntWalk.i64_in _ (by omega)
      have CN := HNEAR.out k (by omega)
      rw [HCF.out k] at CN
      obtain ⟨f, hf⟩ : ∃ f, f = c k := ⟨_, rfl⟩
      rw [← hf] at CN
      have CN := Lib.hid CN
      have HYES : Hid (f = true → so c (en p (k + 1)) = t + u) := Lib.hid (fun h2 => hyes (hf.symm.trans h2))
      have HNO : Hid (f = false → so c (en p (k + 1)) = t) := Lib.hid (fun h2 => hno (hf.symm.trans h2))
      clear hyes hno huu ht hf HCELL HPR HNEAR HCF HSUM
      go_wp2_with fail
      refine (CN.out _).mono ?_
      rintro e w2 ⟨rfl, hB⟩
      have M2 := M.call hB
      clear c0 c1 c2 c3 c4 c5 M hB CN
      have c5 := M2.cell (Has.head _ _ _ _) (i := 5) rfl
      have cu := HCU.out _ (HS.out.below M2.below)
      cases f
      · have HY := Lib.hid (HNO.out rfl)
        go_wp2_with fail
        go_roundw
        case rel => exact ⟨k + 1, by omega, by go_num, by rw [HY.out], M2⟩
        case measure => simp [intOf]; omega
      · have HY := Lib.hid (HYES.out rfl)
        go_wp2_with fail
        go_roundw
        case rel => exact ⟨k + 1, by omega, by go_num, by rw [HY.out], M2⟩
        case measure => simp [intOf]; omega
    · obtain rfl : k = n := by omega
      go_wp2_with fail
      go_ret
      exact ⟨rfl, M.below⟩
theorem refAround_any (x y n : Nat) (X Y s i far : Int) (a : Option Addr) (cap : Nat) (p : List Int) (G : GOk x y n p) (w : World) (hS : Sl w 1 (.slice a n cap) n (i64s p)) :
    Calls Try.prog 20 #[gv x y X Y s (.slice a n cap), .int .i64 i, .int .i64 far] w fun e w' => e = .returned (.int .i64 (aro x p n i far)) ∧ Below w.heap.size w w' := by
  obtain ⟨⟨q1, q2⟩, q3, q4⟩ := sdG_t G.sd
  have hn0 : 0 < n := by rw [G.side]; exact Nat.mul_pos (by omega) (by omega)
  have hle : x * y ≤ 64 * 64 := Nat.mul_le_mul (by omega) (by omega)
  have hn4 : n ≤ 4096 := by rw [G.side]; omega
  obtain ⟨b, o, rfl, _, _⟩ := cell64 hS 0 (by rw [G.len]; exact hn0)
  by_cases hi : 0 ≤ i ∧ i < (n : Int)
  · obtain ⟨k, rfl⟩ := Int.eq_ofNat_of_zero_le hi.1
    have e : aro x p n (k : Int) far = so (fun j => near x far j k) (en p n) := by unfold aro; rw [if_pos hi, Int.toNat_natCast]
    rw [e]
    exact raround_yes x y n k X Y s far b o cap p G (by omega) w hS
  · have e : aro x p n i far = 0 := by unfold aro; rw [if_neg hi]
    rw [e]
    exact raround_no x y n X Y s i far _ cap (by omega) hi w

theorem edge_or (x y k km kd : Nat) (hm : km = k % x) (hd : kd = k / x) (hx : 1 ≤ x) (hy : 1 ≤ y) (k1 k2 k3 k4 : Bool) (h1 : ((km : Int) == 0) = k1) (h2 : ((kd : Int) == 0) = k2) (h3 : ((km : Int) == (x : Int) - 1) = k3) (h4 : ((kd : Int) == (y : Int) - 1) = k4) : edge x y k = (k1 || k2 || k3 || k4) := by
  unfold edge
  rw [← hm, ← hd, ← h1, ← h2, ← h3, ← h4]
  have g : ∀ a b : Int, (a == b) = decide (a = b) := fun a b => rfl
  rw [g, g, g, g, ← Bool.decide_or, ← Bool.decide_or, ← Bool.decide_or, ← Bool.decide_or, ← Bool.decide_or, ← Bool.decide_or, decide_eq_decide]
  omega
set_option maxRecDepth 20000 in
set_option maxHeartbeats 6400000 in
theorem refEdge_any (x y n : Nat) (X Y s : Int) (a : Option Addr) (cap : Nat) (p : List Int) (G : GOk x y n p) (w : World) (hS : Sl w 1 (.slice a n cap) n (i64s p)) :
    Calls Try.prog 22 #[gv x y X Y s (.slice a n cap)] w fun e w' => e = .returned (.int .i64 (so (edge x y) (en p n))) ∧ Below w.heap.size w w' := by
  obtain ⟨⟨q1, q2⟩, q3, q4⟩ := sdG_t G.sd
  have hle : x * y ≤ 64 * 64 := Nat.mul_le_mul (by omega) (by omega)
  have hn4 : n ≤ 4096 := by rw [G.side]; omega
  have hn0 : 0 < n := by rw [G.side]; exact Nat.mul_pos (by omega) (by omega)
  obtain ⟨b, o, rfl, _, _⟩ := cell64 hS 0 (by rw [G.len]; exact hn0)
  have HCELL := Lib.hid (fun (W : World) (h : Sl W 1 (.slice (some ⟨b, o, none⟩) n cap) n (i64s p)) k hk => rowcell h k (by rw [G.len]; exact hk : k < p.length))
  have HPR := Lib.hid (fun i hi => getD_mem (P := fun u => 0 ≤ u ∧ u ≤ 1073741824) G.rng (by rw [G.len]; exact hi : i < p.length))
  have HS := Lib.hid hS
  have HRNG := Lib.hid (fun i hi => cols_rng (x := x) (y := y) (n := n) (i := i) (by omega) (by omega) G.side hi)
  have HSUM : Hid (∀ k, k ≤ n → 0 ≤ so (edge x y) (en p k) ∧ so (edge x y) (en p k) ≤ 1073741824 * 4096) := Lib.hid (fun k hk => by
    have h := so_rng (c := edge x y) (en_ok (k := k) (by rw [G.len]; exact hk) G.rng)
    rw [en_length] at h
    omega)
  have hx1 : IntKind.i64.wrap ((x : Int) - 1) = (x : Int) - 1 := IntWalk.i64_in _ (by omega)
  have hy1 : IntKind.i64.wrap ((y : Int) - 1) = (y : Int) - 1 := IntWalk.i64_in _ (by omega)
  have hx0 : ¬ (x = 0) := by omega
  have HW63 : Hid (∀ z : Nat, z ≤ 63 → wrap64 (z : Int) = (z : Int) ∧ IntKind.i64.wrap (z : Int) = (z : Int)) := Lib.hid (fun z hz => ⟨IntWalk.wrap64_in _ (by omega), IntWalk.i64_in _ (by omega)⟩)
  have hxx : 1 ≤ x := by omega
  have hyy : 1 ≤ y := by omega
  obtain ⟨a, ha⟩ : ∃ a : Option Addr, a = some ⟨b, o, none⟩ := ⟨_, rfl⟩
  have HA := Lib.hid ha
  rw [← ha]
  (obtain ⟨w1, hw1⟩ : ∃ w1, w.alloc (.cells #[.int .i64 x, .int .i64 y, .int .i64 X, .int .i64 Y, .int .i64 s, .slice a n cap] 26) = w1 := ⟨_, rfl⟩; have M1 := (Mem.start w).alloc 26 (gc x y X Y s (.slice a n cap)); rw [show w.alloc (.cells (gc x y X Y s (.slice a n cap)).toArray 26) = w1 from hw1] at M1; have HW1 := Lib.hid hw1; clear hw1)
  clear hS G hle q1 q2 q3 q4 ha
  go_enter Try.func22, Try.ntmps22
  ((go_upto_region 1 with fail); rw [HW1.out]; clear HW1; obtain ⟨gA, hgA⟩ : ∃ gA, gA = w.heap.size := ⟨_, rfl⟩; rw [← hgA] at M1 ⊢; clear hgA)
  rw [HA.out] at M1 ⊢
  obtain ⟨c0, c1, c2, c3, c4, c5⟩ := gcells (M1.has (Has.head _ _ _ _))
  have HB := Lib.hid M1.below
  have HS1 := Lib.hid (HS.out.below M1.below)
  clear M1 HS
  go_wp2_with fail
  go_loopw [3, 4] (fun t d wx => ∃ k : Nat, k ≤ n ∧ d = .int .i64 k ∧ t = .int .i64 (so (edge x y) (en p k)) ∧ wx = w1) (fun _ c _ => n - (intOf c).toNat)
  case atStart => exact ⟨0, Nat.zero_le _, rfl, rfl, rfl⟩
  case round =>
    obtain ⟨k, hk, rfl, rfl, rfl⟩ := hrel
    obtain ⟨r1, r2⟩ := HSUM.out k hk
    by_cases hlt : k < n
    · have hu := HPR.out k hlt
      have cu := HCELL.out _ HS1.out k hlt
      have hyes := fun h => so_yes (c := edge x y) (l := en p k) (q := (k, p.getD k 0)) h
      have hno := fun h => so_no (c := edge x y) (l := en p k) (q := (k, p.getD k 0)) h
      rw [← en_next] at hyes hno
      obtain ⟨u, huu⟩ : ∃ u, u = p.getD k 0 := ⟨_, rfl⟩
      rw [← huu] at cu hu hyes hno
      obtain ⟨t, ht⟩ : ∃ t, t = so (edge x y) (en p k) := ⟨_, rfl⟩
      rw [← ht] at hyes hno r1 r2 ⊢
      have wt : IntKind.i64.wrap (t + u) = t + u := IntWalk.i64_in _ (by omega)
      obtain ⟨⟨b1, b2⟩, _⟩ := HRNG.out k hlt
      have e1t : (k : Int).tmod (x : Int) = ((k % x : Nat) : Int) := by rw [Int.tmod_eq_emod_of_nonneg (by omega)]; simp
      have e2t : (k : Int).tdiv (x : Int) = ((k / x : Nat) : Int) := by rw [Int.tdiv_eq_ediv_of_nonneg (by omega)]; simp
      have e1' : (k : Int) % (x : Int) = ((k % x : Nat) : Int) := by simp
      have e2' : (k : Int) / (x : Int) = ((k / x : Nat) : Int) := by simp
      obtain ⟨km, hkm⟩ : ∃ km, km = k % x := ⟨_, rfl⟩
      obtain ⟨kd, hkd⟩ : ∃ kd, kd = k / x := ⟨_, rfl⟩
      rw [← hkm] at e1t e1' b1
      rw [← hkd] at e2t e2' b2
      obtain ⟨wkd2, wkd⟩ := HW63.out kd b2
      obtain ⟨k1, h1⟩ : ∃ k1, ((km : Int) == 0) = k1 := ⟨_, rfl⟩
      obtain ⟨k2, h2⟩ : ∃ k2, ((kd : Int) == 0) = k2 := ⟨_, rfl⟩
      obtain ⟨k3, h3⟩ : ∃ k3, ((km : Int) == (x : Int) - 1) = k3 := ⟨_, rfl⟩
      obtain ⟨k4, h4⟩ : ∃ k4, ((kd : Int) == (y : Int) - 1) = k4 := ⟨_, rfl⟩
      have hor := edge_or x y k km kd hkm hkd hxx hyy k1 k2 k3 k4 h1 h2 h3 h4
      have HYES : Hid ((k1 || k2 || k3 || k4) = true → so (edge x y) (en p (k + 1)) = t + u) := Lib.hid (fun h => hyes (hor.trans h))
      have HNO : Hid ((k1 || k2 || k3 || k4) = false → so (edge x y) (en p (k + 1)) = t) := Lib.hid (fun h => hno (hor.trans h))
      clear hyes hno huu ht hor hkm hkd
      cases k1
      · cases k2
        · cases k3
          · cases k4
            · have HY := Lib.hid (HNO.out rfl)
              go_wp2_with fail
              go_roundw
              case rel => exact ⟨k + 1, by omega, by go_num, by rw [HY.out], trivial⟩
              case measure => simp [intOf]; omega
            · have HY := Lib.hid (HYES.out rfl)
              go_wp2_with fail
              go_roundw
              case rel => exact ⟨k + 1, by omega, by go_num, by rw [HY.out], trivial⟩
              case measure => simp [intOf]; omega
          · have HY := Lib.hid (HYES.out rfl)
            go_wp2_with fail
            go_roundw
            case rel => exact ⟨k + 1, by omega, by go_num, by rw [HY.out], trivial⟩
            case measure => simp [intOf]; omega
        · have HY := Lib.hid (HYES.out (by cases k3 <;> rfl))
          go_wp2_with fail
          go_roundw
          case rel => exact ⟨k + 1, by omega, by go_num, by rw [HY.out], trivial⟩
          case measure => simp [intOf]; omega
      · have HY := Lib.hid (HYES.out (by cases k2 <;> cases k3 <;> rfl))
        go_wp2_with fail
        go_roundw
        case rel => exact ⟨k + 1, by omega, by go_num, by rw [HY.out], trivial⟩
        case measure => simp [intOf]; omega
    · obtain rfl : k = n := by omega
      go_wp2_with fail
      go_ret
      exact ⟨rfl, HB.out⟩
end Go.Proofs.Ytbjhbbiahmhdeaa
