/-
  The place far from the one that is believed most; what is believed around, and outermost: the reference's.
-/
import Derived.Test.YtbjhbbiahmhdeaaMomentQ
set_option linter.unusedVariables false
set_option linter.unusedSimpArgs false
namespace Go.Proofs.Ytbjhbbiahmhdeaa
open Go Go.RowKit Go.Th Go.Th.Grid Go.Th.Moment Go.Th.Wide

set_option maxRecDepth 20000 in
set_option maxHeartbeats 3200000 in
theorem rsecond_no (x y n : Nat) (X Y s far : Int) (a : Option Addr) (cap : Nat) (hn : 0 < n) (w : World) (C : ∀ w1, Below w.heap.size w w1 → Calls Try.prog 17 #[gv x y X Y s (.slice a n cap)] w1 fun e w' => e = .returned (.int .i64 (-1)) ∧ Below w1.heap.size w1 w') :
    Calls Try.prog 18 #[gv x y X Y s (.slice a n cap), .int .i64 far] w fun e w' => e = .returned (.int .i64 (-1)) ∧ Below w.heap.size w w' := by
  have HC := Lib.hid C
  (obtain ⟨w1, hw1⟩ : ∃ w1, w.alloc (.cells #[.int .i64 x, .int .i64 y, .int .i64 X, .int .i64 Y, .int .i64 s, .slice a n cap] 26) = w1 := ⟨_, rfl⟩; have M1 := (Mem.start w).alloc 26 (gc x y X Y s (.slice a n cap)); rw [show w.alloc (.cells (gc x y X Y s (.slice a n cap)).toArray 26) = w1 from hw1] at M1; have HW1 := Lib.hid hw1; clear hw1)
  clear C
  go_enter Try.func18, Try.ntmps18
  ((go_upto_region 1 with fail); rw [HW1.out]; clear HW1; obtain ⟨gA, hgA⟩ : ∃ gA, gA = w.heap.size := ⟨_, rfl⟩; rw [← hgA] at M1 ⊢; clear hgA)
  obtain ⟨c0, c1, c2, c3, c4, c5⟩ := gcells (M1.has (Has.head _ _ _ _))
  go_wp2_with fail
  refine (HC.out _ M1.below).mono ?_
  rintro e w2 ⟨rfl, hB⟩
  have M2 := M1.call hB
  clear HC hB M1 c0 c1 c2 c3 c4 c5
  have c5 := M2.cell (Has.head _ _ _ _) (i := 5) rfl
  go_wp2_with fail
  go_loopw [6, 7] (fun t c wx => c = .int .i64 0 ∧ t = .int .i64 (-1) ∧ wx = w2) (fun _ c _ => 0)
  case atStart => exact ⟨rfl, rfl, rfl⟩
  case round =>
    obtain ⟨rfl, rfl, rfl⟩ := hrel
    go_wp2_with fail
    go_ret
    exact ⟨rfl, M2.below⟩

set_option maxRecDepth 20000 in
set_option maxHeartbeats 8000000 in
theorem rsecond_yes (x y n j : Nat) (X Y s far : Int) (b o cap : Nat) (p : List Int) (G : GOk x y n p) (hj : j < n) (w : World) (hS : Sl w 1 (.slice (some ⟨b, o, none⟩) n cap) n (i64s p))
    (C : ∀ w1, Below w.heap.size w w1 → Calls Try.prog 17 #[gv x y X Y s (.slice (some ⟨b, o, none⟩) n cap)] w1 fun e w' => e = .returned (.int .i64 j) ∧ Below w1.heap.size w1 w') :
    Calls Try.prog 18 #[gv x y X Y s (.slice (some ⟨b, o, none⟩) n cap), .int .i64 far] w fun e w' => e = .returned (.int .i64 (ix (tp (fun i => !near x far i j) (en p n)))) ∧ Below w.heap.size w w' := by
  obtain ⟨⟨q1, q2⟩, q3, q4⟩ := sdG_t G.sd
  have hle : x * y ≤ 64 * 64 := Nat.mul_le_mul (by omega) (by omega)
  have hn4 : n ≤ 4096 := by rw [G.side]; omega
  have HCELL := Lib.hid (fun (W : World) (h : Sl W 1 (.slice (some ⟨b, o, none⟩) n cap) n (i64s p)) k hk => rowcell h k (by rw [G.len]; exact hk : k < p.length))
  have HNEAR := Lib.hid (fun k hk => refNear_any x k j n cap y X Y s far (some ⟨b, o, none⟩) (by omega) hk (by omega))
  have HC := Lib.hid C
  have HS := Lib.hid hS
  obtain ⟨c, hc⟩ : ∃ c : Nat → Bool, c = fun i => !near x far i j := ⟨_, rfl⟩
  have HCF : Hid (∀ k, near x far k j = !c k) := Lib.hid (fun k => by rw [hc]; simp)
  rw [← hc]
  obtain ⟨a, ha⟩ : ∃ a : Option Addr, a = some ⟨b, o, none⟩ := ⟨_, rfl⟩
  have HA := Lib.hid ha
  rw [← ha]
  (obtain ⟨w1, hw1⟩ : ∃ w1, w.alloc (.cells #[.int .i64 x, .int .i64 y, .int .i64 X, .int .i64 Y, .int .i64 s, .slice a n cap] 26) = w1 := ⟨_, rfl⟩; have M1 := (Mem.start w).alloc 26 (gc x y X Y s (.slice a n cap)); rw [show w.alloc (.cells (gc x y X Y s (.slice a n cap)).toArray 26) = w1 from hw1] at M1; have HW1 := Lib.hid hw1; clear hw1)
  clear hS G hle q1 q2 q3 q4 ha C hc
  go_enter Try.func18, Try.ntmps18
  ((go_upto_region 1 with fail); rw [HW1.out]; clear HW1; obtain ⟨gA, hgA⟩ : ∃ gA, gA = w.heap.size := ⟨_, rfl⟩; rw [← hgA] at M1 ⊢; clear hgA)
  rw [HA.out] at M1 ⊢
  obtain ⟨c0, c1, c2, c3, c4, c5⟩ := gcells (M1.has (Has.head _ _ _ _))
  go_wp2_with fail
  refine (HC.out _ M1.below).mono ?_
  rintro e w2 ⟨rfl, hB⟩
  have M2 := M1.call hB
  clear HC hB M1 c0 c1 c2 c3 c4 c5
  have hj0 : decide ((0 : Int) ≤ (j : Int)) = true := decide_eq_true (by omega)
  go_wp2_with fail
  go_loopw [6, 7] (fun t d wx => ∃ k : Nat, k ≤ n ∧ d = .int .i64 k ∧ t = .int .i64 (ix (tp c (en p k))) ∧ Mem w wx [(gA, 26, gc x y X Y s (.slice (some ⟨b, o, none⟩) n cap))]) (fun _ c _ => n - (intOf c).toNat)
  case atStart => exact ⟨0, Nat.zero_le _, rfl, rfl, M2⟩
  case round =>
    clear M2
    obtain ⟨k, hk, rfl, rfl, M⟩ := hrel
    obtain ⟨c0, c1, c2, c3, c4, c5⟩ := gcells (M.has (Has.head _ _ _ _))
    by_cases hlt : k < n
    · have cu := HCELL.out _ (HS.out.below M.below) k hlt
      have hyes := fun h h2 => tp_yes (c := c) (l := en p k) (q := (k, p.getD k 0)) h h2
      have hno := fun h => tp_no1 (c := c) (l := en p k) (q := (k, p.getD k 0)) h
      have hno2 := fun h => tp_no2 (c := c) (l := en p k) (q := (k, p.getD k 0)) h
      rw [← en_next] at hyes hno hno2
      have hmem := tp_mem (c := c) (en p k)
      have hm0 := most_pos (c := c) (en p k)
      obtain ⟨u, huu⟩ : ∃ u, u = p.getD k 0 := ⟨_, rfl⟩
      rw [← huu] at cu hyes hno
      obtain ⟨ob, hob⟩ : ∃ ob, ob = tp c (en p k) := ⟨_, rfl⟩
      rw [← hob] at hyes hno hno2 hmem hm0 ⊢
      have CN := HNEAR.out k (by omega)
      rw [HCF.out k] at CN
      obtain ⟨f, hf⟩ : ∃ f, f = c k := ⟨_, rfl⟩
      rw [← hf] at CN
      have CN := Lib.hid CN
      have HYES : Hid (most ob < u → f = true → tp c (en p (k + 1)) = some (k, u)) := Lib.hid (fun h h2 => hyes h (hf.symm.trans h2))
      have HNO := Lib.hid hno
      have HNO2 : Hid (f = false → tp c (en p (k + 1)) = ob) := Lib.hid (fun h2 => hno2 (hf.symm.trans h2))
      have hkn : (k : Int) < (n : Int) := by omega
      have HMM := Lib.hid M
      obtain ⟨z, hz⟩ : ∃ z, z = ix ob := ⟨_, rfl⟩
      have HZ := Lib.hid hz
      by_cases hu : 0 < u
      · cases f with
        | false =>
          have HY := Lib.hid (HNO2.out rfl)
          rw [← hz]
          clear HYES HNO HNO2 hyes hno hno2 hmem huu hob HCELL HS hm0 hz hf M HNEAR HCF
          go_wp2_with fail
          refine wp_region_held_drew (S := (fun w' : World => w'.cell? ⟨gA, 0, none⟩ = some (.int .i64 x) ∧ w'.cell? ⟨gA, 1, none⟩ = some (.int .i64 y) ∧ w'.cell? ⟨gA, 2, none⟩ = some (.int .i64 X) ∧ w'.cell? ⟨gA, 3, none⟩ = some (.int .i64 Y) ∧ w'.cell? ⟨gA, 4, none⟩ = some (.int .i64 s) ∧ w'.cell? ⟨gA, 5, none⟩ = some (.slice (some ⟨b, o, none⟩) n cap) ∧ w'.cell? ⟨b, o + k, none⟩ = some (.int .i64 u))) (by kernel_rfl) (⟨c0, c1, c2, c3, c4, c5, cu⟩) (fun hHeld => ?_)
          refine tkT 0 ?v1 ?hy1 hHeld ?rest1
          case hy1 => (intro w' hSw; (try dsimp only at hSw); go_simp; (try with_reducible rfl))
          try simp only [Act.put, puts]
          refine tkT 1 ?v2 ?hy2 hHeld ?rest2
          case hy2 => (intro w' hSw; (try dsimp only at hSw); go_simp; (try with_reducible rfl))
          try simp only [Act.put, puts]
          refine tkT 2 ?v3 ?hy3 hHeld ?rest3
          case hy3 => (intro w' hSw; (try dsimp only at hSw); go_simp; (try with_reducible rfl))
          try simp only [Act.put, puts]
          refine tkT 3 ?v4 ?hy4 hHeld ?rest4
          case hy4 => (intro w' hSw; (try dsimp only at hSw); go_simp; (try with_reducible rfl))
          try simp only [Act.put, puts]
          refine tkT 4 ?v5 ?hy5 hHeld ?rest5
          case hy5 => (intro w' hSw; (try dsimp only at hSw); go_simp; (try with_reducible rfl))
          try simp only [Act.put, puts]
          refine tkT 5 ?v6 ?hy6 hHeld ?rest6
          case hy6 => (intro w' hSw; (try dsimp only at hSw); go_simp; (try with_reducible rfl))
          try simp only [Act.put, puts]
          refine tkT 6 ?v7 ?hy7 hHeld ?rest7
          case hy7 => (intro w' hSw; (try dsimp only at hSw); go_simp; (try with_reducible rfl))
          try simp only [Act.put, puts]
          refine tkT 7 ?v8 ?hy8 hHeld ?rest8
          case hy8 => (intro w' hSw; (try dsimp only at hSw); go_simp; (try with_reducible rfl))
          try simp only [Act.put, puts]
          refine tkT 8 ?v9 ?hy9 hHeld ?rest9
          case hy9 => (intro w' hSw; (try dsimp only at hSw); go_simp; (try with_reducible rfl))
          try simp only [Act.put, puts]
          refine tkT 9 ?v10 ?hy10 hHeld ?rest10
          case hy10 => (intro w' hSw; (try dsimp only at hSw); go_simp; (try with_reducible rfl))
          try simp only [Act.put, puts]
          refine tkT 10 ?v11 ?hy11 hHeld ?rest11
          case hy11 => (intro w' hSw; (try dsimp only at hSw); go_simp; (try with_reducible rfl))
          try simp only [Act.put, puts]
          refine wpAnyH_ready (rs := [11]) (by kernel_rfl) (by simp) ?_
          refine AllReadyH.cons rfl (fun K hK => ?_) AllReadyH.nil
          go_simp
          refine (CN.out _).mono ?_
          rintro e w4 ⟨rfl, hA⟩
          have M4 := HMM.out.drew.call hA
          have hcu := (hA.cell (World.block_lt_of_cell? _ _ cu)).trans cu
          obtain ⟨c0, c1, c2, c3, c4, c5⟩ := gcells (M4.has (Has.head _ _ _ _))
          have hSw4 := And.intro c0 (And.intro c1 (And.intro c2 (And.intro c3 (And.intro c4 (And.intro c5 hcu)))))
          try go_wp2_with fail
          refine hK.out _ _ (hSw4) (fun hHeld => ?_)
          clear hK K
          try simp only [Act.put, puts]
          refine tkT 12 ?v13 ?hy13 hHeld ?rest13
          case hy13 => (intro w' hSw; (try dsimp only at hSw); go_simp; (try with_reducible rfl))
          try simp only [Act.put, puts]
          refine tkT 13 ?v14 ?hy14 hHeld ?rest14
          case hy14 => (intro w' hSw; (try dsimp only at hSw); go_simp; (try with_reducible rfl))
          try simp only [Act.put, puts]
          refine tkT 14 ?v15 ?hy15 hHeld ?rest15
          case hy15 => (intro w' hSw; (try dsimp only at hSw); go_simp; (try with_reducible rfl))
          try simp only [Act.put, puts]
          refine tkS 15 hHeld ?_
          try simp only [Act.put, puts]
          refine tkS 16 hHeld ?_
          try simp only [Act.put, puts]
          refine tkS 17 hHeld ?_
          try simp only [Act.put, puts]
          refine tkS 18 hHeld ?_
          try simp only [Act.put, puts]
          refine tkS 19 hHeld ?_
          try simp only [Act.put, puts]
          refine tkS 20 hHeld ?_
          try simp only [Act.put, puts]
          refine tkS 21 hHeld ?_
          try simp only [Act.put, puts]
          refine tkS 22 hHeld ?_
          try simp only [Act.put, puts]
          refine tkS 23 hHeld ?_
          try simp only [Act.put, puts]
          refine tkS 24 hHeld ?_
          try simp only [Act.put, puts]
          refine tkS 25 hHeld ?_
          try simp only [Act.put, puts]
          refine tkS 26 hHeld ?_
          try simp only [Act.put, puts]
          refine tkS 27 hHeld ?_
          try simp only [Act.put, puts]
          refine tkS 28 hHeld ?_
          try simp only [Act.put, puts]
          refine tkS 29 hHeld ?_
          try simp only [Act.put, puts]
          refine tkT 30 ?v31 ?hy31 hHeld ?rest31
          case hy31 => (intro w' hSw; (try dsimp only at hSw); go_simp; (try with_reducible rfl))
          try simp only [Act.put, puts]
          refine wpAnyH_done (by kernel_rfl) ?_ _
          go_wp2_with fail
          go_roundw
          case rel => exact ⟨k + 1, by omega, by go_num, by rw [HY.out, HZ.out], M4⟩
          case measure => simp [intOf]; omega
        | true =>
          clear hyes hno hno2
          cases ob with
          | none =>
            have HY := Lib.hid (HYES.out hu rfl)
            have hix : ix none = -1 := rfl
            rw [hix]
            clear HYES HNO HNO2 hmem huu hob HCELL HS hm0 hz hf M HNEAR HCF HZ
            go_wp2_with fail
            refine wp_region_held_drew (S := (fun w' : World => w'.cell? ⟨gA, 0, none⟩ = some (.int .i64 x) ∧ w'.cell? ⟨gA, 1, none⟩ = some (.int .i64 y) ∧ w'.cell? ⟨gA, 2, none⟩ = some (.int .i64 X) ∧ w'.cell? ⟨gA, 3, none⟩ = some (.int .i64 Y) ∧ w'.cell? ⟨gA, 4, none⟩ = some (.int .i64 s) ∧ w'.cell? ⟨gA, 5, none⟩ = some (.slice (some ⟨b, o, none⟩) n cap) ∧ w'.cell? ⟨b, o + k, none⟩ = some (.int .i64 u))) (by kernel_rfl) (⟨c0, c1, c2, c3, c4, c5, cu⟩) (fun hHeld => ?_)
            refine tkT 0 ?v32 ?hy32 hHeld ?rest32
            case hy32 => (intro w' hSw; (try dsimp only at hSw); go_simp; (try with_reducible rfl))
            try simp only [Act.put, puts]
            refine tkT 1 ?v33 ?hy33 hHeld ?rest33
            case hy33 => (intro w' hSw; (try dsimp only at hSw); go_simp; (try with_reducible rfl))
            try simp only [Act.put, puts]
            refine tkT 2 ?v34 ?hy34 hHeld ?rest34
            case hy34 => (intro w' hSw; (try dsimp only at hSw); go_simp; (try with_reducible rfl))
            try simp only [Act.put, puts]
            refine tkT 3 ?v35 ?hy35 hHeld ?rest35
            case hy35 => (intro w' hSw; (try dsimp only at hSw); go_simp; (try with_reducible rfl))
            try simp only [Act.put, puts]
            refine tkT 4 ?v36 ?hy36 hHeld ?rest36
            case hy36 => (intro w' hSw; (try dsimp only at hSw); go_simp; (try with_reducible rfl))
            try simp only [Act.put, puts]
            refine tkT 5 ?v37 ?hy37 hHeld ?rest37
            case hy37 => (intro w' hSw; (try dsimp only at hSw); go_simp; (try with_reducible rfl))
            try simp only [Act.put, puts]
            refine tkT 6 ?v38 ?hy38 hHeld ?rest38
            case hy38 => (intro w' hSw; (try dsimp only at hSw); go_simp; (try with_reducible rfl))
            try simp only [Act.put, puts]
            refine tkT 7 ?v39 ?hy39 hHeld ?rest39
            case hy39 => (intro w' hSw; (try dsimp only at hSw); go_simp; (try with_reducible rfl))
            try simp only [Act.put, puts]
            refine tkT 8 ?v40 ?hy40 hHeld ?rest40
            case hy40 => (intro w' hSw; (try dsimp only at hSw); go_simp; (try with_reducible rfl))
            try simp only [Act.put, puts]
            refine tkT 9 ?v41 ?hy41 hHeld ?rest41
            case hy41 => (intro w' hSw; (try dsimp only at hSw); go_simp; (try with_reducible rfl))
            try simp only [Act.put, puts]
            refine tkT 10 ?v42 ?hy42 hHeld ?rest42
            case hy42 => (intro w' hSw; (try dsimp only at hSw); go_simp; (try with_reducible rfl))
            try simp only [Act.put, puts]
            refine wpAnyH_ready (rs := [11]) (by kernel_rfl) (by simp) ?_
            refine AllReadyH.cons rfl (fun K hK => ?_) AllReadyH.nil
            go_simp
            refine (CN.out _).mono ?_
            rintro e w4 ⟨rfl, hA⟩
            have M4 := HMM.out.drew.call hA
            have hcu := (hA.cell (World.block_lt_of_cell? _ _ cu)).trans cu
            obtain ⟨c0, c1, c2, c3, c4, c5⟩ := gcells (M4.has (Has.head _ _ _ _))
            have hSw4 := And.intro c0 (And.intro c1 (And.intro c2 (And.intro c3 (And.intro c4 (And.intro c5 hcu)))))
            try go_wp2_with fail
            refine hK.out _ _ (hSw4) (fun hHeld => ?_)
            clear hK K
            try simp only [Act.put, puts]
            refine tkT 12 ?v44 ?hy44 hHeld ?rest44
            case hy44 => (intro w' hSw; (try dsimp only at hSw); go_simp; (try with_reducible rfl))
            try simp only [Act.put, puts]
            refine tkT 13 ?v45 ?hy45 hHeld ?rest45
            case hy45 => (intro w' hSw; (try dsimp only at hSw); go_simp; (try with_reducible rfl))
            try simp only [Act.put, puts]
            refine tkT 14 ?v46 ?hy46 hHeld ?rest46
            case hy46 => (intro w' hSw; (try dsimp only at hSw); go_simp; (try with_reducible rfl))
            try simp only [Act.put, puts]
            refine tkT 15 ?v47 ?hy47 hHeld ?rest47
            case hy47 => (intro w' hSw; (try dsimp only at hSw); go_simp; (try with_reducible rfl))
            try simp only [Act.put, puts]
            refine tkT 16 ?v48 ?hy48 hHeld ?rest48
            case hy48 => (intro w' hSw; (try dsimp only at hSw); go_simp; (try with_reducible rfl))
            try simp only [Act.put, puts]
            refine tkT 17 ?v49 ?hy49 hHeld ?rest49
            case hy49 => (intro w' hSw; (try dsimp only at hSw); go_simp; (try with_reducible rfl))
            try simp only [Act.put, puts]
            refine tkS 18 hHeld ?_
            try simp only [Act.put, puts]
            refine tkS 19 hHeld ?_
            try simp only [Act.put, puts]
            refine tkS 20 hHeld ?_
            try simp only [Act.put, puts]
            refine tkS 21 hHeld ?_
            try simp only [Act.put, puts]
            refine tkS 22 hHeld ?_
            try simp only [Act.put, puts]
            refine tkS 23 hHeld ?_
            try simp only [Act.put, puts]
            refine tkS 24 hHeld ?_
            try simp only [Act.put, puts]
            refine tkS 25 hHeld ?_
            try simp only [Act.put, puts]
            refine tkS 26 hHeld ?_
            try simp only [Act.put, puts]
            refine tkS 27 hHeld ?_
            try simp only [Act.put, puts]
            refine tkS 28 hHeld ?_
            try simp only [Act.put, puts]
            refine tkT 29 ?v61 ?hy61 hHeld ?rest61
            case hy61 => (intro w' hSw; (try dsimp only at hSw); go_simp; (try with_reducible rfl))
            try simp only [Act.put, puts]
            refine tkT 30 ?v62 ?hy62 hHeld ?rest62
            case hy62 => (intro w' hSw; (try dsimp only at hSw); go_simp; (try with_reducible rfl))
            try simp only [Act.put, puts]
            refine wpAnyH_done (by kernel_rfl) ?_ _
            go_wp2_with fail
            go_roundw
            case rel => exact ⟨k + 1, by omega, by go_num, by rw [HY.out]; rfl, M4⟩
            case measure => simp [intOf]; omega
          | some q =>
            obtain ⟨h1, h2, -, -⟩ := hmem q rfl
            obtain ⟨h3, h4⟩ := en_mem h1
            have cq := HCELL.out _ (HS.out.below M.below) q.1 (by omega)
            rw [← h4] at cq
            obtain ⟨i, v⟩ := q
            dsimp only at h2 h3 cq
            have hin : (i : Int) < (n : Int) := by omega
            have hix : ix (some (i, v)) = (i : Int) := rfl
            rw [hix]
            by_cases hvu : v < u
            · have HY := Lib.hid (HYES.out hvu rfl)
              clear HYES HNO HNO2 hmem huu hob HCELL HS hm0 hz hf M HNEAR HCF HZ h1 h4
              go_wp2_with fail
              refine wp_region_held_drew (S := (fun w' : World => w'.cell? ⟨gA, 0, none⟩ = some (.int .i64 x) ∧ w'.cell? ⟨gA, 1, none⟩ = some (.int .i64 y) ∧ w'.cell? ⟨gA, 2, none⟩ = some (.int .i64 X) ∧ w'.cell? ⟨gA, 3, none⟩ = some (.int .i64 Y) ∧ w'.cell? ⟨gA, 4, none⟩ = some (.int .i64 s) ∧ w'.cell? ⟨gA, 5, none⟩ = some (.slice (some ⟨b, o, none⟩) n cap) ∧ w'.cell? ⟨b, o + k, none⟩ = some (.int .i64 u) ∧ w'.cell? ⟨b, o + i, none⟩ = some (.int .i64 v))) (by kernel_rfl) (⟨c0, c1, c2, c3, c4, c5, cu, cq⟩) (fun hHeld => ?_)
              refine tkT 0 ?v63 ?hy63 hHeld ?rest63
              case hy63 => (intro w' hSw; (try dsimp only at hSw); go_simp; (try with_reducible rfl))
              try simp only [Act.put, puts]
              refine tkT 1 ?v64 ?hy64 hHeld ?rest64
              case hy64 => (intro w' hSw; (try dsimp only at hSw); go_simp; (try with_reducible rfl))
              try simp only [Act.put, puts]
              refine tkT 2 ?v65 ?hy65 hHeld ?rest65
              case hy65 => (intro w' hSw; (try dsimp only at hSw); go_simp; (try with_reducible rfl))
              try simp only [Act.put, puts]
              refine tkT 3 ?v66 ?hy66 hHeld ?rest66
              case hy66 => (intro w' hSw; (try dsimp only at hSw); go_simp; (try with_reducible rfl))
              try simp only [Act.put, puts]
              refine tkT 4 ?v67 ?hy67 hHeld ?rest67
              case hy67 => (intro w' hSw; (try dsimp only at hSw); go_simp; (try with_reducible rfl))
              try simp only [Act.put, puts]
              refine tkT 5 ?v68 ?hy68 hHeld ?rest68
              case hy68 => (intro w' hSw; (try dsimp only at hSw); go_simp; (try with_reducible rfl))
              try simp only [Act.put, puts]
              refine tkT 6 ?v69 ?hy69 hHeld ?rest69
              case hy69 => (intro w' hSw; (try dsimp only at hSw); go_simp; (try with_reducible rfl))
              try simp only [Act.put, puts]
              refine tkT 7 ?v70 ?hy70 hHeld ?rest70
              case hy70 => (intro w' hSw; (try dsimp only at hSw); go_simp; (try with_reducible rfl))
              try simp only [Act.put, puts]
              refine tkT 8 ?v71 ?hy71 hHeld ?rest71
              case hy71 => (intro w' hSw; (try dsimp only at hSw); go_simp; (try with_reducible rfl))
              try simp only [Act.put, puts]
              refine tkT 9 ?v72 ?hy72 hHeld ?rest72
              case hy72 => (intro w' hSw; (try dsimp only at hSw); go_simp; (try with_reducible rfl))
              try simp only [Act.put, puts]
              refine tkT 10 ?v73 ?hy73 hHeld ?rest73
              case hy73 => (intro w' hSw; (try dsimp only at hSw); go_simp; (try with_reducible rfl))
              try simp only [Act.put, puts]
              refine wpAnyH_ready (rs := [11]) (by kernel_rfl) (by simp) ?_
              refine AllReadyH.cons rfl (fun K hK => ?_) AllReadyH.nil
              go_simp
              refine (CN.out _).mono ?_
              rintro e w4 ⟨rfl, hA⟩
              have M4 := HMM.out.drew.call hA
              have hcu := (hA.cell (World.block_lt_of_cell? _ _ cu)).trans cu
              have hcq := (hA.cell (World.block_lt_of_cell? _ _ cq)).trans cq
              obtain ⟨c0, c1, c2, c3, c4, c5⟩ := gcells (M4.has (Has.head _ _ _ _))
              have hSw4 := And.intro c0 (And.intro c1 (And.intro c2 (And.intro c3 (And.intro c4 (And.intro c5 (And.intro hcu hcq))))))
              try go_wp2_with fail
              refine hK.out _ _ (hSw4) (fun hHeld => ?_)
              clear hK K
              try simp only [Act.put, puts]
              refine tkT 12 ?v75 ?hy75 hHeld ?rest75
              case hy75 => (intro w' hSw; (try dsimp only at hSw); go_simp; (try with_reducible rfl))
              try simp only [Act.put, puts]
              refine tkT 13 ?v76 ?hy76 hHeld ?rest76
              case hy76 => (intro w' hSw; (try dsimp only at hSw); go_simp; (try with_reducible rfl))
              try simp only [Act.put, puts]
              refine tkT 14 ?v77 ?hy77 hHeld ?rest77
              case hy77 => (intro w' hSw; (try dsimp only at hSw); go_simp; (try with_reducible rfl))
              try simp only [Act.put, puts]
              refine tkT 15 ?v78 ?hy78 hHeld ?rest78
              case hy78 => (intro w' hSw; (try dsimp only at hSw); go_simp; (try with_reducible rfl))
              try simp only [Act.put, puts]
              refine tkT 16 ?v79 ?hy79 hHeld ?rest79
              case hy79 => (intro w' hSw; (try dsimp only at hSw); go_simp; (try with_reducible rfl))
              try simp only [Act.put, puts]
              refine tkT 17 ?v80 ?hy80 hHeld ?rest80
              case hy80 => (intro w' hSw; (try dsimp only at hSw); go_simp; (try with_reducible rfl))
              try simp only [Act.put, puts]
              refine tkT 18 ?v81 ?hy81 hHeld ?rest81
              case hy81 => (intro w' hSw; (try dsimp only at hSw); go_simp; (try with_reducible rfl))
              try simp only [Act.put, puts]
              refine tkT 19 ?v82 ?hy82 hHeld ?rest82
              case hy82 => (intro w' hSw; (try dsimp only at hSw); go_simp; (try with_reducible rfl))
              try simp only [Act.put, puts]
              refine tkT 20 ?v83 ?hy83 hHeld ?rest83
              case hy83 => (intro w' hSw; (try dsimp only at hSw); go_simp; (try with_reducible rfl))
              try simp only [Act.put, puts]
              refine tkT 21 ?v84 ?hy84 hHeld ?rest84
              case hy84 => (intro w' hSw; (try dsimp only at hSw); go_simp; (try with_reducible rfl))
              try simp only [Act.put, puts]
              refine tkT 22 ?v85 ?hy85 hHeld ?rest85
              case hy85 => (intro w' hSw; (try dsimp only at hSw); go_simp; (try with_reducible rfl))
              try simp only [Act.put, puts]
              refine tkT 23 ?v86 ?hy86 hHeld ?rest86
              case hy86 => (intro w' hSw; (try dsimp only at hSw); go_simp; (try with_reducible rfl))
              try simp only [Act.put, puts]
              refine tkT 24 ?v87 ?hy87 hHeld ?rest87
              case hy87 => (intro w' hSw; (try dsimp only at hSw); go_simp; (try with_reducible rfl))
              try simp only [Act.put, puts]
              refine tkT 25 ?v88 ?hy88 hHeld ?rest88
              case hy88 => (intro w' hSw; (try dsimp only at hSw); go_simp; (try with_reducible rfl))
              try simp only [Act.put, puts]
              refine tkT 26 ?v89 ?hy89 hHeld ?rest89
              case hy89 => (intro w' hSw; (try dsimp only at hSw); go_simp; (try with_reducible rfl))
              try simp only [Act.put, puts]
              refine tkT 27 ?v90 ?hy90 hHeld ?rest90
              case hy90 => (intro w' hSw; (try dsimp only at hSw); go_simp; (try with_reducible rfl))
              try simp only [Act.put, puts]
              refine tkT 28 ?v91 ?hy91 hHeld ?rest91
              case hy91 => (intro w' hSw; (try dsimp only at hSw); go_simp; (try with_reducible rfl))
              try simp only [Act.put, puts]
              refine tkT 29 ?v92 ?hy92 hHeld ?rest92
              case hy92 => (intro w' hSw; (try dsimp only at hSw); go_simp; (try with_reducible rfl))
              try simp only [Act.put, puts]
              refine tkT 30 ?v93 ?hy93 hHeld ?rest93
              case hy93 => (intro w' hSw; (try dsimp only at hSw); go_simp; (try with_reducible rfl))
              try simp only [Act.put, puts]
              refine wpAnyH_done (by kernel_rfl) ?_ _
              go_wp2_with fail
              go_roundw
              case rel => exact ⟨k + 1, by omega, by go_num, by rw [HY.out]; rfl, M4⟩
              case measure => simp [intOf]; omega
            · have HY := Lib.hid (HNO.out hvu)
              have dv : decide (v < u) = false := decide_eq_false hvu
              clear HYES HNO HNO2 hmem huu hob HCELL HS hm0 hz hf M HNEAR HCF HZ h1 h4
              go_wp2_with fail
              refine wp_region_held_drew (S := (fun w' : World => w'.cell? ⟨gA, 0, none⟩ = some (.int .i64 x) ∧ w'.cell? ⟨gA, 1, none⟩ = some (.int .i64 y) ∧ w'.cell? ⟨gA, 2, none⟩ = some (.int .i64 X) ∧ w'.cell? ⟨gA, 3, none⟩ = some (.int .i64 Y) ∧ w'.cell? ⟨gA, 4, none⟩ = some (.int .i64 s) ∧ w'.cell? ⟨gA, 5, none⟩ = some (.slice (some ⟨b, o, none⟩) n cap) ∧ w'.cell? ⟨b, o + k, none⟩ = some (.int .i64 u) ∧ w'.cell? ⟨b, o + i, none⟩ = some (.int .i64 v))) (by kernel_rfl) (⟨c0, c1, c2, c3, c4, c5, cu, cq⟩) (fun hHeld => ?_)
              refine tkT 0 ?v94 ?hy94 hHeld ?rest94
              case hy94 => (intro w' hSw; (try dsimp only at hSw); go_simp; (try with_reducible rfl))
              try simp only [Act.put, puts]
              refine tkT 1 ?v95 ?hy95 hHeld ?rest95
              case hy95 => (intro w' hSw; (try dsimp only at hSw); go_simp; (try with_reducible rfl))
              try simp only [Act.put, puts]
              refine tkT 2 ?v96 ?hy96 hHeld ?rest96
              case hy96 => (intro w' hSw; (try dsimp only at hSw); go_simp; (try with_reducible rfl))
              try simp only [Act.put, puts]
              refine tkT 3 ?v97 ?hy97 hHeld ?rest97
              case hy97 => (intro w' hSw; (try dsimp only at hSw); go_simp; (try with_reducible rfl))
              try simp only [Act.put, puts]
              refine tkT 4 ?v98 ?hy98 hHeld ?rest98
              case hy98 => (intro w' hSw; (try dsimp only at hSw); go_simp; (try with_reducible rfl))
              try simp only [Act.put, puts]
              refine tkT 5 ?v99 ?hy99 hHeld ?rest99
              case hy99 => (intro w' hSw; (try dsimp only at hSw); go_simp; (try with_reducible rfl))
              try simp only [Act.put, puts]
              refine tkT 6 ?v100 ?hy100 hHeld ?rest100
              case hy100 => (intro w' hSw; (try dsimp only at hSw); go_simp; (try with_reducible rfl))
              try simp only [Act.put, puts]
              refine tkT 7 ?v101 ?hy101 hHeld ?rest101
              case hy101 => (intro w' hSw; (try dsimp only at hSw); go_simp; (try with_reducible rfl))
              try simp only [Act.put, puts]
              refine tkT 8 ?v102 ?hy102 hHeld ?rest102
              case hy102 => (intro w' hSw; (try dsimp only at hSw); go_simp; (try with_reducible rfl))
              try simp only [Act.put, puts]
              refine tkT 9 ?v103 ?hy103 hHeld ?rest103
              case hy103 => (intro w' hSw; (try dsimp only at hSw); go_simp; (try with_reducible rfl))
              try simp only [Act.put, puts]
              refine tkT 10 ?v104 ?hy104 hHeld ?rest104
              case hy104 => (intro w' hSw; (try dsimp only at hSw); go_simp; (try with_reducible rfl))
              try simp only [Act.put, puts]
              refine wpAnyH_ready (rs := [11]) (by kernel_rfl) (by simp) ?_
              refine AllReadyH.cons rfl (fun K hK => ?_) AllReadyH.nil
              go_simp
              refine (CN.out _).mono ?_
              rintro e w4 ⟨rfl, hA⟩
              have M4 := HMM.out.drew.call hA
              have hcu := (hA.cell (World.block_lt_of_cell? _ _ cu)).trans cu
              have hcq := (hA.cell (World.block_lt_of_cell? _ _ cq)).trans cq
              obtain ⟨c0, c1, c2, c3, c4, c5⟩ := gcells (M4.has (Has.head _ _ _ _))
              have hSw4 := And.intro c0 (And.intro c1 (And.intro c2 (And.intro c3 (And.intro c4 (And.intro c5 (And.intro hcu hcq))))))
              try go_wp2_with fail
              refine hK.out _ _ (hSw4) (fun hHeld => ?_)
              clear hK K
              try simp only [Act.put, puts]
              refine tkT 12 ?v106 ?hy106 hHeld ?rest106
              case hy106 => (intro w' hSw; (try dsimp only at hSw); go_simp; (try with_reducible rfl))
              try simp only [Act.put, puts]
              refine tkT 13 ?v107 ?hy107 hHeld ?rest107
              case hy107 => (intro w' hSw; (try dsimp only at hSw); go_simp; (try with_reducible rfl))
              try simp only [Act.put, puts]
              refine tkT 14 ?v108 ?hy108 hHeld ?rest108
              case hy108 => (intro w' hSw; (try dsimp only at hSw); go_simp; (try with_reducible rfl))
              try simp only [Act.put, puts]
              refine tkT 15 ?v109 ?hy109 hHeld ?rest109
              case hy109 => (intro w' hSw; (try dsimp only at hSw); go_simp; (try with_reducible rfl))
              try simp only [Act.put, puts]
              refine tkT 16 ?v110 ?hy110 hHeld ?rest110
              case hy110 => (intro w' hSw; (try dsimp only at hSw); go_simp; (try with_reducible rfl))
              try simp only [Act.put, puts]
              refine tkT 17 ?v111 ?hy111 hHeld ?rest111
              case hy111 => (intro w' hSw; (try dsimp only at hSw); go_simp; (try with_reducible rfl))
              try simp only [Act.put, puts]
              refine tkT 18 ?v112 ?hy112 hHeld ?rest112
              case hy112 => (intro w' hSw; (try dsimp only at hSw); go_simp; (try with_reducible rfl))
              try simp only [Act.put, puts]
              refine tkT 19 ?v113 ?hy113 hHeld ?rest113
              case hy113 => (intro w' hSw; (try dsimp only at hSw); go_simp; (try with_reducible rfl))
              try simp only [Act.put, puts]
              refine tkT 20 ?v114 ?hy114 hHeld ?rest114
              case hy114 => (intro w' hSw; (try dsimp only at hSw); go_simp; (try with_reducible rfl))
              try simp only [Act.put, puts]
              refine tkT 21 ?v115 ?hy115 hHeld ?rest115
              case hy115 => (intro w' hSw; (try dsimp only at hSw); go_simp; (try with_reducible rfl))
              try simp only [Act.put, puts]
              refine tkT 22 ?v116 ?hy116 hHeld ?rest116
              case hy116 => (intro w' hSw; (try dsimp only at hSw); go_simp; (try with_reducible rfl))
              try simp only [Act.put, puts]
              refine tkT 23 ?v117 ?hy117 hHeld ?rest117
              case hy117 => (intro w' hSw; (try dsimp only at hSw); go_simp; (try with_reducible rfl))
              try simp only [Act.put, puts]
              refine tkT 24 ?v118 ?hy118 hHeld ?rest118
              case hy118 => (intro w' hSw; (try dsimp only at hSw); go_simp; (try with_reducible rfl))
              try simp only [Act.put, puts]
              refine tkT 25 ?v119 ?hy119 hHeld ?rest119
              case hy119 => (intro w' hSw; (try dsimp only at hSw); go_simp; (try with_reducible rfl))
              try simp only [Act.put, puts]
              refine tkT 26 ?v120 ?hy120 hHeld ?rest120
              case hy120 => (intro w' hSw; (try dsimp only at hSw); go_simp; (try with_reducible rfl))
              try simp only [Act.put, puts]
              refine tkT 27 ?v121 ?hy121 hHeld ?rest121
              case hy121 => (intro w' hSw; (try dsimp only at hSw); go_simp; (try with_reducible rfl))
              try simp only [Act.put, puts]
              refine tkT 28 ?v122 ?hy122 hHeld ?rest122
              case hy122 => (intro w' hSw; (try dsimp only at hSw); go_simp; (try with_reducible rfl))
              try simp only [Act.put, puts]
              refine tkT 29 ?v123 ?hy123 hHeld ?rest123
              case hy123 => (intro w' hSw; (try dsimp only at hSw); go_simp; (try with_reducible rfl))
              try simp only [Act.put, puts]
              refine tkT 30 ?v124 ?hy124 hHeld ?rest124
              case hy124 => (intro w' hSw; (try dsimp only at hSw); go_simp; (try with_reducible rfl))
              try simp only [Act.put, puts]
              refine wpAnyH_done (by kernel_rfl) ?_ _
              go_wp2_with fail
              go_roundw
              case rel => exact ⟨k + 1, by omega, by go_num, by rw [HY.out]; rfl, M4⟩
              case measure => simp [intOf]; omega
      · have HY : Hid (tp c (en p (k + 1)) = ob) := Lib.hid (HNO.out (by omega))
        rw [← hz]
        have du : decide (0 < u) = false := decide_eq_false hu
        clear HYES HNO HNO2 hyes hno hno2 hmem huu hob M HCELL HS hm0 hz
        go_wp2_with fail
        refine wp_region_held_drew (S := (fun w' : World => w'.cell? ⟨gA, 5, none⟩ = some (.slice (some ⟨b, o, none⟩) n cap) ∧ w'.cell? ⟨b, o + k, none⟩ = some (.int .i64 u))) (by kernel_rfl) (⟨c5, cu⟩) (fun hHeld => ?_)
        refine tkT 0 ?v125 ?hy125 hHeld ?rest125
        case hy125 => (intro w' hSw; (try dsimp only at hSw); go_simp; (try with_reducible rfl))
        try simp only [Act.put, puts]
        refine tkT 1 ?v126 ?hy126 hHeld ?rest126
        case hy126 => (intro w' hSw; (try dsimp only at hSw); go_simp; (try with_reducible rfl))
        try simp only [Act.put, puts]
        refine tkT 2 ?v127 ?hy127 hHeld ?rest127
        case hy127 => (intro w' hSw; (try dsimp only at hSw); go_simp; (try with_reducible rfl))
        try simp only [Act.put, puts]
        refine tkT 3 ?v128 ?hy128 hHeld ?rest128
        case hy128 => (intro w' hSw; (try dsimp only at hSw); go_simp; (try with_reducible rfl))
        try simp only [Act.put, puts]
        refine tkT 4 ?v129 ?hy129 hHeld ?rest129
        case hy129 => (intro w' hSw; (try dsimp only at hSw); go_simp; (try with_reducible rfl))
        try simp only [Act.put, puts]
        refine tkT 5 ?v130 ?hy130 hHeld ?rest130
        case hy130 => (intro w' hSw; (try dsimp only at hSw); go_simp; (try with_reducible rfl))
        try simp only [Act.put, puts]
        refine tkT 6 ?v131 ?hy131 hHeld ?rest131
        case hy131 => (intro w' hSw; (try dsimp only at hSw); go_simp; (try with_reducible rfl))
        try simp only [Act.put, puts]
        refine tkS 7 hHeld ?_
        try simp only [Act.put, puts]
        refine tkS 8 hHeld ?_
        try simp only [Act.put, puts]
        refine tkS 9 hHeld ?_
        try simp only [Act.put, puts]
        refine tkS 10 hHeld ?_
        try simp only [Act.put, puts]
        refine tkS 11 hHeld ?_
        try simp only [Act.put, puts]
        refine tkS 12 hHeld ?_
        try simp only [Act.put, puts]
        refine tkT 13 ?v138 ?hy138 hHeld ?rest138
        case hy138 => (intro w' hSw; (try dsimp only at hSw); go_simp; (try with_reducible rfl))
        try simp only [Act.put, puts]
        refine tkT 14 ?v139 ?hy139 hHeld ?rest139
        case hy139 => (intro w' hSw; (try dsimp only at hSw); go_simp; (try with_reducible rfl))
        try simp only [Act.put, puts]
        refine tkS 15 hHeld ?_
        try simp only [Act.put, puts]
        refine tkS 16 hHeld ?_
        try simp only [Act.put, puts]
        refine tkS 17 hHeld ?_
        try simp only [Act.put, puts]
        refine tkS 18 hHeld ?_
        try simp only [Act.put, puts]
        refine tkS 19 hHeld ?_
        try simp only [Act.put, puts]
        refine tkS 20 hHeld ?_
        try simp only [Act.put, puts]
        refine tkS 21 hHeld ?_
        try simp only [Act.put, puts]
        refine tkS 22 hHeld ?_
        try simp only [Act.put, puts]
        refine tkS 23 hHeld ?_
        try simp only [Act.put, puts]
        refine tkS 24 hHeld ?_
        try simp only [Act.put, puts]
        refine tkS 25 hHeld ?_
        try simp only [Act.put, puts]
        refine tkS 26 hHeld ?_
        try simp only [Act.put, puts]
        refine tkS 27 hHeld ?_
        try simp only [Act.put, puts]
        refine tkS 28 hHeld ?_
        try simp only [Act.put, puts]
        refine tkS 29 hHeld ?_
        try simp only [Act.put, puts]
        refine tkT 30 ?v155 ?hy155 hHeld ?rest155
        case hy155 => (intro w' hSw; (try dsimp only at hSw); go_simp; (try with_reducible rfl))
        try simp only [Act.put, puts]
        refine wpAnyH_done (by kernel_rfl) ?_ _
        go_wp2_with fail
        go_roundw
        case rel => exact ⟨k + 1, by omega, by go_num, by rw [HY.out, HZ.out], HMM.out.drew⟩
        case measure => simp [intOf]; omega
    · obtain rfl : k = n := by omega
      go_wp2_with fail
      go_ret
      exact ⟨rfl, M.below⟩
end Go.Proofs.Ytbjhbbiahmhdeaa
