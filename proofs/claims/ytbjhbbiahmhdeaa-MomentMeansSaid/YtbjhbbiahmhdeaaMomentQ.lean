/-
  Near places, the one that is believed most, and the one far from it: the reference's.
-/
import Derived.Test.YtbjhbbiahmhdeaaMomentR
set_option linter.unusedVariables false
set_option linter.unusedSimpArgs false
namespace Go.Proofs.Ytbjhbbiahmhdeaa
open Go Go.RowKit Go.Th Go.Th.Grid Go.Th.Moment Go.Th.Wide

theorem rowcell {W : World} {b o n cap : Nat} {p : List Int} (hS : Sl W 1 (.slice (some ⟨b, o, none⟩) n cap) n (i64s p)) (k : Nat) (hk : k < p.length) : W.cell? ⟨b, o + k, none⟩ = some (.int .i64 (p.getD k 0)) := by
  obtain ⟨b', o', e, _, hc⟩ := cell64 hS k hk
  cases e
  exact hc

theorem rnear_w (xi xj yi yj : Nat) (dx dy : Int) (b1 : xi ≤ 4096 ∧ xj ≤ 4096 ∧ yi ≤ 4096 ∧ yj ≤ 4096) (hdx : (xi : Int) - (xj : Int) = dx) (hdy : (yi : Int) - (yj : Int) = dy) :
    IntKind.i64.wrap dx = dx ∧ IntKind.i64.wrap dy = dy ∧ IntKind.i64.wrap (-dx) = -dx ∧ IntKind.i64.wrap (-dy) = -dy ∧ wrap64 (yi : Int) = (yi : Int) ∧ wrap64 (yj : Int) = (yj : Int) ∧ IntKind.i64.wrap (yi : Int) = (yi : Int) ∧ IntKind.i64.wrap (yj : Int) = (yj : Int) :=
  ⟨IntWalk.i64_in _ (by omega), IntWalk.i64_in _ (by omega), IntWalk.i64_in _ (by omega), IntWalk.i64_in _ (by omega), IntWalk.wrap64_in _ (by omega), IntWalk.wrap64_in _ (by omega), IntWalk.i64_in _ (by omega), IntWalk.i64_in _ (by omega)⟩
set_option maxRecDepth 20000 in
set_option maxHeartbeats 3200000 in
theorem rnear_go (x i j xi xj yi yj : Nat) (y X Y s far dx dy : Int) (a : Option Addr) (n cap : Nat) (k1 k2 k3 k4 : Bool) (hx : 1 ≤ x ∧ x ≤ 64) (hi : i ≤ 4096) (hj : j ≤ 4096) (b1 : xi ≤ 4096 ∧ xj ≤ 4096 ∧ yi ≤ 4096 ∧ yj ≤ 4096)
    (e1 : (i : Int).tmod (x : Int) = (xi : Int)) (e2 : (j : Int).tmod (x : Int) = (xj : Int)) (e3 : (i : Int).tdiv (x : Int) = (yi : Int)) (e4 : (j : Int).tdiv (x : Int) = (yj : Int))
    (e1' : (i : Int) % (x : Int) = (xi : Int)) (e2' : (j : Int) % (x : Int) = (xj : Int)) (e3' : (i : Int) / (x : Int) = (yi : Int)) (e4' : (j : Int) / (x : Int) = (yj : Int))
    (hdx : (xi : Int) - (xj : Int) = dx) (hdy : (yi : Int) - (yj : Int) = dy) (h1 : decide (dx ≤ far) = k1) (h2 : decide (-dx ≤ far) = k2) (h3 : decide (dy ≤ far) = k3) (h4 : decide (-dy ≤ far) = k4) :
    Ans 37 #[gv x y X Y s (.slice a n cap), .int .i64 i, .int .i64 j, .int .i64 far] (.bool (k1 && k2 && k3 && k4)) := by
  intro w
  obtain ⟨w1, w2, w3, w4, w5, w6, w7, w8⟩ := rnear_w xi xj yi yj dx dy b1 hdx hdy
  have hx0 : ¬ (x = 0) := by omega
  (obtain ⟨w1, hw1⟩ : ∃ w1, w.alloc (.cells #[.int .i64 x, .int .i64 y, .int .i64 X, .int .i64 Y, .int .i64 s, .slice a n cap] 26) = w1 := ⟨_, rfl⟩; have M1 := (Mem.start w).alloc 26 (gc x y X Y s (.slice a n cap)); rw [show w.alloc (.cells (gc x y X Y s (.slice a n cap)).toArray 26) = w1 from hw1] at M1; have HW1 := Lib.hid hw1; clear hw1)
  go_enter Try.func37, Try.ntmps37
  ((go_upto_region 1 with fail); rw [HW1.out]; clear HW1; obtain ⟨gA, hgA⟩ : ∃ gA, gA = w.heap.size := ⟨_, rfl⟩; rw [← hgA] at M1 ⊢; clear hgA)
  have c0 := M1.cell (Has.head _ _ _ _) (i := 0) rfl
  go_wp2_with fail
  refine wp_region_held_drew (S := (fun w' : World => w'.cell? ⟨gA, 0, none⟩ = some (.int .i64 x))) (by kernel_rfl) (c0) (fun hHeld => ?_)
  refine tkT 0 ?v37 ?hy37 hHeld ?rest37
  case hy37 => (intro w' hSw; (try dsimp only at hSw); go_simp; (try with_reducible rfl))
  try simp only [Act.put, puts]
  refine tkT 1 ?v38 ?hy38 hHeld ?rest38
  case hy38 => (intro w' hSw; (try dsimp only at hSw); go_simp; (try with_reducible rfl))
  try simp only [Act.put, puts]
  refine tkT 2 ?v39 ?hy39 hHeld ?rest39
  case hy39 => (intro w' hSw; (try dsimp only at hSw); go_simp; (try with_reducible rfl))
  try simp only [Act.put, puts]
  refine tkT 3 ?v40 ?hy40 hHeld ?rest40
  case hy40 => (intro w' hSw; (try dsimp only at hSw); go_simp; (try with_reducible rfl))
  try simp only [Act.put, puts]
  refine tkT 4 ?v41 ?hy41 hHeld ?rest41
  case hy41 => (intro w' hSw; (try dsimp only at hSw); go_simp; (try with_reducible rfl))
  try simp only [Act.put, puts]
  refine tkT 5 ?v42 ?hy42 hHeld ?rest42
  case hy42 => (intro w' hSw; (try dsimp only at hSw); go_simp; (try with_reducible rfl))
  try simp only [Act.put, puts]
  refine tkT 6 ?v43 ?hy43 hHeld ?rest43
  case hy43 => (intro w' hSw; (try dsimp only at hSw); go_simp; (try with_reducible rfl))
  try simp only [Act.put, puts]
  refine tkT 7 ?v44 ?hy44 hHeld ?rest44
  case hy44 => (intro w' hSw; (try dsimp only at hSw); go_simp; (try with_reducible rfl))
  try simp only [Act.put, puts]
  refine tkT 8 ?v45 ?hy45 hHeld ?rest45
  case hy45 => (intro w' hSw; (try dsimp only at hSw); go_simp; (try with_reducible rfl))
  try simp only [Act.put, puts]
  refine tkT 9 ?v46 ?hy46 hHeld ?rest46
  case hy46 => (intro w' hSw; (try dsimp only at hSw); go_simp; (try with_reducible rfl))
  try simp only [Act.put, puts]
  refine wpAnyH_done (by kernel_rfl) ?_ _
  have d0 : w1.drew.cell? ⟨gA, 0, none⟩ = some (.int .i64 x) := c0
  have HM := Lib.hid M1.drew.drew.below
  clear M1 c0
  go_wp2_with fail
  refine wp_region_held_drew (S := (fun w' : World => w'.cell? ⟨gA, 0, none⟩ = some (.int .i64 x))) (by kernel_rfl) (d0) (fun hHeld => ?_)
  refine tkT 0 ?v47 ?hy47 hHeld ?rest47
  case hy47 => (intro w' hSw; (try dsimp only at hSw); go_simp; (try with_reducible rfl))
  try simp only [Act.put, puts]
  refine tkT 1 ?v48 ?hy48 hHeld ?rest48
  case hy48 => (intro w' hSw; (try dsimp only at hSw); go_simp; (try with_reducible rfl))
  try simp only [Act.put, puts]
  refine tkT 2 ?v49 ?hy49 hHeld ?rest49
  case hy49 => (intro w' hSw; (try dsimp only at hSw); go_simp; (try with_reducible rfl))
  try simp only [Act.put, puts]
  refine tkT 3 ?v50 ?hy50 hHeld ?rest50
  case hy50 => (intro w' hSw; (try dsimp only at hSw); go_simp; (try with_reducible rfl))
  try simp only [Act.put, puts]
  refine tkT 4 ?v51 ?hy51 hHeld ?rest51
  case hy51 => (intro w' hSw; (try dsimp only at hSw); go_simp; (try with_reducible rfl))
  try simp only [Act.put, puts]
  refine tkT 5 ?v52 ?hy52 hHeld ?rest52
  case hy52 => (intro w' hSw; (try dsimp only at hSw); go_simp; (try with_reducible rfl))
  try simp only [Act.put, puts]
  refine tkT 6 ?v53 ?hy53 hHeld ?rest53
  case hy53 => (intro w' hSw; (try dsimp only at hSw); go_simp; (try with_reducible rfl))
  try simp only [Act.put, puts]
  refine tkT 7 ?v54 ?hy54 hHeld ?rest54
  case hy54 => (intro w' hSw; (try dsimp only at hSw); go_simp; (try with_reducible rfl))
  try simp only [Act.put, puts]
  refine tkT 8 ?v55 ?hy55 hHeld ?rest55
  case hy55 => (intro w' hSw; (try dsimp only at hSw); go_simp; (try with_reducible rfl))
  try simp only [Act.put, puts]
  refine tkT 9 ?v56 ?hy56 hHeld ?rest56
  case hy56 => (intro w' hSw; (try dsimp only at hSw); go_simp; (try with_reducible rfl))
  try simp only [Act.put, puts]
  refine wpAnyH_done (by kernel_rfl) ?_ _
  clear d0 e1 e2 e3 e4 e1' e2' e3' e4'
  cases k1
  · have q1 : ¬ dx ≤ far := of_decide_eq_false h1
    go_wp2_with fail
    go_ret
    exact ⟨rfl, HM.out⟩
  · have q1 : dx ≤ far := of_decide_eq_true h1
    cases k2
    · have q2 : ¬ -dx ≤ far := of_decide_eq_false h2
      go_wp2_with fail
      go_ret
      exact ⟨rfl, HM.out⟩
    · have q2 : -dx ≤ far := of_decide_eq_true h2
      cases k3
      · have q3 : ¬ dy ≤ far := of_decide_eq_false h3
        go_wp2_with fail
        go_ret
        exact ⟨rfl, HM.out⟩
      · have q3 : dy ≤ far := of_decide_eq_true h3
        cases k4
        · have q4 : ¬ -dy ≤ far := of_decide_eq_false h4
          go_wp2_with fail
          go_ret
          exact ⟨rfl, HM.out⟩
        · have q4 : -dy ≤ far := of_decide_eq_true h4
          go_wp2_with fail
          go_ret
          exact ⟨rfl, HM.out⟩
theorem refNear_any (x i j n cap : Nat) (y X Y s far : Int) (a : Option Addr) (hx : 1 ≤ x ∧ x ≤ 64) (hi : i ≤ 4096) (hj : j ≤ 4096) :
    Ans 37 #[gv x y X Y s (.slice a n cap), .int .i64 i, .int .i64 j, .int .i64 far] (.bool (near x far i j)) := by
  have m1 := Nat.mod_le i x
  have m2 := Nat.mod_le j x
  have m3 := Nat.div_le_self i x
  have m4 := Nat.div_le_self j x
  have t1 : ∀ k : Nat, (k : Int).tmod (x : Int) = ((k % x : Nat) : Int) := fun k => by rw [Int.tmod_eq_emod_of_nonneg (by omega)]; simp
  have t2 : ∀ k : Nat, (k : Int).tdiv (x : Int) = ((k / x : Nat) : Int) := fun k => by rw [Int.tdiv_eq_ediv_of_nonneg (by omega)]; simp
  have t3 : ∀ k : Nat, (k : Int) % (x : Int) = ((k % x : Nat) : Int) := fun k => by simp
  have t4 : ∀ k : Nat, (k : Int) / (x : Int) = ((k / x : Nat) : Int) := fun k => by simp
  have C := rnear_go x i j (i % x) (j % x) (i / x) (j / x) y X Y s far _ _ a n cap _ _ _ _ hx hi hj ⟨by omega, by omega, by omega, by omega⟩ (t1 i) (t1 j) (t2 i) (t2 j) (t3 i) (t3 j) (t4 i) (t4 j) rfl rfl rfl rfl rfl rfl
  have e : (decide (((i % x : Nat) : Int) - ((j % x : Nat) : Int) ≤ far) && decide (-(((i % x : Nat) : Int) - ((j % x : Nat) : Int)) ≤ far) && decide (((i / x : Nat) : Int) - ((j / x : Nat) : Int) ≤ far) && decide (-(((i / x : Nat) : Int) - ((j / x : Nat) : Int)) ≤ far)) = near x far i j := by
    unfold near Moment.apart
    obtain ⟨u1, hu1⟩ : ∃ u1 : Int, u1 = ((i % x : Nat) : Int) := ⟨_, rfl⟩
    obtain ⟨u2, hu2⟩ : ∃ u2 : Int, u2 = ((j % x : Nat) : Int) := ⟨_, rfl⟩
    obtain ⟨u3, hu3⟩ : ∃ u3 : Int, u3 = ((i / x : Nat) : Int) := ⟨_, rfl⟩
    obtain ⟨u4, hu4⟩ : ∃ u4 : Int, u4 = ((j / x : Nat) : Int) := ⟨_, rfl⟩
    rw [← hu1, ← hu2, ← hu3, ← hu4, ← Bool.decide_and, ← Bool.decide_and, ← Bool.decide_and, ← Bool.decide_and, decide_eq_decide]
    omega
  rw [e] at C
  exact C

set_option maxRecDepth 20000 in
set_option maxHeartbeats 6400000 in
theorem refPeak_any (x y n : Nat) (X Y s : Int) (a : Option Addr) (cap : Nat) (p : List Int) (G : GOk x y n p) (w : World) (hS : Sl w 1 (.slice a n cap) n (i64s p)) :
    Calls Try.prog 17 #[gv x y X Y s (.slice a n cap)] w fun e w' => e = .returned (.int .i64 (ix (pk p n))) ∧ Below w.heap.size w w' := by
  obtain ⟨⟨q1, q2⟩, q3, q4⟩ := sdG_t G.sd
  have hle : x * y ≤ 64 * 64 := Nat.mul_le_mul (by omega) (by omega)
  have hn4 : n ≤ 4096 := by rw [G.side]; omega
  have hn0 : 0 < n := by rw [G.side]; exact Nat.mul_pos (by omega) (by omega)
  obtain ⟨b, o, rfl, _, _⟩ := cell64 hS 0 (by rw [G.len]; exact hn0)
  have HCELL := Lib.hid (fun (W : World) (h : Sl W 1 (.slice (some ⟨b, o, none⟩) n cap) n (i64s p)) k hk => rowcell h k (by rw [G.len]; exact hk : k < p.length))
  have HS := Lib.hid hS
  obtain ⟨a, ha⟩ : ∃ a : Option Addr, a = some ⟨b, o, none⟩ := ⟨_, rfl⟩
  have HA := Lib.hid ha
  rw [← ha]
  (obtain ⟨w1, hw1⟩ : ∃ w1, w.alloc (.cells #[.int .i64 x, .int .i64 y, .int .i64 X, .int .i64 Y, .int .i64 s, .slice a n cap] 26) = w1 := ⟨_, rfl⟩; have M1 := (Mem.start w).alloc 26 (gc x y X Y s (.slice a n cap)); rw [show w.alloc (.cells (gc x y X Y s (.slice a n cap)).toArray 26) = w1 from hw1] at M1; have HW1 := Lib.hid hw1; clear hw1)
  clear hS G hle q1 q2 q3 q4 ha
  go_enter Try.func17, Try.ntmps17
  ((go_upto_region 1 with fail); rw [HW1.out]; clear HW1; obtain ⟨gA, hgA⟩ : ∃ gA, gA = w.heap.size := ⟨_, rfl⟩; rw [← hgA] at M1 ⊢; clear hgA)
  rw [HA.out] at M1 ⊢
  go_wp2_with fail
  go_loopw [3, 4] (fun t c wx => ∃ k : Nat, k ≤ n ∧ c = .int .i64 k ∧ t = .int .i64 (ix (tp (fun _ => true) (en p k))) ∧ Mem w wx [(gA, 26, gc x y X Y s (.slice (some ⟨b, o, none⟩) n cap))]) (fun _ c _ => n - (intOf c).toNat)
  case atStart => exact ⟨0, Nat.zero_le _, rfl, rfl, M1⟩
  case round =>
    clear M1
    obtain ⟨k, hk, rfl, rfl, M⟩ := hrel
    have c5 := M.cell (Has.head _ _ _ _) (i := 5) rfl
    by_cases hlt : k < n
    · have cu := HCELL.out _ (HS.out.below M.below) k hlt
      have hyes := fun h => tp_yes (c := fun _ => true) (l := en p k) (q := (k, p.getD k 0)) h rfl
      have hno := fun h => tp_no1 (c := fun _ => true) (l := en p k) (q := (k, p.getD k 0)) h
      rw [← en_next] at hyes hno
      have hmem := tp_mem (c := fun _ => true) (en p k)
      obtain ⟨u, huu⟩ : ∃ u, u = p.getD k 0 := ⟨_, rfl⟩
      rw [← huu] at cu hyes hno
      obtain ⟨ob, hob⟩ : ∃ ob, ob = tp (fun _ => true) (en p k) := ⟨_, rfl⟩
      rw [← hob] at hyes hno hmem ⊢
      have HYES := Lib.hid hyes
      have HNO := Lib.hid hno
      have hkn : (k : Int) < (n : Int) := by omega
      have HMM := Lib.hid M
      by_cases hu : 0 < u
      · cases ob with
        | none =>
          have HY : Hid (tp (fun _ => true) (en p (k + 1)) = some (k, u)) := Lib.hid (HYES.out hu)
          clear HYES HNO hyes hno hmem huu hob M HCELL HS
          have hix : ix none = -1 := rfl
          rw [hix]
          go_wp2_with fail
          refine wp_region_held_drew (S := (fun w' : World => w'.cell? ⟨gA, 5, none⟩ = some (.slice (some ⟨b, o, none⟩) n cap) ∧ w'.cell? ⟨b, o + k, none⟩ = some (.int .i64 u))) (by kernel_rfl) (⟨c5, cu⟩) (fun hHeld => ?_)
          refine tkT 0 ?v57 ?hy57 hHeld ?rest57
          case hy57 => (intro w' hSw; (try dsimp only at hSw); go_simp; (try with_reducible rfl))
          try simp only [Act.put, puts]
          refine tkT 1 ?v58 ?hy58 hHeld ?rest58
          case hy58 => (intro w' hSw; (try dsimp only at hSw); go_simp; (try with_reducible rfl))
          try simp only [Act.put, puts]
          refine tkT 2 ?v59 ?hy59 hHeld ?rest59
          case hy59 => (intro w' hSw; (try dsimp only at hSw); go_simp; (try with_reducible rfl))
          try simp only [Act.put, puts]
          refine tkT 3 ?v60 ?hy60 hHeld ?rest60
          case hy60 => (intro w' hSw; (try dsimp only at hSw); go_simp; (try with_reducible rfl))
          try simp only [Act.put, puts]
          refine tkT 4 ?v61 ?hy61 hHeld ?rest61
          case hy61 => (intro w' hSw; (try dsimp only at hSw); go_simp; (try with_reducible rfl))
          try simp only [Act.put, puts]
          refine tkT 5 ?v62 ?hy62 hHeld ?rest62
          case hy62 => (intro w' hSw; (try dsimp only at hSw); go_simp; (try with_reducible rfl))
          try simp only [Act.put, puts]
          refine tkT 6 ?v63 ?hy63 hHeld ?rest63
          case hy63 => (intro w' hSw; (try dsimp only at hSw); go_simp; (try with_reducible rfl))
          try simp only [Act.put, puts]
          refine tkT 7 ?v64 ?hy64 hHeld ?rest64
          case hy64 => (intro w' hSw; (try dsimp only at hSw); go_simp; (try with_reducible rfl))
          try simp only [Act.put, puts]
          refine tkT 8 ?v65 ?hy65 hHeld ?rest65
          case hy65 => (intro w' hSw; (try dsimp only at hSw); go_simp; (try with_reducible rfl))
          try simp only [Act.put, puts]
          refine tkT 9 ?v66 ?hy66 hHeld ?rest66
          case hy66 => (intro w' hSw; (try dsimp only at hSw); go_simp; (try with_reducible rfl))
          try simp only [Act.put, puts]
          refine tkS 10 hHeld ?_
          try simp only [Act.put, puts]
          refine tkS 11 hHeld ?_
          try simp only [Act.put, puts]
          refine tkS 12 hHeld ?_
          try simp only [Act.put, puts]
          refine tkS 13 hHeld ?_
          try simp only [Act.put, puts]
          refine tkS 14 hHeld ?_
          try simp only [Act.put, puts]
          refine tkS 15 hHeld ?_
          try simp only [Act.put, puts]
          refine tkS 16 hHeld ?_
          try simp only [Act.put, puts]
          refine tkS 17 hHeld ?_
          try simp only [Act.put, puts]
          refine tkS 18 hHeld ?_
          try simp only [Act.put, puts]
          refine tkS 19 hHeld ?_
          try simp only [Act.put, puts]
          refine tkS 20 hHeld ?_
          try simp only [Act.put, puts]
          refine tkT 21 ?v78 ?hy78 hHeld ?rest78
          case hy78 => (intro w' hSw; (try dsimp only at hSw); go_simp; (try with_reducible rfl))
          try simp only [Act.put, puts]
          refine tkT 22 ?v79 ?hy79 hHeld ?rest79
          case hy79 => (intro w' hSw; (try dsimp only at hSw); go_simp; (try with_reducible rfl))
          try simp only [Act.put, puts]
          refine wpAnyH_done (by kernel_rfl) ?_ _
          go_wp2_with fail
          go_roundw
          case rel => exact ⟨k + 1, by omega, by go_num, by rw [HY.out]; rfl, HMM.out.drew⟩
          case measure => simp [intOf]; omega
        | some q =>
          obtain ⟨h1, h2, -, -⟩ := hmem q rfl
          obtain ⟨h3, h4⟩ := en_mem h1
          have cq := HCELL.out _ (HS.out.below M.below) q.1 (by omega)
          rw [← h4] at cq
          obtain ⟨j, v⟩ := q
          dsimp only at h2 h3 cq
          have hjn : (j : Int) < (n : Int) := by omega
          have hj0 : ¬ (j : Int) < 0 := by omega
          have hix : ix (some (j, v)) = (j : Int) := rfl
          rw [hix]
          by_cases hvu : v < u
          · have HY : Hid (tp (fun _ => true) (en p (k + 1)) = some (k, u)) := Lib.hid (HYES.out hvu)
            clear HYES HNO hyes hno hmem huu hob M HCELL HS h1 h4
            go_wp2_with fail
            refine wp_region_held_drew (S := (fun w' : World => w'.cell? ⟨gA, 5, none⟩ = some (.slice (some ⟨b, o, none⟩) n cap) ∧ w'.cell? ⟨b, o + k, none⟩ = some (.int .i64 u) ∧ w'.cell? ⟨b, o + j, none⟩ = some (.int .i64 v))) (by kernel_rfl) (⟨c5, cu, cq⟩) (fun hHeld => ?_)
            refine tkT 0 ?v80 ?hy80 hHeld ?rest80
            case hy80 => (intro w' hSw; (try dsimp only at hSw); go_simp; (try with_reducible rfl))
            try simp only [Act.put, puts]
            refine tkT 1 ?v81 ?hy81 hHeld ?rest81
            case hy81 => (intro w' hSw; (try dsimp only at hSw); go_simp; (try with_reducible rfl))
            try simp only [Act.put, puts]
            refine tkT 2 ?v82 ?hy82 hHeld ?rest82
            case hy82 => (intro w' hSw; (try dsimp only at hSw); go_simp; (try with_reducible rfl))
            try simp only [Act.put, puts]
            refine tkT 3 ?v83 ?hy83 hHeld ?rest83
            case hy83 => (intro w' hSw; (try dsimp only at hSw); go_simp; (try with_reducible rfl))
            try simp only [Act.put, puts]
            refine tkT 4 ?v84 ?hy84 hHeld ?rest84
            case hy84 => (intro w' hSw; (try dsimp only at hSw); go_simp; (try with_reducible rfl))
            try simp only [Act.put, puts]
            refine tkT 5 ?v85 ?hy85 hHeld ?rest85
            case hy85 => (intro w' hSw; (try dsimp only at hSw); go_simp; (try with_reducible rfl))
            try simp only [Act.put, puts]
            refine tkT 6 ?v86 ?hy86 hHeld ?rest86
            case hy86 => (intro w' hSw; (try dsimp only at hSw); go_simp; (try with_reducible rfl))
            try simp only [Act.put, puts]
            refine tkT 7 ?v87 ?hy87 hHeld ?rest87
            case hy87 => (intro w' hSw; (try dsimp only at hSw); go_simp; (try with_reducible rfl))
            try simp only [Act.put, puts]
            refine tkT 8 ?v88 ?hy88 hHeld ?rest88
            case hy88 => (intro w' hSw; (try dsimp only at hSw); go_simp; (try with_reducible rfl))
            try simp only [Act.put, puts]
            refine tkT 9 ?v89 ?hy89 hHeld ?rest89
            case hy89 => (intro w' hSw; (try dsimp only at hSw); go_simp; (try with_reducible rfl))
            try simp only [Act.put, puts]
            refine tkT 10 ?v90 ?hy90 hHeld ?rest90
            case hy90 => (intro w' hSw; (try dsimp only at hSw); go_simp; (try with_reducible rfl))
            try simp only [Act.put, puts]
            refine tkT 11 ?v91 ?hy91 hHeld ?rest91
            case hy91 => (intro w' hSw; (try dsimp only at hSw); go_simp; (try with_reducible rfl))
            try simp only [Act.put, puts]
            refine tkT 12 ?v92 ?hy92 hHeld ?rest92
            case hy92 => (intro w' hSw; (try dsimp only at hSw); go_simp; (try with_reducible rfl))
            try simp only [Act.put, puts]
            refine tkT 13 ?v93 ?hy93 hHeld ?rest93
            case hy93 => (intro w' hSw; (try dsimp only at hSw); go_simp; (try with_reducible rfl))
            try simp only [Act.put, puts]
            refine tkT 14 ?v94 ?hy94 hHeld ?rest94
            case hy94 => (intro w' hSw; (try dsimp only at hSw); go_simp; (try with_reducible rfl))
            try simp only [Act.put, puts]
            refine tkT 15 ?v95 ?hy95 hHeld ?rest95
            case hy95 => (intro w' hSw; (try dsimp only at hSw); go_simp; (try with_reducible rfl))
            try simp only [Act.put, puts]
            refine tkT 16 ?v96 ?hy96 hHeld ?rest96
            case hy96 => (intro w' hSw; (try dsimp only at hSw); go_simp; (try with_reducible rfl))
            try simp only [Act.put, puts]
            refine tkT 17 ?v97 ?hy97 hHeld ?rest97
            case hy97 => (intro w' hSw; (try dsimp only at hSw); go_simp; (try with_reducible rfl))
            try simp only [Act.put, puts]
            refine tkT 18 ?v98 ?hy98 hHeld ?rest98
            case hy98 => (intro w' hSw; (try dsimp only at hSw); go_simp; (try with_reducible rfl))
            try simp only [Act.put, puts]
            refine tkT 19 ?v99 ?hy99 hHeld ?rest99
            case hy99 => (intro w' hSw; (try dsimp only at hSw); go_simp; (try with_reducible rfl))
            try simp only [Act.put, puts]
            refine tkT 20 ?v100 ?hy100 hHeld ?rest100
            case hy100 => (intro w' hSw; (try dsimp only at hSw); go_simp; (try with_reducible rfl))
            try simp only [Act.put, puts]
            refine tkT 21 ?v101 ?hy101 hHeld ?rest101
            case hy101 => (intro w' hSw; (try dsimp only at hSw); go_simp; (try with_reducible rfl))
            try simp only [Act.put, puts]
            refine tkT 22 ?v102 ?hy102 hHeld ?rest102
            case hy102 => (intro w' hSw; (try dsimp only at hSw); go_simp; (try with_reducible rfl))
            try simp only [Act.put, puts]
            refine wpAnyH_done (by kernel_rfl) ?_ _
            go_wp2_with fail
            go_roundw
            case rel => exact ⟨k + 1, by omega, by go_num, by rw [HY.out]; rfl, HMM.out.drew⟩
            case measure => simp [intOf]; omega
          · have HY : Hid (tp (fun _ => true) (en p (k + 1)) = some (j, v)) := Lib.hid (HNO.out hvu)
            clear HYES HNO hyes hno hmem huu hob M HCELL HS h1 h4
            go_wp2_with fail
            refine wp_region_held_drew (S := (fun w' : World => w'.cell? ⟨gA, 5, none⟩ = some (.slice (some ⟨b, o, none⟩) n cap) ∧ w'.cell? ⟨b, o + k, none⟩ = some (.int .i64 u) ∧ w'.cell? ⟨b, o + j, none⟩ = some (.int .i64 v))) (by kernel_rfl) (⟨c5, cu, cq⟩) (fun hHeld => ?_)
            refine tkT 0 ?v103 ?hy103 hHeld ?rest103
            case hy103 => (intro w' hSw; (try dsimp only at hSw); go_simp; (try with_reducible rfl))
            try simp only [Act.put, puts]
            refine tkT 1 ?v104 ?hy104 hHeld ?rest104
            case hy104 => (intro w' hSw; (try dsimp only at hSw); go_simp; (try with_reducible rfl))
            try simp only [Act.put, puts]
            refine tkT 2 ?v105 ?hy105 hHeld ?rest105
            case hy105 => (intro w' hSw; (try dsimp only at hSw); go_simp; (try with_reducible rfl))
            try simp only [Act.put, puts]
            refine tkT 3 ?v106 ?hy106 hHeld ?rest106
            case hy106 => (intro w' hSw; (try dsimp only at hSw); go_simp; (try with_reducible rfl))
            try simp only [Act.put, puts]
            refine tkT 4 ?v107 ?hy107 hHeld ?rest107
            case hy107 => (intro w' hSw; (try dsimp only at hSw); go_simp; (try with_reducible rfl))
            try simp only [Act.put, puts]
            refine tkT 5 ?v108 ?hy108 hHeld ?rest108
            case hy108 => (intro w' hSw; (try dsimp only at hSw); go_simp; (try with_reducible rfl))
            try simp only [Act.put, puts]
            refine tkT 6 ?v109 ?hy109 hHeld ?rest109
            case hy109 => (intro w' hSw; (try dsimp only at hSw); go_simp; (try with_reducible rfl))
            try simp only [Act.put, puts]
            refine tkT 7 ?v110 ?hy110 hHeld ?rest110
            case hy110 => (intro w' hSw; (try dsimp only at hSw); go_simp; (try with_reducible rfl))
            try simp only [Act.put, puts]
            refine tkT 8 ?v111 ?hy111 hHeld ?rest111
            case hy111 => (intro w' hSw; (try dsimp only at hSw); go_simp; (try with_reducible rfl))
            try simp only [Act.put, puts]
            refine tkT 9 ?v112 ?hy112 hHeld ?rest112
            case hy112 => (intro w' hSw; (try dsimp only at hSw); go_simp; (try with_reducible rfl))
            try simp only [Act.put, puts]
            refine tkT 10 ?v113 ?hy113 hHeld ?rest113
            case hy113 => (intro w' hSw; (try dsimp only at hSw); go_simp; (try with_reducible rfl))
            try simp only [Act.put, puts]
            refine tkT 11 ?v114 ?hy114 hHeld ?rest114
            case hy114 => (intro w' hSw; (try dsimp only at hSw); go_simp; (try with_reducible rfl))
            try simp only [Act.put, puts]
            refine tkT 12 ?v115 ?hy115 hHeld ?rest115
            case hy115 => (intro w' hSw; (try dsimp only at hSw); go_simp; (try with_reducible rfl))
            try simp only [Act.put, puts]
            refine tkT 13 ?v116 ?hy116 hHeld ?rest116
            case hy116 => (intro w' hSw; (try dsimp only at hSw); go_simp; (try with_reducible rfl))
            try simp only [Act.put, puts]
            refine tkT 14 ?v117 ?hy117 hHeld ?rest117
            case hy117 => (intro w' hSw; (try dsimp only at hSw); go_simp; (try with_reducible rfl))
            try simp only [Act.put, puts]
            refine tkT 15 ?v118 ?hy118 hHeld ?rest118
            case hy118 => (intro w' hSw; (try dsimp only at hSw); go_simp; (try with_reducible rfl))
            try simp only [Act.put, puts]
            refine tkT 16 ?v119 ?hy119 hHeld ?rest119
            case hy119 => (intro w' hSw; (try dsimp only at hSw); go_simp; (try with_reducible rfl))
            try simp only [Act.put, puts]
            refine tkT 17 ?v120 ?hy120 hHeld ?rest120
            case hy120 => (intro w' hSw; (try dsimp only at hSw); go_simp; (try with_reducible rfl))
            try simp only [Act.put, puts]
            refine tkT 18 ?v121 ?hy121 hHeld ?rest121
            case hy121 => (intro w' hSw; (try dsimp only at hSw); go_simp; (try with_reducible rfl))
            try simp only [Act.put, puts]
            refine tkT 19 ?v122 ?hy122 hHeld ?rest122
            case hy122 => (intro w' hSw; (try dsimp only at hSw); go_simp; (try with_reducible rfl))
            try simp only [Act.put, puts]
            refine tkT 20 ?v123 ?hy123 hHeld ?rest123
            case hy123 => (intro w' hSw; (try dsimp only at hSw); go_simp; (try with_reducible rfl))
            try simp only [Act.put, puts]
            refine tkT 21 ?v124 ?hy124 hHeld ?rest124
            case hy124 => (intro w' hSw; (try dsimp only at hSw); go_simp; (try with_reducible rfl))
            try simp only [Act.put, puts]
            refine tkT 22 ?v125 ?hy125 hHeld ?rest125
            case hy125 => (intro w' hSw; (try dsimp only at hSw); go_simp; (try with_reducible rfl))
            try simp only [Act.put, puts]
            refine wpAnyH_done (by kernel_rfl) ?_ _
            go_wp2_with fail
            go_roundw
            case rel => exact ⟨k + 1, by omega, by go_num, by rw [HY.out]; rfl, HMM.out.drew⟩
            case measure => simp [intOf]; omega
      · have hm0 := most_pos (c := fun _ => true) (en p k)
        rw [← hob] at hm0
        have HY : Hid (tp (fun _ => true) (en p (k + 1)) = ob) := Lib.hid (HNO.out (by omega))
        obtain ⟨z, hz⟩ : ∃ z, z = ix ob := ⟨_, rfl⟩
        rw [← hz]
        have HZ := Lib.hid hz
        have du : decide (0 < u) = false := decide_eq_false hu
        clear HYES HNO hyes hno hmem huu hob M HCELL HS hm0 hz
        go_wp2_with fail
        refine wp_region_held_drew (S := (fun w' : World => w'.cell? ⟨gA, 5, none⟩ = some (.slice (some ⟨b, o, none⟩) n cap) ∧ w'.cell? ⟨b, o + k, none⟩ = some (.int .i64 u))) (by kernel_rfl) (⟨c5, cu⟩) (fun hHeld => ?_)
        refine tkT 0 ?v126 ?hy126 hHeld ?rest126
        case hy126 => (intro w' hSw; (try dsimp only at hSw); go_simp; (try with_reducible rfl))
        try simp only [Act.put, puts]
        refine tkT 1 ?v127 ?hy127 hHeld ?rest127
        case hy127 => (intro w' hSw; (try dsimp only at hSw); go_simp; (try with_reducible rfl))
        try simp only [Act.put, puts]
        refine tkT 2 ?v128 ?hy128 hHeld ?rest128
        case hy128 => (intro w' hSw; (try dsimp only at hSw); go_simp; (try with_reducible rfl))
        try simp only [Act.put, puts]
        refine tkT 3 ?v129 ?hy129 hHeld ?rest129
        case hy129 => (intro w' hSw; (try dsimp only at hSw); go_simp; (try with_reducible rfl))
        try simp only [Act.put, puts]
        refine tkT 4 ?v130 ?hy130 hHeld ?rest130
        case hy130 => (intro w' hSw; (try dsimp only at hSw); go_simp; (try with_reducible rfl))
        try simp only [Act.put, puts]
        refine tkT 5 ?v131 ?hy131 hHeld ?rest131
        case hy131 => (intro w' hSw; (try dsimp only at hSw); go_simp; (try with_reducible rfl))
        try simp only [Act.put, puts]
        refine tkT 6 ?v132 ?hy132 hHeld ?rest132
        case hy132 => (intro w' hSw; (try dsimp only at hSw); go_simp; (try with_reducible rfl))
        try simp only [Act.put, puts]
        refine tkS 7 hHeld ?_
        try simp only [Act.put, puts]
        refine tkS 8 hHeld ?_
        try simp only [Act.put, puts]
        refine tkS 9 hHeld ?_
        try simp only [Act.put, puts]
        refine tkS 10 hHeld ?_
        try simp only [Act.put, puts]
        refine tkS 11 hHeld ?_
        try simp only [Act.put, puts]
        refine tkS 12 hHeld ?_
        try simp only [Act.put, puts]
        refine tkS 13 hHeld ?_
        try simp only [Act.put, puts]
        refine tkS 14 hHeld ?_
        try simp only [Act.put, puts]
        refine tkS 15 hHeld ?_
        try simp only [Act.put, puts]
        refine tkS 16 hHeld ?_
        try simp only [Act.put, puts]
        refine tkS 17 hHeld ?_
        try simp only [Act.put, puts]
        refine tkS 18 hHeld ?_
        try simp only [Act.put, puts]
        refine tkS 19 hHeld ?_
        try simp only [Act.put, puts]
        refine tkS 20 hHeld ?_
        try simp only [Act.put, puts]
        refine tkS 21 hHeld ?_
        try simp only [Act.put, puts]
        refine tkT 22 ?v148 ?hy148 hHeld ?rest148
        case hy148 => (intro w' hSw; (try dsimp only at hSw); go_simp; (try with_reducible rfl))
        try simp only [Act.put, puts]
        refine wpAnyH_done (by kernel_rfl) ?_ _
        go_wp2_with fail
        go_roundw
        case rel => exact ⟨k + 1, by omega, by go_num, by rw [HY.out, HZ.out], HMM.out.drew⟩
        case measure => simp [intOf]; omega
    · obtain rfl : k = n := by omega
      go_wp2_with fail
      go_ret
      exact ⟨rfl, M.below⟩
end Go.Proofs.Ytbjhbbiahmhdeaa
