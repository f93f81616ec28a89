/-
  Sides; what is wrong with any grid; one with other numbers; two that are the same: the reference's.
-/
import Derived.Test.YtnfgogfbpggnfaaGridD
set_option linter.unusedVariables false
set_option linter.unusedSimpArgs false
namespace Go.Proofs.Ytnfgogfbpggnfaa
open Go Go.RowKit Go.Th Go.Th.Grid Go.Th.Wide

theorem rsides_any (W H S : Int) : PureG 39 #[.int .i64 W, .int .i64 H, .int .i64 S] (.bool (sidesG W H S)) := by
  intro w
  by_cases h1 : 1 ≤ W
  · by_cases h2 : W ≤ 64
    · by_cases h3 : 1 ≤ H
      · by_cases h4 : H ≤ 64
        · by_cases h5 : 16 ≤ S
          · by_cases h6 : S ≤ 4096
            · rw [sidesG_iff.2 ⟨⟨h1, h2⟩, ⟨h3, h4⟩, h5, h6⟩]
              go_enter Try.func39, Try.ntmps39
              go_wp2_with fail
              go_ret
              exact ⟨rfl, rfl⟩
            · rw [show sidesG W H S = false from Bool.eq_false_iff.2 fun h => h6 (sidesG_iff.1 h).2.2.2]
              go_enter Try.func39, Try.ntmps39
              go_wp2_with fail
              go_ret
              exact ⟨rfl, rfl⟩
          · rw [show sidesG W H S = false from Bool.eq_false_iff.2 fun h => h5 (sidesG_iff.1 h).2.2.1]
            go_enter Try.func39, Try.ntmps39
            go_wp2_with fail
            go_ret
            exact ⟨rfl, rfl⟩
        · rw [show sidesG W H S = false from Bool.eq_false_iff.2 fun h => h4 (sidesG_iff.1 h).2.1.2]
          go_enter Try.func39, Try.ntmps39
          go_wp2_with fail
          go_ret
          exact ⟨rfl, rfl⟩
      · rw [show sidesG W H S = false from Bool.eq_false_iff.2 fun h => h3 (sidesG_iff.1 h).2.1.1]
        go_enter Try.func39, Try.ntmps39
        go_wp2_with fail
        go_ret
        exact ⟨rfl, rfl⟩
    · rw [show sidesG W H S = false from Bool.eq_false_iff.2 fun h => h2 (sidesG_iff.1 h).1.2]
      go_enter Try.func39, Try.ntmps39
      go_wp2_with fail
      go_ret
      exact ⟨rfl, rfl⟩
  · rw [show sidesG W H S = false from Bool.eq_false_iff.2 fun h => h1 (sidesG_iff.1 h).1.1]
    go_enter Try.func39, Try.ntmps39
    go_wp2_with fail
    go_ret
    exact ⟨rfl, rfl⟩

set_option maxRecDepth 20000 in
theorem rwith_any (x y X Y s : Int) (a0 : Option Addr) (n0 cap0 : Nat) (a : Option Addr) (n cap : Nat) : Ans 44 #[gv x y X Y s (.slice a0 n0 cap0), .slice a n cap] (gv x y X Y s (.slice a n cap)) := by
  intro w
  obtain ⟨w1, hw1⟩ : ∃ w1, w.alloc (.cells #[.int .i64 x, .int .i64 y, .int .i64 X, .int .i64 Y, .int .i64 s, .slice a0 n0 cap0] 24) = w1 := ⟨_, rfl⟩
  have M1 := (Mem.start w).alloc 24 (gc x y X Y s (.slice a0 n0 cap0))
  rw [show w.alloc (.cells (gc x y X Y s (.slice a0 n0 cap0)).toArray 24) = w1 from hw1] at M1
  obtain ⟨w2, hw2⟩ : ∃ w2, w1.alloc (.cells #[.int .i64 0, .int .i64 0, .int .i64 0, .int .i64 0, .int .i64 0, .slice none 0 0] 24) = w2 := ⟨_, rfl⟩
  have M2 := M1.alloc 24 (gc 0 0 0 0 0 (.slice none 0 0))
  rw [show w1.alloc (.cells (gc 0 0 0 0 0 (.slice none 0 0)).toArray 24) = w2 from hw2] at M2
  have hsz : w1.heap.size = w.heap.size + 1 := by rw [← hw1]; simp
  have HW1 := Lib.hid hw1
  have HW2 := Lib.hid hw2
  clear hw1 hw2 M1
  go_enter Try.func44, Try.ntmps44
  ((go_upto_region 1 with fail); rw [HW1.out, HW2.out, ← hsz]; clear HW1 HW2; obtain ⟨gB, hgB⟩ : ∃ gB, gB = w1.heap.size := ⟨_, rfl⟩; obtain ⟨gA, hgA⟩ : ∃ gA, gA = w.heap.size := ⟨_, rfl⟩; rw [← hgB] at M2 ⊢; rw [← hgA] at M2 ⊢; have hne : gA ≠ gB := (by omega); clear hgA hgB hsz)
  obtain ⟨c0, c1, c2, c3, c4, c5⟩ := gcells (M2.has (.tail _ _ _ _ _ (Has.head _ _ _ _)))
  obtain ⟨d0, d1, d2, d3, d4, d5⟩ := gcells (M2.has (Has.head _ _ _ _))
  have K := M2.has (Has.head _ _ _ _)
  have f0 := K.free 0
  have f1 := K.free 1
  have f2 := K.free 2
  have f3 := K.free 3
  have f4 := K.free 4
  have f5 := K.free 5
  have M4 := (((((M2.set 0 (.int .i64 x) (Upd.head _ _ _ _ _) (by simp)).set 1 (.int .i64 y) (Upd.head _ _ _ _ _) (by simp)).set 2 (.int .i64 X) (Upd.head _ _ _ _ _) (by simp)).set 3 (.int .i64 Y) (Upd.head _ _ _ _ _) (by simp)).set 4 (.int .i64 s) (Upd.head _ _ _ _ _) (by simp)).set 5 (.slice a n cap) (Upd.head _ _ _ _ _) (by simp)
  go_wp2_with fail
  ((try simp only [Exit.inBlock, Exit.then]); refine bodyPost_ret (res_cell rfl M4 rfl (Has.head _ _ _ _) (rd_g _ _ _ _ _ _)) rfl ?_)
  exact ⟨rfl, M4.below⟩

set_option maxRecDepth 20000 in
set_option maxHeartbeats 3200000 in
theorem rsame_any (x y X Y s : Int) (a b : Option Addr) (n ca cb : Nat) (p : List Int) (hp : p.length = n) (hn : n ≤ 1000000) (w : World) (hA : Sl w 1 (.slice a n ca) n (i64s p)) (hB : Sl w 1 (.slice b n cb) n (i64s p)) :
    Calls Try.prog 13 #[gv x y X Y s (.slice a n ca), gv x y X Y s (.slice b n cb)] w fun e w' => e = .returned (.bool true) ∧ Below w.heap.size w w' := by
  have HA := Lib.hid hA
  have HB := Lib.hid hB
  have HP := Lib.hid hp
  have hm1 := hA.max
  have hm2 := hB.max
  have hnn : ((n : Int) != (n : Int)) = false := by simp
  have bx : (x != x) = false := by simp
  have b2 : (y != y) = false := by simp
  have b3 : (X != X) = false := by simp
  have b4 : (Y != Y) = false := by simp
  have b5 : (s != s) = false := by simp
  clear hA hB hp
  obtain ⟨w1, hw1⟩ : ∃ w1, w.alloc (.cells #[.int .i64 x, .int .i64 y, .int .i64 X, .int .i64 Y, .int .i64 s, .slice a n ca] 24) = w1 := ⟨_, rfl⟩
  have M1 := (Mem.start w).alloc 24 (gc x y X Y s (.slice a n ca))
  rw [show w.alloc (.cells (gc x y X Y s (.slice a n ca)).toArray 24) = w1 from hw1] at M1
  obtain ⟨w2, hw2⟩ : ∃ w2, w1.alloc (.cells #[.int .i64 x, .int .i64 y, .int .i64 X, .int .i64 Y, .int .i64 s, .slice b n cb] 24) = w2 := ⟨_, rfl⟩
  have M2 := M1.alloc 24 (gc x y X Y s (.slice b n cb))
  rw [show w1.alloc (.cells (gc x y X Y s (.slice b n cb)).toArray 24) = w2 from hw2] at M2
  have hsz : w1.heap.size = w.heap.size + 1 := by rw [← hw1]; simp
  have HW1 := Lib.hid hw1
  have HW2 := Lib.hid hw2
  clear hw1 hw2 M1
  go_enter Try.func13, Try.ntmps13
  ((go_upto_region 1 with fail); rw [HW1.out, HW2.out, ← hsz]; clear HW1 HW2; obtain ⟨gB, hgB⟩ : ∃ gB, gB = w1.heap.size := ⟨_, rfl⟩; obtain ⟨gA, hgA⟩ : ∃ gA, gA = w.heap.size := ⟨_, rfl⟩; rw [← hgB] at M2 ⊢; rw [← hgA] at M2 ⊢; have hne : gA ≠ gB := (by omega); clear hgA hgB hsz)
  obtain ⟨c0, c1, c2, c3, c4, c5⟩ := gcells (M2.has (.tail _ _ _ _ _ (Has.head _ _ _ _)))
  obtain ⟨d0, d1, d2, d3, d4, d5⟩ := gcells (M2.has (Has.head _ _ _ _))
  go_wp2_with fail
  go_loopw [5] (fun c wx => ∃ i : Nat, i ≤ n ∧ c = .int .i64 i ∧ Mem w wx [(gB, 24, gc x y X Y s (.slice b n cb)), (gA, 24, gc x y X Y s (.slice a n ca))]) (fun c _ => n - (intOf c).toNat)
  case atStart => exact ⟨0, Nat.zero_le _, rfl, M2⟩
  case round =>
    clear c0 c1 c2 c3 c4 c5 d0 d1 d2 d3 d4 d5 M2
    obtain ⟨i, hi, rfl, M⟩ := hrel
    have c5 := M.cell (.tail _ _ _ _ _ (Has.head _ _ _ _)) (i := 5) rfl
    have d5 := M.cell (Has.head _ _ _ _) (i := 5) rfl
    by_cases hlt : i < n
    · obtain ⟨b1, o1, rfl, _, e1⟩ := cell64 (HA.out.below M.below) i (by rw [HP.out]; exact hlt)
      obtain ⟨b2', o2, rfl, _, e2⟩ := cell64 (HB.out.below M.below) i (by rw [HP.out]; exact hlt)
      obtain ⟨u, hu⟩ : ∃ u, u = p.getD i 0 := ⟨_, rfl⟩
      rw [← hu] at e1 e2
      have buu : (u != u) = false := by simp
      clear hu
      go_wp2_with fail
      go_quiet (fail)
      go_wp2_with fail
      go_roundw
      case rel => exact ⟨i + 1, by omega, by go_num, M.drewN _⟩
      case measure => simp [intOf]; omega
    · obtain rfl : n = i := by omega
      go_wp2_with fail
      go_ret
      exact ⟨rfl, M.below⟩

set_option maxRecDepth 20000 in
set_option maxHeartbeats 3200000 in
theorem rcheck_any (x y X Y s : Int) (a : Option Addr) (n cap : Nat) (p : List Int) (hp : p.length = n) (hn : n ≤ 1000000) (w : World) (hS : Sl w 1 (.slice a n cap) n (i64s p)) :
    Calls Try.prog 10 #[gv x y X Y s (.slice a n cap)] w fun e w' => e = .returned (.int .i64 (chk x y s p)) ∧ Below w.heap.size w w' := by
  have C1 := rsides_any x y s
  have hR : chk x y s p = if sidesG x y s = false then 2 else if (n : Int) ≠ x * y then 5 else if allIn p 1073741824 = false then 1 else if 1073741824 - (n : Int) ≤ sm p ∧ sm p ≤ 1073741824 then 0 else 11 := by
    unfold chk
    rw [hp]
  obtain ⟨R, hRR⟩ : ∃ R, R = chk x y s p := ⟨_, rfl⟩
  rw [← hRR] at hR ⊢
  have HS := Lib.hid hS
  have hmx := hS.max
  clear hRR hS
  (obtain ⟨w1, hw1⟩ : ∃ w1, w.alloc (.cells #[.int .i64 x, .int .i64 y, .int .i64 X, .int .i64 Y, .int .i64 s, .slice a n cap] 24) = w1 := ⟨_, rfl⟩; have M1 := (Mem.start w).alloc 24 (gc x y X Y s (.slice a n cap)); rw [show w.alloc (.cells (gc x y X Y s (.slice a n cap)).toArray 24) = w1 from hw1] at M1; have HW1 := Lib.hid hw1; clear hw1)
  go_enter Try.func10, Try.ntmps10
  ((go_upto_region 1 with fail); rw [HW1.out]; clear HW1; obtain ⟨gA, hgA⟩ : ∃ gA, gA = w.heap.size := ⟨_, rfl⟩; rw [← hgA] at M1 ⊢; clear hgA)
  obtain ⟨c0, c1, c2, c3, c4, c5⟩ := gcells (M1.has (Has.head _ _ _ _))
  cases hsd : sidesG x y s
  · rw [hsd] at C1
    rw [if_pos hsd] at hR
    have C1 := Lib.hid C1
    have HR := Lib.hid hR
    clear hR hsd hp
    go_wp2_with fail
    refine (C1.out _).mono ?_
    rintro e wx ⟨rfl, rfl⟩
    go_wp2_with fail
    go_ret
    exact ⟨ret_int HR.out.symm, M1.below⟩
  rw [hsd] at C1
  rw [if_neg (by rw [hsd]; simp)] at hR
  obtain ⟨⟨q1, q2⟩, ⟨q3, q4⟩, q5⟩ := sidesG_iff.1 hsd
  obtain ⟨i, hi⟩ := Int.eq_ofNat_of_zero_le (by omega : 0 ≤ x)
  obtain ⟨j, hj⟩ := Int.eq_ofNat_of_zero_le (by omega : 0 ≤ y)
  have hle : i * j ≤ 64 * 64 := Nat.mul_le_mul (by omega) (by omega)
  obtain ⟨m, hm⟩ : ∃ m, m = i * j := ⟨_, rfl⟩
  have hmul : x * y = (m : Int) := by rw [hi, hj, hm]; simp
  rw [← hm] at hle
  rw [hmul] at hR
  have wm : IntKind.i64.wrap (m : Int) = (m : Int) := IntWalk.i64_in _ (by omega)
  have C1 := Lib.hid C1
  have HP := Lib.hid hp
  clear hm hsd hi hj hp
  by_cases hnm : n = m
  · subst hnm
    have HR := Lib.hid (hR.trans (if_neg (by simp)))
    have hq : ((n : Int) != (n : Int)) = false := by simp
    clear hR
    go_wp2_with fail
    refine (C1.out _).mono ?_
    rintro e wx ⟨rfl, rfl⟩
    clear C1
    go_wp2_with fail
    go_loopw [3] (fun c wx => ∃ k : Nat, k ≤ n ∧ c = .int .i64 k ∧ Hid (∀ j, j < k → 0 ≤ p.getD j 0 ∧ p.getD j 0 ≤ 1073741824) ∧ wx = w1) (fun c _ => n - (intOf c).toNat)
    case atStart => exact ⟨0, Nat.zero_le _, rfl, Lib.hid (fun j hj => by omega), rfl⟩
    case round =>
      obtain ⟨k, hk, rfl, hall, rfl⟩ := hrel
      by_cases hlt : k < n
      · obtain ⟨b, o, rfl, _, hcu⟩ := cell64 (HS.out.below M1.below) k (by rw [HP.out]; exact hlt)
        have hno : ¬ (0 ≤ p.getD k 0 ∧ p.getD k 0 ≤ 1073741824) → R = 1 := by
          intro h
          refine HR.out.trans (if_pos ?_)
          cases ha : allIn p 1073741824
          · rfl
          · exact absurd (getD_mem (P := fun u => 0 ≤ u ∧ u ≤ 1073741824) (allIn_iff.1 ha) (by rw [HP.out]; exact hlt)) h
        have hnx : (0 ≤ p.getD k 0 ∧ p.getD k 0 ≤ 1073741824) → ∀ j, j < k + 1 → 0 ≤ p.getD j 0 ∧ p.getD j 0 ≤ 1073741824 := by
          intro h j hj
          by_cases hjk : j < k
          · exact hall.out j hjk
          · obtain rfl : j = k := by omega
            exact h
        have HNX := Lib.hid hnx
        have HNO := Lib.hid hno
        obtain ⟨u, hu⟩ : ∃ u, u = p.getD k 0 := ⟨_, rfl⟩
        rw [← hu] at hcu HNX HNO
        clear hu hno hnx
        by_cases h1 : u < 0
        · have hr := HNO.out (by omega)
          have HR1 := Lib.hid hr
          clear hr
          go_wp2_with fail
          go_ret
          exact ⟨ret_int HR1.out.symm, M1.below⟩
        · by_cases h2 : 1073741824 < u
          · have hr := HNO.out (by omega)
            have HR1 := Lib.hid hr
            clear hr
            go_wp2_with fail
            go_ret
            exact ⟨ret_int HR1.out.symm, M1.below⟩
          · have hx := Lib.hid (HNX.out ⟨by omega, by omega⟩)
            go_wp2_with fail
            go_roundw
            case rel => exact ⟨k + 1, by omega, by go_num, hx, by first | rfl | trivial⟩
            case measure => simp [intOf]; omega
      · obtain rfl : n = k := by omega
        have hyes : allIn p 1073741824 = true := by
          refine allIn_iff.2 (fun u hu => ?_)
          obtain ⟨j, hj, rfl⟩ := List.mem_iff_getElem.1 hu
          have := hall.out j (by rw [← HP.out]; exact hj)
          rw [getD_at _ _ hj] at this
          exact this
        have hal := allIn_iff.1 hyes
        have hsr := sm_rng hal
        rw [HP.out] at hsr
        have CS := Lib.hid (refSumG_any a n cap p HP.out (sm_fits (fun u hu => (hal u hu).1) (by omega)) wr (HS.out.below M1.below))
        have HR2 := HR.out.trans (if_neg (by rw [hyes]; simp))
        obtain ⟨T, hT⟩ : ∃ T, T = sm p := ⟨_, rfl⟩
        rw [← hT] at CS hsr HR2
        have HR2 := Lib.hid HR2
        have wT : IntKind.i64.wrap (T + (n : Int)) = T + (n : Int) := IntWalk.i64_in _ (by omega)
        clear hyes hal hT HR hall
        go_wp2_with fail
        refine CS.out.mono ?_
        rintro e wx ⟨rfl, rfl⟩
        clear CS
        by_cases h1 : 1073741824 < T
        · have HR3 := Lib.hid (HR2.out.trans (if_neg (by omega)))
          go_wp2_with fail
          go_ret
          exact ⟨ret_int HR3.out.symm, M1.below⟩
        · by_cases h2 : T + (n : Int) < 1073741824
          · have HR3 := Lib.hid (HR2.out.trans (if_neg (by omega)))
            go_wp2_with fail
            go_ret
            exact ⟨ret_int HR3.out.symm, M1.below⟩
          · have HR3 := Lib.hid (HR2.out.trans (if_pos (by omega)))
            go_wp2_with fail
            go_ret
            exact ⟨ret_int HR3.out.symm, M1.below⟩
  · have HR := Lib.hid (hR.trans (if_pos (by omega)))
    have hq : ((n : Int) != (m : Int)) = true := by simp; omega
    clear hR
    go_wp2_with fail
    refine (C1.out _).mono ?_
    rintro e wx ⟨rfl, rfl⟩
    go_wp2_with fail
    go_ret
    exact ⟨ret_int HR.out.symm, M1.below⟩
end Go.Proofs.Ytnfgogfbpggnfaa
