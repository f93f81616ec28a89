/-
  The law's example.
-/
import Derived.Test.YtanblpfpkohghaaDoorPackExcB
import Derived.Test.YtanblpfpkohghaaDoorPackExactB
set_option linter.unusedVariables false
set_option linter.unusedSimpArgs false
namespace Go.Proofs.YtanblpfpkohghaaDoor
open Go Go.RowKit Go.Shelf Go.Th Go.Th.Dig Go.Th.Ex Go.Th.Grid

theorem wpAnyH_at {P : Program} {md : Region.Mode} {ops : Array Oper} {Q : Exit → Act → World → Prop} {S : World → Prop} {fuel : Nat} {l l' : Array Bool} {a : Act} {w : World} (h : l = l') (H : wpAnyH P md ops Q S fuel l a w) : wpAnyH P md ops Q S fuel l' a w := h ▸ H
theorem lt_list {k : Nat} {l : List Nat} (h : (l.all fun x => decide (x < 2 ^ k)) = true) : Lt k l := by
  intro i
  rw [List.getD_eq_getElem?_getD]
  cases hq : l[i]? with
  | none => exact Nat.pow_pos (by decide)
  | some x => exact of_decide_eq_true (List.all_eq_true.1 h x (List.mem_of_getElem? hq))
theorem all_prop {fs li : List Nat} {n : Nat} (h1 : fs.length = n) (h2 : li.length = n) (h : ((List.range n).all fun i => decide (fs.getD i 0 * li.sum = li.getD i 0 * fs.sum)) = true) : ∀ i, fs.getD i 0 * li.sum = li.getD i 0 * fs.sum := by
  intro i
  by_cases hi : i < n
  · exact of_decide_eq_true (List.all_eq_true.1 h i (List.mem_range.2 hi))
  · rw [List.getD_eq_getElem?_getD, List.getD_eq_getElem?_getD, List.getElem?_eq_none (by omega), List.getElem?_eq_none (by omega)]
    simp
abbrev XAns (f : Nat) (args : Array Value) (x y : Int) (n : Nat) (us : List Nat) (w : World) : Prop := Calls Tryd.prog f args w fun e w' => ∃ a c, e = .returned (fv x y (.slice a n c)) ∧ IsV w' a n c us ∧ Below w.heap.size w w'
theorem ResX.lit {x y x' y' : Int} {us vs : List Nat} {n : Nat} {w w' : World} {e : Ending} (h : ResX x y us w e w') (hu : us = vs) (hn : vs.length = n) (hx : x = x') (hy : y = y') : ∃ a c, e = .returned (fv x' y' (.slice a n c)) ∧ IsV w' a n c vs ∧ Below w.heap.size w w' := by
  subst hu hx hy hn
  exact h
theorem x_from (a : Option Addr) (c : Nat) (w : World) (hS : Sl w 1 (.slice a 2 c) 2 (i64s [536870912, 536870912])) : XAns 9 #[gv 2 1 0 0 64 (.slice a 2 c)] 2 1 2 [536870912, 536870912] w := by
  have h := from_any17 2 1 0 0 64 a 2 c [536870912, 536870912] [536870912, 536870912] rfl rfl (fun i hi => match i, hi with | 0, _ => rfl | 1, _ => rfl | i + 2, h => absurd h (by omega)) (lt_list (by decide +kernel)) (by omega) w hS
  exact h.mono fun _ _ r => r.lit rfl rfl rfl rfl
theorem x_weigh (a : Option Addr) (c : Nat) (w : World) (hV : IsV w a 2 c [536870912, 536870912]) (al : Option Addr) (cl : Nat) (hS : Sl w 1 (.slice al 2 cl) 2 (i64s [3, 1])) : XAns 15 #[fv 2 1 (.slice a 2 c), .slice al 2 cl] 2 1 2 [1610612736, 536870912] w := by
  have h := weigh_any17 2 1 a al 2 c cl 64 [536870912, 536870912] [3, 1] (lt_list (by decide +kernel)) (by omega) (lt_list (by decide +kernel)) rfl (by omega) w hV hS
  exact h.mono fun _ _ r => r.lit (by decide +kernel) rfl rfl rfl
theorem x_cut (a : Option Addr) (c : Nat) (w : World) (hV : IsV w a 2 c [1610612736, 536870912]) : XAns 17 #[fv 2 1 (.slice a 2 c), .int .i64 1, .int .i64 0, .int .i64 1, .int .i64 2] 1 2 2 [536870912, 0] w := by
  have h := cut_any17 2 1 1 2 2 1 0 a c [1610612736, 536870912] rfl (by omega) (by omega) (by omega) (by omega) (by omega) (by omega) w hV
  exact h.mono fun _ _ r => r.lit (by decide +kernel) rfl rfl rfl
theorem x_split (a : Option Addr) (c : Nat) (w : World) (hV : IsV w a 2 c [536870912, 536870912]) : XAns 18 #[fv 2 1 (.slice a 2 c)] 4 2 8 [536870912, 536870912, 536870912, 536870912, 536870912, 536870912, 536870912, 536870912] w := by
  have h := split_any17 2 1 2 4 2 a c [536870912, 536870912] rfl (by omega) (by omega) rfl rfl w hV
  exact h.mono fun _ _ r => r.lit (by decide +kernel) rfl rfl rfl
theorem x_join (a : Option Addr) (c : Nat) (w : World) (hV : IsV w a 8 c [536870912, 536870912, 536870912, 536870912, 536870912, 536870912, 536870912, 536870912]) : XAns 19 #[fv 4 2 (.slice a 8 c)] 2 1 2 [2147483648, 2147483648] w := by
  have h := join_any17 4 2 2 1 8 64 a c [536870912, 536870912, 536870912, 536870912, 536870912, 536870912, 536870912, 536870912] rfl rfl rfl (by omega) (by omega) (lt_list (by decide +kernel)) (by omega) w hV
  exact h.mono fun _ _ r => r.lit (by decide +kernel) rfl rfl rfl
theorem x_spread (a : Option Addr) (c : Nat) (w : World) (hV : IsV w a 2 c [1610612736, 536870912]) : XAns 20 #[fv 2 1 (.slice a 2 c), .int .u64 64] 2 1 2 [87960930222080, 52776558133248] w := by
  have h := spread_any17 2 1 2 64 64 a c [1610612736, 536870912] rfl (by omega) (by omega) (by omega) (lt_list (by decide +kernel)) (by omega) w hV
  exact h.mono fun _ _ r => r.lit (by decide +kernel) rfl rfl rfl
theorem x_lean (a : Option Addr) (c : Nat) (w : World) (hV : IsV w a 2 c [1610612736, 536870912]) (CD : Dbt w) : XAns 21 #[fv 2 1 (.slice a 2 c)] 2 1 2 [3, 1] w := by
  have h := lean_any17 2 1 a 2 c [1610612736, 536870912] (by omega) (by omega) (fun j hj => match j, hj with | 0, _ => .inr rfl | 1, _ => .inl rfl | j + 2, h => absurd h (by omega)) w hV CD
  exact h.mono fun _ _ r => r.lit (by decide +kernel) rfl rfl rfl
theorem x_over1 (a a2 : Option Addr) (c c2 : Nat) (w : World) (hS : Sl w 1 (.slice a 2 c) 2 (i64s [536870912, 536870912])) (hV : IsV w a2 2 c2 [536870912, 536870912]) : Calls Tryd.prog 13 #[gv 2 1 0 0 64 (.slice a 2 c), fv 2 1 (.slice a2 2 c2), .int .i64 0] w fun e w' => e = .returned (.bool false) ∧ Below w.heap.size w w' := by
  have h := over_any17 2 1 0 0 64 2 1 0 a a2 2 c c2 64 [536870912, 536870912] [536870912, 536870912] [536870912, 536870912] rfl rfl (fun i hi => match i, hi with | 0, _ => rfl | 1, _ => rfl | i + 2, h => absurd h (by omega)) (lt_list (by decide +kernel)) (lt_list (by decide +kernel)) (by omega) (by omega) (by decide) w hS hV
  rw [show overN [536870912, 536870912] [536870912, 536870912] 0 = false by decide +kernel] at h
  exact h
theorem x_over2 (a a2 : Option Addr) (c c2 : Nat) (w : World) (hS : Sl w 1 (.slice a 2 c) 2 (i64s [536870912, 536870912])) (hV : IsV w a2 2 c2 [1610612736, 536870912]) : Calls Tryd.prog 13 #[gv 2 1 0 0 64 (.slice a 2 c), fv 2 1 (.slice a2 2 c2), .int .i64 274877906943] w fun e w' => e = .returned (.bool true) ∧ Below w.heap.size w w' := by
  have h := over_any17 2 1 0 0 64 2 1 274877906943 a a2 2 c c2 64 [536870912, 536870912] [536870912, 536870912] [1610612736, 536870912] rfl rfl (fun i hi => match i, hi with | 0, _ => rfl | 1, _ => rfl | i + 2, h => absurd h (by omega)) (lt_list (by decide +kernel)) (lt_list (by decide +kernel)) (by omega) (by omega) (by decide) w hS hV
  rw [show overN [536870912, 536870912] [1610612736, 536870912] 274877906943 = true by decide +kernel] at h
  exact h
theorem x_over3 (a a2 : Option Addr) (c c2 : Nat) (w : World) (hS : Sl w 1 (.slice a 2 c) 2 (i64s [536870912, 536870912])) (hV : IsV w a2 2 c2 [1610612736, 536870912]) : Calls Tryd.prog 13 #[gv 2 1 0 0 64 (.slice a 2 c), fv 2 1 (.slice a2 2 c2), .int .i64 274877906944] w fun e w' => e = .returned (.bool false) ∧ Below w.heap.size w w' := by
  have h := over_any17 2 1 0 0 64 2 1 274877906944 a a2 2 c c2 64 [536870912, 536870912] [536870912, 536870912] [1610612736, 536870912] rfl rfl (fun i hi => match i, hi with | 0, _ => rfl | 1, _ => rfl | i + 2, h => absurd h (by omega)) (lt_list (by decide +kernel)) (lt_list (by decide +kernel)) (by omega) (by omega) (by decide) w hS hV
  rw [show overN [536870912, 536870912] [1610612736, 536870912] 274877906944 = false by decide +kernel] at h
  exact h
theorem x_has1 (a b : Option Addr) (ca cb : Nat) (w : World) (hV : IsV w a 2 ca [1610612736, 536870912]) (hS : Sl w 1 (.slice b 2 cb) 2 (digs [3, 1])) : Calls Tryd.prog 16 #[fv 2 1 (.slice a 2 ca), .int .i64 2, .slice b 2 cb] w fun e w' => e = .returned (.int .i64 1) ∧ Below w.heap.size w w' := by
  have h := has17_any 2 1 a b 2 ca cb 64 [1610612736, 536870912] [3, 1] (lt_list (by decide +kernel)) (by omega) (by omega) (by omega) (by omega) rfl (by decide) rfl (all_prop (n := 2) rfl rfl (by decide +kernel)) (by decide +kernel) w hV hS
  exact h
theorem x_has2 (a b : Option Addr) (ca cb : Nat) (w : World) (hV : IsV w a 2 ca [536870912, 0]) (hS : Sl w 1 (.slice b 2 cb) 2 (digs [1, 0])) : Calls Tryd.prog 16 #[fv 1 2 (.slice a 2 ca), .int .i64 1, .slice b 2 cb] w fun e w' => e = .returned (.int .i64 1) ∧ Below w.heap.size w w' := by
  have h := has17_any 1 2 a b 2 ca cb 64 [536870912, 0] [1, 0] (lt_list (by decide +kernel)) (by omega) (by omega) (by omega) (by omega) rfl (by decide) rfl (all_prop (n := 2) rfl rfl (by decide +kernel)) (by decide +kernel) w hV hS
  exact h
theorem x_has3 (a b : Option Addr) (ca cb : Nat) (w : World) (hV : IsV w a 8 ca [536870912, 536870912, 536870912, 536870912, 536870912, 536870912, 536870912, 536870912]) (hS : Sl w 1 (.slice b 8 cb) 8 (digs [1, 1, 1, 1, 1, 1, 1, 1])) : Calls Tryd.prog 16 #[fv 4 2 (.slice a 8 ca), .int .i64 4, .slice b 8 cb] w fun e w' => e = .returned (.int .i64 1) ∧ Below w.heap.size w w' := by
  have h := has17_any 4 2 a b 8 ca cb 64 [536870912, 536870912, 536870912, 536870912, 536870912, 536870912, 536870912, 536870912] [1, 1, 1, 1, 1, 1, 1, 1] (lt_list (by decide +kernel)) (by omega) (by omega) (by omega) (by omega) rfl (by decide) rfl (all_prop (n := 8) rfl rfl (by decide +kernel)) (by decide +kernel) w hV hS
  exact h
theorem x_has4 (a b : Option Addr) (ca cb : Nat) (w : World) (hV : IsV w a 2 ca [2147483648, 2147483648]) (hS : Sl w 1 (.slice b 2 cb) 2 (digs [1, 1])) : Calls Tryd.prog 16 #[fv 2 1 (.slice a 2 ca), .int .i64 2, .slice b 2 cb] w fun e w' => e = .returned (.int .i64 1) ∧ Below w.heap.size w w' := by
  have h := has17_any 2 1 a b 2 ca cb 64 [2147483648, 2147483648] [1, 1] (lt_list (by decide +kernel)) (by omega) (by omega) (by omega) (by omega) rfl (by decide) rfl (all_prop (n := 2) rfl rfl (by decide +kernel)) (by decide +kernel) w hV hS
  exact h
theorem x_has5 (a b : Option Addr) (ca cb : Nat) (w : World) (hV : IsV w a 2 ca [87960930222080, 52776558133248]) (hS : Sl w 1 (.slice b 2 cb) 2 (digs [5, 3])) : Calls Tryd.prog 16 #[fv 2 1 (.slice a 2 ca), .int .i64 2, .slice b 2 cb] w fun e w' => e = .returned (.int .i64 1) ∧ Below w.heap.size w w' := by
  have h := has17_any 2 1 a b 2 ca cb 64 [87960930222080, 52776558133248] [5, 3] (lt_list (by decide +kernel)) (by omega) (by omega) (by omega) (by omega) rfl (by decide) rfl (all_prop (n := 2) rfl rfl (by decide +kernel)) (by decide +kernel) w hV hS
  exact h
theorem x_has6 (a b : Option Addr) (ca cb : Nat) (w : World) (hV : IsV w a 2 ca [3, 1]) (hS : Sl w 1 (.slice b 2 cb) 2 (digs [3, 1])) : Calls Tryd.prog 16 #[fv 2 1 (.slice a 2 ca), .int .i64 2, .slice b 2 cb] w fun e w' => e = .returned (.int .i64 1) ∧ Below w.heap.size w w' := by
  have h := has17_any 2 1 a b 2 ca cb 64 [3, 1] [3, 1] (lt_list (by decide +kernel)) (by omega) (by omega) (by omega) (by omega) rfl (by decide) rfl (all_prop (n := 2) rfl rfl (by decide +kernel)) (by decide +kernel) w hV hS
  exact h
theorem x_len2 : len32 1073741824 ≤ 1000 := Nat.le_trans (d32 (k := 31) (m := 250) (by decide) (by omega)) (by omega)
theorem x_sum (a : Option Addr) (c : Nat) (w : World) (hV : IsV w a 2 c [536870912, 536870912]) : AnsV17 23 #[fv 2 1 (.slice a 2 c)] w 1073741824 := by
  have h := fsum_any 2 1 a 2 c [536870912, 536870912] (by omega) (fun k => Nat.le_trans (d32 (k := 64) (m := 250) (lt_list (l := [536870912, 536870912]) (by decide +kernel) k) (by omega)) (by omega)) w hV
  exact h
theorem x_sumU (a : Option Addr) (c : Nat) (w : World) (hV : IsV w a 2 c [536870912, 536870912]) : AnsV17 24 #[.slice a 2 c] w 1073741824 := by
  obtain ⟨cs, hN⟩ := hV.nats
  have h := sum_any a 2 c cs [536870912, 536870912] w hN (by omega) (fun k => Nat.le_trans (d32 (k := 64) (m := 250) (lt_list (l := [536870912, 536870912]) (by decide +kernel) k) (by omega)) (by omega))
  exact h
theorem x_cmp (v u : Value) (w : World) (hp : IsN w v 1073741824) (hq : IsN w u 1073741824) : Calls Tryd.prog 22 #[v, u] w fun e w' => e = .returned (.int .i64 0) ∧ Below w.heap.size w w' := by
  have h := cmp_any v u 1073741824 1073741824 w hp hq (Nat.le_trans x_len2 (by omega)) (Nat.le_trans x_len2 (by omega))
  rw [show cmpN 1073741824 1073741824 = 0 by unfold cmpN; simp] at h
  exact h

set_option maxRecDepth 100000 in
set_option maxHeartbeats 64000000 in
theorem works_any17 (w : World) (CD : Dbt w) : Calls Tryd.prog 7 #[] w fun e w' => e = .returned (.bool true) ∧ Below w.heap.size w w' := by
  have M0 := Mem.start w
  have HD := Lib.hid CD
  clear CD
  go_enter Tryd.func7, Tryd.ntmps7
  obtain ⟨v1, hw1⟩ : ∃ wq, w.alloc (.cells #[.int .i64 536870912, .int .i64 536870912] 2) = wq := ⟨_, rfl⟩
  have M1 := M0.alloc 2 [.int .i64 536870912, .int .i64 536870912]
  rw [show w.alloc (.cells [.int .i64 536870912, .int .i64 536870912].toArray 2) = v1 from hw1] at M1
  have hA : Below w.heap.size w v1 := by rw [← hw1]; exact (Below.refl _ _).alloc (Nat.le_refl _) _
  replace HD := Lib.hid (HD.out.below hA)
  have HW1 := Lib.hid hw1
  clear hw1 hA M0
  obtain ⟨v2, hw2⟩ : ∃ wq, v1.alloc (.cells #[.int .i64 2, .int .i64 1, .int .i64 0, .int .i64 0, .int .i64 64, .slice (some ⟨w.heap.size, 0, none⟩) 2 2] 28) = wq := ⟨_, rfl⟩
  have M2 := M1.alloc 28 [.int .i64 2, .int .i64 1, .int .i64 0, .int .i64 0, .int .i64 64, .slice (some ⟨w.heap.size, 0, none⟩) 2 2]
  rw [show v1.alloc (.cells [.int .i64 2, .int .i64 1, .int .i64 0, .int .i64 0, .int .i64 64, .slice (some ⟨w.heap.size, 0, none⟩) 2 2].toArray 28) = v2 from hw2] at M2
  have hA : Below v1.heap.size v1 v2 := by rw [← hw2]; exact (Below.refl _ _).alloc (Nat.le_refl _) _
  replace HD := Lib.hid (HD.out.below hA)
  have HW2 := Lib.hid hw2
  clear hw2 hA M1
  go_upto_region 2 with fail
  rw [HW1.out, HW2.out, show w.heap.size + 1 = v1.heap.size by rw [← HW1.out]; simp]
  clear HW1 HW2
  obtain ⟨gG, hg⟩ : ∃ g9, g9 = v1.heap.size := ⟨_, rfl⟩
  rw [← hg] at M2 ⊢
  clear hg
  obtain ⟨gI, hg⟩ : ∃ g9, g9 = w.heap.size := ⟨_, rfl⟩
  rw [← hg] at M2 ⊢
  clear hg
  have RI := Lib.hid (sl_blk (M2.has (.tail _ _ _ _ _ (Has.head _ _ _ _))) (show _ = 2 from rfl) (by omega))
  have c_gG_0 := M2.cell (Has.head _ _ _ _) (i := 0) rfl
  have c_gG_1 := M2.cell (Has.head _ _ _ _) (i := 1) rfl
  have c_gG_2 := M2.cell (Has.head _ _ _ _) (i := 2) rfl
  have c_gG_3 := M2.cell (Has.head _ _ _ _) (i := 3) rfl
  have c_gG_4 := M2.cell (Has.head _ _ _ _) (i := 4) rfl
  have c_gG_5 := M2.cell (Has.head _ _ _ _) (i := 5) rfl
  go_wp2_with fail
  refine (x_from _ _ _ RI.out).mono ?_
  rintro e v3 ⟨af, cf, rfl, hV, hA⟩
  have M3 := M2.call hA
  clear c_gG_0 c_gG_1 c_gG_2 c_gG_3 c_gG_4 c_gG_5
  replace HD := Lib.hid (HD.out.below hA)
  replace RI := Lib.hid (RI.out.below hA)
  clear M2
  have Vf := Lib.hid hV
  clear hV
  clear hA
  obtain ⟨v4, hw4⟩ : ∃ wq, v3.alloc (.cells #[.int .i64 2, .int .i64 1, .slice af 2 cf] 32) = wq := ⟨_, rfl⟩
  have M4 := M3.alloc 32 [.int .i64 2, .int .i64 1, .slice af 2 cf]
  rw [show v3.alloc (.cells [.int .i64 2, .int .i64 1, .slice af 2 cf].toArray 32) = v4 from hw4] at M4
  have hA : Below v3.heap.size v3 v4 := by rw [← hw4]; exact (Below.refl _ _).alloc (Nat.le_refl _) _
  replace HD := Lib.hid (HD.out.below hA)
  replace RI := Lib.hid (RI.out.below hA)
  replace Vf := Lib.hid (Vf.out.below hA)
  have HW4 := Lib.hid hw4
  clear hw4 hA M3
  go_upto_region 3 with fail
  rw [HW4.out]
  clear HW4
  obtain ⟨gf, hg⟩ : ∃ g9, g9 = v3.heap.size := ⟨_, rfl⟩
  rw [← hg] at M4 ⊢
  clear hg
  have c_gf_0 := M4.cell (Has.head _ _ _ _) (i := 0) rfl
  have c_gf_1 := M4.cell (Has.head _ _ _ _) (i := 1) rfl
  have c_gf_2 := M4.cell (Has.head _ _ _ _) (i := 2) rfl
  go_upto_region 5 with fail
  obtain ⟨v5, hw5⟩ : ∃ wq, v4.alloc (.cells #[.int .i64 3, .int .i64 1] 2) = wq := ⟨_, rfl⟩
  have M5 := M4.alloc 2 [.int .i64 3, .int .i64 1]
  rw [show v4.alloc (.cells [.int .i64 3, .int .i64 1].toArray 2) = v5 from hw5] at M5
  have hA : Below v4.heap.size v4 v5 := by rw [← hw5]; exact (Below.refl _ _).alloc (Nat.le_refl _) _
  replace HD := Lib.hid (HD.out.below hA)
  replace RI := Lib.hid (RI.out.below hA)
  replace Vf := Lib.hid (Vf.out.below hA)
  have HW5 := Lib.hid hw5
  clear hw5 hA M4
  go_wp2_with fail
  rw [HW5.out]
  clear HW5
  obtain ⟨gL, hg⟩ : ∃ g9, g9 = v4.heap.size := ⟨_, rfl⟩
  rw [← hg] at M5 ⊢
  clear hg
  refine (x_weigh _ _ _ Vf.out _ _ (sl_blk (M5.has (Has.head _ _ _ _)) (show _ = 2 from rfl) (by omega))).mono ?_
  rintro e v6 ⟨aa, ca, rfl, hV, hA⟩
  have M6 := M5.call hA
  clear c_gf_0 c_gf_1 c_gf_2
  replace HD := Lib.hid (HD.out.below hA)
  replace RI := Lib.hid (RI.out.below hA)
  replace Vf := Lib.hid (Vf.out.below hA)
  clear M5
  have Va := Lib.hid hV
  clear hV
  clear hA
  obtain ⟨v7, hw7⟩ : ∃ wq, v6.alloc (.cells #[.int .i64 2, .int .i64 1, .slice aa 2 ca] 32) = wq := ⟨_, rfl⟩
  have M7 := M6.alloc 32 [.int .i64 2, .int .i64 1, .slice aa 2 ca]
  rw [show v6.alloc (.cells [.int .i64 2, .int .i64 1, .slice aa 2 ca].toArray 32) = v7 from hw7] at M7
  have hA : Below v6.heap.size v6 v7 := by rw [← hw7]; exact (Below.refl _ _).alloc (Nat.le_refl _) _
  replace HD := Lib.hid (HD.out.below hA)
  replace RI := Lib.hid (RI.out.below hA)
  replace Vf := Lib.hid (Vf.out.below hA)
  replace Va := Lib.hid (Va.out.below hA)
  have HW7 := Lib.hid hw7
  clear hw7 hA M6
  go_upto_region 6 with fail
  rw [HW7.out]
  clear HW7
  obtain ⟨ga, hg⟩ : ∃ g9, g9 = v6.heap.size := ⟨_, rfl⟩
  rw [← hg] at M7 ⊢
  clear hg
  have c_ga_0 := M7.cell (Has.head _ _ _ _) (i := 0) rfl
  have c_ga_1 := M7.cell (Has.head _ _ _ _) (i := 1) rfl
  have c_ga_2 := M7.cell (Has.head _ _ _ _) (i := 2) rfl
  obtain ⟨v8, hw8⟩ : ∃ wq, v7.alloc (.cells #[.int .i64 3, .int .i64 1] 3) = wq := ⟨_, rfl⟩
  have M8 := M7.alloc 3 [.int .i64 3, .int .i64 1]
  rw [show v7.alloc (.cells [.int .i64 3, .int .i64 1].toArray 3) = v8 from hw8] at M8
  have hA : Below v7.heap.size v7 v8 := by rw [← hw8]; exact (Below.refl _ _).alloc (Nat.le_refl _) _
  replace HD := Lib.hid (HD.out.below hA)
  replace RI := Lib.hid (RI.out.below hA)
  replace Vf := Lib.hid (Vf.out.below hA)
  replace Va := Lib.hid (Va.out.below hA)
  have HW8 := Lib.hid hw8
  clear hw8 hA M7
  go_wp2_with fail
  rw [HW8.out]
  clear HW8
  obtain ⟨gH, hg⟩ : ∃ g9, g9 = v7.heap.size := ⟨_, rfl⟩
  rw [← hg] at M8 ⊢
  clear hg
  refine (x_has1 _ _ _ _ _ Va.out (sl_blk (cs := digs [3, 1]) (M8.has (Has.head _ _ _ _)) (show _ = 2 from rfl) (by omega))).mono ?_
  rintro e v9 ⟨rfl, hA⟩
  have M9 := M8.call hA
  clear c_ga_0 c_ga_1 c_ga_2
  replace HD := Lib.hid (HD.out.below hA)
  replace RI := Lib.hid (RI.out.below hA)
  replace Vf := Lib.hid (Vf.out.below hA)
  replace Va := Lib.hid (Va.out.below hA)
  clear M8
  clear hA
  have c_ga_0 := M9.cell (.tail _ _ _ _ _ (Has.head _ _ _ _)) (i := 0) rfl
  have c_ga_1 := M9.cell (.tail _ _ _ _ _ (Has.head _ _ _ _)) (i := 1) rfl
  have c_ga_2 := M9.cell (.tail _ _ _ _ _ (Has.head _ _ _ _)) (i := 2) rfl
  go_wp2_with fail
  refine (x_cut _ _ _ Va.out).mono ?_
  rintro e v10 ⟨ac, cc, rfl, hV, hA⟩
  have M10 := M9.call hA
  clear c_ga_0 c_ga_1 c_ga_2
  replace HD := Lib.hid (HD.out.below hA)
  replace RI := Lib.hid (RI.out.below hA)
  replace Vf := Lib.hid (Vf.out.below hA)
  replace Va := Lib.hid (Va.out.below hA)
  clear M9
  have Vc := Lib.hid hV
  clear hV
  clear hA
  obtain ⟨v11, hw11⟩ : ∃ wq, v10.alloc (.cells #[.int .i64 1, .int .i64 2, .slice ac 2 cc] 32) = wq := ⟨_, rfl⟩
  have M11 := M10.alloc 32 [.int .i64 1, .int .i64 2, .slice ac 2 cc]
  rw [show v10.alloc (.cells [.int .i64 1, .int .i64 2, .slice ac 2 cc].toArray 32) = v11 from hw11] at M11
  have hA : Below v10.heap.size v10 v11 := by rw [← hw11]; exact (Below.refl _ _).alloc (Nat.le_refl _) _
  replace HD := Lib.hid (HD.out.below hA)
  replace RI := Lib.hid (RI.out.below hA)
  replace Vf := Lib.hid (Vf.out.below hA)
  replace Va := Lib.hid (Va.out.below hA)
  replace Vc := Lib.hid (Vc.out.below hA)
  have HW11 := Lib.hid hw11
  clear hw11 hA M10
  go_upto_region 9 with fail
  rw [HW11.out]
  clear HW11
  obtain ⟨gc, hg⟩ : ∃ g9, g9 = v10.heap.size := ⟨_, rfl⟩
  rw [← hg] at M11 ⊢
  clear hg
  have c_gf_0 := M11.cell (.tail _ _ _ _ _ (.tail _ _ _ _ _ (.tail _ _ _ _ _ (.tail _ _ _ _ _ (Has.head _ _ _ _))))) (i := 0) rfl
  have c_gf_1 := M11.cell (.tail _ _ _ _ _ (.tail _ _ _ _ _ (.tail _ _ _ _ _ (.tail _ _ _ _ _ (Has.head _ _ _ _))))) (i := 1) rfl
  have c_gf_2 := M11.cell (.tail _ _ _ _ _ (.tail _ _ _ _ _ (.tail _ _ _ _ _ (.tail _ _ _ _ _ (Has.head _ _ _ _))))) (i := 2) rfl
  go_wp2_with fail
  refine (x_split _ _ _ Vf.out).mono ?_
  rintro e v12 ⟨az, cz, rfl, hV, hA⟩
  have M12 := M11.call hA
  clear c_gf_0 c_gf_1 c_gf_2
  replace HD := Lib.hid (HD.out.below hA)
  replace RI := Lib.hid (RI.out.below hA)
  replace Vf := Lib.hid (Vf.out.below hA)
  replace Va := Lib.hid (Va.out.below hA)
  replace Vc := Lib.hid (Vc.out.below hA)
  clear M11
  have Vz := Lib.hid hV
  clear hV
  clear hA
  obtain ⟨v13, hw13⟩ : ∃ wq, v12.alloc (.cells #[.int .i64 4, .int .i64 2, .slice az 8 cz] 32) = wq := ⟨_, rfl⟩
  have M13 := M12.alloc 32 [.int .i64 4, .int .i64 2, .slice az 8 cz]
  rw [show v12.alloc (.cells [.int .i64 4, .int .i64 2, .slice az 8 cz].toArray 32) = v13 from hw13] at M13
  have hA : Below v12.heap.size v12 v13 := by rw [← hw13]; exact (Below.refl _ _).alloc (Nat.le_refl _) _
  replace HD := Lib.hid (HD.out.below hA)
  replace RI := Lib.hid (RI.out.below hA)
  replace Vf := Lib.hid (Vf.out.below hA)
  replace Va := Lib.hid (Va.out.below hA)
  replace Vc := Lib.hid (Vc.out.below hA)
  replace Vz := Lib.hid (Vz.out.below hA)
  have HW13 := Lib.hid hw13
  clear hw13 hA M12
  go_upto_region 10 with fail
  rw [HW13.out]
  clear HW13
  obtain ⟨gs, hg⟩ : ∃ g9, g9 = v12.heap.size := ⟨_, rfl⟩
  rw [← hg] at M13 ⊢
  clear hg
  have c_gc_0 := M13.cell (.tail _ _ _ _ _ (Has.head _ _ _ _)) (i := 0) rfl
  have c_gc_1 := M13.cell (.tail _ _ _ _ _ (Has.head _ _ _ _)) (i := 1) rfl
  have c_gc_2 := M13.cell (.tail _ _ _ _ _ (Has.head _ _ _ _)) (i := 2) rfl
  obtain ⟨v14, hw14⟩ : ∃ wq, v13.alloc (.cells #[.int .i64 1, .int .i64 0] 3) = wq := ⟨_, rfl⟩
  have M14 := M13.alloc 3 [.int .i64 1, .int .i64 0]
  rw [show v13.alloc (.cells [.int .i64 1, .int .i64 0].toArray 3) = v14 from hw14] at M14
  have hA : Below v13.heap.size v13 v14 := by rw [← hw14]; exact (Below.refl _ _).alloc (Nat.le_refl _) _
  replace HD := Lib.hid (HD.out.below hA)
  replace RI := Lib.hid (RI.out.below hA)
  replace Vf := Lib.hid (Vf.out.below hA)
  replace Va := Lib.hid (Va.out.below hA)
  replace Vc := Lib.hid (Vc.out.below hA)
  replace Vz := Lib.hid (Vz.out.below hA)
  have HW14 := Lib.hid hw14
  clear hw14 hA M13
  go_wp2_with fail
  rw [HW14.out]
  clear HW14
  obtain ⟨gH2, hg⟩ : ∃ g9, g9 = v13.heap.size := ⟨_, rfl⟩
  rw [← hg] at M14 ⊢
  clear hg
  refine (x_has2 _ _ _ _ _ Vc.out (sl_blk (cs := digs [1, 0]) (M14.has (Has.head _ _ _ _)) (show _ = 2 from rfl) (by omega))).mono ?_
  rintro e v15 ⟨rfl, hA⟩
  have M15 := M14.call hA
  clear c_gc_0 c_gc_1 c_gc_2
  replace HD := Lib.hid (HD.out.below hA)
  replace RI := Lib.hid (RI.out.below hA)
  replace Vf := Lib.hid (Vf.out.below hA)
  replace Va := Lib.hid (Va.out.below hA)
  replace Vc := Lib.hid (Vc.out.below hA)
  replace Vz := Lib.hid (Vz.out.below hA)
  clear M14
  clear hA
  have c_gs_0 := M15.cell (.tail _ _ _ _ _ (Has.head _ _ _ _)) (i := 0) rfl
  have c_gs_1 := M15.cell (.tail _ _ _ _ _ (Has.head _ _ _ _)) (i := 1) rfl
  have c_gs_2 := M15.cell (.tail _ _ _ _ _ (Has.head _ _ _ _)) (i := 2) rfl
  obtain ⟨v16, hw16⟩ : ∃ wq, v15.alloc (.cells #[.int .i64 1, .int .i64 1, .int .i64 1, .int .i64 1, .int .i64 1, .int .i64 1, .int .i64 1, .int .i64 1] 3) = wq := ⟨_, rfl⟩
  have M16 := M15.alloc 3 [.int .i64 1, .int .i64 1, .int .i64 1, .int .i64 1, .int .i64 1, .int .i64 1, .int .i64 1, .int .i64 1]
  rw [show v15.alloc (.cells [.int .i64 1, .int .i64 1, .int .i64 1, .int .i64 1, .int .i64 1, .int .i64 1, .int .i64 1, .int .i64 1].toArray 3) = v16 from hw16] at M16
  have hA : Below v15.heap.size v15 v16 := by rw [← hw16]; exact (Below.refl _ _).alloc (Nat.le_refl _) _
  replace HD := Lib.hid (HD.out.below hA)
  replace RI := Lib.hid (RI.out.below hA)
  replace Vf := Lib.hid (Vf.out.below hA)
  replace Va := Lib.hid (Va.out.below hA)
  replace Vc := Lib.hid (Vc.out.below hA)
  replace Vz := Lib.hid (Vz.out.below hA)
  have HW16 := Lib.hid hw16
  clear hw16 hA M15
  go_wp2_with fail
  rw [HW16.out]
  clear HW16
  obtain ⟨gH3, hg⟩ : ∃ g9, g9 = v15.heap.size := ⟨_, rfl⟩
  rw [← hg] at M16 ⊢
  clear hg
  refine (x_has3 _ _ _ _ _ Vz.out (sl_blk (cs := digs [1, 1, 1, 1, 1, 1, 1, 1]) (M16.has (Has.head _ _ _ _)) (show _ = 8 from rfl) (by omega))).mono ?_
  rintro e v17 ⟨rfl, hA⟩
  have M17 := M16.call hA
  clear c_gs_0 c_gs_1 c_gs_2
  replace HD := Lib.hid (HD.out.below hA)
  replace RI := Lib.hid (RI.out.below hA)
  replace Vf := Lib.hid (Vf.out.below hA)
  replace Va := Lib.hid (Va.out.below hA)
  replace Vc := Lib.hid (Vc.out.below hA)
  replace Vz := Lib.hid (Vz.out.below hA)
  clear M16
  clear hA
  clear Vc
  go_upto_region 12 with fail
  have hA : Below v17.heap.size v17 v17.drew := (Below.refl _ _).drew
  have M18 := M17.drew
  replace HD := Lib.hid (HD.out.below hA)
  replace RI := Lib.hid (RI.out.below hA)
  replace Vf := Lib.hid (Vf.out.below hA)
  replace Va := Lib.hid (Va.out.below hA)
  replace Vz := Lib.hid (Vz.out.below hA)
  clear hA M17
  have M19 : Mem w (v17.drew) [(gs, 32, [.int .i64 4, .int .i64 2, .slice az 8 cz]), (ga, 32, [.int .i64 2, .int .i64 1, .slice aa 2 ca]), (gf, 32, [.int .i64 2, .int .i64 1, .slice af 2 cf]), (gG, 28, [.int .i64 2, .int .i64 1, .int .i64 0, .int .i64 0, .int .i64 64, .slice (some ⟨gI, 0, none⟩) 2 2])] := M18.pick (by repeat (first | exact List.nil_sublist _ | apply List.Sublist.cons_cons | apply List.Sublist.cons))
  clear M18
  refine wp_region_held_drew (S := fun w' : World => w'.cell? ⟨gG, 0, none⟩ = some (.int .i64 2) ∧ w'.cell? ⟨gG, 1, none⟩ = some (.int .i64 1) ∧ w'.cell? ⟨gG, 2, none⟩ = some (.int .i64 0) ∧ w'.cell? ⟨gG, 3, none⟩ = some (.int .i64 0) ∧ w'.cell? ⟨gG, 4, none⟩ = some (.int .i64 64) ∧ w'.cell? ⟨gG, 5, none⟩ = some (.slice (some ⟨gI, 0, none⟩) 2 2) ∧ w'.cell? ⟨gf, 0, none⟩ = some (.int .i64 2) ∧ w'.cell? ⟨gf, 1, none⟩ = some (.int .i64 1) ∧ w'.cell? ⟨gf, 2, none⟩ = some (.slice af 2 cf) ∧ w'.cell? ⟨ga, 0, none⟩ = some (.int .i64 2) ∧ w'.cell? ⟨ga, 1, none⟩ = some (.int .i64 1) ∧ w'.cell? ⟨ga, 2, none⟩ = some (.slice aa 2 ca) ∧ w'.cell? ⟨gs, 0, none⟩ = some (.int .i64 4) ∧ w'.cell? ⟨gs, 1, none⟩ = some (.int .i64 2) ∧ w'.cell? ⟨gs, 2, none⟩ = some (.slice az 8 cz)) (by kernel_rfl) (⟨M19.cell (.tail _ _ _ _ _ (.tail _ _ _ _ _ (.tail _ _ _ _ _ (Has.head _ _ _ _)))) (i := 0) rfl, M19.cell (.tail _ _ _ _ _ (.tail _ _ _ _ _ (.tail _ _ _ _ _ (Has.head _ _ _ _)))) (i := 1) rfl, M19.cell (.tail _ _ _ _ _ (.tail _ _ _ _ _ (.tail _ _ _ _ _ (Has.head _ _ _ _)))) (i := 2) rfl, M19.cell (.tail _ _ _ _ _ (.tail _ _ _ _ _ (.tail _ _ _ _ _ (Has.head _ _ _ _)))) (i := 3) rfl, M19.cell (.tail _ _ _ _ _ (.tail _ _ _ _ _ (.tail _ _ _ _ _ (Has.head _ _ _ _)))) (i := 4) rfl, M19.cell (.tail _ _ _ _ _ (.tail _ _ _ _ _ (.tail _ _ _ _ _ (Has.head _ _ _ _)))) (i := 5) rfl, M19.cell (.tail _ _ _ _ _ (.tail _ _ _ _ _ (Has.head _ _ _ _))) (i := 0) rfl, M19.cell (.tail _ _ _ _ _ (.tail _ _ _ _ _ (Has.head _ _ _ _))) (i := 1) rfl, M19.cell (.tail _ _ _ _ _ (.tail _ _ _ _ _ (Has.head _ _ _ _))) (i := 2) rfl, M19.cell (.tail _ _ _ _ _ (Has.head _ _ _ _)) (i := 0) rfl, M19.cell (.tail _ _ _ _ _ (Has.head _ _ _ _)) (i := 1) rfl, M19.cell (.tail _ _ _ _ _ (Has.head _ _ _ _)) (i := 2) rfl, M19.cell (Has.head _ _ _ _) (i := 0) rfl, M19.cell (Has.head _ _ _ _) (i := 1) rfl, M19.cell (Has.head _ _ _ _) (i := 2) rfl⟩) (fun hHeld => ?_)
  generalize hvD : v17.drew = vD at M19 HD RI Vf Va Vz hHeld ⊢
  clear hvD
  refine tkT 0 ?v9001 ?hy9001 hHeld ?rest9001 (hw := by kernel_rfl)
  case hy9001 => (intro w' hSw; (try dsimp only at hSw); go_simp; (try with_reducible rfl))
  try simp only [Act.put, puts]
  revert M19 HD RI Vf Va Vz hHeld
  refine (fun (rest : ∀ (wx : World) (gH4 : Nat) (aj : Option Addr) (cj : Nat), Mem w wx [(gH4, 3, [.int .i64 1, .int .i64 1]), (gs, 32, [.int .i64 4, .int .i64 2, .slice az 8 cz]), (ga, 32, [.int .i64 2, .int .i64 1, .slice aa 2 ca]), (gf, 32, [.int .i64 2, .int .i64 1, .slice af 2 cf]), (gG, 28, [.int .i64 2, .int .i64 1, .int .i64 0, .int .i64 0, .int .i64 64, .slice (some ⟨gI, 0, none⟩) 2 2])] → Dbt wx → Sl wx 1 (.slice (some ⟨gI, 0, none⟩) 2 2) 2 (i64s [536870912, 536870912]) → IsV wx af 2 cf [536870912, 536870912] → IsV wx aa 2 ca [1610612736, 536870912] → IsV wx az 8 cz [536870912, 536870912, 536870912, 536870912, 536870912, 536870912, 536870912, 536870912] → IsV wx aj 2 cj [2147483648, 2147483648] → (?PJ : World → Nat → Option Addr → Nat → Prop) wx gH4 aj cj) => ?PJo) ?PJr
  case PJo =>
    intro M19 HD RI Vf Va Vz hHeld
    refine wpAnyH_ready (rs := [1, 2]) (by kernel_rfl) (by simp) ?_
    refine AllReadyH.cons rfl (fun K hK => ?_) (AllReadyH.cons rfl (fun K hK => ?_) AllReadyH.nil)
    · go_simp
      refine (x_join _ _ _ Vz.out).mono ?_
      rintro e v20 ⟨aj, cj, rfl, hV, hA⟩
      have M20 := M19.call hA
      replace HD := Lib.hid (HD.out.below hA)
      replace RI := Lib.hid (RI.out.below hA)
      replace Vf := Lib.hid (Vf.out.below hA)
      replace Va := Lib.hid (Va.out.below hA)
      replace Vz := Lib.hid (Vz.out.below hA)
      clear M19
      have Vj := Lib.hid hV
      clear hV
      clear hA
      try go_wp2_with fail
      clear hHeld
      refine hK.out _ _ (⟨M20.cell (.tail _ _ _ _ _ (.tail _ _ _ _ _ (.tail _ _ _ _ _ (Has.head _ _ _ _)))) (i := 0) rfl, M20.cell (.tail _ _ _ _ _ (.tail _ _ _ _ _ (.tail _ _ _ _ _ (Has.head _ _ _ _)))) (i := 1) rfl, M20.cell (.tail _ _ _ _ _ (.tail _ _ _ _ _ (.tail _ _ _ _ _ (Has.head _ _ _ _)))) (i := 2) rfl, M20.cell (.tail _ _ _ _ _ (.tail _ _ _ _ _ (.tail _ _ _ _ _ (Has.head _ _ _ _)))) (i := 3) rfl, M20.cell (.tail _ _ _ _ _ (.tail _ _ _ _ _ (.tail _ _ _ _ _ (Has.head _ _ _ _)))) (i := 4) rfl, M20.cell (.tail _ _ _ _ _ (.tail _ _ _ _ _ (.tail _ _ _ _ _ (Has.head _ _ _ _)))) (i := 5) rfl, M20.cell (.tail _ _ _ _ _ (.tail _ _ _ _ _ (Has.head _ _ _ _))) (i := 0) rfl, M20.cell (.tail _ _ _ _ _ (.tail _ _ _ _ _ (Has.head _ _ _ _))) (i := 1) rfl, M20.cell (.tail _ _ _ _ _ (.tail _ _ _ _ _ (Has.head _ _ _ _))) (i := 2) rfl, M20.cell (.tail _ _ _ _ _ (Has.head _ _ _ _)) (i := 0) rfl, M20.cell (.tail _ _ _ _ _ (Has.head _ _ _ _)) (i := 1) rfl, M20.cell (.tail _ _ _ _ _ (Has.head _ _ _ _)) (i := 2) rfl, M20.cell (Has.head _ _ _ _) (i := 0) rfl, M20.cell (Has.head _ _ _ _) (i := 1) rfl, M20.cell (Has.head _ _ _ _) (i := 2) rfl⟩) (fun hHeld => ?_)
      clear hK K
      try simp only [Act.put, puts]
      refine wpAnyH_ready (rs := [2]) (by kernel_rfl) (by simp) ?_
      refine AllReadyH.cons rfl (fun K hK => ?_) AllReadyH.nil
      go_simp
      obtain ⟨v21, hw21⟩ : ∃ wq, v20.alloc (.cells #[.int .i64 1, .int .i64 1] 3) = wq := ⟨_, rfl⟩
      have M21 := M20.alloc 3 [.int .i64 1, .int .i64 1]
      rw [show v20.alloc (.cells [.int .i64 1, .int .i64 1].toArray 3) = v21 from hw21] at M21
      have hA : Below v20.heap.size v20 v21 := by rw [← hw21]; exact (Below.refl _ _).alloc (Nat.le_refl _) _
      replace HD := Lib.hid (HD.out.below hA)
      replace RI := Lib.hid (RI.out.below hA)
      replace Vf := Lib.hid (Vf.out.below hA)
      replace Va := Lib.hid (Va.out.below hA)
      replace Vz := Lib.hid (Vz.out.below hA)
      replace Vj := Lib.hid (Vj.out.below hA)
      obtain ⟨gH4, hg⟩ : ∃ g9, g9 = v20.heap.size := ⟨_, rfl⟩
      try simp only [hw21]
      try rw [← hg]
      rw [← hg] at M21
      clear hg hw21 hA M20
      clear hHeld
      refine hK.out _ _ (⟨M21.cell (.tail _ _ _ _ _ (.tail _ _ _ _ _ (.tail _ _ _ _ _ (.tail _ _ _ _ _ (Has.head _ _ _ _))))) (i := 0) rfl, M21.cell (.tail _ _ _ _ _ (.tail _ _ _ _ _ (.tail _ _ _ _ _ (.tail _ _ _ _ _ (Has.head _ _ _ _))))) (i := 1) rfl, M21.cell (.tail _ _ _ _ _ (.tail _ _ _ _ _ (.tail _ _ _ _ _ (.tail _ _ _ _ _ (Has.head _ _ _ _))))) (i := 2) rfl, M21.cell (.tail _ _ _ _ _ (.tail _ _ _ _ _ (.tail _ _ _ _ _ (.tail _ _ _ _ _ (Has.head _ _ _ _))))) (i := 3) rfl, M21.cell (.tail _ _ _ _ _ (.tail _ _ _ _ _ (.tail _ _ _ _ _ (.tail _ _ _ _ _ (Has.head _ _ _ _))))) (i := 4) rfl, M21.cell (.tail _ _ _ _ _ (.tail _ _ _ _ _ (.tail _ _ _ _ _ (.tail _ _ _ _ _ (Has.head _ _ _ _))))) (i := 5) rfl, M21.cell (.tail _ _ _ _ _ (.tail _ _ _ _ _ (.tail _ _ _ _ _ (Has.head _ _ _ _)))) (i := 0) rfl, M21.cell (.tail _ _ _ _ _ (.tail _ _ _ _ _ (.tail _ _ _ _ _ (Has.head _ _ _ _)))) (i := 1) rfl, M21.cell (.tail _ _ _ _ _ (.tail _ _ _ _ _ (.tail _ _ _ _ _ (Has.head _ _ _ _)))) (i := 2) rfl, M21.cell (.tail _ _ _ _ _ (.tail _ _ _ _ _ (Has.head _ _ _ _))) (i := 0) rfl, M21.cell (.tail _ _ _ _ _ (.tail _ _ _ _ _ (Has.head _ _ _ _))) (i := 1) rfl, M21.cell (.tail _ _ _ _ _ (.tail _ _ _ _ _ (Has.head _ _ _ _))) (i := 2) rfl, M21.cell (.tail _ _ _ _ _ (Has.head _ _ _ _)) (i := 0) rfl, M21.cell (.tail _ _ _ _ _ (Has.head _ _ _ _)) (i := 1) rfl, M21.cell (.tail _ _ _ _ _ (Has.head _ _ _ _)) (i := 2) rfl⟩) (fun hHeld => ?_)
      clear hK K
      try simp only [Act.put, puts]
      exact rest _ gH4 aj cj M21 HD.out RI.out Vf.out Va.out Vz.out Vj.out
    · go_simp
      obtain ⟨v20, hw20⟩ : ∃ wq, vD.alloc (.cells #[.int .i64 1, .int .i64 1] 3) = wq := ⟨_, rfl⟩
      have M20 := M19.alloc 3 [.int .i64 1, .int .i64 1]
      rw [show vD.alloc (.cells [.int .i64 1, .int .i64 1].toArray 3) = v20 from hw20] at M20
      have hA : Below vD.heap.size vD v20 := by rw [← hw20]; exact (Below.refl _ _).alloc (Nat.le_refl _) _
      replace HD := Lib.hid (HD.out.below hA)
      replace RI := Lib.hid (RI.out.below hA)
      replace Vf := Lib.hid (Vf.out.below hA)
      replace Va := Lib.hid (Va.out.below hA)
      replace Vz := Lib.hid (Vz.out.below hA)
      obtain ⟨gH4, hg⟩ : ∃ g9, g9 = vD.heap.size := ⟨_, rfl⟩
      try simp only [hw20]
      try rw [← hg]
      rw [← hg] at M20
      clear hg hw20 hA M19
      clear hHeld
      refine hK.out _ _ (⟨M20.cell (.tail _ _ _ _ _ (.tail _ _ _ _ _ (.tail _ _ _ _ _ (.tail _ _ _ _ _ (Has.head _ _ _ _))))) (i := 0) rfl, M20.cell (.tail _ _ _ _ _ (.tail _ _ _ _ _ (.tail _ _ _ _ _ (.tail _ _ _ _ _ (Has.head _ _ _ _))))) (i := 1) rfl, M20.cell (.tail _ _ _ _ _ (.tail _ _ _ _ _ (.tail _ _ _ _ _ (.tail _ _ _ _ _ (Has.head _ _ _ _))))) (i := 2) rfl, M20.cell (.tail _ _ _ _ _ (.tail _ _ _ _ _ (.tail _ _ _ _ _ (.tail _ _ _ _ _ (Has.head _ _ _ _))))) (i := 3) rfl, M20.cell (.tail _ _ _ _ _ (.tail _ _ _ _ _ (.tail _ _ _ _ _ (.tail _ _ _ _ _ (Has.head _ _ _ _))))) (i := 4) rfl, M20.cell (.tail _ _ _ _ _ (.tail _ _ _ _ _ (.tail _ _ _ _ _ (.tail _ _ _ _ _ (Has.head _ _ _ _))))) (i := 5) rfl, M20.cell (.tail _ _ _ _ _ (.tail _ _ _ _ _ (.tail _ _ _ _ _ (Has.head _ _ _ _)))) (i := 0) rfl, M20.cell (.tail _ _ _ _ _ (.tail _ _ _ _ _ (.tail _ _ _ _ _ (Has.head _ _ _ _)))) (i := 1) rfl, M20.cell (.tail _ _ _ _ _ (.tail _ _ _ _ _ (.tail _ _ _ _ _ (Has.head _ _ _ _)))) (i := 2) rfl, M20.cell (.tail _ _ _ _ _ (.tail _ _ _ _ _ (Has.head _ _ _ _))) (i := 0) rfl, M20.cell (.tail _ _ _ _ _ (.tail _ _ _ _ _ (Has.head _ _ _ _))) (i := 1) rfl, M20.cell (.tail _ _ _ _ _ (.tail _ _ _ _ _ (Has.head _ _ _ _))) (i := 2) rfl, M20.cell (.tail _ _ _ _ _ (Has.head _ _ _ _)) (i := 0) rfl, M20.cell (.tail _ _ _ _ _ (Has.head _ _ _ _)) (i := 1) rfl, M20.cell (.tail _ _ _ _ _ (Has.head _ _ _ _)) (i := 2) rfl⟩) (fun hHeld => ?_)
      clear hK K
      try simp only [Act.put, puts]
      refine wpAnyH_ready (rs := [1]) (by kernel_rfl) (by simp) ?_
      refine AllReadyH.cons rfl (fun K hK => ?_) AllReadyH.nil
      go_simp
      refine (x_join _ _ _ Vz.out).mono ?_
      rintro e v21 ⟨aj, cj, rfl, hV, hA⟩
      have M21 := M20.call hA
      replace HD := Lib.hid (HD.out.below hA)
      replace RI := Lib.hid (RI.out.below hA)
      replace Vf := Lib.hid (Vf.out.below hA)
      replace Va := Lib.hid (Va.out.below hA)
      replace Vz := Lib.hid (Vz.out.below hA)
      clear M20
      have Vj := Lib.hid hV
      clear hV
      clear hA
      try go_wp2_with fail
      clear hHeld
      refine hK.out _ _ (⟨M21.cell (.tail _ _ _ _ _ (.tail _ _ _ _ _ (.tail _ _ _ _ _ (.tail _ _ _ _ _ (Has.head _ _ _ _))))) (i := 0) rfl, M21.cell (.tail _ _ _ _ _ (.tail _ _ _ _ _ (.tail _ _ _ _ _ (.tail _ _ _ _ _ (Has.head _ _ _ _))))) (i := 1) rfl, M21.cell (.tail _ _ _ _ _ (.tail _ _ _ _ _ (.tail _ _ _ _ _ (.tail _ _ _ _ _ (Has.head _ _ _ _))))) (i := 2) rfl, M21.cell (.tail _ _ _ _ _ (.tail _ _ _ _ _ (.tail _ _ _ _ _ (.tail _ _ _ _ _ (Has.head _ _ _ _))))) (i := 3) rfl, M21.cell (.tail _ _ _ _ _ (.tail _ _ _ _ _ (.tail _ _ _ _ _ (.tail _ _ _ _ _ (Has.head _ _ _ _))))) (i := 4) rfl, M21.cell (.tail _ _ _ _ _ (.tail _ _ _ _ _ (.tail _ _ _ _ _ (.tail _ _ _ _ _ (Has.head _ _ _ _))))) (i := 5) rfl, M21.cell (.tail _ _ _ _ _ (.tail _ _ _ _ _ (.tail _ _ _ _ _ (Has.head _ _ _ _)))) (i := 0) rfl, M21.cell (.tail _ _ _ _ _ (.tail _ _ _ _ _ (.tail _ _ _ _ _ (Has.head _ _ _ _)))) (i := 1) rfl, M21.cell (.tail _ _ _ _ _ (.tail _ _ _ _ _ (.tail _ _ _ _ _ (Has.head _ _ _ _)))) (i := 2) rfl, M21.cell (.tail _ _ _ _ _ (.tail _ _ _ _ _ (Has.head _ _ _ _))) (i := 0) rfl, M21.cell (.tail _ _ _ _ _ (.tail _ _ _ _ _ (Has.head _ _ _ _))) (i := 1) rfl, M21.cell (.tail _ _ _ _ _ (.tail _ _ _ _ _ (Has.head _ _ _ _))) (i := 2) rfl, M21.cell (.tail _ _ _ _ _ (Has.head _ _ _ _)) (i := 0) rfl, M21.cell (.tail _ _ _ _ _ (Has.head _ _ _ _)) (i := 1) rfl, M21.cell (.tail _ _ _ _ _ (Has.head _ _ _ _)) (i := 2) rfl⟩) (fun hHeld => ?_)
      clear hK K
      try simp only [Act.put, puts]
      exact wpAnyH_at (by kernel_rfl) (rest _ gH4 aj cj M21 HD.out RI.out Vf.out Va.out Vz.out Vj.out)
  intro v22 gH4 aj cj M22 hHD hRI hVf hVa hVz hj
  have HD := Lib.hid hHD
  clear hHD
  have RI := Lib.hid hRI
  clear hRI
  have Vf := Lib.hid hVf
  clear hVf
  have Va := Lib.hid hVa
  clear hVa
  have Vz := Lib.hid hVz
  clear hVz
  have Vj := Lib.hid hj
  clear hj
  have hHeld : v22.cell? ⟨gG, 0, none⟩ = some (.int .i64 2) ∧ v22.cell? ⟨gG, 1, none⟩ = some (.int .i64 1) ∧ v22.cell? ⟨gG, 2, none⟩ = some (.int .i64 0) ∧ v22.cell? ⟨gG, 3, none⟩ = some (.int .i64 0) ∧ v22.cell? ⟨gG, 4, none⟩ = some (.int .i64 64) ∧ v22.cell? ⟨gG, 5, none⟩ = some (.slice (some ⟨gI, 0, none⟩) 2 2) ∧ v22.cell? ⟨gf, 0, none⟩ = some (.int .i64 2) ∧ v22.cell? ⟨gf, 1, none⟩ = some (.int .i64 1) ∧ v22.cell? ⟨gf, 2, none⟩ = some (.slice af 2 cf) ∧ v22.cell? ⟨ga, 0, none⟩ = some (.int .i64 2) ∧ v22.cell? ⟨ga, 1, none⟩ = some (.int .i64 1) ∧ v22.cell? ⟨ga, 2, none⟩ = some (.slice aa 2 ca) ∧ v22.cell? ⟨gs, 0, none⟩ = some (.int .i64 4) ∧ v22.cell? ⟨gs, 1, none⟩ = some (.int .i64 2) ∧ v22.cell? ⟨gs, 2, none⟩ = some (.slice az 8 cz) := ⟨M22.cell (.tail _ _ _ _ _ (.tail _ _ _ _ _ (.tail _ _ _ _ _ (.tail _ _ _ _ _ (Has.head _ _ _ _))))) (i := 0) rfl, M22.cell (.tail _ _ _ _ _ (.tail _ _ _ _ _ (.tail _ _ _ _ _ (.tail _ _ _ _ _ (Has.head _ _ _ _))))) (i := 1) rfl, M22.cell (.tail _ _ _ _ _ (.tail _ _ _ _ _ (.tail _ _ _ _ _ (.tail _ _ _ _ _ (Has.head _ _ _ _))))) (i := 2) rfl, M22.cell (.tail _ _ _ _ _ (.tail _ _ _ _ _ (.tail _ _ _ _ _ (.tail _ _ _ _ _ (Has.head _ _ _ _))))) (i := 3) rfl, M22.cell (.tail _ _ _ _ _ (.tail _ _ _ _ _ (.tail _ _ _ _ _ (.tail _ _ _ _ _ (Has.head _ _ _ _))))) (i := 4) rfl, M22.cell (.tail _ _ _ _ _ (.tail _ _ _ _ _ (.tail _ _ _ _ _ (.tail _ _ _ _ _ (Has.head _ _ _ _))))) (i := 5) rfl, M22.cell (.tail _ _ _ _ _ (.tail _ _ _ _ _ (.tail _ _ _ _ _ (Has.head _ _ _ _)))) (i := 0) rfl, M22.cell (.tail _ _ _ _ _ (.tail _ _ _ _ _ (.tail _ _ _ _ _ (Has.head _ _ _ _)))) (i := 1) rfl, M22.cell (.tail _ _ _ _ _ (.tail _ _ _ _ _ (.tail _ _ _ _ _ (Has.head _ _ _ _)))) (i := 2) rfl, M22.cell (.tail _ _ _ _ _ (.tail _ _ _ _ _ (Has.head _ _ _ _))) (i := 0) rfl, M22.cell (.tail _ _ _ _ _ (.tail _ _ _ _ _ (Has.head _ _ _ _))) (i := 1) rfl, M22.cell (.tail _ _ _ _ _ (.tail _ _ _ _ _ (Has.head _ _ _ _))) (i := 2) rfl, M22.cell (.tail _ _ _ _ _ (Has.head _ _ _ _)) (i := 0) rfl, M22.cell (.tail _ _ _ _ _ (Has.head _ _ _ _)) (i := 1) rfl, M22.cell (.tail _ _ _ _ _ (Has.head _ _ _ _)) (i := 2) rfl⟩
  refine wpAnyH_ready (rs := [3]) (by kernel_rfl) (by simp) ?_
  refine AllReadyH.cons rfl (fun K hK => ?_) AllReadyH.nil
  go_simp
  refine (x_has4 _ _ _ _ _ Vj.out (sl_blk (cs := digs [1, 1]) (M22.has (Has.head _ _ _ _)) (show _ = 2 from rfl) (by omega))).mono ?_
  rintro e v23 ⟨rfl, hA⟩
  have M23 := M22.call hA
  replace HD := Lib.hid (HD.out.below hA)
  replace RI := Lib.hid (RI.out.below hA)
  replace Vf := Lib.hid (Vf.out.below hA)
  replace Va := Lib.hid (Va.out.below hA)
  replace Vz := Lib.hid (Vz.out.below hA)
  replace Vj := Lib.hid (Vj.out.below hA)
  clear M22
  clear hA
  try go_wp2_with fail
  clear hHeld
  refine hK.out _ _ (⟨M23.cell (.tail _ _ _ _ _ (.tail _ _ _ _ _ (.tail _ _ _ _ _ (.tail _ _ _ _ _ (Has.head _ _ _ _))))) (i := 0) rfl, M23.cell (.tail _ _ _ _ _ (.tail _ _ _ _ _ (.tail _ _ _ _ _ (.tail _ _ _ _ _ (Has.head _ _ _ _))))) (i := 1) rfl, M23.cell (.tail _ _ _ _ _ (.tail _ _ _ _ _ (.tail _ _ _ _ _ (.tail _ _ _ _ _ (Has.head _ _ _ _))))) (i := 2) rfl, M23.cell (.tail _ _ _ _ _ (.tail _ _ _ _ _ (.tail _ _ _ _ _ (.tail _ _ _ _ _ (Has.head _ _ _ _))))) (i := 3) rfl, M23.cell (.tail _ _ _ _ _ (.tail _ _ _ _ _ (.tail _ _ _ _ _ (.tail _ _ _ _ _ (Has.head _ _ _ _))))) (i := 4) rfl, M23.cell (.tail _ _ _ _ _ (.tail _ _ _ _ _ (.tail _ _ _ _ _ (.tail _ _ _ _ _ (Has.head _ _ _ _))))) (i := 5) rfl, M23.cell (.tail _ _ _ _ _ (.tail _ _ _ _ _ (.tail _ _ _ _ _ (Has.head _ _ _ _)))) (i := 0) rfl, M23.cell (.tail _ _ _ _ _ (.tail _ _ _ _ _ (.tail _ _ _ _ _ (Has.head _ _ _ _)))) (i := 1) rfl, M23.cell (.tail _ _ _ _ _ (.tail _ _ _ _ _ (.tail _ _ _ _ _ (Has.head _ _ _ _)))) (i := 2) rfl, M23.cell (.tail _ _ _ _ _ (.tail _ _ _ _ _ (Has.head _ _ _ _))) (i := 0) rfl, M23.cell (.tail _ _ _ _ _ (.tail _ _ _ _ _ (Has.head _ _ _ _))) (i := 1) rfl, M23.cell (.tail _ _ _ _ _ (.tail _ _ _ _ _ (Has.head _ _ _ _))) (i := 2) rfl, M23.cell (.tail _ _ _ _ _ (Has.head _ _ _ _)) (i := 0) rfl, M23.cell (.tail _ _ _ _ _ (Has.head _ _ _ _)) (i := 1) rfl, M23.cell (.tail _ _ _ _ _ (Has.head _ _ _ _)) (i := 2) rfl⟩) (fun hHeld => ?_)
  clear hK K
  try simp only [Act.put, puts]
  clear Vj
  refine tkT 4 ?v9002 ?hy9002 hHeld ?rest9002 (hw := by kernel_rfl)
  case hy9002 => (intro w' hSw; (try dsimp only at hSw); go_simp; (try with_reducible rfl))
  try simp only [Act.put, puts]
  refine tkT 5 ?v9003 ?hy9003 hHeld ?rest9003 (hw := by kernel_rfl)
  case hy9003 => (intro w' hSw; (try dsimp only at hSw); go_simp; (try with_reducible rfl))
  try simp only [Act.put, puts]
  refine tkT 6 ?v9004 ?hy9004 hHeld ?rest9004 (hw := by kernel_rfl)
  case hy9004 => (intro w' hSw; (try dsimp only at hSw); go_simp; (try with_reducible rfl))
  try simp only [Act.put, puts]
  revert M23 HD RI Vf Va Vz hHeld
  refine (fun (rest : ∀ (wx : World) (gH5 : Nat) (ap : Option Addr) (cp : Nat), Mem w wx [(gH5, 3, [.int .i64 5, .int .i64 3]), (gH4, 3, [.int .i64 1, .int .i64 1]), (gs, 32, [.int .i64 4, .int .i64 2, .slice az 8 cz]), (ga, 32, [.int .i64 2, .int .i64 1, .slice aa 2 ca]), (gf, 32, [.int .i64 2, .int .i64 1, .slice af 2 cf]), (gG, 28, [.int .i64 2, .int .i64 1, .int .i64 0, .int .i64 0, .int .i64 64, .slice (some ⟨gI, 0, none⟩) 2 2])] → Dbt wx → Sl wx 1 (.slice (some ⟨gI, 0, none⟩) 2 2) 2 (i64s [536870912, 536870912]) → IsV wx af 2 cf [536870912, 536870912] → IsV wx aa 2 ca [1610612736, 536870912] → IsV wx az 8 cz [536870912, 536870912, 536870912, 536870912, 536870912, 536870912, 536870912, 536870912] → IsV wx ap 2 cp [87960930222080, 52776558133248] → (?PP : World → Nat → Option Addr → Nat → Prop) wx gH5 ap cp) => ?PPo) ?PPr
  case PPo =>
    intro M23 HD RI Vf Va Vz hHeld
    refine wpAnyH_ready (rs := [7, 8]) (by kernel_rfl) (by simp) ?_
    refine AllReadyH.cons rfl (fun K hK => ?_) (AllReadyH.cons rfl (fun K hK => ?_) AllReadyH.nil)
    · go_simp
      refine (x_spread _ _ _ Va.out).mono ?_
      rintro e v24 ⟨ap, cp, rfl, hV, hA⟩
      have M24 := M23.call hA
      replace HD := Lib.hid (HD.out.below hA)
      replace RI := Lib.hid (RI.out.below hA)
      replace Vf := Lib.hid (Vf.out.below hA)
      replace Va := Lib.hid (Va.out.below hA)
      replace Vz := Lib.hid (Vz.out.below hA)
      clear M23
      have Vp := Lib.hid hV
      clear hV
      clear hA
      try go_wp2_with fail
      clear hHeld
      refine hK.out _ _ (⟨M24.cell (.tail _ _ _ _ _ (.tail _ _ _ _ _ (.tail _ _ _ _ _ (.tail _ _ _ _ _ (Has.head _ _ _ _))))) (i := 0) rfl, M24.cell (.tail _ _ _ _ _ (.tail _ _ _ _ _ (.tail _ _ _ _ _ (.tail _ _ _ _ _ (Has.head _ _ _ _))))) (i := 1) rfl, M24.cell (.tail _ _ _ _ _ (.tail _ _ _ _ _ (.tail _ _ _ _ _ (.tail _ _ _ _ _ (Has.head _ _ _ _))))) (i := 2) rfl, M24.cell (.tail _ _ _ _ _ (.tail _ _ _ _ _ (.tail _ _ _ _ _ (.tail _ _ _ _ _ (Has.head _ _ _ _))))) (i := 3) rfl, M24.cell (.tail _ _ _ _ _ (.tail _ _ _ _ _ (.tail _ _ _ _ _ (.tail _ _ _ _ _ (Has.head _ _ _ _))))) (i := 4) rfl, M24.cell (.tail _ _ _ _ _ (.tail _ _ _ _ _ (.tail _ _ _ _ _ (.tail _ _ _ _ _ (Has.head _ _ _ _))))) (i := 5) rfl, M24.cell (.tail _ _ _ _ _ (.tail _ _ _ _ _ (.tail _ _ _ _ _ (Has.head _ _ _ _)))) (i := 0) rfl, M24.cell (.tail _ _ _ _ _ (.tail _ _ _ _ _ (.tail _ _ _ _ _ (Has.head _ _ _ _)))) (i := 1) rfl, M24.cell (.tail _ _ _ _ _ (.tail _ _ _ _ _ (.tail _ _ _ _ _ (Has.head _ _ _ _)))) (i := 2) rfl, M24.cell (.tail _ _ _ _ _ (.tail _ _ _ _ _ (Has.head _ _ _ _))) (i := 0) rfl, M24.cell (.tail _ _ _ _ _ (.tail _ _ _ _ _ (Has.head _ _ _ _))) (i := 1) rfl, M24.cell (.tail _ _ _ _ _ (.tail _ _ _ _ _ (Has.head _ _ _ _))) (i := 2) rfl, M24.cell (.tail _ _ _ _ _ (Has.head _ _ _ _)) (i := 0) rfl, M24.cell (.tail _ _ _ _ _ (Has.head _ _ _ _)) (i := 1) rfl, M24.cell (.tail _ _ _ _ _ (Has.head _ _ _ _)) (i := 2) rfl⟩) (fun hHeld => ?_)
      clear hK K
      try simp only [Act.put, puts]
      refine wpAnyH_ready (rs := [8]) (by kernel_rfl) (by simp) ?_
      refine AllReadyH.cons rfl (fun K hK => ?_) AllReadyH.nil
      go_simp
      obtain ⟨v25, hw25⟩ : ∃ wq, v24.alloc (.cells #[.int .i64 5, .int .i64 3] 3) = wq := ⟨_, rfl⟩
      have M25 := M24.alloc 3 [.int .i64 5, .int .i64 3]
      rw [show v24.alloc (.cells [.int .i64 5, .int .i64 3].toArray 3) = v25 from hw25] at M25
      have hA : Below v24.heap.size v24 v25 := by rw [← hw25]; exact (Below.refl _ _).alloc (Nat.le_refl _) _
      replace HD := Lib.hid (HD.out.below hA)
      replace RI := Lib.hid (RI.out.below hA)
      replace Vf := Lib.hid (Vf.out.below hA)
      replace Va := Lib.hid (Va.out.below hA)
      replace Vz := Lib.hid (Vz.out.below hA)
      replace Vp := Lib.hid (Vp.out.below hA)
      obtain ⟨gH5, hg⟩ : ∃ g9, g9 = v24.heap.size := ⟨_, rfl⟩
      try simp only [hw25]
      try rw [← hg]
      rw [← hg] at M25
      clear hg hw25 hA M24
      clear hHeld
      refine hK.out _ _ (⟨M25.cell (.tail _ _ _ _ _ (.tail _ _ _ _ _ (.tail _ _ _ _ _ (.tail _ _ _ _ _ (.tail _ _ _ _ _ (Has.head _ _ _ _)))))) (i := 0) rfl, M25.cell (.tail _ _ _ _ _ (.tail _ _ _ _ _ (.tail _ _ _ _ _ (.tail _ _ _ _ _ (.tail _ _ _ _ _ (Has.head _ _ _ _)))))) (i := 1) rfl, M25.cell (.tail _ _ _ _ _ (.tail _ _ _ _ _ (.tail _ _ _ _ _ (.tail _ _ _ _ _ (.tail _ _ _ _ _ (Has.head _ _ _ _)))))) (i := 2) rfl, M25.cell (.tail _ _ _ _ _ (.tail _ _ _ _ _ (.tail _ _ _ _ _ (.tail _ _ _ _ _ (.tail _ _ _ _ _ (Has.head _ _ _ _)))))) (i := 3) rfl, M25.cell (.tail _ _ _ _ _ (.tail _ _ _ _ _ (.tail _ _ _ _ _ (.tail _ _ _ _ _ (.tail _ _ _ _ _ (Has.head _ _ _ _)))))) (i := 4) rfl, M25.cell (.tail _ _ _ _ _ (.tail _ _ _ _ _ (.tail _ _ _ _ _ (.tail _ _ _ _ _ (.tail _ _ _ _ _ (Has.head _ _ _ _)))))) (i := 5) rfl, M25.cell (.tail _ _ _ _ _ (.tail _ _ _ _ _ (.tail _ _ _ _ _ (.tail _ _ _ _ _ (Has.head _ _ _ _))))) (i := 0) rfl, M25.cell (.tail _ _ _ _ _ (.tail _ _ _ _ _ (.tail _ _ _ _ _ (.tail _ _ _ _ _ (Has.head _ _ _ _))))) (i := 1) rfl, M25.cell (.tail _ _ _ _ _ (.tail _ _ _ _ _ (.tail _ _ _ _ _ (.tail _ _ _ _ _ (Has.head _ _ _ _))))) (i := 2) rfl, M25.cell (.tail _ _ _ _ _ (.tail _ _ _ _ _ (.tail _ _ _ _ _ (Has.head _ _ _ _)))) (i := 0) rfl, M25.cell (.tail _ _ _ _ _ (.tail _ _ _ _ _ (.tail _ _ _ _ _ (Has.head _ _ _ _)))) (i := 1) rfl, M25.cell (.tail _ _ _ _ _ (.tail _ _ _ _ _ (.tail _ _ _ _ _ (Has.head _ _ _ _)))) (i := 2) rfl, M25.cell (.tail _ _ _ _ _ (.tail _ _ _ _ _ (Has.head _ _ _ _))) (i := 0) rfl, M25.cell (.tail _ _ _ _ _ (.tail _ _ _ _ _ (Has.head _ _ _ _))) (i := 1) rfl, M25.cell (.tail _ _ _ _ _ (.tail _ _ _ _ _ (Has.head _ _ _ _))) (i := 2) rfl⟩) (fun hHeld => ?_)
      clear hK K
      try simp only [Act.put, puts]
      exact rest _ gH5 ap cp M25 HD.out RI.out Vf.out Va.out Vz.out Vp.out
    · go_simp
      obtain ⟨v24, hw24⟩ : ∃ wq, v23.alloc (.cells #[.int .i64 5, .int .i64 3] 3) = wq := ⟨_, rfl⟩
      have M24 := M23.alloc 3 [.int .i64 5, .int .i64 3]
      rw [show v23.alloc (.cells [.int .i64 5, .int .i64 3].toArray 3) = v24 from hw24] at M24
      have hA : Below v23.heap.size v23 v24 := by rw [← hw24]; exact (Below.refl _ _).alloc (Nat.le_refl _) _
      replace HD := Lib.hid (HD.out.below hA)
      replace RI := Lib.hid (RI.out.below hA)
      replace Vf := Lib.hid (Vf.out.below hA)
      replace Va := Lib.hid (Va.out.below hA)
      replace Vz := Lib.hid (Vz.out.below hA)
      obtain ⟨gH5, hg⟩ : ∃ g9, g9 = v23.heap.size := ⟨_, rfl⟩
      try simp only [hw24]
      try rw [← hg]
      rw [← hg] at M24
      clear hg hw24 hA M23
      clear hHeld
      refine hK.out _ _ (⟨M24.cell (.tail _ _ _ _ _ (.tail _ _ _ _ _ (.tail _ _ _ _ _ (.tail _ _ _ _ _ (.tail _ _ _ _ _ (Has.head _ _ _ _)))))) (i := 0) rfl, M24.cell (.tail _ _ _ _ _ (.tail _ _ _ _ _ (.tail _ _ _ _ _ (.tail _ _ _ _ _ (.tail _ _ _ _ _ (Has.head _ _ _ _)))))) (i := 1) rfl, M24.cell (.tail _ _ _ _ _ (.tail _ _ _ _ _ (.tail _ _ _ _ _ (.tail _ _ _ _ _ (.tail _ _ _ _ _ (Has.head _ _ _ _)))))) (i := 2) rfl, M24.cell (.tail _ _ _ _ _ (.tail _ _ _ _ _ (.tail _ _ _ _ _ (.tail _ _ _ _ _ (.tail _ _ _ _ _ (Has.head _ _ _ _)))))) (i := 3) rfl, M24.cell (.tail _ _ _ _ _ (.tail _ _ _ _ _ (.tail _ _ _ _ _ (.tail _ _ _ _ _ (.tail _ _ _ _ _ (Has.head _ _ _ _)))))) (i := 4) rfl, M24.cell (.tail _ _ _ _ _ (.tail _ _ _ _ _ (.tail _ _ _ _ _ (.tail _ _ _ _ _ (.tail _ _ _ _ _ (Has.head _ _ _ _)))))) (i := 5) rfl, M24.cell (.tail _ _ _ _ _ (.tail _ _ _ _ _ (.tail _ _ _ _ _ (.tail _ _ _ _ _ (Has.head _ _ _ _))))) (i := 0) rfl, M24.cell (.tail _ _ _ _ _ (.tail _ _ _ _ _ (.tail _ _ _ _ _ (.tail _ _ _ _ _ (Has.head _ _ _ _))))) (i := 1) rfl, M24.cell (.tail _ _ _ _ _ (.tail _ _ _ _ _ (.tail _ _ _ _ _ (.tail _ _ _ _ _ (Has.head _ _ _ _))))) (i := 2) rfl, M24.cell (.tail _ _ _ _ _ (.tail _ _ _ _ _ (.tail _ _ _ _ _ (Has.head _ _ _ _)))) (i := 0) rfl, M24.cell (.tail _ _ _ _ _ (.tail _ _ _ _ _ (.tail _ _ _ _ _ (Has.head _ _ _ _)))) (i := 1) rfl, M24.cell (.tail _ _ _ _ _ (.tail _ _ _ _ _ (.tail _ _ _ _ _ (Has.head _ _ _ _)))) (i := 2) rfl, M24.cell (.tail _ _ _ _ _ (.tail _ _ _ _ _ (Has.head _ _ _ _))) (i := 0) rfl, M24.cell (.tail _ _ _ _ _ (.tail _ _ _ _ _ (Has.head _ _ _ _))) (i := 1) rfl, M24.cell (.tail _ _ _ _ _ (.tail _ _ _ _ _ (Has.head _ _ _ _))) (i := 2) rfl⟩) (fun hHeld => ?_)
      clear hK K
      try simp only [Act.put, puts]
      refine wpAnyH_ready (rs := [7]) (by kernel_rfl) (by simp) ?_
      refine AllReadyH.cons rfl (fun K hK => ?_) AllReadyH.nil
      go_simp
      refine (x_spread _ _ _ Va.out).mono ?_
      rintro e v25 ⟨ap, cp, rfl, hV, hA⟩
      have M25 := M24.call hA
      replace HD := Lib.hid (HD.out.below hA)
      replace RI := Lib.hid (RI.out.below hA)
      replace Vf := Lib.hid (Vf.out.below hA)
      replace Va := Lib.hid (Va.out.below hA)
      replace Vz := Lib.hid (Vz.out.below hA)
      clear M24
      have Vp := Lib.hid hV
      clear hV
      clear hA
      try go_wp2_with fail
      clear hHeld
      refine hK.out _ _ (⟨M25.cell (.tail _ _ _ _ _ (.tail _ _ _ _ _ (.tail _ _ _ _ _ (.tail _ _ _ _ _ (.tail _ _ _ _ _ (Has.head _ _ _ _)))))) (i := 0) rfl, M25.cell (.tail _ _ _ _ _ (.tail _ _ _ _ _ (.tail _ _ _ _ _ (.tail _ _ _ _ _ (.tail _ _ _ _ _ (Has.head _ _ _ _)))))) (i := 1) rfl, M25.cell (.tail _ _ _ _ _ (.tail _ _ _ _ _ (.tail _ _ _ _ _ (.tail _ _ _ _ _ (.tail _ _ _ _ _ (Has.head _ _ _ _)))))) (i := 2) rfl, M25.cell (.tail _ _ _ _ _ (.tail _ _ _ _ _ (.tail _ _ _ _ _ (.tail _ _ _ _ _ (.tail _ _ _ _ _ (Has.head _ _ _ _)))))) (i := 3) rfl, M25.cell (.tail _ _ _ _ _ (.tail _ _ _ _ _ (.tail _ _ _ _ _ (.tail _ _ _ _ _ (.tail _ _ _ _ _ (Has.head _ _ _ _)))))) (i := 4) rfl, M25.cell (.tail _ _ _ _ _ (.tail _ _ _ _ _ (.tail _ _ _ _ _ (.tail _ _ _ _ _ (.tail _ _ _ _ _ (Has.head _ _ _ _)))))) (i := 5) rfl, M25.cell (.tail _ _ _ _ _ (.tail _ _ _ _ _ (.tail _ _ _ _ _ (.tail _ _ _ _ _ (Has.head _ _ _ _))))) (i := 0) rfl, M25.cell (.tail _ _ _ _ _ (.tail _ _ _ _ _ (.tail _ _ _ _ _ (.tail _ _ _ _ _ (Has.head _ _ _ _))))) (i := 1) rfl, M25.cell (.tail _ _ _ _ _ (.tail _ _ _ _ _ (.tail _ _ _ _ _ (.tail _ _ _ _ _ (Has.head _ _ _ _))))) (i := 2) rfl, M25.cell (.tail _ _ _ _ _ (.tail _ _ _ _ _ (.tail _ _ _ _ _ (Has.head _ _ _ _)))) (i := 0) rfl, M25.cell (.tail _ _ _ _ _ (.tail _ _ _ _ _ (.tail _ _ _ _ _ (Has.head _ _ _ _)))) (i := 1) rfl, M25.cell (.tail _ _ _ _ _ (.tail _ _ _ _ _ (.tail _ _ _ _ _ (Has.head _ _ _ _)))) (i := 2) rfl, M25.cell (.tail _ _ _ _ _ (.tail _ _ _ _ _ (Has.head _ _ _ _))) (i := 0) rfl, M25.cell (.tail _ _ _ _ _ (.tail _ _ _ _ _ (Has.head _ _ _ _))) (i := 1) rfl, M25.cell (.tail _ _ _ _ _ (.tail _ _ _ _ _ (Has.head _ _ _ _))) (i := 2) rfl⟩) (fun hHeld => ?_)
      clear hK K
      try simp only [Act.put, puts]
      exact wpAnyH_at (by kernel_rfl) (rest _ gH5 ap cp M25 HD.out RI.out Vf.out Va.out Vz.out Vp.out)
  intro v26 gH5 ap cp M26 hHD hRI hVf hVa hVz hp
  have HD := Lib.hid hHD
  clear hHD
  have RI := Lib.hid hRI
  clear hRI
  have Vf := Lib.hid hVf
  clear hVf
  have Va := Lib.hid hVa
  clear hVa
  have Vz := Lib.hid hVz
  clear hVz
  have Vp := Lib.hid hp
  clear hp
  have hHeld : v26.cell? ⟨gG, 0, none⟩ = some (.int .i64 2) ∧ v26.cell? ⟨gG, 1, none⟩ = some (.int .i64 1) ∧ v26.cell? ⟨gG, 2, none⟩ = some (.int .i64 0) ∧ v26.cell? ⟨gG, 3, none⟩ = some (.int .i64 0) ∧ v26.cell? ⟨gG, 4, none⟩ = some (.int .i64 64) ∧ v26.cell? ⟨gG, 5, none⟩ = some (.slice (some ⟨gI, 0, none⟩) 2 2) ∧ v26.cell? ⟨gf, 0, none⟩ = some (.int .i64 2) ∧ v26.cell? ⟨gf, 1, none⟩ = some (.int .i64 1) ∧ v26.cell? ⟨gf, 2, none⟩ = some (.slice af 2 cf) ∧ v26.cell? ⟨ga, 0, none⟩ = some (.int .i64 2) ∧ v26.cell? ⟨ga, 1, none⟩ = some (.int .i64 1) ∧ v26.cell? ⟨ga, 2, none⟩ = some (.slice aa 2 ca) ∧ v26.cell? ⟨gs, 0, none⟩ = some (.int .i64 4) ∧ v26.cell? ⟨gs, 1, none⟩ = some (.int .i64 2) ∧ v26.cell? ⟨gs, 2, none⟩ = some (.slice az 8 cz) := ⟨M26.cell (.tail _ _ _ _ _ (.tail _ _ _ _ _ (.tail _ _ _ _ _ (.tail _ _ _ _ _ (.tail _ _ _ _ _ (Has.head _ _ _ _)))))) (i := 0) rfl, M26.cell (.tail _ _ _ _ _ (.tail _ _ _ _ _ (.tail _ _ _ _ _ (.tail _ _ _ _ _ (.tail _ _ _ _ _ (Has.head _ _ _ _)))))) (i := 1) rfl, M26.cell (.tail _ _ _ _ _ (.tail _ _ _ _ _ (.tail _ _ _ _ _ (.tail _ _ _ _ _ (.tail _ _ _ _ _ (Has.head _ _ _ _)))))) (i := 2) rfl, M26.cell (.tail _ _ _ _ _ (.tail _ _ _ _ _ (.tail _ _ _ _ _ (.tail _ _ _ _ _ (.tail _ _ _ _ _ (Has.head _ _ _ _)))))) (i := 3) rfl, M26.cell (.tail _ _ _ _ _ (.tail _ _ _ _ _ (.tail _ _ _ _ _ (.tail _ _ _ _ _ (.tail _ _ _ _ _ (Has.head _ _ _ _)))))) (i := 4) rfl, M26.cell (.tail _ _ _ _ _ (.tail _ _ _ _ _ (.tail _ _ _ _ _ (.tail _ _ _ _ _ (.tail _ _ _ _ _ (Has.head _ _ _ _)))))) (i := 5) rfl, M26.cell (.tail _ _ _ _ _ (.tail _ _ _ _ _ (.tail _ _ _ _ _ (.tail _ _ _ _ _ (Has.head _ _ _ _))))) (i := 0) rfl, M26.cell (.tail _ _ _ _ _ (.tail _ _ _ _ _ (.tail _ _ _ _ _ (.tail _ _ _ _ _ (Has.head _ _ _ _))))) (i := 1) rfl, M26.cell (.tail _ _ _ _ _ (.tail _ _ _ _ _ (.tail _ _ _ _ _ (.tail _ _ _ _ _ (Has.head _ _ _ _))))) (i := 2) rfl, M26.cell (.tail _ _ _ _ _ (.tail _ _ _ _ _ (.tail _ _ _ _ _ (Has.head _ _ _ _)))) (i := 0) rfl, M26.cell (.tail _ _ _ _ _ (.tail _ _ _ _ _ (.tail _ _ _ _ _ (Has.head _ _ _ _)))) (i := 1) rfl, M26.cell (.tail _ _ _ _ _ (.tail _ _ _ _ _ (.tail _ _ _ _ _ (Has.head _ _ _ _)))) (i := 2) rfl, M26.cell (.tail _ _ _ _ _ (.tail _ _ _ _ _ (Has.head _ _ _ _))) (i := 0) rfl, M26.cell (.tail _ _ _ _ _ (.tail _ _ _ _ _ (Has.head _ _ _ _))) (i := 1) rfl, M26.cell (.tail _ _ _ _ _ (.tail _ _ _ _ _ (Has.head _ _ _ _))) (i := 2) rfl⟩
  refine wpAnyH_ready (rs := [9]) (by kernel_rfl) (by simp) ?_
  refine AllReadyH.cons rfl (fun K hK => ?_) AllReadyH.nil
  go_simp
  refine (x_has5 _ _ _ _ _ Vp.out (sl_blk (cs := digs [5, 3]) (M26.has (Has.head _ _ _ _)) (show _ = 2 from rfl) (by omega))).mono ?_
  rintro e v27 ⟨rfl, hA⟩
  have M27 := M26.call hA
  replace HD := Lib.hid (HD.out.below hA)
  replace RI := Lib.hid (RI.out.below hA)
  replace Vf := Lib.hid (Vf.out.below hA)
  replace Va := Lib.hid (Va.out.below hA)
  replace Vz := Lib.hid (Vz.out.below hA)
  replace Vp := Lib.hid (Vp.out.below hA)
  clear M26
  clear hA
  try go_wp2_with fail
  clear hHeld
  refine hK.out _ _ (⟨M27.cell (.tail _ _ _ _ _ (.tail _ _ _ _ _ (.tail _ _ _ _ _ (.tail _ _ _ _ _ (.tail _ _ _ _ _ (Has.head _ _ _ _)))))) (i := 0) rfl, M27.cell (.tail _ _ _ _ _ (.tail _ _ _ _ _ (.tail _ _ _ _ _ (.tail _ _ _ _ _ (.tail _ _ _ _ _ (Has.head _ _ _ _)))))) (i := 1) rfl, M27.cell (.tail _ _ _ _ _ (.tail _ _ _ _ _ (.tail _ _ _ _ _ (.tail _ _ _ _ _ (.tail _ _ _ _ _ (Has.head _ _ _ _)))))) (i := 2) rfl, M27.cell (.tail _ _ _ _ _ (.tail _ _ _ _ _ (.tail _ _ _ _ _ (.tail _ _ _ _ _ (.tail _ _ _ _ _ (Has.head _ _ _ _)))))) (i := 3) rfl, M27.cell (.tail _ _ _ _ _ (.tail _ _ _ _ _ (.tail _ _ _ _ _ (.tail _ _ _ _ _ (.tail _ _ _ _ _ (Has.head _ _ _ _)))))) (i := 4) rfl, M27.cell (.tail _ _ _ _ _ (.tail _ _ _ _ _ (.tail _ _ _ _ _ (.tail _ _ _ _ _ (.tail _ _ _ _ _ (Has.head _ _ _ _)))))) (i := 5) rfl, M27.cell (.tail _ _ _ _ _ (.tail _ _ _ _ _ (.tail _ _ _ _ _ (.tail _ _ _ _ _ (Has.head _ _ _ _))))) (i := 0) rfl, M27.cell (.tail _ _ _ _ _ (.tail _ _ _ _ _ (.tail _ _ _ _ _ (.tail _ _ _ _ _ (Has.head _ _ _ _))))) (i := 1) rfl, M27.cell (.tail _ _ _ _ _ (.tail _ _ _ _ _ (.tail _ _ _ _ _ (.tail _ _ _ _ _ (Has.head _ _ _ _))))) (i := 2) rfl, M27.cell (.tail _ _ _ _ _ (.tail _ _ _ _ _ (.tail _ _ _ _ _ (Has.head _ _ _ _)))) (i := 0) rfl, M27.cell (.tail _ _ _ _ _ (.tail _ _ _ _ _ (.tail _ _ _ _ _ (Has.head _ _ _ _)))) (i := 1) rfl, M27.cell (.tail _ _ _ _ _ (.tail _ _ _ _ _ (.tail _ _ _ _ _ (Has.head _ _ _ _)))) (i := 2) rfl, M27.cell (.tail _ _ _ _ _ (.tail _ _ _ _ _ (Has.head _ _ _ _))) (i := 0) rfl, M27.cell (.tail _ _ _ _ _ (.tail _ _ _ _ _ (Has.head _ _ _ _))) (i := 1) rfl, M27.cell (.tail _ _ _ _ _ (.tail _ _ _ _ _ (Has.head _ _ _ _))) (i := 2) rfl⟩) (fun hHeld => ?_)
  clear hK K
  try simp only [Act.put, puts]
  clear Vp
  refine tkT 10 ?v9005 ?hy9005 hHeld ?rest9005 (hw := by kernel_rfl)
  case hy9005 => (intro w' hSw; (try dsimp only at hSw); go_simp; (try with_reducible rfl))
  try simp only [Act.put, puts]
  refine tkT 11 ?v9006 ?hy9006 hHeld ?rest9006 (hw := by kernel_rfl)
  case hy9006 => (intro w' hSw; (try dsimp only at hSw); go_simp; (try with_reducible rfl))
  try simp only [Act.put, puts]
  refine tkT 12 ?v9007 ?hy9007 hHeld ?rest9007 (hw := by kernel_rfl)
  case hy9007 => (intro w' hSw; (try dsimp only at hSw); go_simp; (try with_reducible rfl))
  try simp only [Act.put, puts]
  refine tkT 13 ?v9008 ?hy9008 hHeld ?rest9008 (hw := by kernel_rfl)
  case hy9008 => (intro w' hSw; (try dsimp only at hSw); go_simp; (try with_reducible rfl))
  try simp only [Act.put, puts]
  revert M27 HD RI Vf Va Vz hHeld
  refine (fun (rest : ∀ (wx : World) (gH6 : Nat) (al : Option Addr) (cl : Nat), Mem w wx [(gH6, 3, [.int .i64 3, .int .i64 1]), (gH5, 3, [.int .i64 5, .int .i64 3]), (gH4, 3, [.int .i64 1, .int .i64 1]), (gs, 32, [.int .i64 4, .int .i64 2, .slice az 8 cz]), (ga, 32, [.int .i64 2, .int .i64 1, .slice aa 2 ca]), (gf, 32, [.int .i64 2, .int .i64 1, .slice af 2 cf]), (gG, 28, [.int .i64 2, .int .i64 1, .int .i64 0, .int .i64 0, .int .i64 64, .slice (some ⟨gI, 0, none⟩) 2 2])] → Dbt wx → Sl wx 1 (.slice (some ⟨gI, 0, none⟩) 2 2) 2 (i64s [536870912, 536870912]) → IsV wx af 2 cf [536870912, 536870912] → IsV wx aa 2 ca [1610612736, 536870912] → IsV wx az 8 cz [536870912, 536870912, 536870912, 536870912, 536870912, 536870912, 536870912, 536870912] → IsV wx al 2 cl [3, 1] → (?PL : World → Nat → Option Addr → Nat → Prop) wx gH6 al cl) => ?PLo) ?PLr
  case PLo =>
    intro M27 HD RI Vf Va Vz hHeld
    refine wpAnyH_ready (rs := [14, 15]) (by kernel_rfl) (by simp) ?_
    refine AllReadyH.cons rfl (fun K hK => ?_) (AllReadyH.cons rfl (fun K hK => ?_) AllReadyH.nil)
    · go_simp
      refine (x_lean _ _ _ Va.out HD.out).mono ?_
      rintro e v28 ⟨al, cl, rfl, hV, hA⟩
      have M28 := M27.call hA
      replace HD := Lib.hid (HD.out.below hA)
      replace RI := Lib.hid (RI.out.below hA)
      replace Vf := Lib.hid (Vf.out.below hA)
      replace Va := Lib.hid (Va.out.below hA)
      replace Vz := Lib.hid (Vz.out.below hA)
      clear M27
      have Vl := Lib.hid hV
      clear hV
      clear hA
      try go_wp2_with fail
      clear hHeld
      refine hK.out _ _ (⟨M28.cell (.tail _ _ _ _ _ (.tail _ _ _ _ _ (.tail _ _ _ _ _ (.tail _ _ _ _ _ (.tail _ _ _ _ _ (Has.head _ _ _ _)))))) (i := 0) rfl, M28.cell (.tail _ _ _ _ _ (.tail _ _ _ _ _ (.tail _ _ _ _ _ (.tail _ _ _ _ _ (.tail _ _ _ _ _ (Has.head _ _ _ _)))))) (i := 1) rfl, M28.cell (.tail _ _ _ _ _ (.tail _ _ _ _ _ (.tail _ _ _ _ _ (.tail _ _ _ _ _ (.tail _ _ _ _ _ (Has.head _ _ _ _)))))) (i := 2) rfl, M28.cell (.tail _ _ _ _ _ (.tail _ _ _ _ _ (.tail _ _ _ _ _ (.tail _ _ _ _ _ (.tail _ _ _ _ _ (Has.head _ _ _ _)))))) (i := 3) rfl, M28.cell (.tail _ _ _ _ _ (.tail _ _ _ _ _ (.tail _ _ _ _ _ (.tail _ _ _ _ _ (.tail _ _ _ _ _ (Has.head _ _ _ _)))))) (i := 4) rfl, M28.cell (.tail _ _ _ _ _ (.tail _ _ _ _ _ (.tail _ _ _ _ _ (.tail _ _ _ _ _ (.tail _ _ _ _ _ (Has.head _ _ _ _)))))) (i := 5) rfl, M28.cell (.tail _ _ _ _ _ (.tail _ _ _ _ _ (.tail _ _ _ _ _ (.tail _ _ _ _ _ (Has.head _ _ _ _))))) (i := 0) rfl, M28.cell (.tail _ _ _ _ _ (.tail _ _ _ _ _ (.tail _ _ _ _ _ (.tail _ _ _ _ _ (Has.head _ _ _ _))))) (i := 1) rfl, M28.cell (.tail _ _ _ _ _ (.tail _ _ _ _ _ (.tail _ _ _ _ _ (.tail _ _ _ _ _ (Has.head _ _ _ _))))) (i := 2) rfl, M28.cell (.tail _ _ _ _ _ (.tail _ _ _ _ _ (.tail _ _ _ _ _ (Has.head _ _ _ _)))) (i := 0) rfl, M28.cell (.tail _ _ _ _ _ (.tail _ _ _ _ _ (.tail _ _ _ _ _ (Has.head _ _ _ _)))) (i := 1) rfl, M28.cell (.tail _ _ _ _ _ (.tail _ _ _ _ _ (.tail _ _ _ _ _ (Has.head _ _ _ _)))) (i := 2) rfl, M28.cell (.tail _ _ _ _ _ (.tail _ _ _ _ _ (Has.head _ _ _ _))) (i := 0) rfl, M28.cell (.tail _ _ _ _ _ (.tail _ _ _ _ _ (Has.head _ _ _ _))) (i := 1) rfl, M28.cell (.tail _ _ _ _ _ (.tail _ _ _ _ _ (Has.head _ _ _ _))) (i := 2) rfl⟩) (fun hHeld => ?_)
      clear hK K
      try simp only [Act.put, puts]
      refine wpAnyH_ready (rs := [15]) (by kernel_rfl) (by simp) ?_
      refine AllReadyH.cons rfl (fun K hK => ?_) AllReadyH.nil
      go_simp
      obtain ⟨v29, hw29⟩ : ∃ wq, v28.alloc (.cells #[.int .i64 3, .int .i64 1] 3) = wq := ⟨_, rfl⟩
      have M29 := M28.alloc 3 [.int .i64 3, .int .i64 1]
      rw [show v28.alloc (.cells [.int .i64 3, .int .i64 1].toArray 3) = v29 from hw29] at M29
      have hA : Below v28.heap.size v28 v29 := by rw [← hw29]; exact (Below.refl _ _).alloc (Nat.le_refl _) _
      replace HD := Lib.hid (HD.out.below hA)
      replace RI := Lib.hid (RI.out.below hA)
      replace Vf := Lib.hid (Vf.out.below hA)
      replace Va := Lib.hid (Va.out.below hA)
      replace Vz := Lib.hid (Vz.out.below hA)
      replace Vl := Lib.hid (Vl.out.below hA)
      obtain ⟨gH6, hg⟩ : ∃ g9, g9 = v28.heap.size := ⟨_, rfl⟩
      try simp only [hw29]
      try rw [← hg]
      rw [← hg] at M29
      clear hg hw29 hA M28
      clear hHeld
      refine hK.out _ _ (⟨M29.cell (.tail _ _ _ _ _ (.tail _ _ _ _ _ (.tail _ _ _ _ _ (.tail _ _ _ _ _ (.tail _ _ _ _ _ (.tail _ _ _ _ _ (Has.head _ _ _ _))))))) (i := 0) rfl, M29.cell (.tail _ _ _ _ _ (.tail _ _ _ _ _ (.tail _ _ _ _ _ (.tail _ _ _ _ _ (.tail _ _ _ _ _ (.tail _ _ _ _ _ (Has.head _ _ _ _))))))) (i := 1) rfl, M29.cell (.tail _ _ _ _ _ (.tail _ _ _ _ _ (.tail _ _ _ _ _ (.tail _ _ _ _ _ (.tail _ _ _ _ _ (.tail _ _ _ _ _ (Has.head _ _ _ _))))))) (i := 2) rfl, M29.cell (.tail _ _ _ _ _ (.tail _ _ _ _ _ (.tail _ _ _ _ _ (.tail _ _ _ _ _ (.tail _ _ _ _ _ (.tail _ _ _ _ _ (Has.head _ _ _ _))))))) (i := 3) rfl, M29.cell (.tail _ _ _ _ _ (.tail _ _ _ _ _ (.tail _ _ _ _ _ (.tail _ _ _ _ _ (.tail _ _ _ _ _ (.tail _ _ _ _ _ (Has.head _ _ _ _))))))) (i := 4) rfl, M29.cell (.tail _ _ _ _ _ (.tail _ _ _ _ _ (.tail _ _ _ _ _ (.tail _ _ _ _ _ (.tail _ _ _ _ _ (.tail _ _ _ _ _ (Has.head _ _ _ _))))))) (i := 5) rfl, M29.cell (.tail _ _ _ _ _ (.tail _ _ _ _ _ (.tail _ _ _ _ _ (.tail _ _ _ _ _ (.tail _ _ _ _ _ (Has.head _ _ _ _)))))) (i := 0) rfl, M29.cell (.tail _ _ _ _ _ (.tail _ _ _ _ _ (.tail _ _ _ _ _ (.tail _ _ _ _ _ (.tail _ _ _ _ _ (Has.head _ _ _ _)))))) (i := 1) rfl, M29.cell (.tail _ _ _ _ _ (.tail _ _ _ _ _ (.tail _ _ _ _ _ (.tail _ _ _ _ _ (.tail _ _ _ _ _ (Has.head _ _ _ _)))))) (i := 2) rfl, M29.cell (.tail _ _ _ _ _ (.tail _ _ _ _ _ (.tail _ _ _ _ _ (.tail _ _ _ _ _ (Has.head _ _ _ _))))) (i := 0) rfl, M29.cell (.tail _ _ _ _ _ (.tail _ _ _ _ _ (.tail _ _ _ _ _ (.tail _ _ _ _ _ (Has.head _ _ _ _))))) (i := 1) rfl, M29.cell (.tail _ _ _ _ _ (.tail _ _ _ _ _ (.tail _ _ _ _ _ (.tail _ _ _ _ _ (Has.head _ _ _ _))))) (i := 2) rfl, M29.cell (.tail _ _ _ _ _ (.tail _ _ _ _ _ (.tail _ _ _ _ _ (Has.head _ _ _ _)))) (i := 0) rfl, M29.cell (.tail _ _ _ _ _ (.tail _ _ _ _ _ (.tail _ _ _ _ _ (Has.head _ _ _ _)))) (i := 1) rfl, M29.cell (.tail _ _ _ _ _ (.tail _ _ _ _ _ (.tail _ _ _ _ _ (Has.head _ _ _ _)))) (i := 2) rfl⟩) (fun hHeld => ?_)
      clear hK K
      try simp only [Act.put, puts]
      exact rest _ gH6 al cl M29 HD.out RI.out Vf.out Va.out Vz.out Vl.out
    · go_simp
      obtain ⟨v28, hw28⟩ : ∃ wq, v27.alloc (.cells #[.int .i64 3, .int .i64 1] 3) = wq := ⟨_, rfl⟩
      have M28 := M27.alloc 3 [.int .i64 3, .int .i64 1]
      rw [show v27.alloc (.cells [.int .i64 3, .int .i64 1].toArray 3) = v28 from hw28] at M28
      have hA : Below v27.heap.size v27 v28 := by rw [← hw28]; exact (Below.refl _ _).alloc (Nat.le_refl _) _
      replace HD := Lib.hid (HD.out.below hA)
      replace RI := Lib.hid (RI.out.below hA)
      replace Vf := Lib.hid (Vf.out.below hA)
      replace Va := Lib.hid (Va.out.below hA)
      replace Vz := Lib.hid (Vz.out.below hA)
      obtain ⟨gH6, hg⟩ : ∃ g9, g9 = v27.heap.size := ⟨_, rfl⟩
      try simp only [hw28]
      try rw [← hg]
      rw [← hg] at M28
      clear hg hw28 hA M27
      clear hHeld
      refine hK.out _ _ (⟨M28.cell (.tail _ _ _ _ _ (.tail _ _ _ _ _ (.tail _ _ _ _ _ (.tail _ _ _ _ _ (.tail _ _ _ _ _ (.tail _ _ _ _ _ (Has.head _ _ _ _))))))) (i := 0) rfl, M28.cell (.tail _ _ _ _ _ (.tail _ _ _ _ _ (.tail _ _ _ _ _ (.tail _ _ _ _ _ (.tail _ _ _ _ _ (.tail _ _ _ _ _ (Has.head _ _ _ _))))))) (i := 1) rfl, M28.cell (.tail _ _ _ _ _ (.tail _ _ _ _ _ (.tail _ _ _ _ _ (.tail _ _ _ _ _ (.tail _ _ _ _ _ (.tail _ _ _ _ _ (Has.head _ _ _ _))))))) (i := 2) rfl, M28.cell (.tail _ _ _ _ _ (.tail _ _ _ _ _ (.tail _ _ _ _ _ (.tail _ _ _ _ _ (.tail _ _ _ _ _ (.tail _ _ _ _ _ (Has.head _ _ _ _))))))) (i := 3) rfl, M28.cell (.tail _ _ _ _ _ (.tail _ _ _ _ _ (.tail _ _ _ _ _ (.tail _ _ _ _ _ (.tail _ _ _ _ _ (.tail _ _ _ _ _ (Has.head _ _ _ _))))))) (i := 4) rfl, M28.cell (.tail _ _ _ _ _ (.tail _ _ _ _ _ (.tail _ _ _ _ _ (.tail _ _ _ _ _ (.tail _ _ _ _ _ (.tail _ _ _ _ _ (Has.head _ _ _ _))))))) (i := 5) rfl, M28.cell (.tail _ _ _ _ _ (.tail _ _ _ _ _ (.tail _ _ _ _ _ (.tail _ _ _ _ _ (.tail _ _ _ _ _ (Has.head _ _ _ _)))))) (i := 0) rfl, M28.cell (.tail _ _ _ _ _ (.tail _ _ _ _ _ (.tail _ _ _ _ _ (.tail _ _ _ _ _ (.tail _ _ _ _ _ (Has.head _ _ _ _)))))) (i := 1) rfl, M28.cell (.tail _ _ _ _ _ (.tail _ _ _ _ _ (.tail _ _ _ _ _ (.tail _ _ _ _ _ (.tail _ _ _ _ _ (Has.head _ _ _ _)))))) (i := 2) rfl, M28.cell (.tail _ _ _ _ _ (.tail _ _ _ _ _ (.tail _ _ _ _ _ (.tail _ _ _ _ _ (Has.head _ _ _ _))))) (i := 0) rfl, M28.cell (.tail _ _ _ _ _ (.tail _ _ _ _ _ (.tail _ _ _ _ _ (.tail _ _ _ _ _ (Has.head _ _ _ _))))) (i := 1) rfl, M28.cell (.tail _ _ _ _ _ (.tail _ _ _ _ _ (.tail _ _ _ _ _ (.tail _ _ _ _ _ (Has.head _ _ _ _))))) (i := 2) rfl, M28.cell (.tail _ _ _ _ _ (.tail _ _ _ _ _ (.tail _ _ _ _ _ (Has.head _ _ _ _)))) (i := 0) rfl, M28.cell (.tail _ _ _ _ _ (.tail _ _ _ _ _ (.tail _ _ _ _ _ (Has.head _ _ _ _)))) (i := 1) rfl, M28.cell (.tail _ _ _ _ _ (.tail _ _ _ _ _ (.tail _ _ _ _ _ (Has.head _ _ _ _)))) (i := 2) rfl⟩) (fun hHeld => ?_)
      clear hK K
      try simp only [Act.put, puts]
      refine wpAnyH_ready (rs := [14]) (by kernel_rfl) (by simp) ?_
      refine AllReadyH.cons rfl (fun K hK => ?_) AllReadyH.nil
      go_simp
      refine (x_lean _ _ _ Va.out HD.out).mono ?_
      rintro e v29 ⟨al, cl, rfl, hV, hA⟩
      have M29 := M28.call hA
      replace HD := Lib.hid (HD.out.below hA)
      replace RI := Lib.hid (RI.out.below hA)
      replace Vf := Lib.hid (Vf.out.below hA)
      replace Va := Lib.hid (Va.out.below hA)
      replace Vz := Lib.hid (Vz.out.below hA)
      clear M28
      have Vl := Lib.hid hV
      clear hV
      clear hA
      try go_wp2_with fail
      clear hHeld
      refine hK.out _ _ (⟨M29.cell (.tail _ _ _ _ _ (.tail _ _ _ _ _ (.tail _ _ _ _ _ (.tail _ _ _ _ _ (.tail _ _ _ _ _ (.tail _ _ _ _ _ (Has.head _ _ _ _))))))) (i := 0) rfl, M29.cell (.tail _ _ _ _ _ (.tail _ _ _ _ _ (.tail _ _ _ _ _ (.tail _ _ _ _ _ (.tail _ _ _ _ _ (.tail _ _ _ _ _ (Has.head _ _ _ _))))))) (i := 1) rfl, M29.cell (.tail _ _ _ _ _ (.tail _ _ _ _ _ (.tail _ _ _ _ _ (.tail _ _ _ _ _ (.tail _ _ _ _ _ (.tail _ _ _ _ _ (Has.head _ _ _ _))))))) (i := 2) rfl, M29.cell (.tail _ _ _ _ _ (.tail _ _ _ _ _ (.tail _ _ _ _ _ (.tail _ _ _ _ _ (.tail _ _ _ _ _ (.tail _ _ _ _ _ (Has.head _ _ _ _))))))) (i := 3) rfl, M29.cell (.tail _ _ _ _ _ (.tail _ _ _ _ _ (.tail _ _ _ _ _ (.tail _ _ _ _ _ (.tail _ _ _ _ _ (.tail _ _ _ _ _ (Has.head _ _ _ _))))))) (i := 4) rfl, M29.cell (.tail _ _ _ _ _ (.tail _ _ _ _ _ (.tail _ _ _ _ _ (.tail _ _ _ _ _ (.tail _ _ _ _ _ (.tail _ _ _ _ _ (Has.head _ _ _ _))))))) (i := 5) rfl, M29.cell (.tail _ _ _ _ _ (.tail _ _ _ _ _ (.tail _ _ _ _ _ (.tail _ _ _ _ _ (.tail _ _ _ _ _ (Has.head _ _ _ _)))))) (i := 0) rfl, M29.cell (.tail _ _ _ _ _ (.tail _ _ _ _ _ (.tail _ _ _ _ _ (.tail _ _ _ _ _ (.tail _ _ _ _ _ (Has.head _ _ _ _)))))) (i := 1) rfl, M29.cell (.tail _ _ _ _ _ (.tail _ _ _ _ _ (.tail _ _ _ _ _ (.tail _ _ _ _ _ (.tail _ _ _ _ _ (Has.head _ _ _ _)))))) (i := 2) rfl, M29.cell (.tail _ _ _ _ _ (.tail _ _ _ _ _ (.tail _ _ _ _ _ (.tail _ _ _ _ _ (Has.head _ _ _ _))))) (i := 0) rfl, M29.cell (.tail _ _ _ _ _ (.tail _ _ _ _ _ (.tail _ _ _ _ _ (.tail _ _ _ _ _ (Has.head _ _ _ _))))) (i := 1) rfl, M29.cell (.tail _ _ _ _ _ (.tail _ _ _ _ _ (.tail _ _ _ _ _ (.tail _ _ _ _ _ (Has.head _ _ _ _))))) (i := 2) rfl, M29.cell (.tail _ _ _ _ _ (.tail _ _ _ _ _ (.tail _ _ _ _ _ (Has.head _ _ _ _)))) (i := 0) rfl, M29.cell (.tail _ _ _ _ _ (.tail _ _ _ _ _ (.tail _ _ _ _ _ (Has.head _ _ _ _)))) (i := 1) rfl, M29.cell (.tail _ _ _ _ _ (.tail _ _ _ _ _ (.tail _ _ _ _ _ (Has.head _ _ _ _)))) (i := 2) rfl⟩) (fun hHeld => ?_)
      clear hK K
      try simp only [Act.put, puts]
      exact wpAnyH_at (by kernel_rfl) (rest _ gH6 al cl M29 HD.out RI.out Vf.out Va.out Vz.out Vl.out)
  intro v30 gH6 al cl M30 hHD hRI hVf hVa hVz hl
  have HD := Lib.hid hHD
  clear hHD
  have RI := Lib.hid hRI
  clear hRI
  have Vf := Lib.hid hVf
  clear hVf
  have Va := Lib.hid hVa
  clear hVa
  have Vz := Lib.hid hVz
  clear hVz
  have Vl := Lib.hid hl
  clear hl
  have hHeld : v30.cell? ⟨gG, 0, none⟩ = some (.int .i64 2) ∧ v30.cell? ⟨gG, 1, none⟩ = some (.int .i64 1) ∧ v30.cell? ⟨gG, 2, none⟩ = some (.int .i64 0) ∧ v30.cell? ⟨gG, 3, none⟩ = some (.int .i64 0) ∧ v30.cell? ⟨gG, 4, none⟩ = some (.int .i64 64) ∧ v30.cell? ⟨gG, 5, none⟩ = some (.slice (some ⟨gI, 0, none⟩) 2 2) ∧ v30.cell? ⟨gf, 0, none⟩ = some (.int .i64 2) ∧ v30.cell? ⟨gf, 1, none⟩ = some (.int .i64 1) ∧ v30.cell? ⟨gf, 2, none⟩ = some (.slice af 2 cf) ∧ v30.cell? ⟨ga, 0, none⟩ = some (.int .i64 2) ∧ v30.cell? ⟨ga, 1, none⟩ = some (.int .i64 1) ∧ v30.cell? ⟨ga, 2, none⟩ = some (.slice aa 2 ca) ∧ v30.cell? ⟨gs, 0, none⟩ = some (.int .i64 4) ∧ v30.cell? ⟨gs, 1, none⟩ = some (.int .i64 2) ∧ v30.cell? ⟨gs, 2, none⟩ = some (.slice az 8 cz) := ⟨M30.cell (.tail _ _ _ _ _ (.tail _ _ _ _ _ (.tail _ _ _ _ _ (.tail _ _ _ _ _ (.tail _ _ _ _ _ (.tail _ _ _ _ _ (Has.head _ _ _ _))))))) (i := 0) rfl, M30.cell (.tail _ _ _ _ _ (.tail _ _ _ _ _ (.tail _ _ _ _ _ (.tail _ _ _ _ _ (.tail _ _ _ _ _ (.tail _ _ _ _ _ (Has.head _ _ _ _))))))) (i := 1) rfl, M30.cell (.tail _ _ _ _ _ (.tail _ _ _ _ _ (.tail _ _ _ _ _ (.tail _ _ _ _ _ (.tail _ _ _ _ _ (.tail _ _ _ _ _ (Has.head _ _ _ _))))))) (i := 2) rfl, M30.cell (.tail _ _ _ _ _ (.tail _ _ _ _ _ (.tail _ _ _ _ _ (.tail _ _ _ _ _ (.tail _ _ _ _ _ (.tail _ _ _ _ _ (Has.head _ _ _ _))))))) (i := 3) rfl, M30.cell (.tail _ _ _ _ _ (.tail _ _ _ _ _ (.tail _ _ _ _ _ (.tail _ _ _ _ _ (.tail _ _ _ _ _ (.tail _ _ _ _ _ (Has.head _ _ _ _))))))) (i := 4) rfl, M30.cell (.tail _ _ _ _ _ (.tail _ _ _ _ _ (.tail _ _ _ _ _ (.tail _ _ _ _ _ (.tail _ _ _ _ _ (.tail _ _ _ _ _ (Has.head _ _ _ _))))))) (i := 5) rfl, M30.cell (.tail _ _ _ _ _ (.tail _ _ _ _ _ (.tail _ _ _ _ _ (.tail _ _ _ _ _ (.tail _ _ _ _ _ (Has.head _ _ _ _)))))) (i := 0) rfl, M30.cell (.tail _ _ _ _ _ (.tail _ _ _ _ _ (.tail _ _ _ _ _ (.tail _ _ _ _ _ (.tail _ _ _ _ _ (Has.head _ _ _ _)))))) (i := 1) rfl, M30.cell (.tail _ _ _ _ _ (.tail _ _ _ _ _ (.tail _ _ _ _ _ (.tail _ _ _ _ _ (.tail _ _ _ _ _ (Has.head _ _ _ _)))))) (i := 2) rfl, M30.cell (.tail _ _ _ _ _ (.tail _ _ _ _ _ (.tail _ _ _ _ _ (.tail _ _ _ _ _ (Has.head _ _ _ _))))) (i := 0) rfl, M30.cell (.tail _ _ _ _ _ (.tail _ _ _ _ _ (.tail _ _ _ _ _ (.tail _ _ _ _ _ (Has.head _ _ _ _))))) (i := 1) rfl, M30.cell (.tail _ _ _ _ _ (.tail _ _ _ _ _ (.tail _ _ _ _ _ (.tail _ _ _ _ _ (Has.head _ _ _ _))))) (i := 2) rfl, M30.cell (.tail _ _ _ _ _ (.tail _ _ _ _ _ (.tail _ _ _ _ _ (Has.head _ _ _ _)))) (i := 0) rfl, M30.cell (.tail _ _ _ _ _ (.tail _ _ _ _ _ (.tail _ _ _ _ _ (Has.head _ _ _ _)))) (i := 1) rfl, M30.cell (.tail _ _ _ _ _ (.tail _ _ _ _ _ (.tail _ _ _ _ _ (Has.head _ _ _ _)))) (i := 2) rfl⟩
  refine wpAnyH_ready (rs := [16]) (by kernel_rfl) (by simp) ?_
  refine AllReadyH.cons rfl (fun K hK => ?_) AllReadyH.nil
  go_simp
  refine (x_has6 _ _ _ _ _ Vl.out (sl_blk (cs := digs [3, 1]) (M30.has (Has.head _ _ _ _)) (show _ = 2 from rfl) (by omega))).mono ?_
  rintro e v31 ⟨rfl, hA⟩
  have M31 := M30.call hA
  replace HD := Lib.hid (HD.out.below hA)
  replace RI := Lib.hid (RI.out.below hA)
  replace Vf := Lib.hid (Vf.out.below hA)
  replace Va := Lib.hid (Va.out.below hA)
  replace Vz := Lib.hid (Vz.out.below hA)
  replace Vl := Lib.hid (Vl.out.below hA)
  clear M30
  clear hA
  try go_wp2_with fail
  clear hHeld
  refine hK.out _ _ (⟨M31.cell (.tail _ _ _ _ _ (.tail _ _ _ _ _ (.tail _ _ _ _ _ (.tail _ _ _ _ _ (.tail _ _ _ _ _ (.tail _ _ _ _ _ (Has.head _ _ _ _))))))) (i := 0) rfl, M31.cell (.tail _ _ _ _ _ (.tail _ _ _ _ _ (.tail _ _ _ _ _ (.tail _ _ _ _ _ (.tail _ _ _ _ _ (.tail _ _ _ _ _ (Has.head _ _ _ _))))))) (i := 1) rfl, M31.cell (.tail _ _ _ _ _ (.tail _ _ _ _ _ (.tail _ _ _ _ _ (.tail _ _ _ _ _ (.tail _ _ _ _ _ (.tail _ _ _ _ _ (Has.head _ _ _ _))))))) (i := 2) rfl, M31.cell (.tail _ _ _ _ _ (.tail _ _ _ _ _ (.tail _ _ _ _ _ (.tail _ _ _ _ _ (.tail _ _ _ _ _ (.tail _ _ _ _ _ (Has.head _ _ _ _))))))) (i := 3) rfl, M31.cell (.tail _ _ _ _ _ (.tail _ _ _ _ _ (.tail _ _ _ _ _ (.tail _ _ _ _ _ (.tail _ _ _ _ _ (.tail _ _ _ _ _ (Has.head _ _ _ _))))))) (i := 4) rfl, M31.cell (.tail _ _ _ _ _ (.tail _ _ _ _ _ (.tail _ _ _ _ _ (.tail _ _ _ _ _ (.tail _ _ _ _ _ (.tail _ _ _ _ _ (Has.head _ _ _ _))))))) (i := 5) rfl, M31.cell (.tail _ _ _ _ _ (.tail _ _ _ _ _ (.tail _ _ _ _ _ (.tail _ _ _ _ _ (.tail _ _ _ _ _ (Has.head _ _ _ _)))))) (i := 0) rfl, M31.cell (.tail _ _ _ _ _ (.tail _ _ _ _ _ (.tail _ _ _ _ _ (.tail _ _ _ _ _ (.tail _ _ _ _ _ (Has.head _ _ _ _)))))) (i := 1) rfl, M31.cell (.tail _ _ _ _ _ (.tail _ _ _ _ _ (.tail _ _ _ _ _ (.tail _ _ _ _ _ (.tail _ _ _ _ _ (Has.head _ _ _ _)))))) (i := 2) rfl, M31.cell (.tail _ _ _ _ _ (.tail _ _ _ _ _ (.tail _ _ _ _ _ (.tail _ _ _ _ _ (Has.head _ _ _ _))))) (i := 0) rfl, M31.cell (.tail _ _ _ _ _ (.tail _ _ _ _ _ (.tail _ _ _ _ _ (.tail _ _ _ _ _ (Has.head _ _ _ _))))) (i := 1) rfl, M31.cell (.tail _ _ _ _ _ (.tail _ _ _ _ _ (.tail _ _ _ _ _ (.tail _ _ _ _ _ (Has.head _ _ _ _))))) (i := 2) rfl, M31.cell (.tail _ _ _ _ _ (.tail _ _ _ _ _ (.tail _ _ _ _ _ (Has.head _ _ _ _)))) (i := 0) rfl, M31.cell (.tail _ _ _ _ _ (.tail _ _ _ _ _ (.tail _ _ _ _ _ (Has.head _ _ _ _)))) (i := 1) rfl, M31.cell (.tail _ _ _ _ _ (.tail _ _ _ _ _ (.tail _ _ _ _ _ (Has.head _ _ _ _)))) (i := 2) rfl⟩) (fun hHeld => ?_)
  clear hK K
  try simp only [Act.put, puts]
  clear Vl
  refine tkT 17 ?v9009 ?hy9009 hHeld ?rest9009 (hw := by kernel_rfl)
  case hy9009 => (intro w' hSw; (try dsimp only at hSw); go_simp; (try with_reducible rfl))
  try simp only [Act.put, puts]
  refine tkT 18 ?v9010 ?hy9010 hHeld ?rest9010 (hw := by kernel_rfl)
  case hy9010 => (intro w' hSw; (try dsimp only at hSw); go_simp; (try with_reducible rfl))
  try simp only [Act.put, puts]
  refine tkT 19 ?v9011 ?hy9011 hHeld ?rest9011 (hw := by kernel_rfl)
  case hy9011 => (intro w' hSw; (try dsimp only at hSw); go_simp; (try with_reducible rfl))
  try simp only [Act.put, puts]
  refine tkT 20 ?v9012 ?hy9012 hHeld ?rest9012 (hw := by kernel_rfl)
  case hy9012 => (intro w' hSw; (try dsimp only at hSw); go_simp; (try with_reducible rfl))
  try simp only [Act.put, puts]
  refine tkT 21 ?v9013 ?hy9013 hHeld ?rest9013 (hw := by kernel_rfl)
  case hy9013 => (intro w' hSw; (try dsimp only at hSw); go_simp; (try with_reducible rfl))
  try simp only [Act.put, puts]
  refine wpAnyH_ready (rs := [22]) (by kernel_rfl) (by simp) ?_
  refine AllReadyH.cons rfl (fun K hK => ?_) AllReadyH.nil
  go_simp
  refine (x_over1 _ _ _ _ _ RI.out Vf.out).mono ?_
  rintro e v32 ⟨rfl, hA⟩
  have M32 := M31.call hA
  replace HD := Lib.hid (HD.out.below hA)
  replace RI := Lib.hid (RI.out.below hA)
  replace Vf := Lib.hid (Vf.out.below hA)
  replace Va := Lib.hid (Va.out.below hA)
  replace Vz := Lib.hid (Vz.out.below hA)
  clear M31
  clear hA
  try go_wp2_with fail
  clear hHeld
  refine hK.out _ _ (⟨M32.cell (.tail _ _ _ _ _ (.tail _ _ _ _ _ (.tail _ _ _ _ _ (.tail _ _ _ _ _ (.tail _ _ _ _ _ (.tail _ _ _ _ _ (Has.head _ _ _ _))))))) (i := 0) rfl, M32.cell (.tail _ _ _ _ _ (.tail _ _ _ _ _ (.tail _ _ _ _ _ (.tail _ _ _ _ _ (.tail _ _ _ _ _ (.tail _ _ _ _ _ (Has.head _ _ _ _))))))) (i := 1) rfl, M32.cell (.tail _ _ _ _ _ (.tail _ _ _ _ _ (.tail _ _ _ _ _ (.tail _ _ _ _ _ (.tail _ _ _ _ _ (.tail _ _ _ _ _ (Has.head _ _ _ _))))))) (i := 2) rfl, M32.cell (.tail _ _ _ _ _ (.tail _ _ _ _ _ (.tail _ _ _ _ _ (.tail _ _ _ _ _ (.tail _ _ _ _ _ (.tail _ _ _ _ _ (Has.head _ _ _ _))))))) (i := 3) rfl, M32.cell (.tail _ _ _ _ _ (.tail _ _ _ _ _ (.tail _ _ _ _ _ (.tail _ _ _ _ _ (.tail _ _ _ _ _ (.tail _ _ _ _ _ (Has.head _ _ _ _))))))) (i := 4) rfl, M32.cell (.tail _ _ _ _ _ (.tail _ _ _ _ _ (.tail _ _ _ _ _ (.tail _ _ _ _ _ (.tail _ _ _ _ _ (.tail _ _ _ _ _ (Has.head _ _ _ _))))))) (i := 5) rfl, M32.cell (.tail _ _ _ _ _ (.tail _ _ _ _ _ (.tail _ _ _ _ _ (.tail _ _ _ _ _ (.tail _ _ _ _ _ (Has.head _ _ _ _)))))) (i := 0) rfl, M32.cell (.tail _ _ _ _ _ (.tail _ _ _ _ _ (.tail _ _ _ _ _ (.tail _ _ _ _ _ (.tail _ _ _ _ _ (Has.head _ _ _ _)))))) (i := 1) rfl, M32.cell (.tail _ _ _ _ _ (.tail _ _ _ _ _ (.tail _ _ _ _ _ (.tail _ _ _ _ _ (.tail _ _ _ _ _ (Has.head _ _ _ _)))))) (i := 2) rfl, M32.cell (.tail _ _ _ _ _ (.tail _ _ _ _ _ (.tail _ _ _ _ _ (.tail _ _ _ _ _ (Has.head _ _ _ _))))) (i := 0) rfl, M32.cell (.tail _ _ _ _ _ (.tail _ _ _ _ _ (.tail _ _ _ _ _ (.tail _ _ _ _ _ (Has.head _ _ _ _))))) (i := 1) rfl, M32.cell (.tail _ _ _ _ _ (.tail _ _ _ _ _ (.tail _ _ _ _ _ (.tail _ _ _ _ _ (Has.head _ _ _ _))))) (i := 2) rfl, M32.cell (.tail _ _ _ _ _ (.tail _ _ _ _ _ (.tail _ _ _ _ _ (Has.head _ _ _ _)))) (i := 0) rfl, M32.cell (.tail _ _ _ _ _ (.tail _ _ _ _ _ (.tail _ _ _ _ _ (Has.head _ _ _ _)))) (i := 1) rfl, M32.cell (.tail _ _ _ _ _ (.tail _ _ _ _ _ (.tail _ _ _ _ _ (Has.head _ _ _ _)))) (i := 2) rfl⟩) (fun hHeld => ?_)
  clear hK K
  try simp only [Act.put, puts]
  refine tkT 23 ?v9014 ?hy9014 hHeld ?rest9014 (hw := by kernel_rfl)
  case hy9014 => (intro w' hSw; (try dsimp only at hSw); go_simp; (try with_reducible rfl))
  try simp only [Act.put, puts]
  refine tkT 24 ?v9015 ?hy9015 hHeld ?rest9015 (hw := by kernel_rfl)
  case hy9015 => (intro w' hSw; (try dsimp only at hSw); go_simp; (try with_reducible rfl))
  try simp only [Act.put, puts]
  refine tkT 25 ?v9016 ?hy9016 hHeld ?rest9016 (hw := by kernel_rfl)
  case hy9016 => (intro w' hSw; (try dsimp only at hSw); go_simp; (try with_reducible rfl))
  try simp only [Act.put, puts]
  refine tkT 26 ?v9017 ?hy9017 hHeld ?rest9017 (hw := by kernel_rfl)
  case hy9017 => (intro w' hSw; (try dsimp only at hSw); go_simp; (try with_reducible rfl))
  try simp only [Act.put, puts]
  refine tkT 27 ?v9018 ?hy9018 hHeld ?rest9018 (hw := by kernel_rfl)
  case hy9018 => (intro w' hSw; (try dsimp only at hSw); go_simp; (try with_reducible rfl))
  try simp only [Act.put, puts]
  refine wpAnyH_ready (rs := [28]) (by kernel_rfl) (by simp) ?_
  refine AllReadyH.cons rfl (fun K hK => ?_) AllReadyH.nil
  go_simp
  refine (x_over2 _ _ _ _ _ RI.out Va.out).mono ?_
  rintro e v33 ⟨rfl, hA⟩
  have M33 := M32.call hA
  replace HD := Lib.hid (HD.out.below hA)
  replace RI := Lib.hid (RI.out.below hA)
  replace Vf := Lib.hid (Vf.out.below hA)
  replace Va := Lib.hid (Va.out.below hA)
  replace Vz := Lib.hid (Vz.out.below hA)
  clear M32
  clear hA
  try go_wp2_with fail
  clear hHeld
  refine hK.out _ _ (⟨M33.cell (.tail _ _ _ _ _ (.tail _ _ _ _ _ (.tail _ _ _ _ _ (.tail _ _ _ _ _ (.tail _ _ _ _ _ (.tail _ _ _ _ _ (Has.head _ _ _ _))))))) (i := 0) rfl, M33.cell (.tail _ _ _ _ _ (.tail _ _ _ _ _ (.tail _ _ _ _ _ (.tail _ _ _ _ _ (.tail _ _ _ _ _ (.tail _ _ _ _ _ (Has.head _ _ _ _))))))) (i := 1) rfl, M33.cell (.tail _ _ _ _ _ (.tail _ _ _ _ _ (.tail _ _ _ _ _ (.tail _ _ _ _ _ (.tail _ _ _ _ _ (.tail _ _ _ _ _ (Has.head _ _ _ _))))))) (i := 2) rfl, M33.cell (.tail _ _ _ _ _ (.tail _ _ _ _ _ (.tail _ _ _ _ _ (.tail _ _ _ _ _ (.tail _ _ _ _ _ (.tail _ _ _ _ _ (Has.head _ _ _ _))))))) (i := 3) rfl, M33.cell (.tail _ _ _ _ _ (.tail _ _ _ _ _ (.tail _ _ _ _ _ (.tail _ _ _ _ _ (.tail _ _ _ _ _ (.tail _ _ _ _ _ (Has.head _ _ _ _))))))) (i := 4) rfl, M33.cell (.tail _ _ _ _ _ (.tail _ _ _ _ _ (.tail _ _ _ _ _ (.tail _ _ _ _ _ (.tail _ _ _ _ _ (.tail _ _ _ _ _ (Has.head _ _ _ _))))))) (i := 5) rfl, M33.cell (.tail _ _ _ _ _ (.tail _ _ _ _ _ (.tail _ _ _ _ _ (.tail _ _ _ _ _ (.tail _ _ _ _ _ (Has.head _ _ _ _)))))) (i := 0) rfl, M33.cell (.tail _ _ _ _ _ (.tail _ _ _ _ _ (.tail _ _ _ _ _ (.tail _ _ _ _ _ (.tail _ _ _ _ _ (Has.head _ _ _ _)))))) (i := 1) rfl, M33.cell (.tail _ _ _ _ _ (.tail _ _ _ _ _ (.tail _ _ _ _ _ (.tail _ _ _ _ _ (.tail _ _ _ _ _ (Has.head _ _ _ _)))))) (i := 2) rfl, M33.cell (.tail _ _ _ _ _ (.tail _ _ _ _ _ (.tail _ _ _ _ _ (.tail _ _ _ _ _ (Has.head _ _ _ _))))) (i := 0) rfl, M33.cell (.tail _ _ _ _ _ (.tail _ _ _ _ _ (.tail _ _ _ _ _ (.tail _ _ _ _ _ (Has.head _ _ _ _))))) (i := 1) rfl, M33.cell (.tail _ _ _ _ _ (.tail _ _ _ _ _ (.tail _ _ _ _ _ (.tail _ _ _ _ _ (Has.head _ _ _ _))))) (i := 2) rfl, M33.cell (.tail _ _ _ _ _ (.tail _ _ _ _ _ (.tail _ _ _ _ _ (Has.head _ _ _ _)))) (i := 0) rfl, M33.cell (.tail _ _ _ _ _ (.tail _ _ _ _ _ (.tail _ _ _ _ _ (Has.head _ _ _ _)))) (i := 1) rfl, M33.cell (.tail _ _ _ _ _ (.tail _ _ _ _ _ (.tail _ _ _ _ _ (Has.head _ _ _ _)))) (i := 2) rfl⟩) (fun hHeld => ?_)
  clear hK K
  try simp only [Act.put, puts]
  refine tkT 29 ?v9019 ?hy9019 hHeld ?rest9019 (hw := by kernel_rfl)
  case hy9019 => (intro w' hSw; (try dsimp only at hSw); go_simp; (try with_reducible rfl))
  try simp only [Act.put, puts]
  refine tkT 30 ?v9020 ?hy9020 hHeld ?rest9020 (hw := by kernel_rfl)
  case hy9020 => (intro w' hSw; (try dsimp only at hSw); go_simp; (try with_reducible rfl))
  try simp only [Act.put, puts]
  refine tkT 31 ?v9021 ?hy9021 hHeld ?rest9021 (hw := by kernel_rfl)
  case hy9021 => (intro w' hSw; (try dsimp only at hSw); go_simp; (try with_reducible rfl))
  try simp only [Act.put, puts]
  refine tkT 32 ?v9022 ?hy9022 hHeld ?rest9022 (hw := by kernel_rfl)
  case hy9022 => (intro w' hSw; (try dsimp only at hSw); go_simp; (try with_reducible rfl))
  try simp only [Act.put, puts]
  refine wpAnyH_ready (rs := [33]) (by kernel_rfl) (by simp) ?_
  refine AllReadyH.cons rfl (fun K hK => ?_) AllReadyH.nil
  go_simp
  refine (x_over3 _ _ _ _ _ RI.out Va.out).mono ?_
  rintro e v34 ⟨rfl, hA⟩
  have M34 := M33.call hA
  replace HD := Lib.hid (HD.out.below hA)
  replace RI := Lib.hid (RI.out.below hA)
  replace Vf := Lib.hid (Vf.out.below hA)
  replace Va := Lib.hid (Va.out.below hA)
  replace Vz := Lib.hid (Vz.out.below hA)
  clear M33
  clear hA
  try go_wp2_with fail
  clear hHeld
  refine hK.out _ _ (⟨M34.cell (.tail _ _ _ _ _ (.tail _ _ _ _ _ (.tail _ _ _ _ _ (.tail _ _ _ _ _ (.tail _ _ _ _ _ (.tail _ _ _ _ _ (Has.head _ _ _ _))))))) (i := 0) rfl, M34.cell (.tail _ _ _ _ _ (.tail _ _ _ _ _ (.tail _ _ _ _ _ (.tail _ _ _ _ _ (.tail _ _ _ _ _ (.tail _ _ _ _ _ (Has.head _ _ _ _))))))) (i := 1) rfl, M34.cell (.tail _ _ _ _ _ (.tail _ _ _ _ _ (.tail _ _ _ _ _ (.tail _ _ _ _ _ (.tail _ _ _ _ _ (.tail _ _ _ _ _ (Has.head _ _ _ _))))))) (i := 2) rfl, M34.cell (.tail _ _ _ _ _ (.tail _ _ _ _ _ (.tail _ _ _ _ _ (.tail _ _ _ _ _ (.tail _ _ _ _ _ (.tail _ _ _ _ _ (Has.head _ _ _ _))))))) (i := 3) rfl, M34.cell (.tail _ _ _ _ _ (.tail _ _ _ _ _ (.tail _ _ _ _ _ (.tail _ _ _ _ _ (.tail _ _ _ _ _ (.tail _ _ _ _ _ (Has.head _ _ _ _))))))) (i := 4) rfl, M34.cell (.tail _ _ _ _ _ (.tail _ _ _ _ _ (.tail _ _ _ _ _ (.tail _ _ _ _ _ (.tail _ _ _ _ _ (.tail _ _ _ _ _ (Has.head _ _ _ _))))))) (i := 5) rfl, M34.cell (.tail _ _ _ _ _ (.tail _ _ _ _ _ (.tail _ _ _ _ _ (.tail _ _ _ _ _ (.tail _ _ _ _ _ (Has.head _ _ _ _)))))) (i := 0) rfl, M34.cell (.tail _ _ _ _ _ (.tail _ _ _ _ _ (.tail _ _ _ _ _ (.tail _ _ _ _ _ (.tail _ _ _ _ _ (Has.head _ _ _ _)))))) (i := 1) rfl, M34.cell (.tail _ _ _ _ _ (.tail _ _ _ _ _ (.tail _ _ _ _ _ (.tail _ _ _ _ _ (.tail _ _ _ _ _ (Has.head _ _ _ _)))))) (i := 2) rfl, M34.cell (.tail _ _ _ _ _ (.tail _ _ _ _ _ (.tail _ _ _ _ _ (.tail _ _ _ _ _ (Has.head _ _ _ _))))) (i := 0) rfl, M34.cell (.tail _ _ _ _ _ (.tail _ _ _ _ _ (.tail _ _ _ _ _ (.tail _ _ _ _ _ (Has.head _ _ _ _))))) (i := 1) rfl, M34.cell (.tail _ _ _ _ _ (.tail _ _ _ _ _ (.tail _ _ _ _ _ (.tail _ _ _ _ _ (Has.head _ _ _ _))))) (i := 2) rfl, M34.cell (.tail _ _ _ _ _ (.tail _ _ _ _ _ (.tail _ _ _ _ _ (Has.head _ _ _ _)))) (i := 0) rfl, M34.cell (.tail _ _ _ _ _ (.tail _ _ _ _ _ (.tail _ _ _ _ _ (Has.head _ _ _ _)))) (i := 1) rfl, M34.cell (.tail _ _ _ _ _ (.tail _ _ _ _ _ (.tail _ _ _ _ _ (Has.head _ _ _ _)))) (i := 2) rfl⟩) (fun hHeld => ?_)
  clear hK K
  try simp only [Act.put, puts]
  refine tkT 34 ?v9023 ?hy9023 hHeld ?rest9023 (hw := by kernel_rfl)
  case hy9023 => (intro w' hSw; (try dsimp only at hSw); go_simp; (try with_reducible rfl))
  try simp only [Act.put, puts]
  refine tkT 35 ?v9024 ?hy9024 hHeld ?rest9024 (hw := by kernel_rfl)
  case hy9024 => (intro w' hSw; (try dsimp only at hSw); go_simp; (try with_reducible rfl))
  try simp only [Act.put, puts]
  refine tkT 36 ?v9025 ?hy9025 hHeld ?rest9025 (hw := by kernel_rfl)
  case hy9025 => (intro w' hSw; (try dsimp only at hSw); go_simp; (try with_reducible rfl))
  try simp only [Act.put, puts]
  refine tkT 37 ?v9026 ?hy9026 hHeld ?rest9026 (hw := by kernel_rfl)
  case hy9026 => (intro w' hSw; (try dsimp only at hSw); go_simp; (try with_reducible rfl))
  try simp only [Act.put, puts]
  refine tkT 39 ?v9027 ?hy9027 hHeld ?rest9027 (hw := by kernel_rfl)
  case hy9027 => (intro w' hSw; (try dsimp only at hSw); go_simp; (try with_reducible rfl))
  try simp only [Act.put, puts]
  refine tkT 40 ?v9028 ?hy9028 hHeld ?rest9028 (hw := by kernel_rfl)
  case hy9028 => (intro w' hSw; (try dsimp only at hSw); go_simp; (try with_reducible rfl))
  try simp only [Act.put, puts]
  refine wpAnyH_ready (rs := [38]) (by kernel_rfl) (by simp) ?_
  refine AllReadyH.cons rfl (fun K hK => ?_) AllReadyH.nil
  go_simp
  refine (x_sum _ _ _ Vf.out).mono ?_
  rintro e v35 ⟨vm, rfl, hN, hA⟩
  have M35 := M34.call hA
  replace HD := Lib.hid (HD.out.below hA)
  replace RI := Lib.hid (RI.out.below hA)
  replace Vf := Lib.hid (Vf.out.below hA)
  replace Va := Lib.hid (Va.out.below hA)
  replace Vz := Lib.hid (Vz.out.below hA)
  clear M34
  obtain ⟨dm, km, rfl, hSm⟩ := hN.form
  have Vm := Lib.hid hN
  clear hN hSm
  clear hA
  try go_wp2_with fail
  clear hHeld
  refine hK.out _ _ (⟨M35.cell (.tail _ _ _ _ _ (.tail _ _ _ _ _ (.tail _ _ _ _ _ (.tail _ _ _ _ _ (.tail _ _ _ _ _ (.tail _ _ _ _ _ (Has.head _ _ _ _))))))) (i := 0) rfl, M35.cell (.tail _ _ _ _ _ (.tail _ _ _ _ _ (.tail _ _ _ _ _ (.tail _ _ _ _ _ (.tail _ _ _ _ _ (.tail _ _ _ _ _ (Has.head _ _ _ _))))))) (i := 1) rfl, M35.cell (.tail _ _ _ _ _ (.tail _ _ _ _ _ (.tail _ _ _ _ _ (.tail _ _ _ _ _ (.tail _ _ _ _ _ (.tail _ _ _ _ _ (Has.head _ _ _ _))))))) (i := 2) rfl, M35.cell (.tail _ _ _ _ _ (.tail _ _ _ _ _ (.tail _ _ _ _ _ (.tail _ _ _ _ _ (.tail _ _ _ _ _ (.tail _ _ _ _ _ (Has.head _ _ _ _))))))) (i := 3) rfl, M35.cell (.tail _ _ _ _ _ (.tail _ _ _ _ _ (.tail _ _ _ _ _ (.tail _ _ _ _ _ (.tail _ _ _ _ _ (.tail _ _ _ _ _ (Has.head _ _ _ _))))))) (i := 4) rfl, M35.cell (.tail _ _ _ _ _ (.tail _ _ _ _ _ (.tail _ _ _ _ _ (.tail _ _ _ _ _ (.tail _ _ _ _ _ (.tail _ _ _ _ _ (Has.head _ _ _ _))))))) (i := 5) rfl, M35.cell (.tail _ _ _ _ _ (.tail _ _ _ _ _ (.tail _ _ _ _ _ (.tail _ _ _ _ _ (.tail _ _ _ _ _ (Has.head _ _ _ _)))))) (i := 0) rfl, M35.cell (.tail _ _ _ _ _ (.tail _ _ _ _ _ (.tail _ _ _ _ _ (.tail _ _ _ _ _ (.tail _ _ _ _ _ (Has.head _ _ _ _)))))) (i := 1) rfl, M35.cell (.tail _ _ _ _ _ (.tail _ _ _ _ _ (.tail _ _ _ _ _ (.tail _ _ _ _ _ (.tail _ _ _ _ _ (Has.head _ _ _ _)))))) (i := 2) rfl, M35.cell (.tail _ _ _ _ _ (.tail _ _ _ _ _ (.tail _ _ _ _ _ (.tail _ _ _ _ _ (Has.head _ _ _ _))))) (i := 0) rfl, M35.cell (.tail _ _ _ _ _ (.tail _ _ _ _ _ (.tail _ _ _ _ _ (.tail _ _ _ _ _ (Has.head _ _ _ _))))) (i := 1) rfl, M35.cell (.tail _ _ _ _ _ (.tail _ _ _ _ _ (.tail _ _ _ _ _ (.tail _ _ _ _ _ (Has.head _ _ _ _))))) (i := 2) rfl, M35.cell (.tail _ _ _ _ _ (.tail _ _ _ _ _ (.tail _ _ _ _ _ (Has.head _ _ _ _)))) (i := 0) rfl, M35.cell (.tail _ _ _ _ _ (.tail _ _ _ _ _ (.tail _ _ _ _ _ (Has.head _ _ _ _)))) (i := 1) rfl, M35.cell (.tail _ _ _ _ _ (.tail _ _ _ _ _ (.tail _ _ _ _ _ (Has.head _ _ _ _)))) (i := 2) rfl⟩) (fun hHeld => ?_)
  clear hK K
  try simp only [Act.put, puts]
  refine wpAnyH_ready (rs := [41]) (by kernel_rfl) (by simp) ?_
  refine AllReadyH.cons rfl (fun K hK => ?_) AllReadyH.nil
  go_simp
  refine (x_sumU _ _ _ Vf.out).mono ?_
  rintro e v36 ⟨vu, rfl, hN, hA⟩
  have M36 := M35.call hA
  replace HD := Lib.hid (HD.out.below hA)
  replace RI := Lib.hid (RI.out.below hA)
  replace Vf := Lib.hid (Vf.out.below hA)
  replace Va := Lib.hid (Va.out.below hA)
  replace Vz := Lib.hid (Vz.out.below hA)
  replace Vm := Lib.hid (Vm.out.below hA)
  clear M35
  obtain ⟨du, ku, rfl, hSu⟩ := hN.form
  have Vu := Lib.hid hN
  clear hN hSu
  clear hA
  try go_wp2_with fail
  clear hHeld
  refine hK.out _ _ (⟨M36.cell (.tail _ _ _ _ _ (.tail _ _ _ _ _ (.tail _ _ _ _ _ (.tail _ _ _ _ _ (.tail _ _ _ _ _ (.tail _ _ _ _ _ (Has.head _ _ _ _))))))) (i := 0) rfl, M36.cell (.tail _ _ _ _ _ (.tail _ _ _ _ _ (.tail _ _ _ _ _ (.tail _ _ _ _ _ (.tail _ _ _ _ _ (.tail _ _ _ _ _ (Has.head _ _ _ _))))))) (i := 1) rfl, M36.cell (.tail _ _ _ _ _ (.tail _ _ _ _ _ (.tail _ _ _ _ _ (.tail _ _ _ _ _ (.tail _ _ _ _ _ (.tail _ _ _ _ _ (Has.head _ _ _ _))))))) (i := 2) rfl, M36.cell (.tail _ _ _ _ _ (.tail _ _ _ _ _ (.tail _ _ _ _ _ (.tail _ _ _ _ _ (.tail _ _ _ _ _ (.tail _ _ _ _ _ (Has.head _ _ _ _))))))) (i := 3) rfl, M36.cell (.tail _ _ _ _ _ (.tail _ _ _ _ _ (.tail _ _ _ _ _ (.tail _ _ _ _ _ (.tail _ _ _ _ _ (.tail _ _ _ _ _ (Has.head _ _ _ _))))))) (i := 4) rfl, M36.cell (.tail _ _ _ _ _ (.tail _ _ _ _ _ (.tail _ _ _ _ _ (.tail _ _ _ _ _ (.tail _ _ _ _ _ (.tail _ _ _ _ _ (Has.head _ _ _ _))))))) (i := 5) rfl, M36.cell (.tail _ _ _ _ _ (.tail _ _ _ _ _ (.tail _ _ _ _ _ (.tail _ _ _ _ _ (.tail _ _ _ _ _ (Has.head _ _ _ _)))))) (i := 0) rfl, M36.cell (.tail _ _ _ _ _ (.tail _ _ _ _ _ (.tail _ _ _ _ _ (.tail _ _ _ _ _ (.tail _ _ _ _ _ (Has.head _ _ _ _)))))) (i := 1) rfl, M36.cell (.tail _ _ _ _ _ (.tail _ _ _ _ _ (.tail _ _ _ _ _ (.tail _ _ _ _ _ (.tail _ _ _ _ _ (Has.head _ _ _ _)))))) (i := 2) rfl, M36.cell (.tail _ _ _ _ _ (.tail _ _ _ _ _ (.tail _ _ _ _ _ (.tail _ _ _ _ _ (Has.head _ _ _ _))))) (i := 0) rfl, M36.cell (.tail _ _ _ _ _ (.tail _ _ _ _ _ (.tail _ _ _ _ _ (.tail _ _ _ _ _ (Has.head _ _ _ _))))) (i := 1) rfl, M36.cell (.tail _ _ _ _ _ (.tail _ _ _ _ _ (.tail _ _ _ _ _ (.tail _ _ _ _ _ (Has.head _ _ _ _))))) (i := 2) rfl, M36.cell (.tail _ _ _ _ _ (.tail _ _ _ _ _ (.tail _ _ _ _ _ (Has.head _ _ _ _)))) (i := 0) rfl, M36.cell (.tail _ _ _ _ _ (.tail _ _ _ _ _ (.tail _ _ _ _ _ (Has.head _ _ _ _)))) (i := 1) rfl, M36.cell (.tail _ _ _ _ _ (.tail _ _ _ _ _ (.tail _ _ _ _ _ (Has.head _ _ _ _)))) (i := 2) rfl⟩) (fun hHeld => ?_)
  clear hK K
  try simp only [Act.put, puts]
  refine wpAnyH_ready (rs := [42]) (by kernel_rfl) (by simp) ?_
  refine AllReadyH.cons rfl (fun K hK => ?_) AllReadyH.nil
  go_simp
  refine (x_cmp _ _ _ Vm.out Vu.out).mono ?_
  rintro e v37 ⟨rfl, hA⟩
  have M37 := M36.call hA
  replace HD := Lib.hid (HD.out.below hA)
  replace RI := Lib.hid (RI.out.below hA)
  replace Vf := Lib.hid (Vf.out.below hA)
  replace Va := Lib.hid (Va.out.below hA)
  replace Vz := Lib.hid (Vz.out.below hA)
  replace Vm := Lib.hid (Vm.out.below hA)
  replace Vu := Lib.hid (Vu.out.below hA)
  clear M36
  clear hA
  try go_wp2_with fail
  clear hHeld
  refine hK.out _ _ (⟨M37.cell (.tail _ _ _ _ _ (.tail _ _ _ _ _ (.tail _ _ _ _ _ (.tail _ _ _ _ _ (.tail _ _ _ _ _ (.tail _ _ _ _ _ (Has.head _ _ _ _))))))) (i := 0) rfl, M37.cell (.tail _ _ _ _ _ (.tail _ _ _ _ _ (.tail _ _ _ _ _ (.tail _ _ _ _ _ (.tail _ _ _ _ _ (.tail _ _ _ _ _ (Has.head _ _ _ _))))))) (i := 1) rfl, M37.cell (.tail _ _ _ _ _ (.tail _ _ _ _ _ (.tail _ _ _ _ _ (.tail _ _ _ _ _ (.tail _ _ _ _ _ (.tail _ _ _ _ _ (Has.head _ _ _ _))))))) (i := 2) rfl, M37.cell (.tail _ _ _ _ _ (.tail _ _ _ _ _ (.tail _ _ _ _ _ (.tail _ _ _ _ _ (.tail _ _ _ _ _ (.tail _ _ _ _ _ (Has.head _ _ _ _))))))) (i := 3) rfl, M37.cell (.tail _ _ _ _ _ (.tail _ _ _ _ _ (.tail _ _ _ _ _ (.tail _ _ _ _ _ (.tail _ _ _ _ _ (.tail _ _ _ _ _ (Has.head _ _ _ _))))))) (i := 4) rfl, M37.cell (.tail _ _ _ _ _ (.tail _ _ _ _ _ (.tail _ _ _ _ _ (.tail _ _ _ _ _ (.tail _ _ _ _ _ (.tail _ _ _ _ _ (Has.head _ _ _ _))))))) (i := 5) rfl, M37.cell (.tail _ _ _ _ _ (.tail _ _ _ _ _ (.tail _ _ _ _ _ (.tail _ _ _ _ _ (.tail _ _ _ _ _ (Has.head _ _ _ _)))))) (i := 0) rfl, M37.cell (.tail _ _ _ _ _ (.tail _ _ _ _ _ (.tail _ _ _ _ _ (.tail _ _ _ _ _ (.tail _ _ _ _ _ (Has.head _ _ _ _)))))) (i := 1) rfl, M37.cell (.tail _ _ _ _ _ (.tail _ _ _ _ _ (.tail _ _ _ _ _ (.tail _ _ _ _ _ (.tail _ _ _ _ _ (Has.head _ _ _ _)))))) (i := 2) rfl, M37.cell (.tail _ _ _ _ _ (.tail _ _ _ _ _ (.tail _ _ _ _ _ (.tail _ _ _ _ _ (Has.head _ _ _ _))))) (i := 0) rfl, M37.cell (.tail _ _ _ _ _ (.tail _ _ _ _ _ (.tail _ _ _ _ _ (.tail _ _ _ _ _ (Has.head _ _ _ _))))) (i := 1) rfl, M37.cell (.tail _ _ _ _ _ (.tail _ _ _ _ _ (.tail _ _ _ _ _ (.tail _ _ _ _ _ (Has.head _ _ _ _))))) (i := 2) rfl, M37.cell (.tail _ _ _ _ _ (.tail _ _ _ _ _ (.tail _ _ _ _ _ (Has.head _ _ _ _)))) (i := 0) rfl, M37.cell (.tail _ _ _ _ _ (.tail _ _ _ _ _ (.tail _ _ _ _ _ (Has.head _ _ _ _)))) (i := 1) rfl, M37.cell (.tail _ _ _ _ _ (.tail _ _ _ _ _ (.tail _ _ _ _ _ (Has.head _ _ _ _)))) (i := 2) rfl⟩) (fun hHeld => ?_)
  clear hK K
  try simp only [Act.put, puts]
  refine tkT 43 ?v9029 ?hy9029 hHeld ?rest9029 (hw := by kernel_rfl)
  case hy9029 => (intro w' hSw; (try dsimp only at hSw); go_simp; (try with_reducible rfl))
  try simp only [Act.put, puts]
  refine tkT 44 ?v9030 ?hy9030 hHeld ?rest9030 (hw := by kernel_rfl)
  case hy9030 => (intro w' hSw; (try dsimp only at hSw); go_simp; (try with_reducible rfl))
  try simp only [Act.put, puts]
  refine tkT 45 ?v9031 ?hy9031 hHeld ?rest9031 (hw := by kernel_rfl)
  case hy9031 => (intro w' hSw; (try dsimp only at hSw); go_simp; (try with_reducible rfl))
  try simp only [Act.put, puts]
  refine wpAnyH_done (by kernel_rfl) ?_ _
  go_simp
  go_wp2_with fail
  go_ret
  exact ⟨rfl, M37.below⟩
end Go.Proofs.YtanblpfpkohghaaDoor
