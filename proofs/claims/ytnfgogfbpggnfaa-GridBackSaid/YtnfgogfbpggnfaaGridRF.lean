/-
  A grid that is split: the reference's.
-/
import Derived.Test.YtnfgogfbpggnfaaGridRB
import Derived.Test.YtnfgogfbpggnfaaGridSpecB
import Derived.Deep.Cut
import Derived.Deep.CutRange
set_option linter.unusedVariables false
set_option linter.unusedSimpArgs false
namespace Go.Proofs.Ytnfgogfbpggnfaa
open Go Go.RowKit Go.Th Go.Th.Grid Go.Th.Wide

set_option maxRecDepth 20000 in
set_option maxHeartbeats 1600000 in
theorem rsplit_no (x y s : Nat) (X Y : Int) (a : Option Addr) (n cap : Nat) (p : List Int) (hx : x ≤ 32) (hy : y ≤ 32) (hs : s < 32) (w : World) (hS : Sl w 1 (.slice a n cap) n (i64s p)) :
    Calls Try.prog 28 #[gv x y X Y s (.slice a n cap)] w (GSaid x y X Y s n p 12 w) := by
  have HS := Lib.hid hS
  clear hS
  (obtain ⟨w1, hw1⟩ : ∃ w1, w.alloc (.cells #[.int .i64 x, .int .i64 y, .int .i64 X, .int .i64 Y, .int .i64 s, .slice a n cap] 24) = w1 := ⟨_, rfl⟩; have M1 := (Mem.start w).alloc 24 (gc x y X Y s (.slice a n cap)); rw [show w.alloc (.cells (gc x y X Y s (.slice a n cap)).toArray 24) = w1 from hw1] at M1; obtain ⟨w2, hw2⟩ : ∃ w2, w1.alloc (.cells #[.int .i64 0, .int .i64 0, .int .i64 0, .int .i64 0, .int .i64 0, .slice none 0 0] 24) = w2 := ⟨_, rfl⟩; have M2 := M1.alloc 24 (gc 0 0 0 0 0 (.slice none 0 0)); rw [show w1.alloc (.cells (gc 0 0 0 0 0 (.slice none 0 0)).toArray 24) = w2 from hw2] at M2; have hsz : w1.heap.size = w.heap.size + 1 := (by rw [← hw1]; simp); have HW1 := Lib.hid hw1; have HW2 := Lib.hid hw2; clear hw1 hw2 M1)
  go_enter Try.func28, Try.ntmps28
  ((go_upto_region 1 with fail); rw [HW1.out, HW2.out, ← hsz]; clear HW1 HW2; obtain ⟨gB, hgB⟩ : ∃ gB, gB = w1.heap.size := ⟨_, rfl⟩; obtain ⟨gA, hgA⟩ : ∃ gA, gA = w.heap.size := ⟨_, rfl⟩; rw [← hgB] at M2 ⊢; rw [← hgA] at M2 ⊢; have hne : gA ≠ gB := (by omega); clear hgA hgB hsz)
  obtain ⟨c0, c1, c2, c3, c4, c5⟩ := gcells (M2.has (.tail _ _ _ _ _ (Has.head _ _ _ _)))
  go_wp2_with ((with_reducible refine (?_ : Go.wpList _ _ _ (_ :: _) _ _)); (first | go_skip | (refine wpL_stM (v := gv x y X Y s (.slice a n cap)) M2 rfl rfl rfl rfl (wr_g _ _ _ _ _ _ _ _ _ _ _ _ _ _) (Upd.head _ _ _ _ _) ?_; intro w4 M4 hT4)))
  ((try simp only [Exit.inBlock, Exit.then]); refine bodyPost_ret (res_cell_tmp rfl M4 rfl (Has.head _ _ _ _) (rd_g _ _ _ _ _ _) rfl) rfl ?_)
  exact ⟨_, _, rfl, HS.out.below M4.below, M4.below⟩

set_option maxRecDepth 20000 in
set_option maxHeartbeats 6400000 in
theorem rsplit_yes (x y W2 H2 m d d2 s : Nat) (X Y NX NY : Int) (a : Option Addr) (n cap : Nat) (p : List Int) (hp : p.length = n) (hxy : n = x * y) (hsd : sdG x y = true) (hx : x ≤ 32) (hy : y ≤ 32) (hr : ∀ u ∈ p, 0 ≤ u ∧ u ≤ 1073741824)
    (hs : s = 4 * d) (hd : 8 ≤ d ∧ d ≤ 1024) (hd2 : d2 = 2 * d) (hX : -1000000000000 ≤ X ∧ X ≤ 1000000000000) (hY : -1000000000000 ≤ Y ∧ Y ≤ 1000000000000) (hW2 : W2 = 2 * x) (hH2 : H2 = 2 * y) (hm : m = H2 * W2) (hNX : X - (d : Int) = NX) (hNY : Y - (d : Int) = NY) (w : World) (hS : Sl w 1 (.slice a n cap) n (i64s p)) :
    Calls Try.prog 28 #[gv x y X Y s (.slice a n cap)] w (GSaid W2 H2 NX NY d2 m (tab (splitAt4 p x) m) 0 w) := by
  obtain ⟨⟨q1, q2⟩, q3, q4⟩ := sdG_t hsd
  have hle : x * y ≤ 64 * 64 := Nat.mul_le_mul (by omega) (by omega)
  have hle2 : H2 * W2 ≤ 64 * 64 := Nat.mul_le_mul (by omega) (by omega)
  have wNX : IntKind.i64.wrap NX = NX := IntWalk.i64_in _ (by omega)
  have wNY : IntKind.i64.wrap NY = NY := IntWalk.i64_in _ (by omega)
  have wNX2 : wrap64 NX = NX := IntWalk.wrap64_in _ (by omega)
  have wNY2 : wrap64 NY = NY := IntWalk.wrap64_in _ (by omega)
  have wW2 : IntKind.i64.wrap (W2 : Int) = (W2 : Int) := IntWalk.i64_in _ (by omega)
  have wH2 : IntKind.i64.wrap (H2 : Int) = (H2 : Int) := IntWalk.i64_in _ (by omega)
  have wd1 : IntKind.i64.wrap (d : Int) = (d : Int) := IntWalk.i64_in _ (by omega)
  have wd2 : IntKind.i64.wrap (d2 : Int) = (d2 : Int) := IntWalk.i64_in _ (by omega)
  have eW2 : 2 * (x : Int) = (W2 : Int) := by omega
  have eH2 : 2 * (y : Int) = (H2 : Int) := by omega
  have es4 : (s : Int) / 4 = (d : Int) := by omega
  have es2 : (s : Int) / 2 = (d2 : Int) := by omega
  have esm : (s : Int) % 4 = 0 := by omega
  have hs1 : 32 ≤ s := by omega
  have hs2 : s ≤ 4096 := by omega
  have hm2 : m ≤ 4096 := by omega
  have hW64 : W2 ≤ 64 := by omega
  have hH64 : H2 ≤ 64 := by omega
  have hn2 : n ≤ 4096 := by omega
  obtain ⟨f, hf⟩ : ∃ f, f = splitAt4 p x := ⟨_, rfl⟩
  rw [← hf]
  have hat : ∀ yy xx, yy < H2 → xx < W2 → yy * W2 + xx < m := fun yy xx h1 h2 => by rw [hm]; exact at_lt h2 h1
  have hval : ∀ yy xx : Nat, yy < H2 → xx < W2 → ∃ (j2 i2 r0 k u V : Nat), (yy : Int) / 2 = (j2 : Int) ∧ (xx : Int) / 2 = (i2 : Int) ∧ (j2 : Int) * (x : Int) = (r0 : Int) ∧ (r0 : Int) + (i2 : Int) = (k : Int) ∧ k < n ∧ p.getD k 0 = (u : Int) ∧ (u : Int) / 4 = (V : Int) ∧ f (yy * W2 + xx) = (V : Int) ∧ V ≤ 1073741824 ∧ r0 ≤ 4096 ∧ j2 ≤ 64 ∧ i2 ≤ 64 := by
    intro yy xx h1 h2
    have hk : yy / 2 * x + xx / 2 < n := by rw [hxy, Nat.mul_comm x y]; exact at_lt (by omega) (by omega)
    have hu := getD_mem (P := fun u => 0 ≤ u ∧ u ≤ 1073741824) hr (by rw [hp]; exact hk : _ < p.length)
    have hfv : f (yy * W2 + xx) = p.getD (yy / 2 * x + xx / 2) 0 / 4 := by rw [hf, hW2, splitAt4_at p yy (by omega)]
    obtain ⟨u, hu'⟩ := Int.eq_ofNat_of_zero_le hu.1
    rw [hu'] at hfv hu
    obtain ⟨r0, hr0⟩ : ∃ r0, r0 = yy / 2 * x := ⟨_, rfl⟩
    have e1 : ((yy / 2 : Nat) : Int) * (x : Int) = (r0 : Int) := by rw [hr0]; simp
    rw [← hr0] at hk hu'
    exact ⟨yy / 2, xx / 2, r0, r0 + xx / 2, u, u / 4, by omega, by omega, e1, by omega, hk, hu', by omega, by rw [hfv]; omega, by omega, by omega, by omega, by omega⟩
  have HAT := Lib.hid hat
  have HVAL := Lib.hid hval
  have HM := Lib.hid hm
  have HT := Lib.hid (fun i => i64s_tab f i)
  have HP := Lib.hid hp
  have HS := Lib.hid hS
  have hmx := hS.max
  clear hf hat hval hm hS hp hxy hsd hle hle2 hr hs hd hd2 hW2 hH2
  (obtain ⟨w1, hw1⟩ : ∃ w1, w.alloc (.cells #[.int .i64 x, .int .i64 y, .int .i64 X, .int .i64 Y, .int .i64 s, .slice a n cap] 24) = w1 := ⟨_, rfl⟩; have M1 := (Mem.start w).alloc 24 (gc x y X Y s (.slice a n cap)); rw [show w.alloc (.cells (gc x y X Y s (.slice a n cap)).toArray 24) = w1 from hw1] at M1; obtain ⟨w2, hw2⟩ : ∃ w2, w1.alloc (.cells #[.int .i64 0, .int .i64 0, .int .i64 0, .int .i64 0, .int .i64 0, .slice none 0 0] 24) = w2 := ⟨_, rfl⟩; have M2 := M1.alloc 24 (gc 0 0 0 0 0 (.slice none 0 0)); rw [show w1.alloc (.cells (gc 0 0 0 0 0 (.slice none 0 0)).toArray 24) = w2 from hw2] at M2; have hsz : w1.heap.size = w.heap.size + 1 := (by rw [← hw1]; simp); have HW1 := Lib.hid hw1; have HW2 := Lib.hid hw2; clear hw1 hw2 M1)
  go_enter Try.func28, Try.ntmps28
  ((go_upto_region 1 with fail); rw [HW1.out, HW2.out, ← hsz]; clear HW1 HW2; obtain ⟨gB, hgB⟩ : ∃ gB, gB = w1.heap.size := ⟨_, rfl⟩; obtain ⟨gA, hgA⟩ : ∃ gA, gA = w.heap.size := ⟨_, rfl⟩; rw [← hgB] at M2 ⊢; rw [← hgA] at M2 ⊢; have hne : gA ≠ gB := (by omega); clear hgA hgB hsz)
  obtain ⟨c0, c1, c2, c3, c4, c5⟩ := gcells (M2.has (.tail _ _ _ _ _ (Has.head _ _ _ _)))
  obtain ⟨w3, hw3⟩ : ∃ w3, w2.alloc (.cells #[.int .i64 W2, .int .i64 H2, .int .i64 NX, .int .i64 NY, .int .i64 d2, .slice none 0 0] 24) = w3 := ⟨_, rfl⟩
  have M3 := M2.alloc 24 (gc W2 H2 NX NY d2 (.slice none 0 0))
  rw [show w2.alloc (.cells (gc W2 H2 NX NY d2 (.slice none 0 0)).toArray 24) = w3 from hw3] at M3
  have HW3 := Lib.hid hw3
  clear hw3
  go_upto_region 4 with fail
  try rw [es2]
  rw [HW3.out]
  clear HW3
  obtain ⟨gC, hgC⟩ : ∃ gC, gC = w2.heap.size := ⟨_, rfl⟩
  rw [← hgC] at M3 ⊢
  clear hgC M2 c0 c1 c2 c3 c4 c5
  have hown : w3.ownsRow w.heap.size 2 1 (.slice none 0 0) (0 * W2) (i64s (tab f (0 * W2))) := by rw [Nat.zero_mul]; exact World.ownsRow_nil _ _ _ _
  go_wp2_with fail
  go_loopw [5] (fun c wx => ∃ (yy : Nat) (v : Value), yy ≤ H2 ∧ c = .int .i64 yy ∧ wx.ownsRow w.heap.size 2 1 v (yy * W2) (i64s (tab f (yy * W2))) ∧ Mem w wx [(gC, 24, gc W2 H2 NX NY d2 v), (gB, 24, gc 0 0 0 0 0 (.slice none 0 0)), (gA, 24, gc x y X Y s (.slice a n cap))]) (fun c _ => H2 - (intOf c).toNat)
  case atStart => exact ⟨0, _, Nat.zero_le _, rfl, hown, M3⟩
  case round =>
    clear hown M3
    obtain ⟨yy, v, hyy, rfl, ho, M⟩ := hrel
    obtain ⟨c0, c1, c2, c3, c4, c5⟩ := gcells (M.has (.tail _ _ _ _ _ (.tail _ _ _ _ _ (Has.head _ _ _ _))))
    by_cases hlt : yy < H2
    · obtain ⟨k0, hk0⟩ : ∃ k0, k0 = yy * W2 := ⟨_, rfl⟩
      have hk1 : (yy + 1) * W2 = k0 + W2 := by rw [hk0, Nat.succ_mul]
      have hfit := fun xx (h : xx < W2) => HAT.out yy xx hlt h
      have hV := fun xx (h : xx < W2) => HVAL.out yy xx hlt h
      rw [← hk0] at ho hfit hV
      have HFIT := Lib.hid hfit
      have HV := Lib.hid hV
      have HK1 := Lib.hid hk1
      clear hk0 hk1 hfit hV
      go_wp2_with fail
      go_loopw [6] (fun c wx => ∃ (xx : Nat) (v : Value), xx ≤ W2 ∧ c = .int .i64 xx ∧ wx.ownsRow w.heap.size 2 1 v (k0 + xx) (i64s (tab f (k0 + xx))) ∧ Mem w wx [(gC, 24, gc W2 H2 NX NY d2 v), (gB, 24, gc 0 0 0 0 0 (.slice none 0 0)), (gA, 24, gc x y X Y s (.slice a n cap))]) (fun c _ => W2 - (intOf c).toNat)
      case atStart => exact ⟨0, _, Nat.zero_le _, rfl, ho, M⟩
      case round =>
        clear ho M c0 c1 c2 c3 c4 c5
        obtain ⟨xx, v, hxx, rfl, ho, M⟩ := hrel
        obtain ⟨av, cv, rfl, _, _⟩ := ownsRow_slice ho
        obtain ⟨c0, c1, c2, c3, c4, c5⟩ := gcells (M.has (.tail _ _ _ _ _ (.tail _ _ _ _ _ (Has.head _ _ _ _))))
        by_cases hlt2 : xx < W2
        · have hkn := HFIT.out xx hlt2
          obtain ⟨j2, i2, r0, k, u, V, ej, ei, er, ek, hk, hu, eu, hfv, hV1, hr0, hj2, hi2⟩ := HV.out xx hlt2
          obtain ⟨b, o, rfl, hbl, cu⟩ := cell64 (HS.out.below M.below) k (by rw [HP.out]; exact hk)
          rw [hu] at cu
          obtain ⟨t0, ht0⟩ : ∃ t0, t0 = k0 + xx := ⟨_, rfl⟩
          have ht1 : k0 + (xx + 1) = t0 + 1 := by omega
          rw [← ht0] at ho M hkn hfv
          have HT1 := Lib.hid ht1
          have HFV := Lib.hid hfv
          have hb63 : t0 + 1 ≤ maxLen := by unfold maxLen; omega
          have hb8 : (t0 + 1) * 8 ≤ 140737488355328 := by omega
          have hx1 : xx + 1 ≤ W2 := by omega
          have wr0 : IntKind.i64.wrap (r0 : Int) = (r0 : Int) := IntWalk.i64_in _ (by omega)
          have wk : IntKind.i64.wrap (k : Int) = (k : Int) := IntWalk.i64_in _ (by omega)
          have wj2 : IntKind.i64.wrap (j2 : Int) = (j2 : Int) := IntWalk.i64_in _ (by omega)
          have wi2 : IntKind.i64.wrap (i2 : Int) = (i2 : Int) := IntWalk.i64_in _ (by omega)
          have wV : IntKind.i64.wrap (V : Int) = (V : Int) := IntWalk.i64_in _ (by omega)
          have d5 := M.cell (Has.head _ _ _ _) (i := 5) rfl
          have HU := Lib.hid hu
          clear hu hfv ht0 ht1
          go_wp2_with fail
          refine wp_region_N_drew (S := (fun w' : World => w'.cell? ⟨gC, 5, none⟩ = some (.slice av t0 cv) ∧ w'.cell? ⟨gA, 0, none⟩ = some (.int .i64 x) ∧ w'.cell? ⟨gA, 5, none⟩ = some (.slice (some ⟨b, o, none⟩) n cap) ∧ w'.cell? ⟨b, o + k, none⟩ = some (.int .i64 (u : Int)))) 18 (by kernel_rfl) ?_
          have hHeld : (fun w' : World => w'.cell? ⟨gC, 5, none⟩ = some (.slice av t0 cv) ∧ w'.cell? ⟨gA, 0, none⟩ = some (.int .i64 x) ∧ w'.cell? ⟨gA, 5, none⟩ = some (.slice (some ⟨b, o, none⟩) n cap) ∧ w'.cell? ⟨b, o + k, none⟩ = some (.int .i64 (u : Int))) wr.drew := ⟨d5, c0, c5, cu⟩
          refine wpAnyN_takeY (i := 0) (v := ?v58) rfl (by kernel_rfl) (by kernel_rfl) (by kernel_rfl) (fun _ _ _ h => h) rfl (Or.inl ⟨by rfl, ?hy58⟩) (fun _ => hHeld) ?rest58
          case hy58 => (intro w' _; go_simp; (try with_reducible rfl))
          try simp only [Act.put, List.setIfInBounds_toArray, List.set_cons_zero, List.set_cons_succ, List.getElem_toArray, List.getElem_cons_zero, List.getElem_cons_succ]
          refine wpAnyN_take (i := 1) (v := ?v59) rfl (by kernel_rfl) (by kernel_rfl) (by kernel_rfl) (fun _ _ _ h => h) rfl (by kernel_rfl) (by kernel_rfl) (Or.inl ⟨by rfl, ?hy59⟩) hHeld ?rest59
          case hy59 => (intro w' hSw; (try dsimp only at hSw); go_simp; (try with_reducible rfl))
          try simp only [Act.put, List.setIfInBounds_toArray, List.set_cons_zero, List.set_cons_succ, List.getElem_toArray, List.getElem_cons_zero, List.getElem_cons_succ]
          refine wpAnyN_takeY (i := 2) (v := ?v60) rfl (by kernel_rfl) (by kernel_rfl) (by kernel_rfl) (fun _ _ _ h => h) rfl (Or.inl ⟨by rfl, ?hy60⟩) (fun _ => hHeld) ?rest60
          case hy60 => (intro w' _; go_simp; (try with_reducible rfl))
          try simp only [Act.put, List.setIfInBounds_toArray, List.set_cons_zero, List.set_cons_succ, List.getElem_toArray, List.getElem_cons_zero, List.getElem_cons_succ]
          refine wpAnyN_take (i := 3) (v := ?v61) rfl (by kernel_rfl) (by kernel_rfl) (by kernel_rfl) (fun _ _ _ h => h) rfl (by kernel_rfl) (by kernel_rfl) (Or.inl ⟨by rfl, ?hy61⟩) hHeld ?rest61
          case hy61 => (intro w' hSw; (try dsimp only at hSw); go_simp; (try with_reducible rfl))
          try simp only [Act.put, List.setIfInBounds_toArray, List.set_cons_zero, List.set_cons_succ, List.getElem_toArray, List.getElem_cons_zero, List.getElem_cons_succ]
          refine wpAnyN_takeY (i := 4) (v := ?v62) rfl (by kernel_rfl) (by kernel_rfl) (by kernel_rfl) (fun _ _ _ h => h) rfl (Or.inl ⟨by rfl, ?hy62⟩) (fun _ => hHeld) ?rest62
          case hy62 => (intro w' _; go_simp; (try with_reducible rfl))
          try simp only [Act.put, List.setIfInBounds_toArray, List.set_cons_zero, List.set_cons_succ, List.getElem_toArray, List.getElem_cons_zero, List.getElem_cons_succ]
          refine wpAnyN_takeY (i := 5) (v := ?v63) rfl (by kernel_rfl) (by kernel_rfl) (by kernel_rfl) (fun _ _ _ h => h) rfl (Or.inl ⟨by rfl, ?hy63⟩) (fun _ => hHeld) ?rest63
          case hy63 => (intro w' _; go_simp; (try with_reducible rfl))
          try simp only [Act.put, List.setIfInBounds_toArray, List.set_cons_zero, List.set_cons_succ, List.getElem_toArray, List.getElem_cons_zero, List.getElem_cons_succ]
          refine wpAnyN_takeY (i := 6) (v := ?v64) rfl (by kernel_rfl) (by kernel_rfl) (by kernel_rfl) (fun _ _ _ h => h) rfl (Or.inl ⟨by rfl, ?hy64⟩) (fun _ => hHeld) ?rest64
          case hy64 => (intro w' _; go_simp; (try with_reducible rfl))
          try simp only [Act.put, List.setIfInBounds_toArray, List.set_cons_zero, List.set_cons_succ, List.getElem_toArray, List.getElem_cons_zero, List.getElem_cons_succ]
          refine wpAnyN_take (i := 7) (v := ?v65) rfl (by kernel_rfl) (by kernel_rfl) (by kernel_rfl) (fun _ _ _ h => h) rfl (by kernel_rfl) (by kernel_rfl) (Or.inl ⟨by rfl, ?hy65⟩) hHeld ?rest65
          case hy65 => (intro w' hSw; (try dsimp only at hSw); go_simp; (try with_reducible rfl))
          try simp only [Act.put, List.setIfInBounds_toArray, List.set_cons_zero, List.set_cons_succ, List.getElem_toArray, List.getElem_cons_zero, List.getElem_cons_succ]
          refine wpAnyN_takeY (i := 8) (v := ?v66) rfl (by kernel_rfl) (by kernel_rfl) (by kernel_rfl) (fun _ _ _ h => h) rfl (Or.inl ⟨by rfl, ?hy66⟩) (fun _ => hHeld) ?rest66
          case hy66 => (intro w' _; go_simp; (try with_reducible rfl))
          try simp only [Act.put, List.setIfInBounds_toArray, List.set_cons_zero, List.set_cons_succ, List.getElem_toArray, List.getElem_cons_zero, List.getElem_cons_succ]
          refine wpAnyN_takeY (i := 9) (v := ?v67) rfl (by kernel_rfl) (by kernel_rfl) (by kernel_rfl) (fun _ _ _ h => h) rfl (Or.inl ⟨by rfl, ?hy67⟩) (fun _ => hHeld) ?rest67
          case hy67 => (intro w' _; go_simp; (try with_reducible rfl))
          try simp only [Act.put, List.setIfInBounds_toArray, List.set_cons_zero, List.set_cons_succ, List.getElem_toArray, List.getElem_cons_zero, List.getElem_cons_succ]
          refine wpAnyN_takeY (i := 10) (v := ?v68) rfl (by kernel_rfl) (by kernel_rfl) (by kernel_rfl) (fun _ _ _ h => h) rfl (Or.inl ⟨by rfl, ?hy68⟩) (fun _ => hHeld) ?rest68
          case hy68 => (intro w' _; go_simp; (try with_reducible rfl))
          try simp only [Act.put, List.setIfInBounds_toArray, List.set_cons_zero, List.set_cons_succ, List.getElem_toArray, List.getElem_cons_zero, List.getElem_cons_succ]
          refine wpAnyN_takeY (i := 11) (v := ?v69) rfl (by kernel_rfl) (by kernel_rfl) (by kernel_rfl) (fun _ _ _ h => h) rfl (Or.inl ⟨by rfl, ?hy69⟩) (fun _ => hHeld) ?rest69
          case hy69 => (intro w' _; go_simp; (try with_reducible rfl))
          try simp only [Act.put, List.setIfInBounds_toArray, List.set_cons_zero, List.set_cons_succ, List.getElem_toArray, List.getElem_cons_zero, List.getElem_cons_succ]
          refine wpAnyN_takeY (i := 12) (v := ?v70) rfl (by kernel_rfl) (by kernel_rfl) (by kernel_rfl) (fun _ _ _ h => h) rfl (Or.inl ⟨by rfl, ?hy70⟩) (fun _ => hHeld) ?rest70
          case hy70 => (intro w' _; go_simp; (try with_reducible rfl))
          try simp only [Act.put, List.setIfInBounds_toArray, List.set_cons_zero, List.set_cons_succ, List.getElem_toArray, List.getElem_cons_zero, List.getElem_cons_succ]
          refine wpAnyN_take (i := 13) (v := ?v71) rfl (by kernel_rfl) (by kernel_rfl) (by kernel_rfl) (fun _ _ _ h => h) rfl (by kernel_rfl) (by kernel_rfl) (Or.inl ⟨by rfl, ?hy71⟩) hHeld ?rest71
          case hy71 => (intro w' hSw; (try dsimp only at hSw); go_simp; (try with_reducible rfl))
          try simp only [Act.put, List.setIfInBounds_toArray, List.set_cons_zero, List.set_cons_succ, List.getElem_toArray, List.getElem_cons_zero, List.getElem_cons_succ]
          refine wpAnyN_takeY (i := 14) (v := ?v72) rfl (by kernel_rfl) (by kernel_rfl) (by kernel_rfl) (fun _ _ _ h => h) rfl (Or.inl ⟨by rfl, ?hy72⟩) (fun _ => hHeld) ?rest72
          case hy72 => (intro w' _; go_simp; (try with_reducible rfl))
          try simp only [Act.put, List.setIfInBounds_toArray, List.set_cons_zero, List.set_cons_succ, List.getElem_toArray, List.getElem_cons_zero, List.getElem_cons_succ]
          refine wpAnyN_ready (rs := [15]) (by kernel_rfl) (by simp) ?_
          refine AllReadyN.cons rfl (fun K hK => ?_) AllReadyN.nil
          go_simp
          obtain ⟨w8, hw8⟩ : ∃ w8, (wr.alloc (.cells #[.int .i64 (V : Int)] 2)).drew = w8 := ⟨_, rfl⟩
          have hA : Below wr.heap.size wr w8 := by rw [← hw8]; exact ((Below.refl _ _).alloc (Nat.le_refl _) _).drew
          have p8 : Sl w8 1 (.slice (some ⟨wr.heap.size, 0, none⟩) 1 1) 1 [.int .i64 (V : Int)] := by rw [← hw8]; exact Sl.one wr _ _
          have M8 := M.call hA
          have ho8 := ownsRow_below ho hA
          (try simp only [hw8])
          clear hw8
          try go_wp2_with fail
          replace hHeld : (fun w' : World => w'.cell? ⟨gC, 5, none⟩ = some (.slice av t0 cv) ∧ w'.cell? ⟨gA, 0, none⟩ = some (.int .i64 x) ∧ w'.cell? ⟨gA, 5, none⟩ = some (.slice (some ⟨b, o, none⟩) n cap) ∧ w'.cell? ⟨b, o + k, none⟩ = some (.int .i64 (u : Int))) _ := ⟨M8.cell (Has.head _ _ _ _) (i := 5) rfl, M8.cell (.tail _ _ _ _ _ (.tail _ _ _ _ _ (Has.head _ _ _ _))) (i := 0) rfl, M8.cell (.tail _ _ _ _ _ (.tail _ _ _ _ _ (Has.head _ _ _ _))) (i := 5) rfl, (hA.cell (p := ⟨b, o + k, none⟩) hbl).trans cu⟩
          refine hK.out _ _ (fun _ => hHeld) ?_
          clear hK K
          try simp only [Act.put, List.setIfInBounds_toArray, List.set_cons_zero, List.set_cons_succ, List.getElem_toArray, List.getElem_cons_zero, List.getElem_cons_succ]
          refine wpAnyN_ready (rs := [16]) (by kernel_rfl) (by simp) ?_
          refine AllReadyN.cons rfl (fun K hK => ?_) AllReadyN.nil
          rw [if_pos (by rfl)]
          refine wp_app E64 (.tmp 64) (.tmp 78) rfl w.heap.size rfl ho8 rfl p8 (by intro u hu; simp at hu; subst hu; rfl) hb63 hb8 M8.below.size ?_
          intro v9 w9 ho9 hg9 _
          have M9 := app_mem M8 (Below.refl _ _) ho8 hg9 (Nat.le_refl _) (by simp)
          obtain ⟨_, _, hee, _, e99⟩ := cell64 (HS.out.below M9.below) k (by rw [HP.out]; exact hk)
          cases hee
          rw [show p.getD k 0 = (u : Int) from HU.out] at e99
          obtain ⟨a9, c9, rfl, _, _⟩ := ownsRow_slice ho9
          have hf9 := M9.free (Has.head _ _ _ _) 5
          have d5 := M9.cell (Has.head _ _ _ _) (i := 5) rfl
          rw [← HFV.out, HT.out t0] at ho9
          have ho10 := ownsRow_setCell_other (a := ⟨gC, 5, none⟩) ho9 (fun e => gown_ne (M9.has (Has.head _ _ _ _)) ho9 (by decide) _ e rfl) (.slice a9 (t0 + 1) c9)
          have M10 := M9.set 5 (.slice a9 (t0 + 1) c9) (Upd.head _ _ _ _ _) (by simp)
          replace hHeld : (fun w' : World => w'.cell? ⟨gC, 5, none⟩ = some (.slice av t0 cv) ∧ w'.cell? ⟨gA, 0, none⟩ = some (.int .i64 x) ∧ w'.cell? ⟨gA, 5, none⟩ = some (.slice (some ⟨b, o, none⟩) n cap) ∧ w'.cell? ⟨b, o + k, none⟩ = some (.int .i64 (u : Int))) _ := ⟨M9.cell (Has.head _ _ _ _) (i := 5) rfl, M9.cell (.tail _ _ _ _ _ (.tail _ _ _ _ _ (Has.head _ _ _ _))) (i := 0) rfl, M9.cell (.tail _ _ _ _ _ (.tail _ _ _ _ _ (Has.head _ _ _ _))) (i := 5) rfl, e99⟩
          refine hK.out _ _ (fun _ => hHeld) ?_
          clear hK K
          try simp only [Act.put, List.setIfInBounds_toArray, List.set_cons_zero, List.set_cons_succ, List.getElem_toArray, List.getElem_cons_zero, List.getElem_cons_succ]
          refine wpAnyN_takeY (i := 17) (v := ?v75) rfl (by kernel_rfl) (by kernel_rfl) (by kernel_rfl) (fun _ _ _ h => h) rfl (Or.inl ⟨by rfl, ?hy75⟩) (fun _ => hHeld) ?rest75
          case hy75 => (intro w' _; go_simp; (try with_reducible rfl))
          try simp only [Act.put, List.setIfInBounds_toArray, List.set_cons_zero, List.set_cons_succ, List.getElem_toArray, List.getElem_cons_zero, List.getElem_cons_succ]
          refine wpAnyN_ready (rs := [18]) (by kernel_rfl) (by simp) ?_
          refine AllReadyN.cons rfl (fun K hK => ?_) AllReadyN.nil
          go_simp
          try go_wp2_with fail
          refine hK.out _ _ (fun h => by have h' : (true : Bool) = false := h; cases h') ?_
          clear hK K
          try simp only [Act.put, List.setIfInBounds_toArray, List.set_cons_zero, List.set_cons_succ, List.getElem_toArray, List.getElem_cons_zero, List.getElem_cons_succ]
          refine wpAnyN_done (by kernel_rfl) ?_ _
          clear d5 hf9 ho9 M9 ho M e99 cu c0 c1 c2 c3 c4 c5 hA p8 ho8 M8 hg9 ej ei er ek eu
          go_wp2_with fail
          go_roundw
          case rel => exact ⟨xx + 1, _, hx1, by go_num, by rw [HT1.out]; exact ho10, M10⟩
          case measure => simp [intOf]; omega
        · have e : k0 + xx = (yy + 1) * W2 := by rw [HK1.out]; omega
          rw [e] at ho M
          clear e
          go_wp2_with fail
          go_roundw
          case rel => exact ⟨yy + 1, _, by omega, by go_num, ho, M⟩
          case measure => simp [intOf]; omega
    · have e : yy * W2 = m := by rw [HM.out]; congr 1; omega
      rw [e] at ho
      obtain ⟨av, cv, rfl, _, _⟩ := ownsRow_slice ho
      clear e c0 c1 c2 c3 c4 c5
      obtain ⟨c0, c1, c2, c3, c4, c5⟩ := gcells (M.has (Has.head _ _ _ _))
      obtain ⟨e0, _, _, _, _, e5⟩ := gcells (M.has (.tail _ _ _ _ _ (.tail _ _ _ _ _ (Has.head _ _ _ _))))
      have e1 := M.cell (.tail _ _ _ _ _ (.tail _ _ _ _ _ (Has.head _ _ _ _))) (i := 1) rfl
      go_wp2_with ((with_reducible refine (?_ : Go.wpList _ _ _ (_ :: _) _ _)); (first | go_skip | (refine wpL_stM (v := gv W2 H2 NX NY d2 (.slice av m cv)) M rfl rfl rfl rfl (wr_g _ _ _ _ _ _ _ _ _ _ _ _ _ _) (.tail _ _ _ _ _ _ _ (Upd.head _ _ _ _ _)) ?_; intro w6 M6 hT6)))
      have ho6 := gown_turned ho (M.has (.tail _ _ _ _ _ (Has.head _ _ _ _))) (by decide) hT6
      ((try simp only [Exit.inBlock, Exit.then]); refine bodyPost_ret (res_cell_tmp rfl M6 rfl (.tail _ _ _ _ _ (Has.head _ _ _ _)) (rd_g _ _ _ _ _ _) rfl) rfl ?_)
      exact ⟨_, _, rfl, Sl.of_own ho6, M6.below⟩
end Go.Proofs.Ytnfgogfbpggnfaa
