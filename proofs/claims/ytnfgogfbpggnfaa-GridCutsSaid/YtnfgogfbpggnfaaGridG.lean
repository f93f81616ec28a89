/-
  How much a place is believed; places cut out of a grid: the code's.
-/
import Derived.Test.YtnfgogfbpggnfaaGridF
import Derived.Test.YtnfgogfbpggnfaaGridSpecB
import Derived.BigRegion
set_option linter.unusedVariables false
set_option linter.unusedSimpArgs false
namespace Go.Proofs.Ytnfgogfbpggnfaa
open Go Go.RowKit Go.Th Go.Th.Grid Go.Th.Wide

set_option maxRecDepth 20000 in
set_option maxHeartbeats 1600000 in
theorem believed_any (x y : Nat) (X Y s cx cy : Int) (a : Option Addr) (n cap : Nat) (p : List Int) (hp : p.length = n) (hxy : n = x * y) (hx : x ≤ 64) (hy : y ≤ 64) (w : World) (hS : Sl w 1 (.slice a n cap) n (i64s p)) :
    Calls Try.prog 51 #[gv x y X Y s (.slice a n cap), .int .i64 cx, .int .i64 cy] w fun e w' => e = .returned (.int .i64 (bel p x y cx cy)) ∧ Below w.heap.size w w' := by
  have hle : x * y ≤ 64 * 64 := Nat.mul_le_mul hx hy
  (obtain ⟨w1, hw1⟩ : ∃ w1, w.alloc (.cells #[.int .i64 x, .int .i64 y, .int .i64 X, .int .i64 Y, .int .i64 s, .slice a n cap] 24) = w1 := ⟨_, rfl⟩; have M1 := (Mem.start w).alloc 24 (gc x y X Y s (.slice a n cap)); rw [show w.alloc (.cells (gc x y X Y s (.slice a n cap)).toArray 24) = w1 from hw1] at M1; have HW1 := Lib.hid hw1; clear hw1)
  by_cases h1 : cx < 0
  · have hv : bel p x y cx cy = 0 := by unfold bel; rw [if_neg (by omega)]
    have HV := Lib.hid hv
    clear hv hS hp hxy hle
    go_enter Try.func51, Try.ntmps51
    ((go_upto_region 1 with fail); rw [HW1.out]; clear HW1; obtain ⟨gA, hgA⟩ : ∃ gA, gA = w.heap.size := ⟨_, rfl⟩; rw [← hgA] at M1 ⊢; clear hgA)
    obtain ⟨c0, c1, c2, c3, c4, c5⟩ := gcells (M1.has (Has.head _ _ _ _))
    go_wp2_with fail
    go_ret
    exact ⟨ret_int HV.out.symm, M1.below⟩
  by_cases h2 : (x : Int) ≤ cx
  · have hv : bel p x y cx cy = 0 := by unfold bel; rw [if_neg (by omega)]
    have HV := Lib.hid hv
    clear hv hS hp hxy hle
    go_enter Try.func51, Try.ntmps51
    ((go_upto_region 1 with fail); rw [HW1.out]; clear HW1; obtain ⟨gA, hgA⟩ : ∃ gA, gA = w.heap.size := ⟨_, rfl⟩; rw [← hgA] at M1 ⊢; clear hgA)
    obtain ⟨c0, c1, c2, c3, c4, c5⟩ := gcells (M1.has (Has.head _ _ _ _))
    go_wp2_with fail
    go_ret
    exact ⟨ret_int HV.out.symm, M1.below⟩
  by_cases h3 : cy < 0
  · have hv : bel p x y cx cy = 0 := by unfold bel; rw [if_neg (by omega)]
    have HV := Lib.hid hv
    clear hv hS hp hxy hle
    go_enter Try.func51, Try.ntmps51
    ((go_upto_region 1 with fail); rw [HW1.out]; clear HW1; obtain ⟨gA, hgA⟩ : ∃ gA, gA = w.heap.size := ⟨_, rfl⟩; rw [← hgA] at M1 ⊢; clear hgA)
    obtain ⟨c0, c1, c2, c3, c4, c5⟩ := gcells (M1.has (Has.head _ _ _ _))
    go_wp2_with fail
    go_ret
    exact ⟨ret_int HV.out.symm, M1.below⟩
  by_cases h4 : (y : Int) ≤ cy
  · have hv : bel p x y cx cy = 0 := by unfold bel; rw [if_neg (by omega)]
    have HV := Lib.hid hv
    clear hv hS hp hxy hle
    go_enter Try.func51, Try.ntmps51
    ((go_upto_region 1 with fail); rw [HW1.out]; clear HW1; obtain ⟨gA, hgA⟩ : ∃ gA, gA = w.heap.size := ⟨_, rfl⟩; rw [← hgA] at M1 ⊢; clear hgA)
    obtain ⟨c0, c1, c2, c3, c4, c5⟩ := gcells (M1.has (Has.head _ _ _ _))
    go_wp2_with fail
    go_ret
    exact ⟨ret_int HV.out.symm, M1.below⟩
  · obtain ⟨i, rfl⟩ := Int.eq_ofNat_of_zero_le (by omega : 0 ≤ cx)
    obtain ⟨j, rfl⟩ := Int.eq_ofNat_of_zero_le (by omega : 0 ≤ cy)
    have hi : i < x := by omega
    have hj : j < y := by omega
    have hk : j * x + i < n := by rw [hxy, Nat.mul_comm x y]; exact at_lt hi hj
    rw [bel_in p hi hj]
    obtain ⟨b, o, rfl, _, hc⟩ := cell64 (hS.below M1.below) (j * x + i) (by omega)
    obtain ⟨k0, hk0⟩ : ∃ k0, k0 = j * x := ⟨_, rfl⟩
    have hmul : (j : Int) * (x : Int) = (k0 : Int) := by rw [hk0]; simp
    rw [← hk0] at hk hc ⊢
    obtain ⟨u, hu⟩ : ∃ u, u = p.getD (k0 + i) 0 := ⟨_, rfl⟩
    rw [← hu] at hc ⊢
    have hmx := hS.max
    clear hu hk0 hS hp hxy
    go_enter Try.func51, Try.ntmps51
    ((go_upto_region 1 with fail); rw [HW1.out]; clear HW1; obtain ⟨gA, hgA⟩ : ∃ gA, gA = w.heap.size := ⟨_, rfl⟩; rw [← hgA] at M1 ⊢; clear hgA)
    obtain ⟨c0, c1, c2, c3, c4, c5⟩ := gcells (M1.has (Has.head _ _ _ _))
    go_wp2_with fail
    go_ret
    exact ⟨rfl, M1.below⟩

set_option maxRecDepth 20000 in
theorem run_mk64 (m : Nat) (hm : m ≤ 1000000) (wx : World) : (Instr.makeSlice 22 (.int .i64 (m : Int)) (.int .i64 (m : Int))).run Try.prog wx = .ok (.slice (some ⟨wx.heap.size, 0, none⟩) m m) (wx.alloc (.cells (List.replicate m (Value.int .i64 0)).toArray 2)) := by
  obtain ⟨i, hi, h1, h2, h3⟩ := info_parts (P := Try.prog) (e := 2) (z := .int .i64 0) (size := 1) (bytes := 8) (by kernel_rfl)
  have hr := run_make (P := Try.prog) wx 22 2 i (.int .i64 0) Try.underlying22 hi h1 .i64 .i64 (m : Int) (m : Int) (by omega) (Int.le_refl _) (by rw [h3]; omega) (by omega)
  rw [hr, h2, Nat.mul_one]
  simp only [Int.toNat_natCast]
  congr 4
  apply Array.ext'
  exact toList_madeCells_one _ _

theorem zeroG : (Try.prog.info? 24).map (·.zero) = some (some (gv 0 0 0 0 0 (.slice none 0 0))) := by kernel_rfl
/-- A row of noughts is made. -/
theorem wp_mkM {w w0 : World} {bs : List (Nat × TypeId × List Value)} {o : Oper} {a : Act} {K : Act → World → Prop} {Q : Exit → Act → World → Prop} {l c : Operand} (M : Mem w0 w bs)
    (hr : ∀ (m : Nat), m ≤ 1000000 → ∀ wx : World, (Instr.makeSlice 22 (.int .i64 (m : Int)) (.int .i64 (m : Int))).run Try.prog wx = .ok (.slice (some ⟨wx.heap.size, 0, none⟩) m m) (wx.alloc (.cells (List.replicate m (Value.int .i64 0)).toArray 2)))
    (ho : o.op = Op.makeSlice 22 l c) (m : Nat) (hl : a.eval l = .int .i64 (m : Int)) (hc : a.eval c = .int .i64 (m : Int)) (hm : m ≤ 1000000)
    (h : ∀ g w', Mem w0 w' ((g, 2, List.replicate m (.int .i64 0)) :: bs) → K (a.put o.dst (.slice (some ⟨g, 0, none⟩) m m)) w') : o.wp Try.prog a w K Q := by
  unfold Oper.wp execOp
  simp only [ho, hl, hc, Sem.run_bind, hr m hm, Result.andThen_ok]
  exact h _ _ (M.alloc _ _)
theorem mem_swap {w0 w : World} {e1 e2 : Nat × TypeId × List Value} {bs : List (Nat × TypeId × List Value)} (M : Mem w0 w (e1 :: e2 :: bs)) : Mem w0 w (e2 :: e1 :: bs) where
  below := M.below
  nodup := by
    have := M.nodup
    simp only [List.map_cons, List.nodup_cons, List.mem_cons, not_or] at this ⊢
    exact ⟨⟨fun e => this.1.1 e.symm, this.2.1⟩, this.1.2, this.2.2⟩
  old := by
    intro e he
    refine M.old e ?_
    simp only [List.mem_cons] at he ⊢
    rcases he with h | h | h
    · exact .inr (.inl h)
    · exact .inl h
    · exact .inr (.inr h)
  blk := by
    intro e he
    refine M.blk e ?_
    simp only [List.mem_cons] at he ⊢
    rcases he with h | h | h
    · exact .inr (.inl h)
    · exact .inl h
    · exact .inr (.inr h)

set_option maxRecDepth 20000 in
set_option maxHeartbeats 1600000 in
theorem cut14_no (x y X Y s cx cy cw ch : Int) (a : Option Addr) (n cap : Nat) (p : List Int) (hp : p.length = n) (hn : n ≤ 1000000) (hno : (sdG cw ch && (inR cx (-64) 64 && inR cy (-64) 64)) = false) (w : World) (hS : Sl w 1 (.slice a n cap) n (i64s p)) :
    Calls Try.prog 25 #[gv x y X Y s (.slice a n cap), .int .i64 cx, .int .i64 cy, .int .i64 cw, .int .i64 ch] w (GRes x y X Y s n p 2 w) := by
  have C1 := sides_any cw ch
  have C2 := begin_any cx
  have C3 := begin_any cy
  obtain ⟨b1, hb1⟩ : ∃ b, b = sdG cw ch := ⟨_, rfl⟩
  obtain ⟨b2, hb2⟩ : ∃ b, b = inR cx (-64) 64 := ⟨_, rfl⟩
  obtain ⟨b3, hb3⟩ : ∃ b, b = inR cy (-64) 64 := ⟨_, rfl⟩
  rw [← hb1] at C1
  rw [← hb2] at C2
  rw [← hb3] at C3
  rw [← hb1, ← hb2, ← hb3] at hno
  have C1 := Lib.hid C1
  have C2 := Lib.hid C2
  have C3 := Lib.hid C3
  have C4 := Lib.hid (fun wx hs => itself_any x y X Y s a n cap p hp hn wx hs)
  have HS := Lib.hid hS
  clear hb1 hb2 hb3 hS hp
  (obtain ⟨w1, hw1⟩ : ∃ w1, w.alloc (.cells #[.int .i64 x, .int .i64 y, .int .i64 X, .int .i64 Y, .int .i64 s, .slice a n cap] 24) = w1 := ⟨_, rfl⟩; have M1 := (Mem.start w).alloc 24 (gc x y X Y s (.slice a n cap)); rw [show w.alloc (.cells (gc x y X Y s (.slice a n cap)).toArray 24) = w1 from hw1] at M1; obtain ⟨w2, hw2⟩ : ∃ w2, w1.alloc (.cells #[.int .i64 0, .int .i64 0, .int .i64 0, .int .i64 0, .int .i64 0, .slice none 0 0] 24) = w2 := ⟨_, rfl⟩; have M2 := M1.alloc 24 (gc 0 0 0 0 0 (.slice none 0 0)); rw [show w1.alloc (.cells (gc 0 0 0 0 0 (.slice none 0 0)).toArray 24) = w2 from hw2] at M2; have hsz : w1.heap.size = w.heap.size + 1 := (by rw [← hw1]; simp); have HW1 := Lib.hid hw1; have HW2 := Lib.hid hw2; clear hw1 hw2 M1)
  go_enter Try.func25, Try.ntmps25
  ((go_upto_region 1 with fail); rw [HW1.out, HW2.out, ← hsz]; clear HW1 HW2; obtain ⟨gB, hgB⟩ : ∃ gB, gB = w1.heap.size := ⟨_, rfl⟩; obtain ⟨gA, hgA⟩ : ∃ gA, gA = w.heap.size := ⟨_, rfl⟩; rw [← hgB] at M2 ⊢; rw [← hgA] at M2 ⊢; have hne : gA ≠ gB := (by omega); clear hgA hgB hsz)
  obtain ⟨c0, c1, c2, c3, c4, c5⟩ := gcells (M2.has (.tail _ _ _ _ _ (Has.head _ _ _ _)))
  go_wp2_with fail
  refine (C1.out _).mono ?_
  rintro e wx ⟨rfl, rfl⟩
  cases b1
  · clear hno
    go_wp2_with fail
    refine (C4.out _ (HS.out.below M2.below)).mono ?_
    rintro e w4 ⟨a4, cap4, rfl, ho4, hA⟩
    have hz3 := M2.below.size
    have M3 := M2.call hA
    clear c0 c1 c2 c3 c4 c5 hA
    go_wp2_with ((with_reducible refine (?_ : Go.wpList _ _ _ (_ :: _) _ _)); (first | go_skip | (refine wpL_stM (v := gv x y X Y s (.slice a4 n cap4)) M3 rfl rfl rfl rfl (wr_g _ _ _ _ _ _ _ _ _ _ _ _ _ _) (Upd.head _ _ _ _ _) ?_; intro w4 M4 hT4)))
    have ho5 := gown_turned ho4 (M3.has (Has.head _ _ _ _)) (by decide) hT4
    ((try simp only [Exit.inBlock, Exit.then]); refine bodyPost_ret (res_cell_tmp rfl M4 rfl (Has.head _ _ _ _) (rd_g _ _ _ _ _ _) rfl) rfl ?_)
    exact ⟨_, _, rfl, ownsRow_base ho5 hz3, M4.below⟩
  rw [Bool.true_and] at hno
  go_wp2_with fail
  refine (C2.out _).mono ?_
  rintro e wx ⟨rfl, rfl⟩
  cases b2
  · clear hno
    go_wp2_with fail
    refine (C4.out _ (HS.out.below M2.below)).mono ?_
    rintro e w4 ⟨a4, cap4, rfl, ho4, hA⟩
    have hz3 := M2.below.size
    have M3 := M2.call hA
    clear c0 c1 c2 c3 c4 c5 hA
    go_wp2_with ((with_reducible refine (?_ : Go.wpList _ _ _ (_ :: _) _ _)); (first | go_skip | (refine wpL_stM (v := gv x y X Y s (.slice a4 n cap4)) M3 rfl rfl rfl rfl (wr_g _ _ _ _ _ _ _ _ _ _ _ _ _ _) (Upd.head _ _ _ _ _) ?_; intro w4 M4 hT4)))
    have ho5 := gown_turned ho4 (M3.has (Has.head _ _ _ _)) (by decide) hT4
    ((try simp only [Exit.inBlock, Exit.then]); refine bodyPost_ret (res_cell_tmp rfl M4 rfl (Has.head _ _ _ _) (rd_g _ _ _ _ _ _) rfl) rfl ?_)
    exact ⟨_, _, rfl, ownsRow_base ho5 hz3, M4.below⟩
  rw [Bool.true_and] at hno
  subst hno
  go_wp2_with fail
  refine (C3.out _).mono ?_
  rintro e wx ⟨rfl, rfl⟩
  go_wp2_with fail
  refine (C4.out _ (HS.out.below M2.below)).mono ?_
  rintro e w4 ⟨a4, cap4, rfl, ho4, hA⟩
  have hz3 := M2.below.size
  have M3 := M2.call hA
  clear c0 c1 c2 c3 c4 c5 hA
  go_wp2_with ((with_reducible refine (?_ : Go.wpList _ _ _ (_ :: _) _ _)); (first | go_skip | (refine wpL_stM (v := gv x y X Y s (.slice a4 n cap4)) M3 rfl rfl rfl rfl (wr_g _ _ _ _ _ _ _ _ _ _ _ _ _ _) (Upd.head _ _ _ _ _) ?_; intro w4 M4 hT4)))
  have ho5 := gown_turned ho4 (M3.has (Has.head _ _ _ _)) (by decide) hT4
  ((try simp only [Exit.inBlock, Exit.then]); refine bodyPost_ret (res_cell_tmp rfl M4 rfl (Has.head _ _ _ _) (rd_g _ _ _ _ _ _) rfl) rfl ?_)
  exact ⟨_, _, rfl, ownsRow_base ho5 hz3, M4.below⟩

set_option maxRecDepth 20000 in
set_option maxHeartbeats 6400000 in
theorem cut14_yes (x y cw ch m : Nat) (X Y s cx cy PX PY NX NY : Int) (a : Option Addr) (n cap : Nat) (p : List Int) (hp : p.length = n) (hxy : n = x * y) (hsd : sdG x y = true) (hcd : sdG cw ch = true) (hcx : inR cx (-64) 64 = true) (hcy : inR cy (-64) 64 = true)
    (hs : 0 ≤ s ∧ s ≤ 4096) (hX : -1000000000000 ≤ X ∧ X ≤ 1000000000000) (hY : -1000000000000 ≤ Y ∧ Y ≤ 1000000000000) (hm : m = ch * cw) (hPX : cx * s = PX) (hPY : cy * s = PY) (hNX : X + PX = NX) (hNY : Y + PY = NY) (w : World) (hS : Sl w 1 (.slice a n cap) n (i64s p)) :
    Calls Try.prog 25 #[gv x y X Y s (.slice a n cap), .int .i64 cx, .int .i64 cy, .int .i64 cw, .int .i64 ch] w (GRes cw ch NX NY s m (tab (cutAt p x y cx cy cw) m) 0 w) := by
  obtain ⟨⟨q1, q2⟩, q3, q4⟩ := sdG_t hsd
  obtain ⟨⟨q5, q6⟩, q7, q8⟩ := sdG_t hcd
  have r1 := inR_t hcx
  have r2 := inR_t hcy
  have hle : x * y ≤ 64 * 64 := Nat.mul_le_mul (by omega) (by omega)
  have hle2 : ch * cw ≤ 64 * 64 := Nat.mul_le_mul (by omega) (by omega)
  have bPX : -262144 ≤ PX ∧ PX ≤ 262144 := by
    have a1 := Int.mul_le_mul_of_nonneg_right r1.1 hs.1
    have a2 := Int.mul_le_mul_of_nonneg_right r1.2 hs.1
    rw [hPX] at a1 a2; omega
  have bPY : -262144 ≤ PY ∧ PY ≤ 262144 := by
    have a1 := Int.mul_le_mul_of_nonneg_right r2.1 hs.1
    have a2 := Int.mul_le_mul_of_nonneg_right r2.2 hs.1
    rw [hPY] at a1 a2; omega
  have wPX : IntKind.i64.wrap PX = PX := IntWalk.i64_in _ (by omega)
  have wPY : IntKind.i64.wrap PY = PY := IntWalk.i64_in _ (by omega)
  have wNX : IntKind.i64.wrap NX = NX := IntWalk.i64_in _ (by omega)
  have wNY : IntKind.i64.wrap NY = NY := IntWalk.i64_in _ (by omega)
  have wm : IntKind.i64.wrap (m : Int) = (m : Int) := IntWalk.i64_in _ (by omega)
  have hmul2 : (cw : Int) * (ch : Int) = (m : Int) := by rw [hm, Nat.mul_comm]; simp
  have hm2 : m ≤ 4096 := by omega
  have C1 := sides_any cw ch
  have C2 := begin_any cx
  have C3 := begin_any cy
  rw [hcd] at C1
  rw [hcx] at C2
  rw [hcy] at C3
  have C4 := shape_any x y X Y s a n cap (by omega)
  rw [shp_ok hsd hxy] at C4
  have CB := fun (ax ay : Int) wx hs => believed_any x y X Y s ax ay a n cap p hp hxy (by omega) (by omega) wx hs
  obtain ⟨f, hf⟩ : ∃ f, f = cutAt p x y cx cy cw := ⟨_, rfl⟩
  rw [← hf]
  have hat : ∀ yy xx, yy < ch → xx < cw → yy * cw + xx < m := fun yy xx h1 h2 => by rw [hm]; exact at_lt h2 h1
  have hval : ∀ yy xx : Nat, xx < cw → bel p x y (cx + (xx : Int)) (cy + (yy : Int)) = f (yy * cw + xx) := by
    intro yy xx h2
    rw [hf]
    unfold cutAt
    rw [div_at yy h2, mod_at yy h2]
  have C1 := Lib.hid C1
  have C2 := Lib.hid C2
  have C3 := Lib.hid C3
  have C4 := Lib.hid C4
  have CB := Lib.hid CB
  have HAT := Lib.hid hat
  have HVAL := Lib.hid hval
  have HM := Lib.hid hm
  have HL := Lib.hid (fun k => lay_length f k m)
  have HN := Lib.hid (fun k => lay_set f k m)
  have HS := Lib.hid hS
  have hlt : tab f m = lay f m m := (lay_n f m).symm
  rw [hlt]
  clear hf hat hval hm hS hp hxy hsd hcd hcx hcy hle hle2 hlt
  (obtain ⟨w1, hw1⟩ : ∃ w1, w.alloc (.cells #[.int .i64 x, .int .i64 y, .int .i64 X, .int .i64 Y, .int .i64 s, .slice a n cap] 24) = w1 := ⟨_, rfl⟩; have M1 := (Mem.start w).alloc 24 (gc x y X Y s (.slice a n cap)); rw [show w.alloc (.cells (gc x y X Y s (.slice a n cap)).toArray 24) = w1 from hw1] at M1; obtain ⟨w2, hw2⟩ : ∃ w2, w1.alloc (.cells #[.int .i64 0, .int .i64 0, .int .i64 0, .int .i64 0, .int .i64 0, .slice none 0 0] 24) = w2 := ⟨_, rfl⟩; have M2 := M1.alloc 24 (gc 0 0 0 0 0 (.slice none 0 0)); rw [show w1.alloc (.cells (gc 0 0 0 0 0 (.slice none 0 0)).toArray 24) = w2 from hw2] at M2; have hsz : w1.heap.size = w.heap.size + 1 := (by rw [← hw1]; simp); have HW1 := Lib.hid hw1; have HW2 := Lib.hid hw2; clear hw1 hw2 M1)
  go_enter Try.func25, Try.ntmps25
  ((go_upto_region 1 with fail); rw [HW1.out, HW2.out, ← hsz]; clear HW1 HW2; obtain ⟨gB, hgB⟩ : ∃ gB, gB = w1.heap.size := ⟨_, rfl⟩; obtain ⟨gA, hgA⟩ : ∃ gA, gA = w.heap.size := ⟨_, rfl⟩; rw [← hgB] at M2 ⊢; rw [← hgA] at M2 ⊢; have hne : gA ≠ gB := (by omega); clear hgA hgB hsz)
  obtain ⟨c0, c1, c2, c3, c4, c5⟩ := gcells (M2.has (.tail _ _ _ _ _ (Has.head _ _ _ _)))
  go_wp2_with fail
  refine (C1.out _).mono ?_
  rintro e wx ⟨rfl, rfl⟩
  go_wp2_with fail
  refine (C2.out _).mono ?_
  rintro e wx ⟨rfl, rfl⟩
  go_wp2_with fail
  refine (C3.out _).mono ?_
  rintro e wx ⟨rfl, rfl⟩
  go_wp2_with fail
  refine (C4.out _).mono ?_
  rintro e w3 ⟨rfl, hA⟩
  have M3 := M2.call hA
  clear c0 c1 c2 c3 c4 c5 M2 hA C1 C2 C3 C4
  obtain ⟨c0, c1, c2, c3, c4, c5⟩ := gcells (M3.has (.tail _ _ _ _ _ (Has.head _ _ _ _)))
  go_upto_region 6 with fail
  go_cut [13] from 39 (fun s13 wx => ∃ gC B, s13 = .pointer (some ⟨gC, 0, none⟩) ∧ Mem w wx [(gC, 24, gc cw ch NX NY s (.slice (some ⟨B, 0, none⟩) m m)), (B, 2, i64s (lay f 0 m)), (gB, 24, gc 0 0 0 0 0 (.slice none 0 0)), (gA, 24, gc x y X Y s (.slice a n cap))])
  case first =>
    refine wp_region_held_drew (S := (fun w' : World => w'.cell? ⟨gA, 0, none⟩ = some (.int .i64 x) ∧ w'.cell? ⟨gA, 1, none⟩ = some (.int .i64 y) ∧ w'.cell? ⟨gA, 2, none⟩ = some (.int .i64 X) ∧ w'.cell? ⟨gA, 3, none⟩ = some (.int .i64 Y) ∧ w'.cell? ⟨gA, 4, none⟩ = some (.int .i64 s) ∧ w'.cell? ⟨gA, 5, none⟩ = some (.slice a n cap))) (by kernel_rfl) (⟨c0, c1, c2, c3, c4, c5⟩) (fun hHeld => ?_)
    refine wpAnyH_take (i := 0) (v := ?v1) rfl (by kernel_rfl) (by kernel_rfl) (by kernel_rfl) (fun _ _ _ h => h) (Or.inl ⟨by rfl, ?hy1⟩) hHeld ?rest1
    case hy1 => (intro w' hSw; (try dsimp only at hSw); go_simp; (try with_reducible rfl))
    try simp only [Act.put, List.setIfInBounds_toArray, List.set_cons_zero, List.set_cons_succ, List.getElem_toArray, List.getElem_cons_zero, List.getElem_cons_succ]
    refine wpAnyH_take (i := 1) (v := ?v2) rfl (by kernel_rfl) (by kernel_rfl) (by kernel_rfl) (fun _ _ _ h => h) (Or.inl ⟨by rfl, ?hy2⟩) hHeld ?rest2
    case hy2 => (intro w' hSw; (try dsimp only at hSw); go_simp; (try with_reducible rfl))
    try simp only [Act.put, List.setIfInBounds_toArray, List.set_cons_zero, List.set_cons_succ, List.getElem_toArray, List.getElem_cons_zero, List.getElem_cons_succ]
    refine wpAnyH_take (i := 2) (v := ?v3) rfl (by kernel_rfl) (by kernel_rfl) (by kernel_rfl) (fun _ _ _ h => h) (Or.inl ⟨by rfl, ?hy3⟩) hHeld ?rest3
    case hy3 => (intro w' hSw; (try dsimp only at hSw); go_simp; (try with_reducible rfl))
    try simp only [Act.put, List.setIfInBounds_toArray, List.set_cons_zero, List.set_cons_succ, List.getElem_toArray, List.getElem_cons_zero, List.getElem_cons_succ]
    refine wpAnyH_take (i := 3) (v := ?v4) rfl (by kernel_rfl) (by kernel_rfl) (by kernel_rfl) (fun _ _ _ h => h) (Or.inl ⟨by rfl, ?hy4⟩) hHeld ?rest4
    case hy4 => (intro w' hSw; (try dsimp only at hSw); go_simp; (try with_reducible rfl))
    try simp only [Act.put, List.setIfInBounds_toArray, List.set_cons_zero, List.set_cons_succ, List.getElem_toArray, List.getElem_cons_zero, List.getElem_cons_succ]
    refine wpAnyH_take (i := 4) (v := ?v5) rfl (by kernel_rfl) (by kernel_rfl) (by kernel_rfl) (fun _ _ _ h => h) (Or.inl ⟨by rfl, ?hy5⟩) hHeld ?rest5
    case hy5 => (intro w' hSw; (try dsimp only at hSw); go_simp; (try with_reducible rfl))
    try simp only [Act.put, List.setIfInBounds_toArray, List.set_cons_zero, List.set_cons_succ, List.getElem_toArray, List.getElem_cons_zero, List.getElem_cons_succ]
    refine wpAnyH_take (i := 5) (v := ?v6) rfl (by kernel_rfl) (by kernel_rfl) (by kernel_rfl) (fun _ _ _ h => h) (Or.inl ⟨by rfl, ?hy6⟩) hHeld ?rest6
    case hy6 => (intro w' hSw; (try dsimp only at hSw); go_simp; (try with_reducible rfl))
    try simp only [Act.put, List.setIfInBounds_toArray, List.set_cons_zero, List.set_cons_succ, List.getElem_toArray, List.getElem_cons_zero, List.getElem_cons_succ]
    refine wpAnyH_take (i := 6) (v := ?v7) rfl (by kernel_rfl) (by kernel_rfl) (by kernel_rfl) (fun _ _ _ h => h) (Or.inl ⟨by rfl, ?hy7⟩) hHeld ?rest7
    case hy7 => (intro w' hSw; (try dsimp only at hSw); go_simp; (try with_reducible rfl))
    try simp only [Act.put, List.setIfInBounds_toArray, List.set_cons_zero, List.set_cons_succ, List.getElem_toArray, List.getElem_cons_zero, List.getElem_cons_succ]
    refine wpAnyH_take (i := 7) (v := ?v8) rfl (by kernel_rfl) (by kernel_rfl) (by kernel_rfl) (fun _ _ _ h => h) (Or.inl ⟨by rfl, ?hy8⟩) hHeld ?rest8
    case hy8 => (intro w' hSw; (try dsimp only at hSw); go_simp; (try with_reducible rfl))
    try simp only [Act.put, List.setIfInBounds_toArray, List.set_cons_zero, List.set_cons_succ, List.getElem_toArray, List.getElem_cons_zero, List.getElem_cons_succ]
    refine wpAnyH_take (i := 8) (v := ?v9) rfl (by kernel_rfl) (by kernel_rfl) (by kernel_rfl) (fun _ _ _ h => h) (Or.inl ⟨by rfl, ?hy9⟩) hHeld ?rest9
    case hy9 => (intro w' hSw; (try dsimp only at hSw); go_simp; (try with_reducible rfl))
    try simp only [Act.put, List.setIfInBounds_toArray, List.set_cons_zero, List.set_cons_succ, List.getElem_toArray, List.getElem_cons_zero, List.getElem_cons_succ]
    refine wpAnyH_take (i := 9) (v := ?v10) rfl (by kernel_rfl) (by kernel_rfl) (by kernel_rfl) (fun _ _ _ h => h) (Or.inl ⟨by rfl, ?hy10⟩) hHeld ?rest10
    case hy10 => (intro w' hSw; (try dsimp only at hSw); go_simp; (try with_reducible rfl))
    try simp only [Act.put, List.setIfInBounds_toArray, List.set_cons_zero, List.set_cons_succ, List.getElem_toArray, List.getElem_cons_zero, List.getElem_cons_succ]
    refine wpAnyH_take (i := 10) (v := ?v11) rfl (by kernel_rfl) (by kernel_rfl) (by kernel_rfl) (fun _ _ _ h => h) (Or.inl ⟨by rfl, ?hy11⟩) hHeld ?rest11
    case hy11 => (intro w' hSw; (try dsimp only at hSw); go_simp; (try with_reducible rfl))
    try simp only [Act.put, List.setIfInBounds_toArray, List.set_cons_zero, List.set_cons_succ, List.getElem_toArray, List.getElem_cons_zero, List.getElem_cons_succ]
    refine wpAnyH_take (i := 11) (v := ?v12) rfl (by kernel_rfl) (by kernel_rfl) (by kernel_rfl) (fun _ _ _ h => h) (Or.inl ⟨by rfl, ?hy12⟩) hHeld ?rest12
    case hy12 => (intro w' hSw; (try dsimp only at hSw); go_simp; (try with_reducible rfl))
    try simp only [Act.put, List.setIfInBounds_toArray, List.set_cons_zero, List.set_cons_succ, List.getElem_toArray, List.getElem_cons_zero, List.getElem_cons_succ]
    refine wpAnyH_take (i := 12) (v := ?v13) rfl (by kernel_rfl) (by kernel_rfl) (by kernel_rfl) (fun _ _ _ h => h) (Or.inl ⟨by rfl, ?hy13⟩) hHeld ?rest13
    case hy13 => (intro w' hSw; (try dsimp only at hSw); go_simp; (try with_reducible rfl))
    try simp only [Act.put, List.setIfInBounds_toArray, List.set_cons_zero, List.set_cons_succ, List.getElem_toArray, List.getElem_cons_zero, List.getElem_cons_succ]
    refine wpAnyH_take (i := 13) (v := ?v14) rfl (by kernel_rfl) (by kernel_rfl) (by kernel_rfl) (fun _ _ _ h => h) (Or.inl ⟨by rfl, ?hy14⟩) hHeld ?rest14
    case hy14 => (intro w' hSw; (try dsimp only at hSw); go_simp; (try with_reducible rfl))
    try simp only [Act.put, List.setIfInBounds_toArray, List.set_cons_zero, List.set_cons_succ, List.getElem_toArray, List.getElem_cons_zero, List.getElem_cons_succ]
    refine wpAnyH_take (i := 14) (v := ?v15) rfl (by kernel_rfl) (by kernel_rfl) (by kernel_rfl) (fun _ _ _ h => h) (Or.inl ⟨by rfl, ?hy15⟩) hHeld ?rest15
    case hy15 => (intro w' hSw; (try dsimp only at hSw); go_simp; (try with_reducible rfl))
    try simp only [Act.put, List.setIfInBounds_toArray, List.set_cons_zero, List.set_cons_succ, List.getElem_toArray, List.getElem_cons_zero, List.getElem_cons_succ]
    refine wpAnyH_take (i := 15) (v := ?v16) rfl (by kernel_rfl) (by kernel_rfl) (by kernel_rfl) (fun _ _ _ h => h) (Or.inl ⟨by rfl, ?hy16⟩) hHeld ?rest16
    case hy16 => (intro w' hSw; (try dsimp only at hSw); go_simp; (try with_reducible rfl))
    try simp only [Act.put, List.setIfInBounds_toArray, List.set_cons_zero, List.set_cons_succ, List.getElem_toArray, List.getElem_cons_zero, List.getElem_cons_succ]
    refine wpAnyH_take (i := 16) (v := ?v17) rfl (by kernel_rfl) (by kernel_rfl) (by kernel_rfl) (fun _ _ _ h => h) (Or.inl ⟨by rfl, ?hy17⟩) hHeld ?rest17
    case hy17 => (intro w' hSw; (try dsimp only at hSw); go_simp; (try with_reducible rfl))
    try simp only [Act.put, List.setIfInBounds_toArray, List.set_cons_zero, List.set_cons_succ, List.getElem_toArray, List.getElem_cons_zero, List.getElem_cons_succ]
    refine wpAnyH_take (i := 17) (v := ?v18) rfl (by kernel_rfl) (by kernel_rfl) (by kernel_rfl) (fun _ _ _ h => h) (Or.inl ⟨by rfl, ?hy18⟩) hHeld ?rest18
    case hy18 => (intro w' hSw; (try dsimp only at hSw); go_simp; (try with_reducible rfl))
    try simp only [Act.put, List.setIfInBounds_toArray, List.set_cons_zero, List.set_cons_succ, List.getElem_toArray, List.getElem_cons_zero, List.getElem_cons_succ]
    refine wpAnyH_take (i := 18) (v := ?v19) rfl (by kernel_rfl) (by kernel_rfl) (by kernel_rfl) (fun _ _ _ h => h) (Or.inl ⟨by rfl, ?hy19⟩) hHeld ?rest19
    case hy19 => (intro w' hSw; (try dsimp only at hSw); go_simp; (try with_reducible rfl))
    try simp only [Act.put, List.setIfInBounds_toArray, List.set_cons_zero, List.set_cons_succ, List.getElem_toArray, List.getElem_cons_zero, List.getElem_cons_succ]
    refine wpAnyH_take (i := 19) (v := ?v20) rfl (by kernel_rfl) (by kernel_rfl) (by kernel_rfl) (fun _ _ _ h => h) (Or.inl ⟨by rfl, ?hy20⟩) hHeld ?rest20
    case hy20 => (intro w' hSw; (try dsimp only at hSw); go_simp; (try with_reducible rfl))
    try simp only [Act.put, List.setIfInBounds_toArray, List.set_cons_zero, List.set_cons_succ, List.getElem_toArray, List.getElem_cons_zero, List.getElem_cons_succ]
    refine wpAnyH_take (i := 20) (v := ?v21) rfl (by kernel_rfl) (by kernel_rfl) (by kernel_rfl) (fun _ _ _ h => h) (Or.inl ⟨by rfl, ?hy21⟩) hHeld ?rest21
    case hy21 => (intro w' hSw; (try dsimp only at hSw); go_simp; (try with_reducible rfl))
    try simp only [Act.put, List.setIfInBounds_toArray, List.set_cons_zero, List.set_cons_succ, List.getElem_toArray, List.getElem_cons_zero, List.getElem_cons_succ]
    have M0Z := M3.drew
    refine wpAnyH_ready (rs := [21, 23]) (by kernel_rfl) (by simp) ?_
    refine AllReadyH.cons rfl (fun K hK => ?ordA) (AllReadyH.cons rfl (fun K hK => ?ordB) AllReadyH.nil)
    case ordA =>
      rw [if_pos (by rfl)]
      refine wp_mkM M0Z run_mk64 rfl m rfl rfl (by omega) ?_
      intro B wB M1Z
      refine hK.out _ _ (gcells (M1Z.has (.tail _ _ _ _ _ (.tail _ _ _ _ _ (Has.head _ _ _ _))))) (fun hHeld => ?_)
      clear hK K
      try simp only [Act.put, List.setIfInBounds_toArray, List.set_cons_zero, List.set_cons_succ, List.getElem_toArray, List.getElem_cons_zero, List.getElem_cons_succ]
      refine wpAnyH_take (i := 22) (v := ?v22) rfl (by kernel_rfl) (by kernel_rfl) (by kernel_rfl) (fun _ _ _ h => h) (Or.inl ⟨by rfl, ?hy22⟩) hHeld ?rest22
      case hy22 => (intro w' hSw; (try dsimp only at hSw); go_simp; (try with_reducible rfl))
      try simp only [Act.put, List.setIfInBounds_toArray, List.set_cons_zero, List.set_cons_succ, List.getElem_toArray, List.getElem_cons_zero, List.getElem_cons_succ]
      refine wpAnyH_ready (rs := [23]) (by kernel_rfl) (by simp) ?_
      refine AllReadyH.cons rfl (fun K hK => ?_) AllReadyH.nil
      rw [if_pos (by rfl)]
      refine wp_al M1Z rfl zeroG rfl ?_
      intro gC wC M2Z
      refine hK.out _ _ (gcells (M2Z.has (.tail _ _ _ _ _ (.tail _ _ _ _ _ (.tail _ _ _ _ _ (Has.head _ _ _ _)))))) (fun hHeld => ?_)
      clear hK K
      try simp only [Act.put, List.setIfInBounds_toArray, List.set_cons_zero, List.set_cons_succ, List.getElem_toArray, List.getElem_cons_zero, List.getElem_cons_succ]
      refine wpAnyH_ready (rs := [24]) (by kernel_rfl) (by simp) ?_
      refine AllReadyH.cons rfl (fun K hK => ?_) AllReadyH.nil
      rw [if_pos (by rfl)]
      refine wp_stM (v := gv cw ch NX NY s (.slice (some ⟨B, 0, none⟩) m m)) M2Z rfl rfl rfl (wr_g _ _ _ _ _ _ _ _ _ _ _ _ _ _) (Upd.head _ _ _ _ _) ?_
      intro wZ MZ _
      refine hK.out _ _ (gcells (MZ.has (.tail _ _ _ _ _ (.tail _ _ _ _ _ (.tail _ _ _ _ _ (Has.head _ _ _ _)))))) (fun hHeld => ?_)
      clear hK K
      try simp only [Act.put, List.setIfInBounds_toArray, List.set_cons_zero, List.set_cons_succ, List.getElem_toArray, List.getElem_cons_zero, List.getElem_cons_succ]
      refine wpAnyH_done (by kernel_rfl) ?_ _
      go_wp2_with fail
      go_meet
      exact ⟨gC, B, rfl, by rw [lay_0, ← i64s_rep]; exact MZ⟩
    case ordB =>
      rw [if_pos (by rfl)]
      refine wp_al M0Z rfl zeroG rfl ?_
      intro gC wC M1Z
      refine hK.out _ _ (gcells (M1Z.has (.tail _ _ _ _ _ (.tail _ _ _ _ _ (Has.head _ _ _ _))))) (fun hHeld => ?_)
      clear hK K
      try simp only [Act.put, List.setIfInBounds_toArray, List.set_cons_zero, List.set_cons_succ, List.getElem_toArray, List.getElem_cons_zero, List.getElem_cons_succ]
      refine wpAnyH_ready (rs := [21]) (by kernel_rfl) (by simp) ?_
      refine AllReadyH.cons rfl (fun K hK => ?_) AllReadyH.nil
      rw [if_pos (by rfl)]
      refine wp_mkM M1Z run_mk64 rfl m rfl rfl (by omega) ?_
      intro B wB M2Z
      refine hK.out _ _ (gcells (M2Z.has (.tail _ _ _ _ _ (.tail _ _ _ _ _ (.tail _ _ _ _ _ (Has.head _ _ _ _)))))) (fun hHeld => ?_)
      clear hK K
      try simp only [Act.put, List.setIfInBounds_toArray, List.set_cons_zero, List.set_cons_succ, List.getElem_toArray, List.getElem_cons_zero, List.getElem_cons_succ]
      refine wpAnyH_take (i := 22) (v := ?v23) rfl (by kernel_rfl) (by kernel_rfl) (by kernel_rfl) (fun _ _ _ h => h) (Or.inl ⟨by rfl, ?hy23⟩) hHeld ?rest23
      case hy23 => (intro w' hSw; (try dsimp only at hSw); go_simp; (try with_reducible rfl))
      try simp only [Act.put, List.setIfInBounds_toArray, List.set_cons_zero, List.set_cons_succ, List.getElem_toArray, List.getElem_cons_zero, List.getElem_cons_succ]
      refine wpAnyH_ready (rs := [24]) (by kernel_rfl) (by simp) ?_
      refine AllReadyH.cons rfl (fun K hK => ?_) AllReadyH.nil
      rw [if_pos (by rfl)]
      refine wp_stM (v := gv cw ch NX NY s (.slice (some ⟨B, 0, none⟩) m m)) M2Z rfl rfl rfl (wr_g _ _ _ _ _ _ _ _ _ _ _ _ _ _) (.tail _ _ _ _ _ _ _ (Upd.head _ _ _ _ _)) ?_
      intro wZ MZ _
      refine hK.out _ _ (gcells (MZ.has (.tail _ _ _ _ _ (.tail _ _ _ _ _ (.tail _ _ _ _ _ (Has.head _ _ _ _)))))) (fun hHeld => ?_)
      clear hK K
      try simp only [Act.put, List.setIfInBounds_toArray, List.set_cons_zero, List.set_cons_succ, List.getElem_toArray, List.getElem_cons_zero, List.getElem_cons_succ]
      refine wpAnyH_done (by kernel_rfl) ?_ _
      go_wp2_with fail
      go_meet
      exact ⟨gC, B, rfl, by rw [lay_0, ← i64s_rep]; exact mem_swap MZ⟩
  clear c0 c1 c2 c3 c4 c5 M3
  obtain ⟨gC, B, rfl, M⟩ := hcut
  have M5' : Mem w wc [(gC, 24, gc cw ch NX NY s (.slice (some ⟨B, 0, none⟩) m m)), (B, 2, i64s (lay f (0 * cw) m)), (gB, 24, gc 0 0 0 0 0 (.slice none 0 0)), (gA, 24, gc x y X Y s (.slice a n cap))] := by rw [Nat.zero_mul]; exact M
  clear M
  go_wp2_with fail
  go_loopw [63] (fun c wx => ∃ yy : Nat, yy ≤ ch ∧ c = .int .i64 yy ∧ Mem w wx [(gC, 24, gc cw ch NX NY s (.slice (some ⟨B, 0, none⟩) m m)), (B, 2, i64s (lay f (yy * cw) m)), (gB, 24, gc 0 0 0 0 0 (.slice none 0 0)), (gA, 24, gc x y X Y s (.slice a n cap))]) (fun c _ => ch - (intOf c).toNat)
  case atStart => exact ⟨0, Nat.zero_le _, rfl, M5'⟩
  case round =>
    clear M5'
    obtain ⟨yy, hyy, rfl, M⟩ := hrel
    by_cases hlt : yy < ch
    · obtain ⟨k0, hk0⟩ : ∃ k0, k0 = yy * cw := ⟨_, rfl⟩
      have hk1 : (yy + 1) * cw = k0 + cw := by rw [hk0, Nat.succ_mul]
      have hmul : (yy : Int) * (cw : Int) = (k0 : Int) := by rw [hk0]; simp
      have hfit := fun xx (h : xx < cw) => HAT.out yy xx hlt h
      have hV := HVAL.out yy
      rw [← hk0] at M hfit hV
      have hk0n : k0 < m := by have := hfit 0 (by omega); omega
      have HFIT := Lib.hid hfit
      have HV := Lib.hid hV
      have HK1 := Lib.hid hk1
      have hqw : IntKind.i64.wrap (k0 : Int) = (k0 : Int) := IntWalk.i64_in _ (by omega)
      obtain ⟨ay, hay⟩ : ∃ ay, ay = cy + (yy : Int) := ⟨_, rfl⟩
      have hay1 : IntKind.i64.wrap (cy + (yy : Int)) = ay := by rw [hay]; exact IntWalk.i64_in _ (by omega)
      rw [← hay] at HV
      have hay2 : IntKind.i64.wrap ay = ay := IntWalk.i64_in _ (by omega)
      have HAY := Lib.hid hay
      clear hk0 hk1 hfit hV hay
      go_wp2_with fail
      go_loopw [67] (fun c wx => ∃ xx : Nat, xx ≤ cw ∧ c = .int .i64 xx ∧ Mem w wx [(gC, 24, gc cw ch NX NY s (.slice (some ⟨B, 0, none⟩) m m)), (B, 2, i64s (lay f (k0 + xx) m)), (gB, 24, gc 0 0 0 0 0 (.slice none 0 0)), (gA, 24, gc x y X Y s (.slice a n cap))]) (fun c _ => cw - (intOf c).toNat)
      case atStart => exact ⟨0, Nat.zero_le _, rfl, M⟩
      case round =>
        clear M
        obtain ⟨xx, hxx, rfl, M⟩ := hrel
        by_cases hlt2 : xx < cw
        · obtain ⟨c0, c1, c2, c3, c4, c5⟩ := gcells (M.has (.tail _ _ _ _ _ (.tail _ _ _ _ _ (.tail _ _ _ _ _ (Has.head _ _ _ _)))))
          have d5 := M.cell (Has.head _ _ _ _) (i := 5) rfl
          have hkn := HFIT.out xx hlt2
          have HCx := CB.out (cx + (xx : Int)) ay
          rw [HV.out xx hlt2] at HCx
          obtain ⟨ax, hax⟩ : ∃ ax, ax = cx + (xx : Int) := ⟨_, rfl⟩
          have hax1 : IntKind.i64.wrap (cx + (xx : Int)) = ax := by rw [hax]; exact IntWalk.i64_in _ (by omega)
          have hax2 : IntKind.i64.wrap ax = ax := by rw [hax]; exact IntWalk.i64_in _ (by omega)
          have hay3 : cy + (yy : Int) = ay := HAY.out.symm
          have hax3 : cx + (xx : Int) = ax := hax.symm
          rw [← hax] at HCx
          obtain ⟨k, hk⟩ : ∃ k, k = k0 + xx := ⟨_, rfl⟩
          rw [← hk] at HCx hkn M
          have hs1 : IntKind.i64.wrap ((k0 : Int) + (xx : Int)) = (k : Int) := by
            have := IntWalk.i64_in (k : Int) (by omega)
            rw [hk] at this ⊢
            simpa using this
          have hkw : IntKind.i64.wrap (k : Int) = (k : Int) := IntWalk.i64_in _ (by omega)
          have HK := Lib.hid hk
          have HCx := Lib.hid HCx
          have hN := HN.out k hkn
          have HNk := Lib.hid hN
          have hll := HL.out k (by omega)
          clear hk hN hax
          go_wp2_with fail
          refine wp_region_held_drew (S := (fun w' : World => w'.cell? ⟨gC, 5, none⟩ = some (.slice (some ⟨B, 0, none⟩) m m) ∧ w'.cell? ⟨gA, 0, none⟩ = some (.int .i64 x) ∧ w'.cell? ⟨gA, 1, none⟩ = some (.int .i64 y) ∧ w'.cell? ⟨gA, 2, none⟩ = some (.int .i64 X) ∧ w'.cell? ⟨gA, 3, none⟩ = some (.int .i64 Y) ∧ w'.cell? ⟨gA, 4, none⟩ = some (.int .i64 s) ∧ w'.cell? ⟨gA, 5, none⟩ = some (.slice a n cap))) (by kernel_rfl) (⟨d5, c0, c1, c2, c3, c4, c5⟩) (fun hHeld => ?_)
          refine wpAnyH_take (i := 0) (v := ?v24) rfl (by kernel_rfl) (by kernel_rfl) (by kernel_rfl) (fun _ _ _ h => h) (Or.inl ⟨by rfl, ?hy24⟩) hHeld ?rest24
          case hy24 => (intro w' hSw; (try dsimp only at hSw); go_simp; (try with_reducible rfl))
          try simp only [Act.put, List.setIfInBounds_toArray, List.set_cons_zero, List.set_cons_succ, List.getElem_toArray, List.getElem_cons_zero, List.getElem_cons_succ]
          refine wpAnyH_take (i := 1) (v := ?v25) rfl (by kernel_rfl) (by kernel_rfl) (by kernel_rfl) (fun _ _ _ h => h) (Or.inl ⟨by rfl, ?hy25⟩) hHeld ?rest25
          case hy25 => (intro w' hSw; (try dsimp only at hSw); go_simp; (try with_reducible rfl))
          try simp only [Act.put, List.setIfInBounds_toArray, List.set_cons_zero, List.set_cons_succ, List.getElem_toArray, List.getElem_cons_zero, List.getElem_cons_succ]
          refine wpAnyH_take (i := 2) (v := ?v26) rfl (by kernel_rfl) (by kernel_rfl) (by kernel_rfl) (fun _ _ _ h => h) (Or.inl ⟨by rfl, ?hy26⟩) hHeld ?rest26
          case hy26 => (intro w' hSw; (try dsimp only at hSw); go_simp; (try with_reducible rfl))
          try simp only [Act.put, List.setIfInBounds_toArray, List.set_cons_zero, List.set_cons_succ, List.getElem_toArray, List.getElem_cons_zero, List.getElem_cons_succ]
          refine wpAnyH_take (i := 3) (v := ?v27) rfl (by kernel_rfl) (by kernel_rfl) (by kernel_rfl) (fun _ _ _ h => h) (Or.inl ⟨by rfl, ?hy27⟩) hHeld ?rest27
          case hy27 => (intro w' hSw; (try dsimp only at hSw); go_simp; (try with_reducible rfl))
          try simp only [Act.put, List.setIfInBounds_toArray, List.set_cons_zero, List.set_cons_succ, List.getElem_toArray, List.getElem_cons_zero, List.getElem_cons_succ]
          refine wpAnyH_take (i := 4) (v := ?v28) rfl (by kernel_rfl) (by kernel_rfl) (by kernel_rfl) (fun _ _ _ h => h) (Or.inl ⟨by rfl, ?hy28⟩) hHeld ?rest28
          case hy28 => (intro w' hSw; (try dsimp only at hSw); go_simp; (try with_reducible rfl))
          try simp only [Act.put, List.setIfInBounds_toArray, List.set_cons_zero, List.set_cons_succ, List.getElem_toArray, List.getElem_cons_zero, List.getElem_cons_succ]
          refine wpAnyH_take (i := 5) (v := ?v29) rfl (by kernel_rfl) (by kernel_rfl) (by kernel_rfl) (fun _ _ _ h => h) (Or.inl ⟨by rfl, ?hy29⟩) hHeld ?rest29
          case hy29 => (intro w' hSw; (try dsimp only at hSw); go_simp; (try with_reducible rfl))
          try simp only [Act.put, List.setIfInBounds_toArray, List.set_cons_zero, List.set_cons_succ, List.getElem_toArray, List.getElem_cons_zero, List.getElem_cons_succ]
          refine wpAnyH_take (i := 6) (v := ?v30) rfl (by kernel_rfl) (by kernel_rfl) (by kernel_rfl) (fun _ _ _ h => h) (Or.inl ⟨by rfl, ?hy30⟩) hHeld ?rest30
          case hy30 => (intro w' hSw; (try dsimp only at hSw); go_simp; (try with_reducible rfl))
          try simp only [Act.put, List.setIfInBounds_toArray, List.set_cons_zero, List.set_cons_succ, List.getElem_toArray, List.getElem_cons_zero, List.getElem_cons_succ]
          refine wpAnyH_take (i := 7) (v := ?v31) rfl (by kernel_rfl) (by kernel_rfl) (by kernel_rfl) (fun _ _ _ h => h) (Or.inl ⟨by rfl, ?hy31⟩) hHeld ?rest31
          case hy31 => (intro w' hSw; (try dsimp only at hSw); go_simp; (try with_reducible rfl))
          try simp only [Act.put, List.setIfInBounds_toArray, List.set_cons_zero, List.set_cons_succ, List.getElem_toArray, List.getElem_cons_zero, List.getElem_cons_succ]
          refine wpAnyH_take (i := 8) (v := ?v32) rfl (by kernel_rfl) (by kernel_rfl) (by kernel_rfl) (fun _ _ _ h => h) (Or.inl ⟨by rfl, ?hy32⟩) hHeld ?rest32
          case hy32 => (intro w' hSw; (try dsimp only at hSw); go_simp; (try with_reducible rfl))
          try simp only [Act.put, List.setIfInBounds_toArray, List.set_cons_zero, List.set_cons_succ, List.getElem_toArray, List.getElem_cons_zero, List.getElem_cons_succ]
          refine wpAnyH_take (i := 9) (v := ?v33) rfl (by kernel_rfl) (by kernel_rfl) (by kernel_rfl) (fun _ _ _ h => h) (Or.inl ⟨by rfl, ?hy33⟩) hHeld ?rest33
          case hy33 => (intro w' hSw; (try dsimp only at hSw); go_simp; (try with_reducible rfl))
          try simp only [Act.put, List.setIfInBounds_toArray, List.set_cons_zero, List.set_cons_succ, List.getElem_toArray, List.getElem_cons_zero, List.getElem_cons_succ]
          refine wpAnyH_take (i := 10) (v := ?v34) rfl (by kernel_rfl) (by kernel_rfl) (by kernel_rfl) (fun _ _ _ h => h) (Or.inl ⟨by rfl, ?hy34⟩) hHeld ?rest34
          case hy34 => (intro w' hSw; (try dsimp only at hSw); go_simp; (try with_reducible rfl))
          try simp only [Act.put, List.setIfInBounds_toArray, List.set_cons_zero, List.set_cons_succ, List.getElem_toArray, List.getElem_cons_zero, List.getElem_cons_succ]
          refine wpAnyH_take (i := 11) (v := ?v35) rfl (by kernel_rfl) (by kernel_rfl) (by kernel_rfl) (fun _ _ _ h => h) (Or.inl ⟨by rfl, ?hy35⟩) hHeld ?rest35
          case hy35 => (intro w' hSw; (try dsimp only at hSw); go_simp; (try with_reducible rfl))
          try simp only [Act.put, List.setIfInBounds_toArray, List.set_cons_zero, List.set_cons_succ, List.getElem_toArray, List.getElem_cons_zero, List.getElem_cons_succ]
          refine wpAnyH_take (i := 12) (v := ?v36) rfl (by kernel_rfl) (by kernel_rfl) (by kernel_rfl) (fun _ _ _ h => h) (Or.inl ⟨by rfl, ?hy36⟩) hHeld ?rest36
          case hy36 => (intro w' hSw; (try dsimp only at hSw); go_simp; (try with_reducible rfl))
          try simp only [Act.put, List.setIfInBounds_toArray, List.set_cons_zero, List.set_cons_succ, List.getElem_toArray, List.getElem_cons_zero, List.getElem_cons_succ]
          refine wpAnyH_take (i := 13) (v := ?v37) rfl (by kernel_rfl) (by kernel_rfl) (by kernel_rfl) (fun _ _ _ h => h) (Or.inl ⟨by rfl, ?hy37⟩) hHeld ?rest37
          case hy37 => (intro w' hSw; (try dsimp only at hSw); go_simp; (try with_reducible rfl))
          try simp only [Act.put, List.setIfInBounds_toArray, List.set_cons_zero, List.set_cons_succ, List.getElem_toArray, List.getElem_cons_zero, List.getElem_cons_succ]
          refine wpAnyH_ready (rs := [14]) (by kernel_rfl) (by simp) ?_
          refine AllReadyH.cons rfl (fun K hK => ?_) AllReadyH.nil
          go_simp
          refine (HCx.out _ (HS.out.below M.drew.below)).mono ?_
          rintro e w6 ⟨rfl, hA⟩
          have M6 := M.drew.call hA
          obtain ⟨u0, hu0⟩ : ∃ u0, w6.cell? ⟨B, k, none⟩ = some (.int .i64 u0) := ⟨_, M6.cell (.tail _ _ _ _ _ (Has.head _ _ _ _)) (i64s_at _ k (by rw [hll]; exact hkn))⟩
          have hf0 := M6.free (.tail _ _ _ _ _ (Has.head _ _ _ _)) k
          try go_wp2_with fail
          refine hK.out _ _ (⟨M6.cell (Has.head _ _ _ _) (i := 5) rfl, gcells (M6.has (.tail _ _ _ _ _ (.tail _ _ _ _ _ (.tail _ _ _ _ _ (Has.head _ _ _ _)))))⟩) (fun hHeld => ?_)
          clear hK K
          try simp only [Act.put, List.setIfInBounds_toArray, List.set_cons_zero, List.set_cons_succ, List.getElem_toArray, List.getElem_cons_zero, List.getElem_cons_succ]
          refine wpAnyH_take (i := 15) (v := ?v39) rfl (by kernel_rfl) (by kernel_rfl) (by kernel_rfl) (fun _ _ _ h => h) (Or.inl ⟨by rfl, ?hy39⟩) hHeld ?rest39
          case hy39 => (intro w' hSw; (try dsimp only at hSw); go_simp; (try with_reducible rfl))
          try simp only [Act.put, List.setIfInBounds_toArray, List.set_cons_zero, List.set_cons_succ, List.getElem_toArray, List.getElem_cons_zero, List.getElem_cons_succ]
          refine wpAnyH_ready (rs := [16]) (by kernel_rfl) (by simp) ?_
          refine AllReadyH.cons rfl (fun K hK => ?_) AllReadyH.nil
          go_simp
          have M7 := M6.set k (.int .i64 (f k)) (.tail _ _ _ _ _ _ _ (Upd.head _ _ _ _ _)) (by rw [i64s_length, hll]; exact hkn)
          try go_wp2_with fail
          refine hK.out _ _ (⟨M7.cell (Has.head _ _ _ _) (i := 5) rfl, gcells (M7.has (.tail _ _ _ _ _ (.tail _ _ _ _ _ (.tail _ _ _ _ _ (Has.head _ _ _ _)))))⟩) (fun hHeld => ?_)
          clear hK K
          try simp only [Act.put, List.setIfInBounds_toArray, List.set_cons_zero, List.set_cons_succ, List.getElem_toArray, List.getElem_cons_zero, List.getElem_cons_succ]
          refine wpAnyH_done (by kernel_rfl) ?_ _
          rw [i64s_set, HNk.out] at M7
          clear c0 c1 c2 c3 c4 c5 d5 M M6 hu0 hf0 hA
          go_wp2_with fail
          go_roundw
          case rel => exact ⟨xx + 1, by omega, by go_num, by rw [← Nat.add_assoc, ← HK.out]; exact M7⟩
          case measure => simp [intOf]; omega
        · have e : k0 + xx = (yy + 1) * cw := by rw [HK1.out]; omega
          rw [e] at M
          clear e
          go_wp2_with fail
          go_roundw
          case rel => exact ⟨yy + 1, by omega, by go_num, M⟩
          case measure => simp [intOf]; omega
    · have e : yy * cw = m := by rw [HM.out]; congr 1; omega
      rw [e] at M
      have M3 := M
      have hl2 := HL.out m (Nat.le_refl _)
      have k3 := M3.from (.tail _ _ _ _ _ (Has.head _ _ _ _))
      clear M e
      obtain ⟨c0, c1, c2, c3, c4, c5⟩ := gcells (M3.has (Has.head _ _ _ _))
      go_wp2_with ((with_reducible refine (?_ : Go.wpList _ _ _ (_ :: _) _ _)); (first | go_skip | (refine wpL_stM (v := gv cw ch NX NY s (.slice (some ⟨B, 0, none⟩) m m)) M3 rfl rfl rfl rfl (wr_g _ _ _ _ _ _ _ _ _ _ _ _ _ _) (.tail _ _ _ _ _ _ _ (.tail _ _ _ _ _ _ _ (Upd.head _ _ _ _ _))) ?_; intro w4 M4 hT4)))
      ((try simp only [Exit.inBlock, Exit.then]); refine bodyPost_ret (res_cell_tmp rfl M4 rfl (.tail _ _ _ _ _ (.tail _ _ _ _ _ (Has.head _ _ _ _))) (rd_g _ _ _ _ _ _) rfl) rfl ?_)
      exact ⟨_, _, rfl, blk_own (M4.has (.tail _ _ _ _ _ (Has.head _ _ _ _))) k3 (by rw [i64s_length]; exact hl2) (by unfold maxLen; omega), M4.below⟩
end Go.Proofs.Ytnfgogfbpggnfaa
