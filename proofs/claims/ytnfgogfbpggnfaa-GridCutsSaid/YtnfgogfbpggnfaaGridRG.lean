/-
  A grid that is joined: the reference's.
-/
import Derived.Test.YtnfgogfbpggnfaaGridRB
import Derived.Test.YtnfgogfbpggnfaaGridSpecB
import Derived.Deep.Cut
import Derived.Deep.CutRange
set_option linter.unusedVariables false
set_option linter.unusedSimpArgs false
namespace Go.Proofs.Ytnfgogfbpggnfaa
open Go Go.RowKit Go.Th Go.Th.Grid Go.Th.Wide

set_option maxRecDepth 20000 in
set_option maxHeartbeats 1600000 in
theorem rjoin_odd (x y s : Nat) (X Y : Int) (a : Option Addr) (n cap : Nat) (p : List Int) (hx64 : x ≤ 64) (hx : x % 2 = 1) (w : World) (hS : Sl w 1 (.slice a n cap) n (i64s p)) :
    Calls Try.prog 30 #[gv x y X Y s (.slice a n cap)] w (GSaid x y X Y s n p 12 w) := by
  have HS := Lib.hid hS
  clear hS
  have hx0 : ((x : Int) % 2) = 1 := by omega
  (obtain ⟨w1, hw1⟩ : ∃ w1, w.alloc (.cells #[.int .i64 x, .int .i64 y, .int .i64 X, .int .i64 Y, .int .i64 s, .slice a n cap] 24) = w1 := ⟨_, rfl⟩; have M1 := (Mem.start w).alloc 24 (gc x y X Y s (.slice a n cap)); rw [show w.alloc (.cells (gc x y X Y s (.slice a n cap)).toArray 24) = w1 from hw1] at M1; obtain ⟨w2, hw2⟩ : ∃ w2, w1.alloc (.cells #[.int .i64 0, .int .i64 0, .int .i64 0, .int .i64 0, .int .i64 0, .slice none 0 0] 24) = w2 := ⟨_, rfl⟩; have M2 := M1.alloc 24 (gc 0 0 0 0 0 (.slice none 0 0)); rw [show w1.alloc (.cells (gc 0 0 0 0 0 (.slice none 0 0)).toArray 24) = w2 from hw2] at M2; have hsz : w1.heap.size = w.heap.size + 1 := (by rw [← hw1]; simp); have HW1 := Lib.hid hw1; have HW2 := Lib.hid hw2; clear hw1 hw2 M1)
  go_enter Try.func30, Try.ntmps30
  ((go_upto_region 1 with fail); rw [HW1.out, HW2.out, ← hsz]; clear HW1 HW2; obtain ⟨gB, hgB⟩ : ∃ gB, gB = w1.heap.size := ⟨_, rfl⟩; obtain ⟨gA, hgA⟩ : ∃ gA, gA = w.heap.size := ⟨_, rfl⟩; rw [← hgB] at M2 ⊢; rw [← hgA] at M2 ⊢; have hne : gA ≠ gB := (by omega); clear hgA hgB hsz)
  obtain ⟨c0, c1, c2, c3, c4, c5⟩ := gcells (M2.has (.tail _ _ _ _ _ (Has.head _ _ _ _)))
  go_wp2_with ((with_reducible refine (?_ : Go.wpList _ _ _ (_ :: _) _ _)); (first | go_skip | (refine wpL_stM (v := gv x y X Y s (.slice a n cap)) M2 rfl rfl rfl rfl (wr_g _ _ _ _ _ _ _ _ _ _ _ _ _ _) (Upd.head _ _ _ _ _) ?_; intro w4 M4 hT4)))
  ((try simp only [Exit.inBlock, Exit.then]); refine bodyPost_ret (res_cell_tmp rfl M4 rfl (Has.head _ _ _ _) (rd_g _ _ _ _ _ _) rfl) rfl ?_)
  exact ⟨_, _, rfl, HS.out.below M4.below, M4.below⟩

set_option maxRecDepth 20000 in
set_option maxHeartbeats 1600000 in
theorem rjoin_odd2 (x y s : Nat) (X Y : Int) (a : Option Addr) (n cap : Nat) (p : List Int) (hx64 : x ≤ 64) (hy64 : y ≤ 64) (hx : x % 2 = 0) (hy : y % 2 = 1) (w : World) (hS : Sl w 1 (.slice a n cap) n (i64s p)) :
    Calls Try.prog 30 #[gv x y X Y s (.slice a n cap)] w (GSaid x y X Y s n p 12 w) := by
  have HS := Lib.hid hS
  clear hS
  have hx0 : ((x : Int) % 2) = 0 := by omega
  have hy0 : ((y : Int) % 2) = 1 := by omega
  (obtain ⟨w1, hw1⟩ : ∃ w1, w.alloc (.cells #[.int .i64 x, .int .i64 y, .int .i64 X, .int .i64 Y, .int .i64 s, .slice a n cap] 24) = w1 := ⟨_, rfl⟩; have M1 := (Mem.start w).alloc 24 (gc x y X Y s (.slice a n cap)); rw [show w.alloc (.cells (gc x y X Y s (.slice a n cap)).toArray 24) = w1 from hw1] at M1; obtain ⟨w2, hw2⟩ : ∃ w2, w1.alloc (.cells #[.int .i64 0, .int .i64 0, .int .i64 0, .int .i64 0, .int .i64 0, .slice none 0 0] 24) = w2 := ⟨_, rfl⟩; have M2 := M1.alloc 24 (gc 0 0 0 0 0 (.slice none 0 0)); rw [show w1.alloc (.cells (gc 0 0 0 0 0 (.slice none 0 0)).toArray 24) = w2 from hw2] at M2; have hsz : w1.heap.size = w.heap.size + 1 := (by rw [← hw1]; simp); have HW1 := Lib.hid hw1; have HW2 := Lib.hid hw2; clear hw1 hw2 M1)
  go_enter Try.func30, Try.ntmps30
  ((go_upto_region 1 with fail); rw [HW1.out, HW2.out, ← hsz]; clear HW1 HW2; obtain ⟨gB, hgB⟩ : ∃ gB, gB = w1.heap.size := ⟨_, rfl⟩; obtain ⟨gA, hgA⟩ : ∃ gA, gA = w.heap.size := ⟨_, rfl⟩; rw [← hgB] at M2 ⊢; rw [← hgA] at M2 ⊢; have hne : gA ≠ gB := (by omega); clear hgA hgB hsz)
  obtain ⟨c0, c1, c2, c3, c4, c5⟩ := gcells (M2.has (.tail _ _ _ _ _ (Has.head _ _ _ _)))
  go_wp2_with ((with_reducible refine (?_ : Go.wpList _ _ _ (_ :: _) _ _)); (first | go_skip | (refine wpL_stM (v := gv x y X Y s (.slice a n cap)) M2 rfl rfl rfl rfl (wr_g _ _ _ _ _ _ _ _ _ _ _ _ _ _) (Upd.head _ _ _ _ _) ?_; intro w4 M4 hT4)))
  ((try simp only [Exit.inBlock, Exit.then]); refine bodyPost_ret (res_cell_tmp rfl M4 rfl (Has.head _ _ _ _) (rd_g _ _ _ _ _ _) rfl) rfl ?_)
  exact ⟨_, _, rfl, HS.out.below M4.below, M4.below⟩

set_option maxRecDepth 20000 in
set_option maxHeartbeats 1600000 in
theorem rjoin_far (x y s : Nat) (X Y : Int) (a : Option Addr) (n cap : Nat) (p : List Int) (hx64 : x ≤ 64) (hy64 : y ≤ 64) (hx : x % 2 = 0) (hy : y % 2 = 0) (hs : 2048 < s) (w : World) (hS : Sl w 1 (.slice a n cap) n (i64s p)) :
    Calls Try.prog 30 #[gv x y X Y s (.slice a n cap)] w (GSaid x y X Y s n p 12 w) := by
  have HS := Lib.hid hS
  clear hS
  have hx0 : ((x : Int) % 2) = 0 := by omega
  have hy0 : ((y : Int) % 2) = 0 := by omega
  (obtain ⟨w1, hw1⟩ : ∃ w1, w.alloc (.cells #[.int .i64 x, .int .i64 y, .int .i64 X, .int .i64 Y, .int .i64 s, .slice a n cap] 24) = w1 := ⟨_, rfl⟩; have M1 := (Mem.start w).alloc 24 (gc x y X Y s (.slice a n cap)); rw [show w.alloc (.cells (gc x y X Y s (.slice a n cap)).toArray 24) = w1 from hw1] at M1; obtain ⟨w2, hw2⟩ : ∃ w2, w1.alloc (.cells #[.int .i64 0, .int .i64 0, .int .i64 0, .int .i64 0, .int .i64 0, .slice none 0 0] 24) = w2 := ⟨_, rfl⟩; have M2 := M1.alloc 24 (gc 0 0 0 0 0 (.slice none 0 0)); rw [show w1.alloc (.cells (gc 0 0 0 0 0 (.slice none 0 0)).toArray 24) = w2 from hw2] at M2; have hsz : w1.heap.size = w.heap.size + 1 := (by rw [← hw1]; simp); have HW1 := Lib.hid hw1; have HW2 := Lib.hid hw2; clear hw1 hw2 M1)
  go_enter Try.func30, Try.ntmps30
  ((go_upto_region 1 with fail); rw [HW1.out, HW2.out, ← hsz]; clear HW1 HW2; obtain ⟨gB, hgB⟩ : ∃ gB, gB = w1.heap.size := ⟨_, rfl⟩; obtain ⟨gA, hgA⟩ : ∃ gA, gA = w.heap.size := ⟨_, rfl⟩; rw [← hgB] at M2 ⊢; rw [← hgA] at M2 ⊢; have hne : gA ≠ gB := (by omega); clear hgA hgB hsz)
  obtain ⟨c0, c1, c2, c3, c4, c5⟩ := gcells (M2.has (.tail _ _ _ _ _ (Has.head _ _ _ _)))
  go_wp2_with ((with_reducible refine (?_ : Go.wpList _ _ _ (_ :: _) _ _)); (first | go_skip | (refine wpL_stM (v := gv x y X Y s (.slice a n cap)) M2 rfl rfl rfl rfl (wr_g _ _ _ _ _ _ _ _ _ _ _ _ _ _) (Upd.head _ _ _ _ _) ?_; intro w4 M4 hT4)))
  ((try simp only [Exit.inBlock, Exit.then]); refine bodyPost_ret (res_cell_tmp rfl M4 rfl (Has.head _ _ _ _) (rd_g _ _ _ _ _ _) rfl) rfl ?_)
  exact ⟨_, _, rfl, HS.out.below M4.below, M4.below⟩

set_option maxRecDepth 100000 in
set_option maxHeartbeats 12800000 in
theorem rjoin_yes (x y u v m d d2 s : Nat) (X Y NX NY : Int) (a : Option Addr) (n cap : Nat) (p : List Int) (hp : p.length = n) (hxy : n = x * y) (hsd : sdG x y = true) (hr : ∀ u ∈ p, 0 ≤ u ∧ u ≤ 1073741824)
    (hxu : x = 2 * u) (hyv : y = 2 * v) (hs : s = 2 * d) (hd : d ≤ 1024) (hd2 : d2 = 4 * d) (hX : -1000000000000 ≤ X ∧ X ≤ 1000000000000) (hY : -1000000000000 ≤ Y ∧ Y ≤ 1000000000000) (hm : m = v * u) (hNX : X + (d : Int) = NX) (hNY : Y + (d : Int) = NY) (w : World) (hS : Sl w 1 (.slice a n cap) n (i64s p)) :
    Calls Try.prog 30 #[gv x y X Y s (.slice a n cap)] w (GSaid u v NX NY d2 m (tab (joinAt p x) m) 0 w) := by
  obtain ⟨⟨q1, q2⟩, q3, q4⟩ := sdG_t hsd
  have hle : x * y ≤ 64 * 64 := Nat.mul_le_mul (by omega) (by omega)
  have hle2 : v * u ≤ 64 * 64 := Nat.mul_le_mul (by omega) (by omega)
  have wNX : IntKind.i64.wrap NX = NX := IntWalk.i64_in _ (by omega)
  have wNY : IntKind.i64.wrap NY = NY := IntWalk.i64_in _ (by omega)
  have wNX2 : wrap64 NX = NX := IntWalk.wrap64_in _ (by omega)
  have wNY2 : wrap64 NY = NY := IntWalk.wrap64_in _ (by omega)
  have eu : (x : Int) / 2 = (u : Int) := by omega
  have ev : (y : Int) / 2 = (v : Int) := by omega
  have es2 : (s : Int) / 2 = (d : Int) := by omega
  have ed2 : 2 * (s : Int) = (d2 : Int) := by omega
  have exm : (x : Int) % 2 = 0 := by omega
  have eym : (y : Int) % 2 = 0 := by omega
  have hs2 : s ≤ 2048 := by omega
  have hm2 : m ≤ 4096 := by omega
  have hn2 : n ≤ 4096 := by omega
  have hx64 : x ≤ 64 := by omega
  have hy64 : y ≤ 64 := by omega
  obtain ⟨f, hf⟩ : ∃ f, f = joinAt p x := ⟨_, rfl⟩
  rw [← hf]
  have hval : ∀ yv xv : Nat, yv < v → xv < u → ∃ (r0 k1 k2 k3 k4 u1 u2 u3 u4 s2 s3 s4 : Nat), Hid (((2 * yv : Nat) : Int) * (x : Int) = (r0 : Int) ∧ (r0 : Int) + ((2 * xv : Nat) : Int) = (k1 : Int) ∧ (k1 : Int) + 1 = (k2 : Int) ∧ (k3 : Int) + 1 = (k4 : Int) ∧ (r0 : Int) + (x : Int) + ((2 * xv : Nat) : Int) = (k3 : Int) ∧
      (u1 : Int) + (u2 : Int) = (s2 : Int) ∧ (s2 : Int) + (u3 : Int) = (s3 : Int) ∧ (s3 : Int) + (u4 : Int) = (s4 : Int) ∧ IntKind.i64.wrap (r0 : Int) = (r0 : Int) ∧ IntKind.i64.wrap (k1 : Int) = (k1 : Int) ∧ IntKind.i64.wrap (k2 : Int) = (k2 : Int) ∧ IntKind.i64.wrap (k3 : Int) = (k3 : Int) ∧ IntKind.i64.wrap (k4 : Int) = (k4 : Int) ∧ IntKind.i64.wrap (s2 : Int) = (s2 : Int) ∧ IntKind.i64.wrap (s3 : Int) = (s3 : Int) ∧ IntKind.i64.wrap (s4 : Int) = (s4 : Int) ∧ IntKind.i64.wrap ((r0 : Int) + (x : Int)) = (r0 : Int) + (x : Int)) ∧
      (k1 < n ∧ k2 < n ∧ k3 < n ∧ k4 < n) ∧ p.getD k1 0 = (u1 : Int) ∧ p.getD k2 0 = (u2 : Int) ∧ p.getD k3 0 = (u3 : Int) ∧ p.getD k4 0 = (u4 : Int) ∧ f (yv * u + xv) = (s4 : Int) := by
    intro yv xv h1 h2
    obtain ⟨r0, hr0⟩ : ∃ r0, r0 = 2 * yv * x := ⟨_, rfl⟩
    have e1 : ((2 * yv : Nat) : Int) * (x : Int) = (r0 : Int) := by rw [hr0]; simp
    have l1 : 2 * yv * x + 2 * xv < n := by rw [hxy, Nat.mul_comm x y]; exact at_lt (by omega) (by omega)
    have l2 : 2 * yv * x + (2 * xv + 1) < n := by rw [hxy, Nat.mul_comm x y]; exact at_lt (by omega) (by omega)
    have l3 : (2 * yv + 1) * x + 2 * xv < n := by rw [hxy, Nat.mul_comm x y]; exact at_lt (by omega) (by omega)
    have l4 : (2 * yv + 1) * x + (2 * xv + 1) < n := by rw [hxy, Nat.mul_comm x y]; exact at_lt (by omega) (by omega)
    have hfv : f (yv * u + xv) = p.getD (2 * yv * x + 2 * xv) 0 + p.getD (2 * yv * x + 2 * xv + 1) 0 + p.getD ((2 * yv + 1) * x + 2 * xv) 0 + p.getD ((2 * yv + 1) * x + 2 * xv + 1) 0 := by
      rw [hf]; unfold joinAt; rw [hxu, Nat.mul_div_cancel_left u (by omega : 0 < 2), div_at yv h2, mod_at yv h2]
    have e3 : (2 * yv + 1) * x = r0 + x := by rw [hr0, Nat.succ_mul]
    rw [e3] at hfv l3 l4
    rw [← hr0] at hfv l1 l2
    have g1 := getD_mem (P := fun u => 0 ≤ u ∧ u ≤ 1073741824) hr (by rw [hp]; exact l1 : _ < p.length)
    have g2 := getD_mem (P := fun u => 0 ≤ u ∧ u ≤ 1073741824) hr (by rw [hp]; exact (by omega : r0 + 2 * xv + 1 < n) : r0 + 2 * xv + 1 < p.length)
    have g3 := getD_mem (P := fun u => 0 ≤ u ∧ u ≤ 1073741824) hr (by rw [hp]; exact l3 : _ < p.length)
    have g4 := getD_mem (P := fun u => 0 ≤ u ∧ u ≤ 1073741824) hr (by rw [hp]; exact (by omega : r0 + x + 2 * xv + 1 < n) : r0 + x + 2 * xv + 1 < p.length)
    obtain ⟨u1, hu1⟩ := Int.eq_ofNat_of_zero_le g1.1
    obtain ⟨u2, hu2⟩ := Int.eq_ofNat_of_zero_le g2.1
    obtain ⟨u3, hu3⟩ := Int.eq_ofNat_of_zero_le g3.1
    obtain ⟨u4, hu4⟩ := Int.eq_ofNat_of_zero_le g4.1
    rw [hu1, hu2, hu3, hu4] at hfv
    rw [hu1] at g1
    rw [hu2] at g2
    rw [hu3] at g3
    rw [hu4] at g4
    have hfv2 : f (yv * u + xv) = ((u1 + u2 + u3 + u4 : Nat) : Int) := by rw [hfv]; omega
    have hr0n : r0 ≤ 4096 := by omega
    have E1 := Lib.hid e1
    clear hfv hr0 e1 e3
    exact ⟨r0, r0 + 2 * xv, r0 + 2 * xv + 1, r0 + x + 2 * xv, r0 + x + 2 * xv + 1, u1, u2, u3, u4, u1 + u2, u1 + u2 + u3, u1 + u2 + u3 + u4,
      Lib.hid ⟨E1.out, by omega, by omega, by omega, by omega, by omega, by omega, by omega, IntWalk.i64_in _ (by omega), IntWalk.i64_in _ (by omega), IntWalk.i64_in _ (by omega), IntWalk.i64_in _ (by omega), IntWalk.i64_in _ (by omega), IntWalk.i64_in _ (by omega), IntWalk.i64_in _ (by omega), IntWalk.i64_in _ (by omega), IntWalk.i64_in _ (by omega)⟩,
      ⟨by omega, by omega, by omega, by omega⟩, hu1, hu2, hu3, hu4, hfv2⟩
  have hat : ∀ yv xv, yv < v → xv < u → yv * u + xv < m := fun yy xx h1 h2 => by rw [hm]; exact at_lt h2 h1
  have HAT := Lib.hid hat
  have HVAL := Lib.hid hval
  have HM := Lib.hid hm
  have HT := Lib.hid (fun i => i64s_tab f i)
  have HP := Lib.hid hp
  have HS := Lib.hid hS
  have hmx := hS.max
  have HXU := Lib.hid hxu
  have HYV := Lib.hid hyv
  have hu64 : u ≤ 64 := by omega
  have hv64 : v ≤ 64 := by omega
  clear hf hat hval hm hS hp hxy hsd hle hle2 hr hs hd hd2 hxu hyv
  (obtain ⟨w1, hw1⟩ : ∃ w1, w.alloc (.cells #[.int .i64 x, .int .i64 y, .int .i64 X, .int .i64 Y, .int .i64 s, .slice a n cap] 24) = w1 := ⟨_, rfl⟩; have M1 := (Mem.start w).alloc 24 (gc x y X Y s (.slice a n cap)); rw [show w.alloc (.cells (gc x y X Y s (.slice a n cap)).toArray 24) = w1 from hw1] at M1; obtain ⟨w2, hw2⟩ : ∃ w2, w1.alloc (.cells #[.int .i64 0, .int .i64 0, .int .i64 0, .int .i64 0, .int .i64 0, .slice none 0 0] 24) = w2 := ⟨_, rfl⟩; have M2 := M1.alloc 24 (gc 0 0 0 0 0 (.slice none 0 0)); rw [show w1.alloc (.cells (gc 0 0 0 0 0 (.slice none 0 0)).toArray 24) = w2 from hw2] at M2; have hsz : w1.heap.size = w.heap.size + 1 := (by rw [← hw1]; simp); have HW1 := Lib.hid hw1; have HW2 := Lib.hid hw2; clear hw1 hw2 M1)
  go_enter Try.func30, Try.ntmps30
  ((go_upto_region 1 with fail); rw [HW1.out, HW2.out, ← hsz]; clear HW1 HW2; obtain ⟨gB, hgB⟩ : ∃ gB, gB = w1.heap.size := ⟨_, rfl⟩; obtain ⟨gA, hgA⟩ : ∃ gA, gA = w.heap.size := ⟨_, rfl⟩; rw [← hgB] at M2 ⊢; rw [← hgA] at M2 ⊢; have hne : gA ≠ gB := (by omega); clear hgA hgB hsz)
  obtain ⟨c0, c1, c2, c3, c4, c5⟩ := gcells (M2.has (.tail _ _ _ _ _ (Has.head _ _ _ _)))
  obtain ⟨w3, hw3⟩ : ∃ w3, w2.alloc (.cells #[.int .i64 u, .int .i64 v, .int .i64 NX, .int .i64 NY, .int .i64 d2, .slice none 0 0] 24) = w3 := ⟨_, rfl⟩
  have M3 := M2.alloc 24 (gc u v NX NY d2 (.slice none 0 0))
  rw [show w2.alloc (.cells (gc u v NX NY d2 (.slice none 0 0)).toArray 24) = w3 from hw3] at M3
  have HW3 := Lib.hid hw3
  clear hw3
  go_upto_region 4 with fail
  try rw [es2]
  rw [HW3.out]
  clear HW3
  obtain ⟨gC, hgC⟩ : ∃ gC, gC = w2.heap.size := ⟨_, rfl⟩
  rw [← hgC] at M3 ⊢
  clear hgC M2 c0 c1 c2 c3 c4 c5
  have hown : w3.ownsRow w.heap.size 2 1 (.slice none 0 0) (0 * u) (i64s (tab f (0 * u))) := by rw [Nat.zero_mul]; exact World.ownsRow_nil _ _ _ _
  clear eu ev es2 ed2 exm eym
  go_wp2_with fail
  go_loopw [5] (fun c wx => ∃ (yv : Nat) (v9 : Value), yv ≤ v ∧ c = .int .i64 ((2 * yv : Nat) : Int) ∧ wx.ownsRow w.heap.size 2 1 v9 (yv * u) (i64s (tab f (yv * u))) ∧ Mem w wx [(gC, 24, gc u v NX NY d2 v9), (gB, 24, gc 0 0 0 0 0 (.slice none 0 0)), (gA, 24, gc x y X Y s (.slice a n cap))]) (fun c _ => y - (intOf c).toNat)
  case atStart => exact ⟨0, _, Nat.zero_le _, rfl, hown, M3⟩
  case round =>
    clear hown M3
    obtain ⟨yv, v9, hyy, rfl, ho, M⟩ := hrel
    obtain ⟨c0, c1, c2, c3, c4, c5⟩ := gcells (M.has (.tail _ _ _ _ _ (.tail _ _ _ _ _ (Has.head _ _ _ _))))
    by_cases hlt : yv < v
    · obtain ⟨k0, hk0⟩ : ∃ k0, k0 = yv * u := ⟨_, rfl⟩
      have hk1 : (yv + 1) * u = k0 + u := by rw [hk0, Nat.succ_mul]
      have hfit := fun xx (h : xx < u) => HAT.out yv xx hlt h
      have hV := fun xx (h : xx < u) => HVAL.out yv xx hlt h
      rw [← hk0] at ho hfit hV
      obtain ⟨y2, hy2⟩ : ∃ y2, y2 = 2 * yv := ⟨_, rfl⟩
      have hy2n : 2 * (yv + 1) = y2 + 2 := by omega
      have hy2b : y2 < y := by have := HYV.out; omega
      have hyv1 : yv + 1 ≤ v := by omega
      rw [← hy2] at hV ⊢
      have HFIT := Lib.hid hfit
      have HV := Lib.hid hV
      have HK1 := Lib.hid hk1
      have HY2N := Lib.hid hy2n
      clear hk0 hk1 hfit hV hy2 hy2n
      go_wp2_with fail
      go_loopw [6] (fun c wx => ∃ (xv : Nat) (v9 : Value), xv ≤ u ∧ c = .int .i64 ((2 * xv : Nat) : Int) ∧ wx.ownsRow w.heap.size 2 1 v9 (k0 + xv) (i64s (tab f (k0 + xv))) ∧ Mem w wx [(gC, 24, gc u v NX NY d2 v9), (gB, 24, gc 0 0 0 0 0 (.slice none 0 0)), (gA, 24, gc x y X Y s (.slice a n cap))]) (fun c _ => x - (intOf c).toNat)
      case atStart => exact ⟨0, _, Nat.zero_le _, rfl, ho, M⟩
      case round =>
        clear ho M c0 c1 c2 c3 c4 c5
        obtain ⟨xv, v9, hxx, rfl, ho, M⟩ := hrel
        obtain ⟨av, cv, rfl, _, _⟩ := ownsRow_slice ho
        obtain ⟨c0, c1, c2, c3, c4, c5⟩ := gcells (M.has (.tail _ _ _ _ _ (.tail _ _ _ _ _ (Has.head _ _ _ _))))
        by_cases hlt2 : xv < u
        · have hkn := HFIT.out xv hlt2
          obtain ⟨r0, k1, k2, k3, k4, u1, u2, u3, u4, s2, s3, s4, HE, ⟨l1, l2, l3, l4⟩, hu1, hu2, hu3, hu4, hfv⟩ := HV.out xv hlt2
          obtain ⟨b, o, rfl, hbl, cu1⟩ := cell64 (HS.out.below M.below) k1 (by rw [HP.out]; exact l1)
          obtain ⟨_, _, hee, _, cu2⟩ := cell64 (HS.out.below M.below) k2 (by rw [HP.out]; exact l2)
          cases hee
          obtain ⟨_, _, hee, _, cu3⟩ := cell64 (HS.out.below M.below) k3 (by rw [HP.out]; exact l3)
          cases hee
          obtain ⟨_, _, hee, _, cu4⟩ := cell64 (HS.out.below M.below) k4 (by rw [HP.out]; exact l4)
          cases hee
          rw [hu1] at cu1
          rw [hu2] at cu2
          rw [hu3] at cu3
          rw [hu4] at cu4
          obtain ⟨t0, ht0⟩ : ∃ t0, t0 = k0 + xv := ⟨_, rfl⟩
          have ht1 : k0 + (xv + 1) = t0 + 1 := by omega
          rw [← ht0] at ho M hkn hfv
          obtain ⟨x2, hx2⟩ : ∃ x2, x2 = 2 * xv := ⟨_, rfl⟩
          have hx2n : 2 * (xv + 1) = x2 + 2 := by omega
          have hx2b : x2 < x := by have := HXU.out; omega
          have hb63 : t0 + 1 ≤ maxLen := by unfold maxLen; omega
          have hb8 : (t0 + 1) * 8 ≤ 140737488355328 := by omega
          have hx1 : xv + 1 ≤ u := by omega
          rw [← hx2] at HE ⊢
          have HT1 := Lib.hid ht1
          have HFV := Lib.hid hfv
          have HU := Lib.hid (And.intro hu1 (And.intro hu2 (And.intro hu3 hu4)))
          have HX2N := Lib.hid hx2n
          have d5 := M.cell (Has.head _ _ _ _) (i := 5) rfl
          clear hu1 hu2 hu3 hu4 hfv ht0 ht1 hx2 hx2n
          obtain ⟨er, ek1, ek2, ek4, ek3, es2, es3, es4, wr0, wk1, wk2, wk3, wk4, ws2, ws3, ws4, wrx⟩ := HE.out
          go_wp2_with fail
          refine wp_region_N_drew (S := (fun w' : World => w'.cell? ⟨gC, 5, none⟩ = some (.slice av t0 cv) ∧ w'.cell? ⟨gA, 0, none⟩ = some (.int .i64 x) ∧ w'.cell? ⟨gA, 5, none⟩ = some (.slice (some ⟨b, o, none⟩) n cap) ∧ w'.cell? ⟨b, o + k1, none⟩ = some (.int .i64 (u1 : Int)) ∧ w'.cell? ⟨b, o + k2, none⟩ = some (.int .i64 (u2 : Int)) ∧ w'.cell? ⟨b, o + k3, none⟩ = some (.int .i64 (u3 : Int)) ∧ w'.cell? ⟨b, o + k4, none⟩ = some (.int .i64 (u4 : Int)))) 56 (by kernel_rfl) ?_
          have hHeld : (fun w' : World => w'.cell? ⟨gC, 5, none⟩ = some (.slice av t0 cv) ∧ w'.cell? ⟨gA, 0, none⟩ = some (.int .i64 x) ∧ w'.cell? ⟨gA, 5, none⟩ = some (.slice (some ⟨b, o, none⟩) n cap) ∧ w'.cell? ⟨b, o + k1, none⟩ = some (.int .i64 (u1 : Int)) ∧ w'.cell? ⟨b, o + k2, none⟩ = some (.int .i64 (u2 : Int)) ∧ w'.cell? ⟨b, o + k3, none⟩ = some (.int .i64 (u3 : Int)) ∧ w'.cell? ⟨b, o + k4, none⟩ = some (.int .i64 (u4 : Int))) wr.drew := ⟨d5, c0, c5, cu1, cu2, cu3, cu4⟩
          refine wpAnyN_takeY (i := 0) (v := ?v1) rfl (by kernel_rfl) (by kernel_rfl) (by kernel_rfl) (fun _ _ _ h => h) rfl (Or.inl ⟨by rfl, ?hy1⟩) (fun _ => hHeld) ?rest1
          case hy1 => (intro w' _; go_simp; (try with_reducible rfl))
          try simp only [Act.put, List.setIfInBounds_toArray, List.set_cons_zero, List.set_cons_succ, List.getElem_toArray, List.getElem_cons_zero, List.getElem_cons_succ]
          refine wpAnyN_take (i := 1) (v := ?v2) rfl (by kernel_rfl) (by kernel_rfl) (by kernel_rfl) (fun _ _ _ h => h) rfl (by kernel_rfl) (by kernel_rfl) (Or.inl ⟨by rfl, ?hy2⟩) hHeld ?rest2
          case hy2 => (intro w' hSw; (try dsimp only at hSw); go_simp; (try with_reducible rfl))
          try simp only [Act.put, List.setIfInBounds_toArray, List.set_cons_zero, List.set_cons_succ, List.getElem_toArray, List.getElem_cons_zero, List.getElem_cons_succ]
          refine wpAnyN_takeY (i := 2) (v := ?v3) rfl (by kernel_rfl) (by kernel_rfl) (by kernel_rfl) (fun _ _ _ h => h) rfl (Or.inl ⟨by rfl, ?hy3⟩) (fun _ => hHeld) ?rest3
          case hy3 => (intro w' _; go_simp; (try with_reducible rfl))
          try simp only [Act.put, List.setIfInBounds_toArray, List.set_cons_zero, List.set_cons_succ, List.getElem_toArray, List.getElem_cons_zero, List.getElem_cons_succ]
          refine wpAnyN_take (i := 3) (v := ?v4) rfl (by kernel_rfl) (by kernel_rfl) (by kernel_rfl) (fun _ _ _ h => h) rfl (by kernel_rfl) (by kernel_rfl) (Or.inl ⟨by rfl, ?hy4⟩) hHeld ?rest4
          case hy4 => (intro w' hSw; (try dsimp only at hSw); go_simp; (try with_reducible rfl))
          try simp only [Act.put, List.setIfInBounds_toArray, List.set_cons_zero, List.set_cons_succ, List.getElem_toArray, List.getElem_cons_zero, List.getElem_cons_succ]
          refine wpAnyN_takeY (i := 4) (v := ?v5) rfl (by kernel_rfl) (by kernel_rfl) (by kernel_rfl) (fun _ _ _ h => h) rfl (Or.inl ⟨by rfl, ?hy5⟩) (fun _ => hHeld) ?rest5
          case hy5 => (intro w' _; go_simp; (try with_reducible rfl))
          try simp only [Act.put, List.setIfInBounds_toArray, List.set_cons_zero, List.set_cons_succ, List.getElem_toArray, List.getElem_cons_zero, List.getElem_cons_succ]
          refine wpAnyN_takeY (i := 5) (v := ?v6) rfl (by kernel_rfl) (by kernel_rfl) (by kernel_rfl) (fun _ _ _ h => h) rfl (Or.inl ⟨by rfl, ?hy6⟩) (fun _ => hHeld) ?rest6
          case hy6 => (intro w' _; go_simp; (try with_reducible rfl))
          try simp only [Act.put, List.setIfInBounds_toArray, List.set_cons_zero, List.set_cons_succ, List.getElem_toArray, List.getElem_cons_zero, List.getElem_cons_succ]
          refine wpAnyN_take (i := 6) (v := ?v7) rfl (by kernel_rfl) (by kernel_rfl) (by kernel_rfl) (fun _ _ _ h => h) rfl (by kernel_rfl) (by kernel_rfl) (Or.inl ⟨by rfl, ?hy7⟩) hHeld ?rest7
          case hy7 => (intro w' hSw; (try dsimp only at hSw); go_simp; (try with_reducible rfl))
          try simp only [Act.put, List.setIfInBounds_toArray, List.set_cons_zero, List.set_cons_succ, List.getElem_toArray, List.getElem_cons_zero, List.getElem_cons_succ]
          refine wpAnyN_takeY (i := 7) (v := ?v8) rfl (by kernel_rfl) (by kernel_rfl) (by kernel_rfl) (fun _ _ _ h => h) rfl (Or.inl ⟨by rfl, ?hy8⟩) (fun _ => hHeld) ?rest8
          case hy8 => (intro w' _; go_simp; (try with_reducible rfl))
          try simp only [Act.put, List.setIfInBounds_toArray, List.set_cons_zero, List.set_cons_succ, List.getElem_toArray, List.getElem_cons_zero, List.getElem_cons_succ]
          refine wpAnyN_takeY (i := 8) (v := ?v9) rfl (by kernel_rfl) (by kernel_rfl) (by kernel_rfl) (fun _ _ _ h => h) rfl (Or.inl ⟨by rfl, ?hy9⟩) (fun _ => hHeld) ?rest9
          case hy9 => (intro w' _; go_simp; (try with_reducible rfl))
          try simp only [Act.put, List.setIfInBounds_toArray, List.set_cons_zero, List.set_cons_succ, List.getElem_toArray, List.getElem_cons_zero, List.getElem_cons_succ]
          refine wpAnyN_takeY (i := 9) (v := ?v10) rfl (by kernel_rfl) (by kernel_rfl) (by kernel_rfl) (fun _ _ _ h => h) rfl (Or.inl ⟨by rfl, ?hy10⟩) (fun _ => hHeld) ?rest10
          case hy10 => (intro w' _; go_simp; (try with_reducible rfl))
          try simp only [Act.put, List.setIfInBounds_toArray, List.set_cons_zero, List.set_cons_succ, List.getElem_toArray, List.getElem_cons_zero, List.getElem_cons_succ]
          refine wpAnyN_takeY (i := 10) (v := ?v11) rfl (by kernel_rfl) (by kernel_rfl) (by kernel_rfl) (fun _ _ _ h => h) rfl (Or.inl ⟨by rfl, ?hy11⟩) (fun _ => hHeld) ?rest11
          case hy11 => (intro w' _; go_simp; (try with_reducible rfl))
          try simp only [Act.put, List.setIfInBounds_toArray, List.set_cons_zero, List.set_cons_succ, List.getElem_toArray, List.getElem_cons_zero, List.getElem_cons_succ]
          refine wpAnyN_take (i := 11) (v := ?v12) rfl (by kernel_rfl) (by kernel_rfl) (by kernel_rfl) (fun _ _ _ h => h) rfl (by kernel_rfl) (by kernel_rfl) (Or.inl ⟨by rfl, ?hy12⟩) hHeld ?rest12
          case hy12 => (intro w' hSw; (try dsimp only at hSw); go_simp; (try with_reducible rfl))
          try simp only [Act.put, List.setIfInBounds_toArray, List.set_cons_zero, List.set_cons_succ, List.getElem_toArray, List.getElem_cons_zero, List.getElem_cons_succ]
          refine wpAnyN_takeY (i := 12) (v := ?v13) rfl (by kernel_rfl) (by kernel_rfl) (by kernel_rfl) (fun _ _ _ h => h) rfl (Or.inl ⟨by rfl, ?hy13⟩) (fun _ => hHeld) ?rest13
          case hy13 => (intro w' _; go_simp; (try with_reducible rfl))
          try simp only [Act.put, List.setIfInBounds_toArray, List.set_cons_zero, List.set_cons_succ, List.getElem_toArray, List.getElem_cons_zero, List.getElem_cons_succ]
          refine wpAnyN_take (i := 13) (v := ?v14) rfl (by kernel_rfl) (by kernel_rfl) (by kernel_rfl) (fun _ _ _ h => h) rfl (by kernel_rfl) (by kernel_rfl) (Or.inl ⟨by rfl, ?hy14⟩) hHeld ?rest14
          case hy14 => (intro w' hSw; (try dsimp only at hSw); go_simp; (try with_reducible rfl))
          try simp only [Act.put, List.setIfInBounds_toArray, List.set_cons_zero, List.set_cons_succ, List.getElem_toArray, List.getElem_cons_zero, List.getElem_cons_succ]
          refine wpAnyN_takeY (i := 14) (v := ?v15) rfl (by kernel_rfl) (by kernel_rfl) (by kernel_rfl) (fun _ _ _ h => h) rfl (Or.inl ⟨by rfl, ?hy15⟩) (fun _ => hHeld) ?rest15
          case hy15 => (intro w' _; go_simp; (try with_reducible rfl))
          try simp only [Act.put, List.setIfInBounds_toArray, List.set_cons_zero, List.set_cons_succ, List.getElem_toArray, List.getElem_cons_zero, List.getElem_cons_succ]
          refine wpAnyN_takeY (i := 15) (v := ?v16) rfl (by kernel_rfl) (by kernel_rfl) (by kernel_rfl) (fun _ _ _ h => h) rfl (Or.inl ⟨by rfl, ?hy16⟩) (fun _ => hHeld) ?rest16
          case hy16 => (intro w' _; go_simp; (try with_reducible rfl))
          try simp only [Act.put, List.setIfInBounds_toArray, List.set_cons_zero, List.set_cons_succ, List.getElem_toArray, List.getElem_cons_zero, List.getElem_cons_succ]
          refine wpAnyN_take (i := 16) (v := ?v17) rfl (by kernel_rfl) (by kernel_rfl) (by kernel_rfl) (fun _ _ _ h => h) rfl (by kernel_rfl) (by kernel_rfl) (Or.inl ⟨by rfl, ?hy17⟩) hHeld ?rest17
          case hy17 => (intro w' hSw; (try dsimp only at hSw); go_simp; (try with_reducible rfl))
          try simp only [Act.put, List.setIfInBounds_toArray, List.set_cons_zero, List.set_cons_succ, List.getElem_toArray, List.getElem_cons_zero, List.getElem_cons_succ]
          refine wpAnyN_takeY (i := 17) (v := ?v18) rfl (by kernel_rfl) (by kernel_rfl) (by kernel_rfl) (fun _ _ _ h => h) rfl (Or.inl ⟨by rfl, ?hy18⟩) (fun _ => hHeld) ?rest18
          case hy18 => (intro w' _; go_simp; (try with_reducible rfl))
          try simp only [Act.put, List.setIfInBounds_toArray, List.set_cons_zero, List.set_cons_succ, List.getElem_toArray, List.getElem_cons_zero, List.getElem_cons_succ]
          refine wpAnyN_takeY (i := 18) (v := ?v19) rfl (by kernel_rfl) (by kernel_rfl) (by kernel_rfl) (fun _ _ _ h => h) rfl (Or.inl ⟨by rfl, ?hy19⟩) (fun _ => hHeld) ?rest19
          case hy19 => (intro w' _; go_simp; (try with_reducible rfl))
          try simp only [Act.put, List.setIfInBounds_toArray, List.set_cons_zero, List.set_cons_succ, List.getElem_toArray, List.getElem_cons_zero, List.getElem_cons_succ]
          refine wpAnyN_takeY (i := 19) (v := ?v20) rfl (by kernel_rfl) (by kernel_rfl) (by kernel_rfl) (fun _ _ _ h => h) rfl (Or.inl ⟨by rfl, ?hy20⟩) (fun _ => hHeld) ?rest20
          case hy20 => (intro w' _; go_simp; (try with_reducible rfl))
          try simp only [Act.put, List.setIfInBounds_toArray, List.set_cons_zero, List.set_cons_succ, List.getElem_toArray, List.getElem_cons_zero, List.getElem_cons_succ]
          refine wpAnyN_takeY (i := 20) (v := ?v21) rfl (by kernel_rfl) (by kernel_rfl) (by kernel_rfl) (fun _ _ _ h => h) rfl (Or.inl ⟨by rfl, ?hy21⟩) (fun _ => hHeld) ?rest21
          case hy21 => (intro w' _; go_simp; (try with_reducible rfl))
          try simp only [Act.put, List.setIfInBounds_toArray, List.set_cons_zero, List.set_cons_succ, List.getElem_toArray, List.getElem_cons_zero, List.getElem_cons_succ]
          refine wpAnyN_takeY (i := 21) (v := ?v22) rfl (by kernel_rfl) (by kernel_rfl) (by kernel_rfl) (fun _ _ _ h => h) rfl (Or.inl ⟨by rfl, ?hy22⟩) (fun _ => hHeld) ?rest22
          case hy22 => (intro w' _; go_simp; (try with_reducible rfl))
          try simp only [Act.put, List.setIfInBounds_toArray, List.set_cons_zero, List.set_cons_succ, List.getElem_toArray, List.getElem_cons_zero, List.getElem_cons_succ]
          refine wpAnyN_take (i := 22) (v := ?v23) rfl (by kernel_rfl) (by kernel_rfl) (by kernel_rfl) (fun _ _ _ h => h) rfl (by kernel_rfl) (by kernel_rfl) (Or.inl ⟨by rfl, ?hy23⟩) hHeld ?rest23
          case hy23 => (intro w' hSw; (try dsimp only at hSw); go_simp; (try with_reducible rfl))
          try simp only [Act.put, List.setIfInBounds_toArray, List.set_cons_zero, List.set_cons_succ, List.getElem_toArray, List.getElem_cons_zero, List.getElem_cons_succ]
          refine wpAnyN_takeY (i := 23) (v := ?v24) rfl (by kernel_rfl) (by kernel_rfl) (by kernel_rfl) (fun _ _ _ h => h) rfl (Or.inl ⟨by rfl, ?hy24⟩) (fun _ => hHeld) ?rest24
          case hy24 => (intro w' _; go_simp; (try with_reducible rfl))
          try simp only [Act.put, List.setIfInBounds_toArray, List.set_cons_zero, List.set_cons_succ, List.getElem_toArray, List.getElem_cons_zero, List.getElem_cons_succ]
          refine wpAnyN_takeY (i := 24) (v := ?v25) rfl (by kernel_rfl) (by kernel_rfl) (by kernel_rfl) (fun _ _ _ h => h) rfl (Or.inl ⟨by rfl, ?hy25⟩) (fun _ => hHeld) ?rest25
          case hy25 => (intro w' _; go_simp; (try with_reducible rfl))
          try simp only [Act.put, List.setIfInBounds_toArray, List.set_cons_zero, List.set_cons_succ, List.getElem_toArray, List.getElem_cons_zero, List.getElem_cons_succ]
          refine wpAnyN_take (i := 25) (v := ?v26) rfl (by kernel_rfl) (by kernel_rfl) (by kernel_rfl) (fun _ _ _ h => h) rfl (by kernel_rfl) (by kernel_rfl) (Or.inl ⟨by rfl, ?hy26⟩) hHeld ?rest26
          case hy26 => (intro w' hSw; (try dsimp only at hSw); go_simp; (try with_reducible rfl))
          try simp only [Act.put, List.setIfInBounds_toArray, List.set_cons_zero, List.set_cons_succ, List.getElem_toArray, List.getElem_cons_zero, List.getElem_cons_succ]
          refine wpAnyN_takeY (i := 26) (v := ?v27) rfl (by kernel_rfl) (by kernel_rfl) (by kernel_rfl) (fun _ _ _ h => h) rfl (Or.inl ⟨by rfl, ?hy27⟩) (fun _ => hHeld) ?rest27
          case hy27 => (intro w' _; go_simp; (try with_reducible rfl))
          try simp only [Act.put, List.setIfInBounds_toArray, List.set_cons_zero, List.set_cons_succ, List.getElem_toArray, List.getElem_cons_zero, List.getElem_cons_succ]
          refine wpAnyN_takeY (i := 27) (v := ?v28) rfl (by kernel_rfl) (by kernel_rfl) (by kernel_rfl) (fun _ _ _ h => h) rfl (Or.inl ⟨by rfl, ?hy28⟩) (fun _ => hHeld) ?rest28
          case hy28 => (intro w' _; go_simp; (try with_reducible rfl))
          try simp only [Act.put, List.setIfInBounds_toArray, List.set_cons_zero, List.set_cons_succ, List.getElem_toArray, List.getElem_cons_zero, List.getElem_cons_succ]
          refine wpAnyN_take (i := 28) (v := ?v29) rfl (by kernel_rfl) (by kernel_rfl) (by kernel_rfl) (fun _ _ _ h => h) rfl (by kernel_rfl) (by kernel_rfl) (Or.inl ⟨by rfl, ?hy29⟩) hHeld ?rest29
          case hy29 => (intro w' hSw; (try dsimp only at hSw); go_simp; (try with_reducible rfl))
          try simp only [Act.put, List.setIfInBounds_toArray, List.set_cons_zero, List.set_cons_succ, List.getElem_toArray, List.getElem_cons_zero, List.getElem_cons_succ]
          refine wpAnyN_takeY (i := 29) (v := ?v30) rfl (by kernel_rfl) (by kernel_rfl) (by kernel_rfl) (fun _ _ _ h => h) rfl (Or.inl ⟨by rfl, ?hy30⟩) (fun _ => hHeld) ?rest30
          case hy30 => (intro w' _; go_simp; (try with_reducible rfl))
          try simp only [Act.put, List.setIfInBounds_toArray, List.set_cons_zero, List.set_cons_succ, List.getElem_toArray, List.getElem_cons_zero, List.getElem_cons_succ]
          refine wpAnyN_takeY (i := 30) (v := ?v31) rfl (by kernel_rfl) (by kernel_rfl) (by kernel_rfl) (fun _ _ _ h => h) rfl (Or.inl ⟨by rfl, ?hy31⟩) (fun _ => hHeld) ?rest31
          case hy31 => (intro w' _; go_simp; (try with_reducible rfl))
          try simp only [Act.put, List.setIfInBounds_toArray, List.set_cons_zero, List.set_cons_succ, List.getElem_toArray, List.getElem_cons_zero, List.getElem_cons_succ]
          refine wpAnyN_take (i := 31) (v := ?v32) rfl (by kernel_rfl) (by kernel_rfl) (by kernel_rfl) (fun _ _ _ h => h) rfl (by kernel_rfl) (by kernel_rfl) (Or.inl ⟨by rfl, ?hy32⟩) hHeld ?rest32
          case hy32 => (intro w' hSw; (try dsimp only at hSw); go_simp; (try with_reducible rfl))
          try simp only [Act.put, List.setIfInBounds_toArray, List.set_cons_zero, List.set_cons_succ, List.getElem_toArray, List.getElem_cons_zero, List.getElem_cons_succ]
          refine wpAnyN_takeY (i := 32) (v := ?v33) rfl (by kernel_rfl) (by kernel_rfl) (by kernel_rfl) (fun _ _ _ h => h) rfl (Or.inl ⟨by rfl, ?hy33⟩) (fun _ => hHeld) ?rest33
          case hy33 => (intro w' _; go_simp; (try with_reducible rfl))
          try simp only [Act.put, List.setIfInBounds_toArray, List.set_cons_zero, List.set_cons_succ, List.getElem_toArray, List.getElem_cons_zero, List.getElem_cons_succ]
          refine wpAnyN_takeY (i := 33) (v := ?v34) rfl (by kernel_rfl) (by kernel_rfl) (by kernel_rfl) (fun _ _ _ h => h) rfl (Or.inl ⟨by rfl, ?hy34⟩) (fun _ => hHeld) ?rest34
          case hy34 => (intro w' _; go_simp; (try with_reducible rfl))
          try simp only [Act.put, List.setIfInBounds_toArray, List.set_cons_zero, List.set_cons_succ, List.getElem_toArray, List.getElem_cons_zero, List.getElem_cons_succ]
          refine wpAnyN_takeY (i := 34) (v := ?v35) rfl (by kernel_rfl) (by kernel_rfl) (by kernel_rfl) (fun _ _ _ h => h) rfl (Or.inl ⟨by rfl, ?hy35⟩) (fun _ => hHeld) ?rest35
          case hy35 => (intro w' _; go_simp; (try with_reducible rfl))
          try simp only [Act.put, List.setIfInBounds_toArray, List.set_cons_zero, List.set_cons_succ, List.getElem_toArray, List.getElem_cons_zero, List.getElem_cons_succ]
          refine wpAnyN_takeY (i := 35) (v := ?v36) rfl (by kernel_rfl) (by kernel_rfl) (by kernel_rfl) (fun _ _ _ h => h) rfl (Or.inl ⟨by rfl, ?hy36⟩) (fun _ => hHeld) ?rest36
          case hy36 => (intro w' _; go_simp; (try with_reducible rfl))
          try simp only [Act.put, List.setIfInBounds_toArray, List.set_cons_zero, List.set_cons_succ, List.getElem_toArray, List.getElem_cons_zero, List.getElem_cons_succ]
          refine wpAnyN_take (i := 36) (v := ?v37) rfl (by kernel_rfl) (by kernel_rfl) (by kernel_rfl) (fun _ _ _ h => h) rfl (by kernel_rfl) (by kernel_rfl) (Or.inl ⟨by rfl, ?hy37⟩) hHeld ?rest37
          case hy37 => (intro w' hSw; (try dsimp only at hSw); go_simp; (try with_reducible rfl))
          try simp only [Act.put, List.setIfInBounds_toArray, List.set_cons_zero, List.set_cons_succ, List.getElem_toArray, List.getElem_cons_zero, List.getElem_cons_succ]
          refine wpAnyN_takeY (i := 37) (v := ?v38) rfl (by kernel_rfl) (by kernel_rfl) (by kernel_rfl) (fun _ _ _ h => h) rfl (Or.inl ⟨by rfl, ?hy38⟩) (fun _ => hHeld) ?rest38
          case hy38 => (intro w' _; go_simp; (try with_reducible rfl))
          try simp only [Act.put, List.setIfInBounds_toArray, List.set_cons_zero, List.set_cons_succ, List.getElem_toArray, List.getElem_cons_zero, List.getElem_cons_succ]
          refine wpAnyN_takeY (i := 38) (v := ?v39) rfl (by kernel_rfl) (by kernel_rfl) (by kernel_rfl) (fun _ _ _ h => h) rfl (Or.inl ⟨by rfl, ?hy39⟩) (fun _ => hHeld) ?rest39
          case hy39 => (intro w' _; go_simp; (try with_reducible rfl))
          try simp only [Act.put, List.setIfInBounds_toArray, List.set_cons_zero, List.set_cons_succ, List.getElem_toArray, List.getElem_cons_zero, List.getElem_cons_succ]
          refine wpAnyN_take (i := 39) (v := ?v40) rfl (by kernel_rfl) (by kernel_rfl) (by kernel_rfl) (fun _ _ _ h => h) rfl (by kernel_rfl) (by kernel_rfl) (Or.inl ⟨by rfl, ?hy40⟩) hHeld ?rest40
          case hy40 => (intro w' hSw; (try dsimp only at hSw); go_simp; (try with_reducible rfl))
          try simp only [Act.put, List.setIfInBounds_toArray, List.set_cons_zero, List.set_cons_succ, List.getElem_toArray, List.getElem_cons_zero, List.getElem_cons_succ]
          refine wpAnyN_takeY (i := 40) (v := ?v41) rfl (by kernel_rfl) (by kernel_rfl) (by kernel_rfl) (fun _ _ _ h => h) rfl (Or.inl ⟨by rfl, ?hy41⟩) (fun _ => hHeld) ?rest41
          case hy41 => (intro w' _; go_simp; (try with_reducible rfl))
          try simp only [Act.put, List.setIfInBounds_toArray, List.set_cons_zero, List.set_cons_succ, List.getElem_toArray, List.getElem_cons_zero, List.getElem_cons_succ]
          refine wpAnyN_takeY (i := 41) (v := ?v42) rfl (by kernel_rfl) (by kernel_rfl) (by kernel_rfl) (fun _ _ _ h => h) rfl (Or.inl ⟨by rfl, ?hy42⟩) (fun _ => hHeld) ?rest42
          case hy42 => (intro w' _; go_simp; (try with_reducible rfl))
          try simp only [Act.put, List.setIfInBounds_toArray, List.set_cons_zero, List.set_cons_succ, List.getElem_toArray, List.getElem_cons_zero, List.getElem_cons_succ]
          refine wpAnyN_take (i := 42) (v := ?v43) rfl (by kernel_rfl) (by kernel_rfl) (by kernel_rfl) (fun _ _ _ h => h) rfl (by kernel_rfl) (by kernel_rfl) (Or.inl ⟨by rfl, ?hy43⟩) hHeld ?rest43
          case hy43 => (intro w' hSw; (try dsimp only at hSw); go_simp; (try with_reducible rfl))
          try simp only [Act.put, List.setIfInBounds_toArray, List.set_cons_zero, List.set_cons_succ, List.getElem_toArray, List.getElem_cons_zero, List.getElem_cons_succ]
          refine wpAnyN_takeY (i := 43) (v := ?v44) rfl (by kernel_rfl) (by kernel_rfl) (by kernel_rfl) (fun _ _ _ h => h) rfl (Or.inl ⟨by rfl, ?hy44⟩) (fun _ => hHeld) ?rest44
          case hy44 => (intro w' _; go_simp; (try with_reducible rfl))
          try simp only [Act.put, List.setIfInBounds_toArray, List.set_cons_zero, List.set_cons_succ, List.getElem_toArray, List.getElem_cons_zero, List.getElem_cons_succ]
          refine wpAnyN_takeY (i := 44) (v := ?v45) rfl (by kernel_rfl) (by kernel_rfl) (by kernel_rfl) (fun _ _ _ h => h) rfl (Or.inl ⟨by rfl, ?hy45⟩) (fun _ => hHeld) ?rest45
          case hy45 => (intro w' _; go_simp; (try with_reducible rfl))
          try simp only [Act.put, List.setIfInBounds_toArray, List.set_cons_zero, List.set_cons_succ, List.getElem_toArray, List.getElem_cons_zero, List.getElem_cons_succ]
          refine wpAnyN_take (i := 45) (v := ?v46) rfl (by kernel_rfl) (by kernel_rfl) (by kernel_rfl) (fun _ _ _ h => h) rfl (by kernel_rfl) (by kernel_rfl) (Or.inl ⟨by rfl, ?hy46⟩) hHeld ?rest46
          case hy46 => (intro w' hSw; (try dsimp only at hSw); go_simp; (try with_reducible rfl))
          try simp only [Act.put, List.setIfInBounds_toArray, List.set_cons_zero, List.set_cons_succ, List.getElem_toArray, List.getElem_cons_zero, List.getElem_cons_succ]
          refine wpAnyN_takeY (i := 46) (v := ?v47) rfl (by kernel_rfl) (by kernel_rfl) (by kernel_rfl) (fun _ _ _ h => h) rfl (Or.inl ⟨by rfl, ?hy47⟩) (fun _ => hHeld) ?rest47
          case hy47 => (intro w' _; go_simp; (try with_reducible rfl))
          try simp only [Act.put, List.setIfInBounds_toArray, List.set_cons_zero, List.set_cons_succ, List.getElem_toArray, List.getElem_cons_zero, List.getElem_cons_succ]
          refine wpAnyN_takeY (i := 47) (v := ?v48) rfl (by kernel_rfl) (by kernel_rfl) (by kernel_rfl) (fun _ _ _ h => h) rfl (Or.inl ⟨by rfl, ?hy48⟩) (fun _ => hHeld) ?rest48
          case hy48 => (intro w' _; go_simp; (try with_reducible rfl))
          try simp only [Act.put, List.setIfInBounds_toArray, List.set_cons_zero, List.set_cons_succ, List.getElem_toArray, List.getElem_cons_zero, List.getElem_cons_succ]
          refine wpAnyN_takeY (i := 48) (v := ?v49) rfl (by kernel_rfl) (by kernel_rfl) (by kernel_rfl) (fun _ _ _ h => h) rfl (Or.inl ⟨by rfl, ?hy49⟩) (fun _ => hHeld) ?rest49
          case hy49 => (intro w' _; go_simp; (try with_reducible rfl))
          try simp only [Act.put, List.setIfInBounds_toArray, List.set_cons_zero, List.set_cons_succ, List.getElem_toArray, List.getElem_cons_zero, List.getElem_cons_succ]
          refine wpAnyN_takeY (i := 49) (v := ?v50) rfl (by kernel_rfl) (by kernel_rfl) (by kernel_rfl) (fun _ _ _ h => h) rfl (Or.inl ⟨by rfl, ?hy50⟩) (fun _ => hHeld) ?rest50
          case hy50 => (intro w' _; go_simp; (try with_reducible rfl))
          try simp only [Act.put, List.setIfInBounds_toArray, List.set_cons_zero, List.set_cons_succ, List.getElem_toArray, List.getElem_cons_zero, List.getElem_cons_succ]
          refine wpAnyN_takeY (i := 50) (v := ?v51) rfl (by kernel_rfl) (by kernel_rfl) (by kernel_rfl) (fun _ _ _ h => h) rfl (Or.inl ⟨by rfl, ?hy51⟩) (fun _ => hHeld) ?rest51
          case hy51 => (intro w' _; go_simp; (try with_reducible rfl))
          try simp only [Act.put, List.setIfInBounds_toArray, List.set_cons_zero, List.set_cons_succ, List.getElem_toArray, List.getElem_cons_zero, List.getElem_cons_succ]
          refine wpAnyN_take (i := 51) (v := ?v52) rfl (by kernel_rfl) (by kernel_rfl) (by kernel_rfl) (fun _ _ _ h => h) rfl (by kernel_rfl) (by kernel_rfl) (Or.inl ⟨by rfl, ?hy52⟩) hHeld ?rest52
          case hy52 => (intro w' hSw; (try dsimp only at hSw); go_simp; (try with_reducible rfl))
          try simp only [Act.put, List.setIfInBounds_toArray, List.set_cons_zero, List.set_cons_succ, List.getElem_toArray, List.getElem_cons_zero, List.getElem_cons_succ]
          refine wpAnyN_takeY (i := 52) (v := ?v53) rfl (by kernel_rfl) (by kernel_rfl) (by kernel_rfl) (fun _ _ _ h => h) rfl (Or.inl ⟨by rfl, ?hy53⟩) (fun _ => hHeld) ?rest53
          case hy53 => (intro w' _; go_simp; (try with_reducible rfl))
          try simp only [Act.put, List.setIfInBounds_toArray, List.set_cons_zero, List.set_cons_succ, List.getElem_toArray, List.getElem_cons_zero, List.getElem_cons_succ]
          refine wpAnyN_ready (rs := [53]) (by kernel_rfl) (by simp) ?_
          refine AllReadyN.cons rfl (fun K hK => ?_) AllReadyN.nil
          go_simp
          obtain ⟨w8, hw8⟩ : ∃ w8, (wr.alloc (.cells #[.int .i64 (s4 : Int)] 2)).drew = w8 := ⟨_, rfl⟩
          have hA : Below wr.heap.size wr w8 := by rw [← hw8]; exact ((Below.refl _ _).alloc (Nat.le_refl _) _).drew
          have p8 : Sl w8 1 (.slice (some ⟨wr.heap.size, 0, none⟩) 1 1) 1 [.int .i64 (s4 : Int)] := by rw [← hw8]; exact Sl.one wr _ _
          have M8 := M.call hA
          have ho8 := ownsRow_below ho hA
          (try simp only [hw8])
          clear hw8
          try go_wp2_with fail
          replace hHeld : (fun w' : World => w'.cell? ⟨gC, 5, none⟩ = some (.slice av t0 cv) ∧ w'.cell? ⟨gA, 0, none⟩ = some (.int .i64 x) ∧ w'.cell? ⟨gA, 5, none⟩ = some (.slice (some ⟨b, o, none⟩) n cap) ∧ w'.cell? ⟨b, o + k1, none⟩ = some (.int .i64 (u1 : Int)) ∧ w'.cell? ⟨b, o + k2, none⟩ = some (.int .i64 (u2 : Int)) ∧ w'.cell? ⟨b, o + k3, none⟩ = some (.int .i64 (u3 : Int)) ∧ w'.cell? ⟨b, o + k4, none⟩ = some (.int .i64 (u4 : Int))) _ := ⟨M8.cell (Has.head _ _ _ _) (i := 5) rfl, M8.cell (.tail _ _ _ _ _ (.tail _ _ _ _ _ (Has.head _ _ _ _))) (i := 0) rfl, M8.cell (.tail _ _ _ _ _ (.tail _ _ _ _ _ (Has.head _ _ _ _))) (i := 5) rfl, (hA.cell (p := ⟨b, o + k1, none⟩) hbl).trans cu1, (hA.cell (p := ⟨b, o + k2, none⟩) hbl).trans cu2, (hA.cell (p := ⟨b, o + k3, none⟩) hbl).trans cu3, (hA.cell (p := ⟨b, o + k4, none⟩) hbl).trans cu4⟩
          refine hK.out _ _ (fun _ => hHeld) ?_
          clear hK K
          try simp only [Act.put, List.setIfInBounds_toArray, List.set_cons_zero, List.set_cons_succ, List.getElem_toArray, List.getElem_cons_zero, List.getElem_cons_succ]
          refine wpAnyN_ready (rs := [54]) (by kernel_rfl) (by simp) ?_
          refine AllReadyN.cons rfl (fun K hK => ?_) AllReadyN.nil
          rw [if_pos (by rfl)]
          refine wp_app E64 (.tmp 58) (.tmp 110) rfl w.heap.size rfl ho8 rfl p8 (by intro u hu; simp at hu; subst hu; rfl) hb63 hb8 M8.below.size ?_
          intro v9 w9 ho9 hg9 _
          have M9 := app_mem M8 (Below.refl _ _) ho8 hg9 (Nat.le_refl _) (by simp)
          obtain ⟨_, _, hee, _, e91⟩ := cell64 (HS.out.below M9.below) k1 (by rw [HP.out]; exact l1)
          cases hee
          obtain ⟨_, _, hee, _, e92⟩ := cell64 (HS.out.below M9.below) k2 (by rw [HP.out]; exact l2)
          cases hee
          obtain ⟨_, _, hee, _, e93⟩ := cell64 (HS.out.below M9.below) k3 (by rw [HP.out]; exact l3)
          cases hee
          obtain ⟨_, _, hee, _, e94⟩ := cell64 (HS.out.below M9.below) k4 (by rw [HP.out]; exact l4)
          cases hee
          rw [HU.out.1] at e91
          rw [HU.out.2.1] at e92
          rw [HU.out.2.2.1] at e93
          rw [HU.out.2.2.2] at e94
          obtain ⟨a9, c9, rfl, _, _⟩ := ownsRow_slice ho9
          have hf9 := M9.free (Has.head _ _ _ _) 5
          have d5 := M9.cell (Has.head _ _ _ _) (i := 5) rfl
          rw [← HFV.out, HT.out t0] at ho9
          have ho10 := ownsRow_setCell_other (a := ⟨gC, 5, none⟩) ho9 (fun e => gown_ne (M9.has (Has.head _ _ _ _)) ho9 (by decide) _ e rfl) (.slice a9 (t0 + 1) c9)
          have M10 := M9.set 5 (.slice a9 (t0 + 1) c9) (Upd.head _ _ _ _ _) (by simp)
          replace hHeld : (fun w' : World => w'.cell? ⟨gC, 5, none⟩ = some (.slice av t0 cv) ∧ w'.cell? ⟨gA, 0, none⟩ = some (.int .i64 x) ∧ w'.cell? ⟨gA, 5, none⟩ = some (.slice (some ⟨b, o, none⟩) n cap) ∧ w'.cell? ⟨b, o + k1, none⟩ = some (.int .i64 (u1 : Int)) ∧ w'.cell? ⟨b, o + k2, none⟩ = some (.int .i64 (u2 : Int)) ∧ w'.cell? ⟨b, o + k3, none⟩ = some (.int .i64 (u3 : Int)) ∧ w'.cell? ⟨b, o + k4, none⟩ = some (.int .i64 (u4 : Int))) _ := ⟨M9.cell (Has.head _ _ _ _) (i := 5) rfl, M9.cell (.tail _ _ _ _ _ (.tail _ _ _ _ _ (Has.head _ _ _ _))) (i := 0) rfl, M9.cell (.tail _ _ _ _ _ (.tail _ _ _ _ _ (Has.head _ _ _ _))) (i := 5) rfl, e91, e92, e93, e94⟩
          refine hK.out _ _ (fun _ => hHeld) ?_
          clear hK K
          try simp only [Act.put, List.setIfInBounds_toArray, List.set_cons_zero, List.set_cons_succ, List.getElem_toArray, List.getElem_cons_zero, List.getElem_cons_succ]
          refine wpAnyN_takeY (i := 55) (v := ?v56) rfl (by kernel_rfl) (by kernel_rfl) (by kernel_rfl) (fun _ _ _ h => h) rfl (Or.inl ⟨by rfl, ?hy56⟩) (fun _ => hHeld) ?rest56
          case hy56 => (intro w' _; go_simp; (try with_reducible rfl))
          try simp only [Act.put, List.setIfInBounds_toArray, List.set_cons_zero, List.set_cons_succ, List.getElem_toArray, List.getElem_cons_zero, List.getElem_cons_succ]
          refine wpAnyN_ready (rs := [56]) (by kernel_rfl) (by simp) ?_
          refine AllReadyN.cons rfl (fun K hK => ?_) AllReadyN.nil
          go_simp
          try go_wp2_with fail
          refine hK.out _ _ (fun h => by have h' : (true : Bool) = false := h; cases h') ?_
          clear hK K
          try simp only [Act.put, List.setIfInBounds_toArray, List.set_cons_zero, List.set_cons_succ, List.getElem_toArray, List.getElem_cons_zero, List.getElem_cons_succ]
          refine wpAnyN_done (by kernel_rfl) ?_ _
          clear d5 hf9 ho9 M9 ho M e91 e92 e93 e94 cu1 cu2 cu3 cu4 c0 c1 c2 c3 c4 c5 hA p8 ho8 M8 hg9 er ek1 ek2 ek3 ek4 es2 es3 es4 wr0 wk1 wk2 wk3 wk4 ws2 ws3 ws4 wrx HE
          go_wp2_with fail
          go_roundw
          case rel => exact ⟨xv + 1, _, hx1, by rw [HX2N.out]; go_num, by rw [HT1.out]; exact ho10, M10⟩
          case measure => simp [intOf]; omega
        · have e : k0 + xv = (yv + 1) * u := by rw [HK1.out]; omega
          have hx2e : 2 * xv = x := by have := HXU.out; omega
          rw [e] at ho M
          rw [hx2e]
          clear e hx2e
          go_wp2_with fail
          go_roundw
          case rel => exact ⟨yv + 1, _, hyv1, by rw [HY2N.out]; go_num, ho, M⟩
          case measure => simp [intOf]; omega
    · have e : yv * u = m := by rw [HM.out]; congr 1; omega
      have hye : 2 * yv = y := by have := HYV.out; omega
      rw [e] at ho
      rw [hye]
      obtain ⟨av, cv, rfl, _, _⟩ := ownsRow_slice ho
      clear e c0 c1 c2 c3 c4 c5 hye
      obtain ⟨c0, c1, c2, c3, c4, c5⟩ := gcells (M.has (Has.head _ _ _ _))
      have e1 := M.cell (.tail _ _ _ _ _ (.tail _ _ _ _ _ (Has.head _ _ _ _))) (i := 1) rfl
      go_wp2_with ((with_reducible refine (?_ : Go.wpList _ _ _ (_ :: _) _ _)); (first | go_skip | (refine wpL_stM (v := gv u v NX NY d2 (.slice av m cv)) M rfl rfl rfl rfl (wr_g _ _ _ _ _ _ _ _ _ _ _ _ _ _) (.tail _ _ _ _ _ _ _ (Upd.head _ _ _ _ _)) ?_; intro w6 M6 hT6)))
      have ho6 := gown_turned ho (M.has (.tail _ _ _ _ _ (Has.head _ _ _ _))) (by decide) hT6
      ((try simp only [Exit.inBlock, Exit.then]); refine bodyPost_ret (res_cell_tmp rfl M6 rfl (.tail _ _ _ _ _ (Has.head _ _ _ _)) (rd_g _ _ _ _ _ _) rfl) rfl ?_)
      exact ⟨_, _, rfl, Sl.of_own ho6, M6.below⟩
end Go.Proofs.Ytnfgogfbpggnfaa
