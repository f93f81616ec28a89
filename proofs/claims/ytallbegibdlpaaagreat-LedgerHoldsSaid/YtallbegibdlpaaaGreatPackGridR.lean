/-
  Texts in one: GridRA, GridRB, GridRC, GridRD, GridRE, GridRF, GridRG.
-/
import Derived.Test.YtallbegibdlpaaaGreatPackGridA
import Derived.Test.YtallbegibdlpaaaGreatPackBits
import Derived.Deep.Cut
import Derived.Deep.CutRange
import Derived.Test.YtallbegibdlpaaaGreatPackGridB
set_option linter.unusedVariables false
set_option linter.unusedSimpArgs false

/-
  Sides; what is wrong with any grid; one with other numbers; two that are the same: the reference's.
-/
namespace Go.Proofs.YtallbegibdlpaaaGreat
open Go Go.RowKit Go.Th Go.Th.Grid Go.Th.Wide

set_option maxRecDepth 20000 in
theorem rwith_any (x y X Y s : Int) (a0 : Option Addr) (n0 cap0 : Nat) (a : Option Addr) (n cap : Nat) : Ans 57 #[gv x y X Y s (.slice a0 n0 cap0), .slice a n cap] (gv x y X Y s (.slice a n cap)) := by
  intro w
  obtain ⟨w1, hw1⟩ : ∃ w1, w.alloc (.cells #[.int .i64 x, .int .i64 y, .int .i64 X, .int .i64 Y, .int .i64 s, .slice a0 n0 cap0] 28) = w1 := ⟨_, rfl⟩
  have M1 := (Mem.start w).alloc 28 (gc x y X Y s (.slice a0 n0 cap0))
  rw [show w.alloc (.cells (gc x y X Y s (.slice a0 n0 cap0)).toArray 28) = w1 from hw1] at M1
  obtain ⟨w2, hw2⟩ : ∃ w2, w1.alloc (.cells #[.int .i64 0, .int .i64 0, .int .i64 0, .int .i64 0, .int .i64 0, .slice none 0 0] 28) = w2 := ⟨_, rfl⟩
  have M2 := M1.alloc 28 (gc 0 0 0 0 0 (.slice none 0 0))
  rw [show w1.alloc (.cells (gc 0 0 0 0 0 (.slice none 0 0)).toArray 28) = w2 from hw2] at M2
  have hsz : w1.heap.size = w.heap.size + 1 := by rw [← hw1]; simp
  have HW1 := Lib.hid hw1
  have HW2 := Lib.hid hw2
  clear hw1 hw2 M1
  go_enter Tryz.func57, Tryz.ntmps57
  ((go_upto_region 1 with fail); rw [HW1.out, HW2.out, ← hsz]; clear HW1 HW2; obtain ⟨gB, hgB⟩ : ∃ gB, gB = w1.heap.size := ⟨_, rfl⟩; obtain ⟨gA, hgA⟩ : ∃ gA, gA = w.heap.size := ⟨_, rfl⟩; rw [← hgB] at M2 ⊢; rw [← hgA] at M2 ⊢; have hne : gA ≠ gB := (by omega); clear hgA hgB hsz)
  obtain ⟨c0, c1, c2, c3, c4, c5⟩ := gcells (M2.has (.tail _ _ _ _ _ (Has.head _ _ _ _)))
  obtain ⟨d0, d1, d2, d3, d4, d5⟩ := gcells (M2.has (Has.head _ _ _ _))
  have K := M2.has (Has.head _ _ _ _)
  have f0 := K.free 0
  have f1 := K.free 1
  have f2 := K.free 2
  have f3 := K.free 3
  have f4 := K.free 4
  have f5 := K.free 5
  have M4 := (((((M2.set 0 (.int .i64 x) (Upd.head _ _ _ _ _) (by simp)).set 1 (.int .i64 y) (Upd.head _ _ _ _ _) (by simp)).set 2 (.int .i64 X) (Upd.head _ _ _ _ _) (by simp)).set 3 (.int .i64 Y) (Upd.head _ _ _ _ _) (by simp)).set 4 (.int .i64 s) (Upd.head _ _ _ _ _) (by simp)).set 5 (.slice a n cap) (Upd.head _ _ _ _ _) (by simp)
  go_wp2_with fail
  ((try simp only [Exit.inBlock, Exit.then]); refine bodyPost_ret (res_cell rfl M4 rfl (Has.head _ _ _ _) (rd_g _ _ _ _ _ _)) rfl ?_)
  exact ⟨rfl, M4.below⟩

end Go.Proofs.YtallbegibdlpaaaGreat

/-
  An even grid; one made whole again: the reference's.
-/
namespace Go.Th.Grid
open Go Go.RowKit Go.Th
theorem ggrown_turned {w w' : World} {row : Option Nat} (hg : w.grownBy w' row) : Turned (fun j => row = some j) w w' := (Turned.refl _ w).grown hg (fun j hj _ => hj)
theorem mem_turned {w0 w w' : World} {bs : List (Nat × TypeId × List Value)} {S : Nat → Prop} (M : Mem w0 w bs) (ht : Turned S w w') (h0 : ∀ k, k < w0.heap.size → ¬ S k) (hb : ∀ e ∈ bs, ¬ S e.1) : Mem w0 w' bs :=
  ⟨ht.old M.below M.below.size h0, M.nodup, M.old, fun e he => (M.blk e he).turned ht (hb e he)⟩
/-- What an append to a row of the call's own leaves of blocks of other types. -/
theorem app_mem {w0 w w1 w2 : World} {bs : List (Nat × TypeId × List Value)} {D n size : Nat} {T : TypeId} {v : Value} {xs : List Value} (M : Mem w0 w bs) (hb : Below w.heap.size w w1) (ho : w1.ownsRow D T size v n xs) (hg : w1.grownBy w2 v.ownBlock) (hD : w0.heap.size ≤ D) (ht : ∀ e ∈ bs, e.2.1 ≠ T) : Mem w0 w2 bs := by
  have M1 := M.call hb
  refine mem_turned M1 (ggrown_turned hg) (fun k hk e => ?_) (fun e he h => ?_)
  · have := (ho.lt k e).1; omega
  · exact gown_ne (M1.blk e he) ho (ht e he) _ h rfl
end Go.Th.Grid
namespace Go.Proofs.YtallbegibdlpaaaGreat
open Go Go.RowKit Go.Th Go.Th.Grid Go.Th.Wide

theorem i64s_tab (f : Nat → Int) (i : Nat) : i64s (tab f i) ++ [.int .i64 (f i)] = i64s (tab f (i + 1)) := by rw [tab, i64s_snoc]

set_option maxRecDepth 20000 in
set_option maxHeartbeats 3200000 in
theorem rnorm_pos (x y X Y s : Int) (a : Option Addr) (n cap : Nat) (p : List Int) (hp : p.length = n) (hn : n ≤ 65536) (hr : ∀ u ∈ p, 0 ≤ u ∧ u ≤ 1073741824) (hz : ¬ sm p = 0) (w : World) (hS : Sl w 1 (.slice a n cap) n (i64s p)) :
    Calls Tryz.prog 21 #[gv x y X Y s (.slice a n cap)] w (GRes x y X Y s n (norm p) (normC p) w) := by
  have h0 : ∀ u ∈ p, 0 ≤ u := fun u hu => (hr u hu).1
  have hsr := sm_rng hr
  rw [hp] at hsr
  have CS := Lib.hid (fun wx hs => refSumG_any a n cap p hp (sm_fits h0 (by omega)) wx hs)
  have HS := Lib.hid hS
  have hge := sm_ge h0
  have hmx := hS.max
  have e1 : norm p = tab (fun i => share (sm p) (p.getD i 0)) n := by unfold norm; rw [if_neg hz, ← hp, tab_map]
  have e2 : normC p = 0 := by unfold normC; rw [if_neg hz]
  rw [e1, e2]
  obtain ⟨TN, hTN⟩ := Int.eq_ofNat_of_zero_le hsr.1
  rw [hTN] at CS hge hsr hz ⊢
  obtain ⟨f, hf⟩ : ∃ f : Nat → Int, f = fun i => share (TN : Int) (p.getD i 0) := ⟨_, rfl⟩
  rw [← hf]
  have hst : ∀ i, i < n → ∃ u q : Nat, p.getD i 0 = (u : Int) ∧ u ≤ 1073741824 ∧ (u : Int) * 1073741824 / (TN : Int) = (q : Int) ∧ f i = (q : Int) ∧ q ≤ 1073741824 := by
    intro i hi
    have h1 := getD_mem (P := fun u => 0 ≤ u ∧ u ≤ 1073741824) hr (by rw [hp]; exact hi : i < p.length)
    have h2 := getD_mem (P := fun u => u ≤ (TN : Int)) hge (by rw [hp]; exact hi : i < p.length)
    obtain ⟨u, hu⟩ := Int.eq_ofNat_of_zero_le h1.1
    have h3 := share_rng (s := (TN : Int)) (x := (u : Int)) (by omega) (by omega)
    obtain ⟨q, hq⟩ := Int.eq_ofNat_of_zero_le h3.1
    exact ⟨u, q, hu, by omega, hq, by rw [hf]; show share _ _ = _; rw [hu]; exact hq, by omega⟩
  have HST := Lib.hid hst
  have CW := Lib.hid (fun a' cap' => rwith_any x y X Y s a n cap a' n cap')
  have HT := Lib.hid (fun i => i64s_tab f i)
  have HP := Lib.hid hp
  have hT0 : ¬ ((TN : Int) = 0) := hz
  have hT1 : ¬ (TN = 0) := by omega
  have hT2 : ¬ ((TN : Int) ≤ 0) := by omega
  clear hp h0 e1 e2 hS hge hz hf hst hr hTN
  (obtain ⟨w1, hw1⟩ : ∃ w1, w.alloc (.cells #[.int .i64 x, .int .i64 y, .int .i64 X, .int .i64 Y, .int .i64 s, .slice a n cap] 28) = w1 := ⟨_, rfl⟩; have M1 := (Mem.start w).alloc 28 (gc x y X Y s (.slice a n cap)); rw [show w.alloc (.cells (gc x y X Y s (.slice a n cap)).toArray 28) = w1 from hw1] at M1; obtain ⟨w2, hw2⟩ : ∃ w2, w1.alloc (.cells #[.int .i64 0, .int .i64 0, .int .i64 0, .int .i64 0, .int .i64 0, .slice none 0 0] 28) = w2 := ⟨_, rfl⟩; have M2 := M1.alloc 28 (gc 0 0 0 0 0 (.slice none 0 0)); rw [show w1.alloc (.cells (gc 0 0 0 0 0 (.slice none 0 0)).toArray 28) = w2 from hw2] at M2; have hsz : w1.heap.size = w.heap.size + 1 := (by rw [← hw1]; simp); have HW1 := Lib.hid hw1; have HW2 := Lib.hid hw2; clear hw1 hw2 M1)
  go_enter Tryz.func21, Tryz.ntmps21
  ((go_upto_region 1 with fail); rw [HW1.out, HW2.out, ← hsz]; clear HW1 HW2; obtain ⟨gB, hgB⟩ : ∃ gB, gB = w1.heap.size := ⟨_, rfl⟩; obtain ⟨gA, hgA⟩ : ∃ gA, gA = w.heap.size := ⟨_, rfl⟩; rw [← hgB] at M2 ⊢; rw [← hgA] at M2 ⊢; have hne : gA ≠ gB := (by omega); clear hgA hgB hsz)
  obtain ⟨c0, c1, c2, c3, c4, c5⟩ := gcells (M2.has (.tail _ _ _ _ _ (Has.head _ _ _ _)))
  go_wp2_with fail
  refine (CS.out _ (HS.out.below M2.below)).mono ?_
  rintro e wx ⟨rfl, rfl⟩
  clear CS
  have hown : w2.ownsRow w.heap.size 2 1 (.slice none 0 0) 0 (i64s (tab f 0)) := World.ownsRow_nil _ _ _ _
  go_wp2_with fail
  go_loopw [5, 6] (fun v c wx => ∃ i : Nat, i ≤ n ∧ c = .int .i64 i ∧ wx.ownsRow w.heap.size 2 1 v i (i64s (tab f i)) ∧ Mem w wx [(gB, 28, gc 0 0 0 0 0 (.slice none 0 0)), (gA, 28, gc x y X Y s (.slice a n cap))]) (fun _ c _ => n - (intOf c).toNat)
  case atStart => exact ⟨0, Nat.zero_le _, rfl, hown, M2⟩
  case round =>
    clear hown M2 c0 c1 c2 c3 c4 c5
    obtain ⟨i, hi, rfl, ho, M⟩ := hrel
    obtain ⟨c0, c1, c2, c3, c4, c5⟩ := gcells (M.has (.tail _ _ _ _ _ (Has.head _ _ _ _)))
    by_cases hlt : i < n
    · obtain ⟨u, q, hu, hub, hq, hfi, hqb⟩ := HST.out i hlt
      obtain ⟨b, o, rfl, _, cu⟩ := cell64 (HS.out.below M.below) i (by rw [HP.out]; exact hlt)
      rw [hu] at cu
      have hqt : ((u : Int) * 1073741824).tdiv (TN : Int) = (q : Int) := by rw [Int.tdiv_eq_ediv_of_nonneg (by omega)]; exact hq
      have wq : IntKind.i64.wrap (q : Int) = (q : Int) := IntWalk.i64_in _ (by omega)
      have wq2 : wrap64 (q : Int) = (q : Int) := IntWalk.wrap64_in _ (by omega)
      have wu : IntKind.i64.wrap ((u : Int) * 1073741824) = (u : Int) * 1073741824 := IntWalk.i64_in _ (by omega)
      have HFI := Lib.hid hfi
      clear hu hfi
      go_wp2_with (at_builtin; refine wpList_app E64 rfl (.tmp 20) (.tmp 29) rfl w.heap.size rfl (ho.alloc _) rfl (Sl.one _ _ _) (by intro u hu; simp at hu; subst hu; rfl) (by unfold maxLen; omega) (by omega) (by have := M.below.size; simp; omega) ?_)
      intro v2 w3 ho3 hg3 _
      have M3 := app_mem M ((Below.refl _ _).alloc (Nat.le_refl _) _) (ho.alloc _) hg3 (Nat.le_refl _) (by simp)
      first
        | rw [← HFI.out, HT.out i] at ho3
        | rw [hqt, ← HFI.out, HT.out i] at ho3
        | rw [hq, ← HFI.out, HT.out i] at ho3
      clear ho hg3 M c0 c1 c2 c3 c4 c5
      go_wp2_with fail
      go_roundw
      case rel => exact ⟨i + 1, by omega, by go_num, ho3, M3⟩
      case measure => simp [intOf]; omega
    · obtain rfl : n = i := by omega
      obtain ⟨a5, cap5, rfl, _, _⟩ := ownsRow_slice ho
      go_wp2_with fail
      refine (CW.out a5 cap5 _).mono ?_
      rintro e w5 ⟨rfl, hA⟩
      have M3 := M.call hA
      have ho5 := ownsRow_below ho hA
      clear c0 c1 c2 c3 c4 c5
      go_wp2_with ((with_reducible refine (?_ : Go.wpList _ _ _ (_ :: _) _ _)); (first | go_skip | (refine wpL_stM (v := gv x y X Y s (.slice a5 n cap5)) M3 rfl rfl rfl rfl (wr_g _ _ _ _ _ _ _ _ _ _ _ _ _ _) (Upd.head _ _ _ _ _) ?_; intro w4 M4 hT4)))
      have ho6 := gown_turned ho5 (M3.has (Has.head _ _ _ _)) (by decide) hT4
      ((try simp only [Exit.inBlock, Exit.then]); refine bodyPost_ret (res_cell_tmp rfl M4 rfl (Has.head _ _ _ _) (rd_g _ _ _ _ _ _) rfl) rfl ?_)
      exact ⟨_, _, rfl, ho6, M4.below⟩
end Go.Proofs.YtallbegibdlpaaaGreat

/-
  A grid that is spread: the reference's.
-/
namespace Go.Proofs.YtallbegibdlpaaaGreat
open Go Go.RowKit Go.Th Go.Th.Grid Go.Th.Wide

end Go.Proofs.YtallbegibdlpaaaGreat

/-
  A grid that is weighed: the reference's.
-/
namespace Go.Proofs.YtallbegibdlpaaaGreat
open Go Go.RowKit Go.Th Go.Th.Grid Go.Th.Wide

end Go.Proofs.YtallbegibdlpaaaGreat

/-
  Places cut out of a grid: the reference's.
-/
namespace Go.Proofs.YtallbegibdlpaaaGreat
open Go Go.RowKit Go.Th Go.Th.Grid Go.Th.Wide

end Go.Proofs.YtallbegibdlpaaaGreat

/-
  A grid that is split: the reference's.
-/
namespace Go.Proofs.YtallbegibdlpaaaGreat
open Go Go.RowKit Go.Th Go.Th.Grid Go.Th.Wide

end Go.Proofs.YtallbegibdlpaaaGreat

/-
  A grid that is joined: the reference's.
-/
namespace Go.Proofs.YtallbegibdlpaaaGreat
open Go Go.RowKit Go.Th Go.Th.Grid Go.Th.Wide

end Go.Proofs.YtallbegibdlpaaaGreat
