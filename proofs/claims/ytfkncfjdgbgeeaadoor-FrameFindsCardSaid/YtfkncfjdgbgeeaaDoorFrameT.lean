/-
  What bytes begin with, from a place on: the reference's First.
-/
import Derived.Test.YtfkncfjdgbgeeaaDoorFrameR
import Derived.Test.YtfkncfjdgbgeeaaDoorFrameC
import Derived.Test.YtfkncfjdgbgeeaaDoorPackBits
import Derived.Deep.Cut
set_option linter.unusedVariables false
set_option linter.unusedSimpArgs false
namespace Go.Proofs.YtfkncfjdgbgeeaaDoor
open Go Go.RowKit Go.Th Go.Th.Crc

/-- What a First tells of bytes. -/
def FirstSaid (r : List Nat) (w : World) : Ending → World → Prop := fun e w' => e = .returned (.tuple #[fv (fstF r), .int .i64 (fstN r : Nat), .int .i64 (fst r : Nat)]) ∧ Below w.heap.size w w'
theorem FirstSaid.bad {r : List Nat} {w w' : World} {e : Ending} (c : Nat) (h : fst r = c) (h0 : c ≠ 0) (he : e = .returned (.tuple #[fvs 0 0 0 0 0 0, .int .i64 0, .int .i64 (c : Int)])) (hB : Below w.heap.size w w') : FirstSaid r w e w' := by
  unfold FirstSaid
  have e2 : fstF r = z0 := by unfold fstF; rw [if_neg (by omega)]
  have e3 : fstN r = 0 := by unfold fstN; rw [if_neg (by omega)]
  rw [e2, e3, h]
  exact ⟨he, hB⟩
theorem FirstSaid.good {r : List Nat} {w w' : World} {e : Ending} (h : fst r = 0) (he : e = .returned (.tuple #[fv (frm r), .int .i64 (sz r : Nat), .int .i64 0])) (hB : Below w.heap.size w w') : FirstSaid r w e w' := by
  unfold FirstSaid
  have e2 : fstF r = frm r := by unfold fstF; rw [if_pos h]
  have e3 : fstN r = sz r := by unfold fstN; rw [if_pos h]
  rw [e2, e3, h]
  exact ⟨he, hB⟩
theorem rdF_drop (bs : List Nat) (p i k : Nat) : rdF (bs.drop p) i k = rdF bs (p + i) k := by unfold rdF; rw [List.drop_drop]
theorem fst_of_l {r : List Nat} {c : Nat} (h : lcode r = c) (h0 : c ≠ 0) : fst r = c := by unfold fst; rw [if_pos (by omega)]; exact h
theorem okB_sz (r : List Nat) (h : sz r ≤ r.length) : okB (r.take (sz r)) = (putB (r.take (sz r - 4)) == r.take (sz r)) := by
  have hz := sz_le r
  have hl : (r.take (sz r)).length = sz r := by rw [List.length_take]; omega
  rw [okB_put, hl, List.take_take, Nat.min_eq_left (by omega)]
  simp; omega

set_option maxRecDepth 20000 in
set_option maxHeartbeats 6400000 in
theorem refFirst_any (vx : Value) (bs : List Nat) (p : Nat) (hp : p ≤ bs.length) (hl : bs.length ≤ 1000000) (hb : ∀ x ∈ bs, x < 256) (w : World) (h : Sl w 1 vx bs.length (u8s bs)) :
    Calls Tryd.prog 15 #[vx, .int .i64 p] w (FirstSaid (bs.drop p) w) := by
  obtain ⟨a, cap, rfl⟩ := sl_slice h
  obtain ⟨r, hr⟩ : ∃ r, r = bs.drop p := ⟨_, rfl⟩
  have hrl : r.length = bs.length - p := by rw [hr, List.length_drop]
  rw [← hr]
  obtain ⟨w1, hw1⟩ : ∃ w1, w.alloc (.cells #[.int .i64 0, .int .u16 0, .int .u32 0, .int .i32 0, .int .i32 0, .int .i32 0] 25) = w1 := ⟨_, rfl⟩
  have hB1 : Below w.heap.size w w1 := by rw [← hw1]; exact (Below.refl _ _).alloc (Nat.le_refl _) _
  have K0 : Blk w1 w.heap.size 25 [.int .i64 0, .int .u16 0, .int .u32 0, .int .i32 0, .int .i32 0, .int .i32 0] := by rw [← hw1]; exact Blk.new w _ _
  have s1 := h.below hB1
  have HW1 := Lib.hid hw1
  have HB := Lib.hid hb
  have E := h.max
  clear hw1
  obtain ⟨n, hn⟩ : ∃ n, n = bs.length := ⟨_, rfl⟩
  rw [← hn] at hp hl hrl h s1 E ⊢
  have HN := Lib.hid hn
  have HR := Lib.hid hr
  by_cases h0 : n ≤ p
  · have HF : Hid (fst r = 5) := Lib.hid (fst_of_l (by unfold lcode; rw [if_pos (by omega)]) (by decide))
    clear hn hr s1 h hrl hb
    go_enter Tryd.func15, Tryd.ntmps15
    go_upto_region 1 with fail
    rw [HW1.out]
    clear HW1
    have b0 := K0.cell (i := 0) rfl
    have z0 := K0.free 0
    have b1 := K0.cell (i := 1) rfl
    have z1 := K0.free 1
    have b2 := K0.cell (i := 2) rfl
    have z2 := K0.free 2
    have b3 := K0.cell (i := 3) rfl
    have z3 := K0.free 3
    have b4 := K0.cell (i := 4) rfl
    have z4 := K0.free 4
    have b5 := K0.cell (i := 5) rfl
    have z5 := K0.free 5
    go_wp2_with fail
    refine bodyPost_ret (v := .tuple #[fvs 0 0 0 0 0 0, .int .i64 0, .int .i64 5]) (res_three rfl rfl (blk_setF K0 _ _ _ _ _ _) Tryd.underlying25 rfl (by kernel_rfl) rfl rfl) rfl ?_
    exact FirstSaid.bad 5 HF.out (by decide) rfl (below_setF hB1 _ (Nat.le_refl _) _ _ _ _ _ _)
  obtain ⟨b, o, rfl, d0⟩ := sl_cell s1 p (by omega)
  have hbl := World.block_lt_of_cell? w1 _ d0
  have g0 : r.getD 0 0 = bs[p]'(by omega) := by rw [hr, List.getD_eq_getElem?_getD, List.getElem?_drop, Nat.add_zero, List.getElem?_eq_getElem (by omega)]; rfl
  rw [← g0] at d0
  obtain ⟨x, hx⟩ : ∃ x, x = r.getD 0 0 := ⟨_, rfl⟩
  rw [← hx] at d0
  have HX := Lib.hid hx
  by_cases c1 : x ≠ 126
  · have HF : Hid (fst r = 3) := Lib.hid (fst_of_l (by unfold lcode; rw [if_neg (by omega), if_pos (by rw [← hx]; exact c1)]) (by decide))
    have e1 : ((x : Int) != 126) = true := by simp; omega
    have e2 : ¬ (x : Int) = 126 := by omega
    clear hn hr s1 h hrl hb hx g0
    go_enter Tryd.func15, Tryd.ntmps15
    go_upto_region 1 with fail
    rw [HW1.out]
    clear HW1
    have b0 := K0.cell (i := 0) rfl
    have z0 := K0.free 0
    have b1 := K0.cell (i := 1) rfl
    have z1 := K0.free 1
    have b2 := K0.cell (i := 2) rfl
    have z2 := K0.free 2
    have b3 := K0.cell (i := 3) rfl
    have z3 := K0.free 3
    have b4 := K0.cell (i := 4) rfl
    have z4 := K0.free 4
    have b5 := K0.cell (i := 5) rfl
    have z5 := K0.free 5
    go_wp2_with fail
    refine bodyPost_ret (v := .tuple #[fvs 0 0 0 0 0 0, .int .i64 0, .int .i64 3]) (res_three rfl rfl (blk_setF K0 _ _ _ _ _ _) Tryd.underlying25 rfl (by kernel_rfl) rfl rfl) rfl ?_
    exact FirstSaid.bad 3 HF.out (by decide) rfl (below_setF hB1 _ (Nat.le_refl _) _ _ _ _ _ _)
  obtain rfl : x = 126 := by omega
  by_cases h1 : n ≤ p + 1
  · have HF : Hid (fst r = 5) := Lib.hid (fst_of_l (by unfold lcode; rw [if_neg (by omega), if_neg (by rw [← hx]; exact c1), if_pos (by omega)]) (by decide))
    clear hn hr s1 h hrl hb hx g0
    go_enter Tryd.func15, Tryd.ntmps15
    go_upto_region 1 with fail
    rw [HW1.out]
    clear HW1
    have b0 := K0.cell (i := 0) rfl
    have z0 := K0.free 0
    have b1 := K0.cell (i := 1) rfl
    have z1 := K0.free 1
    have b2 := K0.cell (i := 2) rfl
    have z2 := K0.free 2
    have b3 := K0.cell (i := 3) rfl
    have z3 := K0.free 3
    have b4 := K0.cell (i := 4) rfl
    have z4 := K0.free 4
    have b5 := K0.cell (i := 5) rfl
    have z5 := K0.free 5
    go_wp2_with fail
    refine bodyPost_ret (v := .tuple #[fvs 0 0 0 0 0 0, .int .i64 0, .int .i64 5]) (res_three rfl rfl (blk_setF K0 _ _ _ _ _ _) Tryd.underlying25 rfl (by kernel_rfl) rfl rfl) rfl ?_
    exact FirstSaid.bad 5 HF.out (by decide) rfl (below_setF hB1 _ (Nat.le_refl _) _ _ _ _ _ _)
  obtain ⟨b', o', he, d1⟩ := sl_cell s1 (p + 1) (by omega)
  cases he
  have g1 : r.getD 1 0 = bs[p + 1]'(by omega) := by rw [hr, List.getD_eq_getElem?_getD, List.getElem?_drop, List.getElem?_eq_getElem (by omega)]; rfl
  have hy2 := hb _ (List.getElem_mem (show p + 1 < bs.length by omega))
  rw [← g1] at d1 hy2
  obtain ⟨y, hy⟩ : ∃ y, y = r.getD 1 0 := ⟨_, rfl⟩
  rw [← hy] at d1 hy2
  have hk : kd r = (y : Int) := by unfold kd; rw [← hy]
  have CN := refNumbers12_any (y : Int)
  have hrg := fcnt_range (y : Int)
  by_cases c2 : fcnt (y : Int) < 0
  · have HF : Hid (fst r = 13) := Lib.hid (fst_of_l (by unfold lcode; rw [if_neg (by omega), if_neg (by rw [← hx]; exact c1), if_neg (by omega), if_pos (by rw [hk]; exact c2)]) (by decide))
    obtain ⟨q, hq⟩ : ∃ q, q = fcnt (y : Int) := ⟨_, rfl⟩
    rw [← hq] at CN hrg c2
    have CN := Lib.hid CN
    clear hn hr s1 h hrl hb hx g0 g1 hy hk hq
    go_enter Tryd.func15, Tryd.ntmps15
    go_upto_region 1 with fail
    rw [HW1.out]
    clear HW1
    go_wp2_with fail
    refine (CN.out _).mono ?_
    rintro e wx ⟨rfl, rfl⟩
    clear CN
    have b0 := K0.cell (i := 0) rfl
    have z0 := K0.free 0
    have b1 := K0.cell (i := 1) rfl
    have z1 := K0.free 1
    have b2 := K0.cell (i := 2) rfl
    have z2 := K0.free 2
    have b3 := K0.cell (i := 3) rfl
    have z3 := K0.free 3
    have b4 := K0.cell (i := 4) rfl
    have z4 := K0.free 4
    have b5 := K0.cell (i := 5) rfl
    have z5 := K0.free 5
    go_wp2_with fail
    refine bodyPost_ret (v := .tuple #[fvs 0 0 0 0 0 0, .int .i64 0, .int .i64 13]) (res_three rfl rfl (blk_setF K0 _ _ _ _ _ _) Tryd.underlying25 rfl (by kernel_rfl) rfl rfl) rfl ?_
    exact FirstSaid.bad 13 HF.out (by decide) rfl (below_setF hB1 _ (Nat.le_refl _) _ _ _ _ _ _)
  have hfn : fcnt (y : Int) = (fncnt (kd r) : Nat) := by rw [← hk]; unfold fncnt; rw [hk]; omega
  have CS := refSize12_any (y : Int)
  have hsz : (12 : Int) + 4 * fcnt (y : Int) = (sz r : Nat) := by rw [hfn]; unfold sz; omega
  rw [hsz] at CS
  have hz := sz_le r
  rw [hfn] at CN
  by_cases c3 : r.length < sz r
  · have HF : Hid (fst r = 5) := Lib.hid (fst_of_l (by unfold lcode; rw [if_neg (by omega), if_neg (by rw [← hx]; exact c1), if_neg (by omega), if_neg (by rw [hk]; exact c2), if_pos c3]) (by decide))
    obtain ⟨m, hm⟩ : ∃ m, m = sz r := ⟨_, rfl⟩
    rw [← hm] at CS hz c3
    obtain ⟨q, hq⟩ : ∃ q, q = fncnt (kd r) := ⟨_, rfl⟩
    rw [← hq] at CN
    have CN := Lib.hid CN
    have CS := Lib.hid CS
    have c4 : n - p < m := by omega
    clear hn hr s1 h hrl hb hx g0 g1 hy hk hq c3 hm hfn hsz c2 hrg
    go_enter Tryd.func15, Tryd.ntmps15
    go_upto_region 1 with fail
    rw [HW1.out]
    clear HW1
    go_wp2_with fail
    refine (CN.out _).mono ?_
    rintro e wx ⟨rfl, rfl⟩
    clear CN
    go_wp2_with fail
    refine (CS.out _).mono ?_
    rintro e wx ⟨rfl, rfl⟩
    clear CS
    have b0 := K0.cell (i := 0) rfl
    have z0 := K0.free 0
    have b1 := K0.cell (i := 1) rfl
    have z1 := K0.free 1
    have b2 := K0.cell (i := 2) rfl
    have z2 := K0.free 2
    have b3 := K0.cell (i := 3) rfl
    have z3 := K0.free 3
    have b4 := K0.cell (i := 4) rfl
    have z4 := K0.free 4
    have b5 := K0.cell (i := 5) rfl
    have z5 := K0.free 5
    go_wp2_with fail
    refine bodyPost_ret (v := .tuple #[fvs 0 0 0 0 0 0, .int .i64 0, .int .i64 5]) (res_three rfl rfl (blk_setF K0 _ _ _ _ _ _) Tryd.underlying25 rfl (by kernel_rfl) rfl rfl) rfl ?_
    exact FirstSaid.bad 5 HF.out (by decide) rfl (below_setF hB1 _ (Nat.le_refl _) _ _ _ _ _ _)
  have hlc : lcode r = 0 := by unfold lcode; rw [if_neg (by omega), if_neg (by rw [← hx]; exact c1), if_neg (by omega), if_neg (by rw [hk]; exact c2), if_neg c3]
  have hok := okB_sz r (by omega)
  have hbr : ∀ x ∈ r, x < 256 := fun x hx => hb x (List.mem_of_mem_drop (hr ▸ hx))
  have LT := Lib.hid (putB_lt (r.take (sz r - 4)) (mem_take hbr _))
  have LR := Lib.hid (mem_take hbr (sz r))
  have LP := Lib.hid (mem_take hbr (sz r - 4))
  have hnth : ∀ i, i < fncnt (kd r) → IntKind.i32.wrap (rdF bs (p + 8 + 4 * i) 4 : Nat) = nth r i := by
    intro i hi
    unfold nth
    rw [if_pos hi, hr, rdF_drop, Nat.add_assoc]
    rfl
  have hnend := nthC_end r
  have HNS := Lib.hid (nthC_set r)
  have HNA := Lib.hid (nthC_at r)
  have hn3 := fncnt_le (kd r)
  have e9 : fv (frm r) = fvs y (rdF bs (p + 2) 2 : Nat) (rdF bs (p + 4) 4 : Nat) (nth r 0) (nth r 1) (nth r 2) := by
    unfold frm fv
    rw [hr, rdF_drop, rdF_drop, ← hr, hk]
  have r1 : rdF bs (p + 2) 2 < 65536 := Nat.lt_of_lt_of_le (rdF_lt bs _ 2 hb) (by decide)
  have r2 : rdF bs (p + 4) 4 < 4294967296 := Nat.lt_of_lt_of_le (rdF_lt bs _ 4 hb) (by decide)
  have hs64 : sz r = 12 + 4 * fncnt (kd r) := rfl
  obtain ⟨a1, cc1, cut1, sc1, _, _⟩ := Sl.cut_mid Eu8 s1 p (sz r - 4) (by omega) (p : Int) ((p : Int) + (sz r : Nat) - 4) rfl (by omega)
  obtain ⟨a2, cc2, cut2, sc2, _, _⟩ := Sl.cut_mid Eu8 s1 p (sz r) (by omega) (p : Int) ((p : Int) + (sz r : Nat)) rfl rfl
  have et1 : u8s (r.take (sz r - 4)) = ((u8s bs).drop p).take (sz r - 4) := by rw [hr]; simp [u8s, List.map_take, List.map_drop]
  have et2 : u8s (r.take (sz r)) = ((u8s bs).drop p).take (sz r) := by rw [hr]; simp [u8s, List.map_take, List.map_drop]
  rw [← et1] at sc1
  rw [← et2] at sc2
  have hl1 : (r.take (sz r - 4)).length = sz r - 4 := by rw [List.length_take]; omega
  have Q2 : ∀ wx : World, Below w1.heap.size w1 wx → (convert 26 9 (.slice a2 (sz r) cc2)).run Tryd.prog wx = .ok (.string (strOf (r.take (sz r)))) wx := fun wx hwx => run_str (sc2.below hwx)
  have CP := refCrcPut_any (.slice a1 (sz r - 4) cc1) (r.take (sz r - 4)) w1.drew (by rw [hl1]; exact sc1) (by omega) (mem_take hbr _)
  rw [hl1] at CP
  obtain ⟨S2, hS2⟩ : ∃ S, S = strOf (r.take (sz r)) := ⟨_, rfl⟩
  obtain ⟨S1, hS1⟩ : ∃ S, S = strOf (putB (r.take (sz r - 4))) := ⟨_, rfl⟩
  rw [← hS2] at Q2
  have hcase : (okB (r.take (sz r)) = true ∧ S1 = S2) ∨ (okB (r.take (sz r)) = false ∧ (S1.toList == S2.toList) = false) := by
    cases hoc : okB (r.take (sz r))
    · refine .inr ⟨rfl, ?_⟩
      rw [hS1, hS2]
      refine strOf_ne _ _ LT.out LR.out (fun e => ?_)
      rw [hok, e] at hoc
      simp at hoc
    · refine .inl ⟨rfl, ?_⟩
      rw [hok] at hoc
      rw [hS1, hS2, eq_of_beq hoc]
  have QS1 : ∀ wx (a' : Option Addr) (m cap' : Nat), m = sz r - 4 + 4 → Sl wx 1 (.slice a' m cap') m (u8s (putB (r.take (sz r - 4)))) → (convert 26 9 (.slice a' m cap')).run Tryd.prog wx = .ok (.string S1) wx := fun wx a' m cap' _ hs => by rw [hS1]; exact run_str hs
  obtain ⟨tk, htk⟩ : ∃ l, l = u8s (putB (r.take (sz r - 4))) := ⟨_, rfl⟩
  rw [← htk] at CP QS1
  obtain ⟨m, hm⟩ : ∃ m, m = sz r := ⟨_, rfl⟩
  have HM := Lib.hid hm
  rw [← hm] at CS hz c3 cut1 cut2 Q2 CP QS1 hs64
  obtain ⟨q, hq⟩ : ∃ q, q = fncnt (kd r) := ⟨_, rfl⟩
  rw [← hq] at CN hnth hnend hn3 hs64
  have NTH := Lib.hid hnth
  have NEND := Lib.hid hnend
  have E9 := Lib.hid e9
  have CN := Lib.hid CN
  have CS := Lib.hid CS
  have CP := Lib.hid CP
  have hpm : p + m ≤ n := by omega
  have GET := Lib.hid (fun (i k : Nat) (hi : p + i + k ≤ n) (h1 : 1 ≤ k) (h7 : k ≤ 7) (wx : World) (hs : Sl wx 1 (.slice (some ⟨b, o, none⟩) n cap) n (u8s bs)) => refGet12_any (.slice (some ⟨b, o, none⟩) n cap) bs (p + i) k wx (by rw [← hn]; exact hs) h1 h7 (by omega) hb (by omega))
  have S1H := Lib.hid s1
  have HLC := Lib.hid hlc
  have HCASE := Lib.hid hcase
  have QS := Lib.hid QS1
  have Q2H := Lib.hid Q2
  have M4 := Lib.hid (show m - 4 + 4 = m by omega)
  have FSTY := Lib.hid (show okB (r.take (sz r)) = true → fst r = 0 from fun e => by unfold fst; rw [if_neg (by omega), if_pos e])
  have FSTN := Lib.hid (show okB (r.take (sz r)) = false → fst r = 4 from fun e => by unfold fst; rw [if_neg (by omega), if_neg (by rw [e]; decide)])
  have HS64 := Lib.hid hs64
  have wq1 : IntKind.i64.wrap ((p : Int) + (m : Int)) = (p : Int) + (m : Int) := by simp [IntKind.wrap, IntKind.bits, IntKind.signed]; omega
  have wq2 : IntKind.i64.wrap ((p : Int) + (m : Int) - 4) = (p : Int) + (m : Int) - 4 := by simp [IntKind.wrap, IntKind.bits, IntKind.signed]; omega
  clear hn hr s1 h hrl hb hs64 hx g0 g1 hy hk hq c3 hm hfn hsz c2 hrg hlc hok hbr hnth hnend e9 hcase QS1 htk hS1 hS2 et1 et2 sc1 sc2 hl1 Q2
  go_enter Tryd.func15, Tryd.ntmps15
  go_upto_region 1 with fail
  rw [HW1.out]
  clear HW1
  go_wp2_with fail
  refine (CN.out _).mono ?_
  rintro e wx ⟨rfl, rfl⟩
  go_wp2_with fail
  refine (CS.out _).mono ?_
  rintro e wx ⟨rfl, rfl⟩
  clear CS
  go_wp2_with fail
  refine wp_region_held_drew (S := (fun w' : World => (convert 26 9 (.slice a2 m cc2)).run Tryd.prog w' = .ok (.string S2) w')) (by kernel_rfl) ((Q2H.out _ (Below.refl _ _).drew)) (fun hHeld => ?_)
  refine wpAnyH_take (i := 0) (v := ?v1) rfl (by kernel_rfl) (by kernel_rfl) (by kernel_rfl) (fun _ _ _ h => h) (Or.inl ⟨by rfl, ?hy1⟩) hHeld ?rest1
  case hy1 => (intro w' hSw; (try dsimp only at hSw); go_simp; (try with_reducible rfl))
  try simp only [Act.put, List.setIfInBounds_toArray, List.set_cons_zero, List.set_cons_succ, List.getElem_toArray, List.getElem_cons_zero, List.getElem_cons_succ]
  refine wpAnyH_take (i := 1) (v := ?v2) rfl (by kernel_rfl) (by kernel_rfl) (by kernel_rfl) (fun _ _ _ h => h) (Or.inl ⟨by rfl, ?hy2⟩) hHeld ?rest2
  case hy2 => (intro w' hSw; (try dsimp only at hSw); go_simp; (try with_reducible rfl))
  try simp only [Act.put, List.setIfInBounds_toArray, List.set_cons_zero, List.set_cons_succ, List.getElem_toArray, List.getElem_cons_zero, List.getElem_cons_succ]
  refine wpAnyH_take (i := 2) (v := ?v3) rfl (by kernel_rfl) (by kernel_rfl) (by kernel_rfl) (fun _ _ _ h => h) (Or.inl ⟨by rfl, ?hy3⟩) hHeld ?rest3
  case hy3 => (intro w' hSw; (try dsimp only at hSw); go_simp; (try with_reducible rfl))
  try simp only [Act.put, List.setIfInBounds_toArray, List.set_cons_zero, List.set_cons_succ, List.getElem_toArray, List.getElem_cons_zero, List.getElem_cons_succ]
  refine wpAnyH_take (i := 3) (v := ?v4) rfl (by kernel_rfl) (by kernel_rfl) (by kernel_rfl) (fun _ _ _ h => h) (Or.inl ⟨by rfl, ?hy4⟩) hHeld ?rest4
  case hy4 => (intro w' hSw; (try dsimp only at hSw); go_simp; (try with_reducible rfl))
  try simp only [Act.put, List.setIfInBounds_toArray, List.set_cons_zero, List.set_cons_succ, List.getElem_toArray, List.getElem_cons_zero, List.getElem_cons_succ]
  refine wpAnyH_take (i := 4) (v := ?v5) rfl (by kernel_rfl) (by kernel_rfl) (by kernel_rfl) (fun _ _ _ h => h) (Or.inl ⟨by rfl, ?hy5⟩) hHeld ?rest5
  case hy5 => (intro w' hSw; (try dsimp only at hSw); go_simp; (try with_reducible rfl))
  try simp only [Act.put, List.setIfInBounds_toArray, List.set_cons_zero, List.set_cons_succ, List.getElem_toArray, List.getElem_cons_zero, List.getElem_cons_succ]
  refine wpAnyH_take (i := 5) (v := ?v6) rfl (by kernel_rfl) (by kernel_rfl) (by kernel_rfl) (fun _ _ _ h => h) (Or.inl ⟨by rfl, ?hy6⟩) hHeld ?rest6
  case hy6 => (intro w' hSw; (try dsimp only at hSw); go_simp; (try with_reducible rfl))
  try simp only [Act.put, List.setIfInBounds_toArray, List.set_cons_zero, List.set_cons_succ, List.getElem_toArray, List.getElem_cons_zero, List.getElem_cons_succ]
  refine wpAnyH_take (i := 6) (v := ?v7) rfl (by kernel_rfl) (by kernel_rfl) (by kernel_rfl) (fun _ _ _ h => h) (Or.inl ⟨by rfl, ?hy7⟩) hHeld ?rest7
  case hy7 => (intro w' hSw; (try dsimp only at hSw); go_simp; (try with_reducible rfl))
  try simp only [Act.put, List.setIfInBounds_toArray, List.set_cons_zero, List.set_cons_succ, List.getElem_toArray, List.getElem_cons_zero, List.getElem_cons_succ]
  refine wpAnyH_take (i := 9) (v := ?v8) rfl (by kernel_rfl) (by kernel_rfl) (by kernel_rfl) (fun _ _ _ h => h) (Or.inl ⟨by rfl, ?hy8⟩) hHeld ?rest8
  case hy8 => (intro w' hSw; (try dsimp only at hSw); go_simp; (try with_reducible rfl))
  try simp only [Act.put, List.setIfInBounds_toArray, List.set_cons_zero, List.set_cons_succ, List.getElem_toArray, List.getElem_cons_zero, List.getElem_cons_succ]
  refine wpAnyH_take (i := 10) (v := ?v9) rfl (by kernel_rfl) (by kernel_rfl) (by kernel_rfl) (fun _ _ _ h => h) (Or.inl ⟨by rfl, ?hy9⟩) hHeld ?rest9
  case hy9 => (intro w' hSw; (try dsimp only at hSw); go_simp; (try with_reducible rfl))
  try simp only [Act.put, List.setIfInBounds_toArray, List.set_cons_zero, List.set_cons_succ, List.getElem_toArray, List.getElem_cons_zero, List.getElem_cons_succ]
  refine wpAnyH_take (i := 11) (v := ?v10) rfl (by kernel_rfl) (by kernel_rfl) (by kernel_rfl) (fun _ _ _ h => h) (Or.inl ⟨by rfl, ?hy10⟩) hHeld ?rest10
  case hy10 => (intro w' hSw; (try dsimp only at hSw); go_simp; (try with_reducible rfl))
  try simp only [Act.put, List.setIfInBounds_toArray, List.set_cons_zero, List.set_cons_succ, List.getElem_toArray, List.getElem_cons_zero, List.getElem_cons_succ]
  refine wpAnyH_take (i := 12) (v := ?v11) rfl (by kernel_rfl) (by kernel_rfl) (by kernel_rfl) (fun _ _ _ h => h) (Or.inl ⟨by rfl, ?hy11⟩) hHeld ?rest11
  case hy11 => (intro w' hSw; (try dsimp only at hSw); go_simp; (try with_reducible rfl))
  try simp only [Act.put, List.setIfInBounds_toArray, List.set_cons_zero, List.set_cons_succ, List.getElem_toArray, List.getElem_cons_zero, List.getElem_cons_succ]
  refine wpAnyH_take (i := 13) (v := ?v12) rfl (by kernel_rfl) (by kernel_rfl) (by kernel_rfl) (fun _ _ _ h => h) (Or.inl ⟨by rfl, ?hy12⟩) hHeld ?rest12
  case hy12 => (intro w' hSw; (try dsimp only at hSw); go_simp; (try with_reducible rfl))
  try simp only [Act.put, List.setIfInBounds_toArray, List.set_cons_zero, List.set_cons_succ, List.getElem_toArray, List.getElem_cons_zero, List.getElem_cons_succ]
  refine wpAnyH_take (i := 14) (v := ?v13) rfl (by kernel_rfl) (by kernel_rfl) (by kernel_rfl) (fun _ _ _ h => h) (Or.inl ⟨by rfl, ?hy13⟩) hHeld ?rest13
  case hy13 => (intro w' hSw; (try dsimp only at hSw); go_simp; (try with_reducible rfl))
  try simp only [Act.put, List.setIfInBounds_toArray, List.set_cons_zero, List.set_cons_succ, List.getElem_toArray, List.getElem_cons_zero, List.getElem_cons_succ]
  refine wpAnyH_take (i := 15) (v := ?v14) rfl (by kernel_rfl) (by kernel_rfl) (by kernel_rfl) (fun _ _ _ h => h) (Or.inl ⟨by rfl, ?hy14⟩) hHeld ?rest14
  case hy14 => (intro w' hSw; (try dsimp only at hSw); go_simp; (try with_reducible rfl))
  try simp only [Act.put, List.setIfInBounds_toArray, List.set_cons_zero, List.set_cons_succ, List.getElem_toArray, List.getElem_cons_zero, List.getElem_cons_succ]
  refine wpAnyH_ready (rs := [7]) (by kernel_rfl) (by simp) ?_
  refine AllReadyH.cons rfl (fun K hK => ?_) AllReadyH.nil
  go_simp
  refine CP.out.mono ?_
  rintro e w2 ⟨v2, rfl, ho2, hB2⟩
  obtain ⟨ax, cx, rfl, _, _⟩ := ownsRow_slice ho2
  have q1 := QS.out w2 ax (m - 4 + 4) cx rfl (Sl.of_own ho2)
  clear CP
  try go_wp2_with fail
  refine hK.out _ _ (Q2H.out _ ((Below.refl _ _).drew.trans hB2)) (fun hHeld => ?_)
  clear hK K
  try simp only [Act.put, List.setIfInBounds_toArray, List.set_cons_zero, List.set_cons_succ, List.getElem_toArray, List.getElem_cons_zero, List.getElem_cons_succ]
  refine wpAnyH_ready (rs := [8]) (by kernel_rfl) (by simp) ?_
  refine AllReadyH.cons rfl (fun K hK => ?_) AllReadyH.nil
  go_simp
  try go_wp2_with fail
  refine hK.out _ _ (Q2H.out _ ((Below.refl _ _).drew.trans hB2)) (fun hHeld => ?_)
  clear hK K
  try simp only [Act.put, List.setIfInBounds_toArray, List.set_cons_zero, List.set_cons_succ, List.getElem_toArray, List.getElem_cons_zero, List.getElem_cons_succ]
  refine wpAnyH_take (i := 16) (v := ?v17) rfl (by kernel_rfl) (by kernel_rfl) (by kernel_rfl) (fun _ _ _ h => h) (Or.inl ⟨by rfl, ?hy17⟩) hHeld ?rest17
  case hy17 => (intro w' hSw; (try dsimp only at hSw); go_simp; (try with_reducible rfl))
  try simp only [Act.put, List.setIfInBounds_toArray, List.set_cons_zero, List.set_cons_succ, List.getElem_toArray, List.getElem_cons_zero, List.getElem_cons_succ]
  refine wpAnyH_done (by kernel_rfl) ?_ _
  replace hB2 : Below w1.heap.size w1 w2 := (Below.refl _ _).drew.trans hB2
  replace K0 := K0.below hB2 K0.lt
  have hB := hB1.trans (hB2.mono hB1.size)
  have s2 := Lib.hid (S1H.out.below hB2)
  have hbl2 : b < w2.heap.size := Nat.lt_of_lt_of_le hbl hB2.size
  clear q1 ho2 hB1 hB2 cut1 cut2 d0 d1 Q2H QS S1H
  rcases HCASE.out with ⟨hok, hse⟩ | ⟨hok, hne⟩
  case inr =>
    rw [hne]
    have HF := Lib.hid (FSTN.out hok)
    clear hok HCASE
    have b0 := K0.cell (i := 0) rfl
    have z0 := K0.free 0
    have b1 := K0.cell (i := 1) rfl
    have z1 := K0.free 1
    have b2 := K0.cell (i := 2) rfl
    have z2 := K0.free 2
    have b3 := K0.cell (i := 3) rfl
    have z3 := K0.free 3
    have b4 := K0.cell (i := 4) rfl
    have z4 := K0.free 4
    have b5 := K0.cell (i := 5) rfl
    have z5 := K0.free 5
    go_wp2_with fail
    refine bodyPost_ret (v := .tuple #[fvs 0 0 0 0 0 0, .int .i64 0, .int .i64 4]) (res_three rfl rfl (blk_setF K0 _ _ _ _ _ _) Tryd.underlying25 rfl (by kernel_rfl) rfl rfl) rfl ?_
    exact FirstSaid.bad 4 HF.out (by decide) rfl (below_setF hB _ (Nat.le_refl _) _ _ _ _ _ _)
  case inl =>
    rw [show (S1.toList == S2.toList) = true by rw [hse]; simp]
    clear hse
    have HF := Lib.hid (FSTY.out hok)
    clear hok HCASE
    have C1 := GET.out 2 2 (by omega) (by decide) (by decide) w2 s2.out
    have C2 := GET.out 4 4 (by omega) (by decide) (by decide) w2 s2.out
    rw [show ((p + 2 : Nat) : Int) = (p : Int) + 2 by omega] at C1
    rw [show ((p + 4 : Nat) : Int) = (p : Int) + 4 by omega] at C2
    replace C1 := Lib.hid C1
    replace C2 := Lib.hid C2
    obtain ⟨q1, hq1⟩ : ∃ q, q = rdF bs (p + 2) 2 := ⟨_, rfl⟩
    obtain ⟨q2, hq2⟩ : ∃ q, q = rdF bs (p + 4) 4 := ⟨_, rfl⟩
    rw [← hq1] at r1 C1 E9
    rw [← hq2] at r2 C2 E9
    have f1 : IntKind.u16.wrap (q1 : Int) = (q1 : Int) := by simp [IntKind.wrap, IntKind.bits, IntKind.signed]; omega
    have f2 : IntKind.u32.wrap (q2 : Int) = (q2 : Int) := by simp [IntKind.wrap, IntKind.bits, IntKind.signed]; omega
    clear hq1 hq2
    go_wp2_with fail
    refine C1.out.mono ?_
    rintro e wx ⟨rfl, rfl⟩
    clear C1
    go_wp2_with fail
    refine C2.out.mono ?_
    rintro e wx ⟨rfl, rfl⟩
    clear C2
    obtain ⟨w3, hw3⟩ : ∃ w3, w2.alloc (.cells #[.int .i64 y, .int .u16 q1, .int .u32 q2, .int .i32 0, .int .i32 0, .int .i32 0] 25) = w3 := ⟨_, rfl⟩
    obtain ⟨w4, hw4⟩ : ∃ w4, w3.alloc (.cells #[.int .i32 0, .int .i32 0, .int .i32 0] 51) = w4 := ⟨_, rfl⟩
    have hs3 : w3.heap.size = w2.heap.size + 1 := by rw [← hw3]; simp
    have hB4 : Below w2.heap.size w2 w4 := by rw [← hw4, ← hw3]; exact ((Below.refl _ _).alloc (Nat.le_refl _) _).alloc (by simp) _
    have K2 : Blk w4 w2.heap.size 25 (fcs y q1 q2 0 0 0) := by rw [← hw4, ← hw3]; exact (Blk.new w2 _ _).alloc _
    have K3 : Blk w4 (w2.heap.size + 1) 51 (nthC r 0) := by rw [← hw4, ← hs3]; exact Blk.new w3 _ [.int .i32 0, .int .i32 0, .int .i32 0]
    have s4 := s2.out.below hB4
    have HW3 := Lib.hid hw3
    have HW4 := Lib.hid hw4
    have HS3 := Lib.hid hs3
    have K0' := K0.below hB4 K0.lt
    have hBw := hB.trans (hB4.mono hB.size)
    have hg0 := K0.lt
    clear hw3 hw4 hs3 s2
    go_upto_region 18 with fail
    rw [HW3.out]
    go_upto_region 19 with fail
    rw [HS3.out, HW4.out]
    clear HW3 HW4 HS3 K0 hB hB4
    go_wp2_with fail
    go_loopw [15] (fun c wr => ∃ i : Nat, i ≤ q ∧ c = .int .i64 i ∧ Blk wr (w2.heap.size + 1) 51 (nthC r i) ∧ Blk wr w2.heap.size 25 (fcs y q1 q2 0 0 0) ∧ Blk wr w.heap.size 25 [.int .i64 0, .int .u16 0, .int .u32 0, .int .i32 0, .int .i32 0, .int .i32 0] ∧ Below w.heap.size w wr ∧ Sl wr 1 (.slice (some ⟨b, o, none⟩) n cap) n (u8s bs)) (fun c _ => q - (intOf c).toNat)
    case atStart => exact ⟨0, Nat.zero_le _, rfl, K3, K2, K0', hBw, s4⟩
    case round =>
      clear K3 K2 K0' hBw s4
      obtain ⟨i, hi, rfl, K3, K2, K0, hB, hS⟩ := hrel
      by_cases hlt : i < q
      · have CR : Calls Tryd.prog 30 #[.slice (some ⟨b, o, none⟩) n cap, .int .i64 ((p : Int) + 8 + 4 * (i : Int)), .int .i64 4] wr fun e w' => e = .returned (.tuple #[.int .u64 (rdF bs (p + 8 + 4 * i) 4 : Nat), .int .i64 0]) ∧ wr = w' := by
          have := GET.out (8 + 4 * i) 4 (by have := HS64.out; omega) (by decide) (by decide) wr hS
          rw [← Nat.add_assoc, show ((p + 8 + 4 * i : Nat) : Int) = (p : Int) + 8 + 4 * (i : Int) by omega] at this
          exact this
        have hc := K3.cell (i := i) (HNA.out i (by omega))
        have hf := K3.free i
        have hset := K3.set i (.int .i32 (nth r i)) (by rw [nthC_len]; omega)
        rw [HNS.out i (by omega)] at hset
        have hnt := NTH.out i hlt
        have K0' := K0.other ⟨w2.heap.size + 1, i, none⟩ (.int .i32 (nth r i)) (by simp; omega)
        have K2' := K2.other ⟨w2.heap.size + 1, i, none⟩ (.int .i32 (nth r i)) (by simp)
        have hB' := hB.setCell (p := ⟨w2.heap.size + 1, i, none⟩) (by simp; omega) (.int .i32 (nth r i))
        have hS' : Sl (wr.setCell ⟨w2.heap.size + 1, i, none⟩ (.int .i32 (nth r i))) 1 (.slice (some ⟨b, o, none⟩) n cap) n (u8s bs) := hS.turned ((Turned.refl (fun k => k = w2.heap.size + 1) wr).setCell (.inl rfl) _) (by intro x hx hxb; cases hx; simp at hxb; omega)
        have hrb : rdF bs (p + 8 + 4 * i) 4 < 4294967296 := Nat.lt_of_lt_of_le (rdF_lt bs _ 4 HB.out) (by decide)
        obtain ⟨rr, hrr⟩ : ∃ r, r = rdF bs (p + 8 + 4 * i) 4 := ⟨_, rfl⟩
        obtain ⟨x, hx⟩ : ∃ x, x = nth r i := ⟨_, rfl⟩
        rw [← hrr] at CR hnt hrb
        rw [← hx] at hnt hset K0' K2' hB' hS'
        have f3 : IntKind.u32.wrap (rr : Int) = (rr : Int) := by simp [IntKind.wrap, IntKind.bits, IntKind.signed]; omega
        have CR := Lib.hid CR
        have HQ := Lib.hid (show Blk (wr.setCell ⟨w2.heap.size + 1, i, none⟩ (.int .i32 x)) (w2.heap.size + 1) 51 (nthC r (i + 1)) ∧ Blk (wr.setCell ⟨w2.heap.size + 1, i, none⟩ (.int .i32 x)) w2.heap.size 25 (fcs y q1 q2 0 0 0) ∧ Blk (wr.setCell ⟨w2.heap.size + 1, i, none⟩ (.int .i32 x)) w.heap.size 25 [.int .i64 0, .int .u16 0, .int .u32 0, .int .i32 0, .int .i32 0, .int .i32 0] ∧ Below w.heap.size w (wr.setCell ⟨w2.heap.size + 1, i, none⟩ (.int .i32 x)) ∧ Sl (wr.setCell ⟨w2.heap.size + 1, i, none⟩ (.int .i32 x)) 1 (.slice (some ⟨b, o, none⟩) n cap) n (u8s bs) from ⟨hset, K2', K0', hB', hS'⟩)
        clear hset K0' K2' hB' hS' K3 K2 K0 hB hS hrr hx
        go_wp2_with fail
        refine (CN.out _).mono ?_
        rintro e wx ⟨rfl, rfl⟩
        go_wp2_with fail
        refine CR.out.mono ?_
        rintro e wx ⟨rfl, rfl⟩
        clear CR
        go_wp2_with fail
        go_roundw
        case rel => exact ⟨i + 1, by omega, by go_num, HQ.out⟩
        case measure => simp [intOf]; omega
      · obtain rfl : i = q := by omega
        rw [NEND.out] at K3
        obtain ⟨x0, hx0⟩ : ∃ q, q = nth r 0 := ⟨_, rfl⟩
        obtain ⟨x1, hx1⟩ : ∃ q, q = nth r 1 := ⟨_, rfl⟩
        obtain ⟨x2, hx2⟩ : ∃ q, q = nth r 2 := ⟨_, rfl⟩
        rw [← hx0, ← hx1, ← hx2] at K3 E9
        have a0 := K3.cell (i := 0) rfl
        have a1' := K3.cell (i := 1) rfl
        have a2' := K3.cell (i := 2) rfl
        have y0 := K2.cell (i := 0) rfl
        have y1 := K2.cell (i := 1) rfl
        have y2 := K2.cell (i := 2) rfl
        have y3 := K2.cell (i := 3) rfl
        have y4 := K2.cell (i := 4) rfl
        have y5 := K2.cell (i := 5) rfl
        have u3 := K2.free 3
        have u4 := K2.free 4
        have u5 := K2.free 5
        have K2' : Blk (((wr.setCell ⟨w2.heap.size, 3, none⟩ (.int .i32 x0)).setCell ⟨w2.heap.size, 4, none⟩ (.int .i32 x1)).setCell ⟨w2.heap.size, 5, none⟩ (.int .i32 x2)) w2.heap.size 25 (fcs y q1 q2 x0 x1 x2) := ((K2.set 3 (.int .i32 x0) (by simp)).set 4 (.int .i32 x1) (by simp)).set 5 (.int .i32 x2) (by simp)
        have K3' : Blk (((wr.setCell ⟨w2.heap.size, 3, none⟩ (.int .i32 x0)).setCell ⟨w2.heap.size, 4, none⟩ (.int .i32 x1)).setCell ⟨w2.heap.size, 5, none⟩ (.int .i32 x2)) w.heap.size 25 [.int .i64 0, .int .u16 0, .int .u32 0, .int .i32 0, .int .i32 0, .int .i32 0] := ((K0.other _ _ (by simp; omega)).other _ _ (by simp; omega)).other _ _ (by simp; omega)
        have hB' := ((hB.setCell (p := ⟨w2.heap.size, 3, none⟩) (by simp; omega) (.int .i32 x0)).setCell (p := ⟨w2.heap.size, 4, none⟩) (by simp; omega) (.int .i32 x1)).setCell (p := ⟨w2.heap.size, 5, none⟩) (by simp; omega) (.int .i32 x2)
        obtain ⟨w6, hw6⟩ : ∃ w6, ((wr.setCell ⟨w2.heap.size, 3, none⟩ (.int .i32 x0)).setCell ⟨w2.heap.size, 4, none⟩ (.int .i32 x1)).setCell ⟨w2.heap.size, 5, none⟩ (.int .i32 x2) = w6 := ⟨_, rfl⟩
        rw [hw6] at K2' K3' hB'
        have HW6 := Lib.hid hw6
        clear hw6 hx0 hx1 hx2 NTH NEND GET hS HNS HNA
        go_wp2_with fail
        refine (CN.out _).mono ?_
        rintro e wx ⟨rfl, rfl⟩
        go_upto_region 27 with fail
        rw [HW6.out]
        clear HW6 a0 a1' a2' y0 y1 y2 y3 y4 y5 u3 u4 u5 K3 K2 K0 hB
        have y0 := K2'.cell (i := 0) rfl
        have y1 := K2'.cell (i := 1) rfl
        have y2 := K2'.cell (i := 2) rfl
        have y3 := K2'.cell (i := 3) rfl
        have y4 := K2'.cell (i := 4) rfl
        have y5 := K2'.cell (i := 5) rfl
        have b0 := K3'.cell (i := 0) rfl
        have z0 := K3'.free 0
        have b1 := K3'.cell (i := 1) rfl
        have z1 := K3'.free 1
        have b2 := K3'.cell (i := 2) rfl
        have z2 := K3'.free 2
        have b3 := K3'.cell (i := 3) rfl
        have z3 := K3'.free 3
        have b4 := K3'.cell (i := 4) rfl
        have z4 := K3'.free 4
        have b5 := K3'.cell (i := 5) rfl
        have z5 := K3'.free 5
        go_wp2_with fail
        refine bodyPost_ret (v := .tuple #[fvs y q1 q2 x0 x1 x2, .int .i64 m, .int .i64 0]) (res_three rfl rfl (blk_setF K3' _ _ _ _ _ _) Tryd.underlying25 rfl (by kernel_rfl) rfl rfl) rfl ?_
        exact FirstSaid.good HF.out (by rw [E9.out, ← HM.out]) (below_setF hB' _ (Nat.le_refl _) _ _ _ _ _ _)
end Go.Proofs.YtfkncfjdgbgeeaaDoor
