/-
  A frame read out of its bytes; the frame with which bytes begin: the code's.
-/
import Derived.Test.YtfkncfjdgbgeeaaDoorFrameA
import Derived.Outline
import Derived.Deep.RegionHeld3
import Derived.Deep.Cut
set_option linter.unusedVariables false
set_option linter.unusedSimpArgs false
namespace Go.Proofs.YtfkncfjdgbgeeaaDoor
open Go Go.RowKit Go.Th Go.Th.Crc

abbrev fcs (k : Int) (s t : Int) (a b c : Int) : List Value := [.int .i64 k, .int .u16 s, .int .u32 t, .int .i32 a, .int .i32 b, .int .i32 c]
/-- A frame's cells, and a frame as a value. -/
abbrev fc (f : Fr) : List Value := fcs f.k f.s f.t f.a f.b f.c
abbrev fvs (k : Int) (s t : Int) (a b c : Int) : Value := .agg #[.int .i64 k, .int .u16 s, .int .u32 t, .int .i32 a, .int .i32 b, .int .i32 c]
abbrev fv (f : Fr) : Value := fvs f.k f.s f.t f.a f.b f.c

/-- A struct of six cells stored. -/
abbrev setF (w : World) (g : Nat) (v0 v1 v2 v3 v4 v5 : Value) : World :=
  (((((w.setCell ⟨g, 0, none⟩ v0).setCell ⟨g, 1, none⟩ v1).setCell ⟨g, 2, none⟩ v2).setCell ⟨g, 3, none⟩ v3).setCell ⟨g, 4, none⟩ v4).setCell ⟨g, 5, none⟩ v5
theorem blk_setF {w : World} {g : Nat} {t : TypeId} {c0 c1 c2 c3 c4 c5 : Value} (K : Blk w g t [c0, c1, c2, c3, c4, c5]) (v0 v1 v2 v3 v4 v5 : Value) : Blk (setF w g v0 v1 v2 v3 v4 v5) g t [v0, v1, v2, v3, v4, v5] :=
  (((((K.set 0 v0 (by simp)).set 1 v1 (by simp)).set 2 v2 (by simp)).set 3 v3 (by simp)).set 4 v4 (by simp)).set 5 v5 (by simp)
theorem turned_setF (w : World) (g : Nat) (v0 v1 v2 v3 v4 v5 : Value) : Turned (fun k => k = g) w (setF w g v0 v1 v2 v3 v4 v5) :=
  ((((((Turned.refl (fun k => k = g) w).setCell (.inl rfl) v0).setCell (.inl rfl) v1).setCell (.inl rfl) v2).setCell (.inl rfl) v3).setCell (.inl rfl) v4).setCell (.inl rfl) v5
theorem below_setF {B : Nat} {w w' : World} (h : Below B w w') (g : Nat) (hg : B ≤ g) (v0 v1 v2 v3 v4 v5 : Value) : Below B w (setF w' g v0 v1 v2 v3 v4 v5) :=
  (((((h.setCell (p := ⟨g, 0, none⟩) hg v0).setCell (p := ⟨g, 1, none⟩) hg v1).setCell (p := ⟨g, 2, none⟩) hg v2).setCell (p := ⟨g, 3, none⟩) hg v3).setCell (p := ⟨g, 4, none⟩) hg v4).setCell (p := ⟨g, 5, none⟩) hg v5

/-- A struct that is handed back. -/
theorem res_one {P : Program} {fn : Func} {p : Tmp} {ty : TypeId} (h : fn.results = #[.cell p ty]) {tmps : Array Value} {w : World} {g : Nat} {t : TypeId} {cs : List Value} {d : TypeDesc}
    (hp : tmps.getD p undef = .pointer (some ⟨g, 0, none⟩)) (K : Blk w g t cs) (hu : P.underlying ty = some d) (hd : (match d with | .struct _ | .array _ _ => true | _ => false) = true) (hi : (P.info? ty).map (·.size) = some cs.length) :
    (results fn tmps).run P w = .ok (.agg cs.toArray) w :=
  results_cell_row h tmps w g t cs.toArray (0, 0) d hp K hu hd (by simpa using hi)
/-- A struct and two values that are handed back. -/
theorem res_three {P : Program} {fn : Func} {p q r : Tmp} {ty : TypeId} (h : fn.results = #[.cell p ty, .tmp q, .tmp r]) {tmps : Array Value} {w : World} {g : Nat} {t : TypeId} {cs : List Value} {d : TypeDesc} {u v : Value}
    (hp : tmps.getD p undef = .pointer (some ⟨g, 0, none⟩)) (K : Blk w g t cs) (hu : P.underlying ty = some d) (hd : (match d with | .struct _ | .array _ _ => true | _ => false) = true) (hi : (P.info? ty).map (·.size) = some cs.length) (hq : tmps.getD q undef = u) (hr : tmps.getD r undef = v) :
    (results fn tmps).run P w = .ok (.tuple #[.agg cs.toArray, u, v]) w := by
  have hp' : tmps[p]?.getD undef = .pointer (some ⟨g, 0, none⟩) := by simpa using hp
  have hq' : tmps[q]?.getD undef = u := by simpa using hq
  have hr' : tmps[r]?.getD undef = v := by simpa using hr
  simp [results, h, hp', hq', hr', asAddr, run_loadVar_row w g t ty cs.toArray (0, 0) d K hu hd (by simpa using hi)]

/-- The three numbers behind so many rounds. -/
def nthC (ps : List Nat) (j : Nat) : List Value := (List.range 3).map fun i => .int .i32 (if i < j then nth ps i else 0)
theorem nthC_set (ps : List Nat) (j : Nat) (h : j < 3) : (nthC ps j).set j (.int .i32 (nth ps j)) = nthC ps (j + 1) := by
  match j, h with
  | 0, _ => simp [nthC, List.range, List.range.loop]
  | 1, _ => simp [nthC, List.range, List.range.loop]
  | 2, _ => simp [nthC, List.range, List.range.loop]
theorem nthC_at (ps : List Nat) (j : Nat) (h : j < 3) : (nthC ps j)[j]? = some (.int .i32 0) := by
  match j, h with
  | 0, _ => simp [nthC, List.range, List.range.loop]
  | 1, _ => simp [nthC, List.range, List.range.loop]
  | 2, _ => simp [nthC, List.range, List.range.loop]
theorem nthC_len (ps : List Nat) (j : Nat) : (nthC ps j).length = 3 := by simp [nthC]
theorem nthC_end (ps : List Nat) : nthC ps (fncnt (kd ps)) = [.int .i32 (nth ps 0), .int .i32 (nth ps 1), .int .i32 (nth ps 2)] := by
  have : ∀ i, (if i < fncnt (kd ps) then nth ps i else 0) = nth ps i := by
    intro i
    split
    · rfl
    · unfold nth; rw [if_neg (by assumption)]
  simp [nthC, List.range, List.range.loop, this]

set_option maxRecDepth 20000 in
set_option maxHeartbeats 3200000 in
theorem readF_any (vx : Value) (ps : List Nat) (hk : 0 ≤ fcnt (kd ps)) (hlen : ps.length = 8 + 4 * fncnt (kd ps)) (hb : ∀ x ∈ ps, x < 256) (w : World) (C : Cts w) (h : Sl w 1 vx ps.length (u8s ps)) :
    Calls Tryd.prog 28 #[vx] w fun e w' => e = .returned (fv (frm ps)) ∧ Below w.heap.size w w' := by
  obtain ⟨a, cap, rfl⟩ := sl_slice h
  have hn3 := fncnt_le (kd ps)
  obtain ⟨b, o, rfl, d0⟩ := sl_cell h 1 (by omega)
  have g1 : ∀ bs1, bs1 = ps[1]'(by omega) → kd ps = (bs1 : Nat) := by
    rintro _ rfl
    unfold kd
    rw [List.getD_eq_getElem?_getD, List.getElem?_eq_getElem (by omega)]; rfl
  have hy2 := hb _ (List.getElem_mem (show 1 < ps.length by omega))
  obtain ⟨y, hy⟩ : ∃ y, y = ps[1]'(by omega) := ⟨_, rfl⟩
  rw [← hy] at d0 hy2
  have hky := g1 y hy
  clear g1 hy
  have hbl := World.block_lt_of_cell? w _ d0
  have CN := fun (at_ size : Nat) (h4 : size ≤ 8) (hyes : at_ + size ≤ ps.length) wx hs => num12_any (.slice (some ⟨b, o, none⟩) ps.length cap) ps at_ size h4 (by omega) hb hyes wx hs
  obtain ⟨w1, hw1⟩ : ∃ w1, w.alloc (.cells #[.int .i64 0, .int .u16 0, .int .u32 0, .int .i32 0, .int .i32 0, .int .i32 0] 25) = w1 := ⟨_, rfl⟩
  have hB1 : Below w.heap.size w w1 := by rw [← hw1]; exact (Below.refl _ _).alloc (Nat.le_refl _) _
  have K0 : Blk w1 w.heap.size 25 [.int .i64 0, .int .u16 0, .int .u32 0, .int .i32 0, .int .i32 0, .int .i32 0] := by rw [← hw1]; exact Blk.new w _ _
  have hs1 : w1.heap.size = w.heap.size + 1 := by rw [← hw1]; simp
  obtain ⟨w2, hw2⟩ : ∃ w2, w1.alloc (.cells #[.int .i32 0, .int .i32 0, .int .i32 0] 51) = w2 := ⟨_, rfl⟩
  have hB2 : Below w.heap.size w w2 := by rw [← hw2]; exact hB1.alloc (by omega) _
  have K1 : Blk w2 w1.heap.size 51 (nthC ps 0) := by rw [← hw2]; exact Blk.new w1 _ [.int .i32 0, .int .i32 0, .int .i32 0]
  replace K0 : Blk w2 w.heap.size 25 [.int .i64 0, .int .u16 0, .int .u32 0, .int .i32 0, .int .i32 0, .int .i32 0] := by rw [← hw2]; exact K0.alloc _
  have d1 := (hB1.cell (p := ⟨b, o + 1, none⟩) hbl).trans d0
  rw [hs1] at K1
  have HS1 := Lib.hid hs1
  have HW1 := Lib.hid hw1
  have HW2 := Lib.hid hw2
  have C2 := Lib.hid (C.below hB2)
  have hm : (y : Int) = kd ps := hky.symm
  have CK := numbers_any (kd ps) w2 (C.below hB2)
  rw [← hm] at CK
  have hfn : fcnt (y : Int) = (fncnt (kd ps) : Nat) := by rw [hm]; unfold fncnt; omega
  rw [hfn] at CK
  obtain ⟨n, hn⟩ : ∃ n, n = fncnt (kd ps) := ⟨_, rfl⟩
  rw [← hn] at CK hn3 hlen
  have HNN := Lib.hid hn
  have CK := Lib.hid CK
  have CNH := Lib.hid CN
  have HK := Lib.hid hky
  have h2 := Lib.hid (h.below hB2)
  have HLEN := Lib.hid hlen
  have hl32 : ps.length ≤ 32 := by omega
  have hl8 : 8 ≤ ps.length := by omega
  have HB := Lib.hid hb
  clear hw1 hw2 hs1 CN hfn hm hky hn hB1 h hk d0 hlen hb C
  go_enter Tryd.func28, Tryd.ntmps28
  go_upto_region 1 with fail
  rw [HW1.out]
  go_upto_region 3 with fail
  rw [HS1.out]
  rw [HW2.out]
  clear d1 HW1 HW2
  go_wp2_with fail
  refine CK.out.mono ?_
  rintro e wx ⟨rfl, rfl⟩
  clear CK
  go_wp2_with fail
  go_loopw [12] (fun c wr => ∃ i : Nat, i ≤ n ∧ c = .int .i64 i ∧ Blk wr (w.heap.size + 1) 51 (nthC ps i) ∧ Blk wr w.heap.size 25 [.int .i64 0, .int .u16 0, .int .u32 0, .int .i32 0, .int .i32 0, .int .i32 0] ∧ Below w.heap.size w wr ∧ Sl wr 1 (.slice (some ⟨b, o, none⟩) ps.length cap) ps.length (u8s ps)) (fun c _ => n - (intOf c).toNat)
  case atStart => exact ⟨0, Nat.zero_le _, rfl, K1, K0, hB2, h2.out⟩
  case round =>
    clear K1 K0 hB2 h2 C2
    obtain ⟨i, hi, rfl, K1, K0, hB, hS⟩ := hrel
    by_cases hlt : i < n
    · have CR : Calls Tryd.prog 38 #[.slice (some ⟨b, o, none⟩) ps.length cap, .int .i64 (8 + (i : Int) * 4), .int .i64 4] wr fun e w' => e = .returned (.int .u64 (rdF ps (8 + 4 * i) 4 : Nat)) ∧ wr = w' := by
        have := CNH.out (8 + 4 * i) 4 (by omega) (by have := HLEN.out; omega) wr hS
        rw [show ((8 + 4 * i : Nat) : Int) = 8 + (i : Int) * 4 by omega] at this
        exact this
      have hc := K1.cell (i := i) (nthC_at ps i (by omega))
      have hf := K1.free i
      have hset := K1.set i (.int .i32 (nth ps i)) (by rw [nthC_len]; omega)
      rw [nthC_set ps i (by omega)] at hset
      have hnt : IntKind.i32.wrap (rdF ps (8 + 4 * i) 4 : Nat) = nth ps i := by
        unfold nth; rw [if_pos (by rw [← HNN.out]; exact hlt)]; rfl
      have K0' := K0.other ⟨w.heap.size + 1, i, none⟩ (.int .i32 (nth ps i)) (by simp)
      have hB' := hB.setCell (p := ⟨w.heap.size + 1, i, none⟩) (by simp) (.int .i32 (nth ps i))
      have hS' : Sl (wr.setCell ⟨w.heap.size + 1, i, none⟩ (.int .i32 (nth ps i))) 1 (.slice (some ⟨b, o, none⟩) ps.length cap) ps.length (u8s ps) := hS.turned ((Turned.refl (fun k => k = w.heap.size + 1) wr).setCell (.inl rfl) _) (by intro x hx hxb; cases hx; simp at hxb; omega)
      obtain ⟨r, hr⟩ : ∃ r, r = rdF ps (8 + 4 * i) 4 := ⟨_, rfl⟩
      obtain ⟨x, hx⟩ : ∃ x, x = nth ps i := ⟨_, rfl⟩
      rw [← hr] at CR hnt
      rw [← hx] at hnt hset K0' hB' hS'
      have CR := Lib.hid CR
      have HR := Lib.hid (show Blk (wr.setCell ⟨w.heap.size + 1, i, none⟩ (.int .i32 x)) (w.heap.size + 1) 51 (nthC ps (i + 1)) ∧ Blk (wr.setCell ⟨w.heap.size + 1, i, none⟩ (.int .i32 x)) w.heap.size 25 [.int .i64 0, .int .u16 0, .int .u32 0, .int .i32 0, .int .i32 0, .int .i32 0] ∧ Below w.heap.size w (wr.setCell ⟨w.heap.size + 1, i, none⟩ (.int .i32 x)) ∧ Sl (wr.setCell ⟨w.heap.size + 1, i, none⟩ (.int .i32 x)) 1 (.slice (some ⟨b, o, none⟩) ps.length cap) ps.length (u8s ps) from ⟨hset, K0', hB', hS'⟩)
      clear hset K0' hB' hS' K1 K0 hB hS hr hx
      go_wp2_with fail
      refine CR.out.mono ?_
      rintro e wx ⟨rfl, rfl⟩
      clear CR
      go_wp2_with fail
      go_roundw
      case rel => exact ⟨i + 1, by omega, by go_num, HR.out⟩
      case measure => simp [intOf]; omega
    · obtain rfl : i = n := by omega
      have e1 := nthC_end ps
      rw [← HNN.out] at e1
      rw [e1] at K1
      have r1 : rdF ps 2 2 < 65536 := Nat.lt_of_lt_of_le (rdF_lt ps 2 2 HB.out) (by decide)
      have r2 : rdF ps 4 4 < 4294967296 := Nat.lt_of_lt_of_le (rdF_lt ps 4 4 HB.out) (by decide)
      have C1 := CNH.out 2 2 (by decide) (by have := HLEN.out; omega) wr.drew hS
      have C2 := CNH.out 4 4 (by decide) (by have := HLEN.out; omega) wr.drew hS
      have hk' := HK.out
      have e9 : fv (frm ps) = fvs y (rdF ps 2 2 : Nat) (rdF ps 4 4 : Nat) (nth ps 0) (nth ps 1) (nth ps 2) := by unfold frm fv; rw [hk']
      obtain ⟨q1, hq1⟩ : ∃ q, q = rdF ps 2 2 := ⟨_, rfl⟩
      obtain ⟨q2, hq2⟩ : ∃ q, q = rdF ps 4 4 := ⟨_, rfl⟩
      obtain ⟨x0, hx0⟩ : ∃ q, q = nth ps 0 := ⟨_, rfl⟩
      obtain ⟨x1, hx1⟩ : ∃ q, q = nth ps 1 := ⟨_, rfl⟩
      obtain ⟨x2, hx2⟩ : ∃ q, q = nth ps 2 := ⟨_, rfl⟩
      rw [← hq1] at r1 C1 e9
      rw [← hq2] at r2 C2 e9
      rw [← hx0, ← hx1, ← hx2] at K1 e9
      have E9 := Lib.hid e9
      have C1 := Lib.hid C1
      have C2 := Lib.hid C2
      have f1 : IntKind.u16.wrap (q1 : Int) = (q1 : Int) := by simp [IntKind.wrap, IntKind.bits, IntKind.signed]; omega
      have f2 : IntKind.u32.wrap (q2 : Int) = (q2 : Int) := by simp [IntKind.wrap, IntKind.bits, IntKind.signed]; omega
      have a0 := K1.cell (i := 0) rfl
      have a1 := K1.cell (i := 1) rfl
      have a2 := K1.cell (i := 2) rfl
      have b0 := K0.cell (i := 0) rfl
      have b1 := K0.cell (i := 1) rfl
      have b2 := K0.cell (i := 2) rfl
      have b3 := K0.cell (i := 3) rfl
      have b4 := K0.cell (i := 4) rfl
      have b5 := K0.cell (i := 5) rfl
      have z0 := K0.free 0
      have z1 := K0.free 1
      have z2 := K0.free 2
      have z3 := K0.free 3
      have z4 := K0.free 4
      have z5 := K0.free 5
      clear e9 hS hq1 hq2 hx0 hx1 hx2 hk' HK HLEN HB HNN CNH e1 hn3
      go_wp2_with fail
      refine wp_region_held_drew (S := (fun w' : World => w'.cell? ⟨w.heap.size + 1, 0, none⟩ = some (.int .i32 x0) ∧ w'.cell? ⟨w.heap.size + 1, 1, none⟩ = some (.int .i32 x1) ∧ w'.cell? ⟨w.heap.size + 1, 2, none⟩ = some (.int .i32 x2))) (by kernel_rfl) (⟨a0, a1, a2⟩) (fun hHeld => ?_)
      refine wpAnyH_take (i := 0) (v := ?v1) rfl (by kernel_rfl) (by kernel_rfl) (by kernel_rfl) (fun _ _ _ h => h) (Or.inl ⟨by rfl, ?hy1⟩) hHeld ?rest1
      case hy1 => (intro w' hSw; (try dsimp only at hSw); go_simp; (try with_reducible rfl))
      try simp only [Act.put, List.setIfInBounds_toArray, List.set_cons_zero, List.set_cons_succ, List.getElem_toArray, List.getElem_cons_zero, List.getElem_cons_succ]
      refine wpAnyH_take (i := 1) (v := ?v2) rfl (by kernel_rfl) (by kernel_rfl) (by kernel_rfl) (fun _ _ _ h => h) (Or.inl ⟨by rfl, ?hy2⟩) hHeld ?rest2
      case hy2 => (intro w' hSw; (try dsimp only at hSw); go_simp; (try with_reducible rfl))
      try simp only [Act.put, List.setIfInBounds_toArray, List.set_cons_zero, List.set_cons_succ, List.getElem_toArray, List.getElem_cons_zero, List.getElem_cons_succ]
      refine wpAnyH_take (i := 4) (v := ?v3) rfl (by kernel_rfl) (by kernel_rfl) (by kernel_rfl) (fun _ _ _ h => h) (Or.inl ⟨by rfl, ?hy3⟩) hHeld ?rest3
      case hy3 => (intro w' hSw; (try dsimp only at hSw); go_simp; (try with_reducible rfl))
      try simp only [Act.put, List.setIfInBounds_toArray, List.set_cons_zero, List.set_cons_succ, List.getElem_toArray, List.getElem_cons_zero, List.getElem_cons_succ]
      refine wpAnyH_take (i := 7) (v := ?v4) rfl (by kernel_rfl) (by kernel_rfl) (by kernel_rfl) (fun _ _ _ h => h) (Or.inl ⟨by rfl, ?hy4⟩) hHeld ?rest4
      case hy4 => (intro w' hSw; (try dsimp only at hSw); go_simp; (try with_reducible rfl))
      try simp only [Act.put, List.setIfInBounds_toArray, List.set_cons_zero, List.set_cons_succ, List.getElem_toArray, List.getElem_cons_zero, List.getElem_cons_succ]
      refine wpAnyH_take (i := 8) (v := ?v5) rfl (by kernel_rfl) (by kernel_rfl) (by kernel_rfl) (fun _ _ _ h => h) (Or.inl ⟨by rfl, ?hy5⟩) hHeld ?rest5
      case hy5 => (intro w' hSw; (try dsimp only at hSw); go_simp; (try with_reducible rfl))
      try simp only [Act.put, List.setIfInBounds_toArray, List.set_cons_zero, List.set_cons_succ, List.getElem_toArray, List.getElem_cons_zero, List.getElem_cons_succ]
      refine wpAnyH_take (i := 9) (v := ?v6) rfl (by kernel_rfl) (by kernel_rfl) (by kernel_rfl) (fun _ _ _ h => h) (Or.inl ⟨by rfl, ?hy6⟩) hHeld ?rest6
      case hy6 => (intro w' hSw; (try dsimp only at hSw); go_simp; (try with_reducible rfl))
      try simp only [Act.put, List.setIfInBounds_toArray, List.set_cons_zero, List.set_cons_succ, List.getElem_toArray, List.getElem_cons_zero, List.getElem_cons_succ]
      refine wpAnyH_take (i := 10) (v := ?v7) rfl (by kernel_rfl) (by kernel_rfl) (by kernel_rfl) (fun _ _ _ h => h) (Or.inl ⟨by rfl, ?hy7⟩) hHeld ?rest7
      case hy7 => (intro w' hSw; (try dsimp only at hSw); go_simp; (try with_reducible rfl))
      try simp only [Act.put, List.setIfInBounds_toArray, List.set_cons_zero, List.set_cons_succ, List.getElem_toArray, List.getElem_cons_zero, List.getElem_cons_succ]
      refine wpAnyH_take (i := 11) (v := ?v8) rfl (by kernel_rfl) (by kernel_rfl) (by kernel_rfl) (fun _ _ _ h => h) (Or.inl ⟨by rfl, ?hy8⟩) hHeld ?rest8
      case hy8 => (intro w' hSw; (try dsimp only at hSw); go_simp; (try with_reducible rfl))
      try simp only [Act.put, List.setIfInBounds_toArray, List.set_cons_zero, List.set_cons_succ, List.getElem_toArray, List.getElem_cons_zero, List.getElem_cons_succ]
      refine wpAnyH_take (i := 12) (v := ?v9) rfl (by kernel_rfl) (by kernel_rfl) (by kernel_rfl) (fun _ _ _ h => h) (Or.inl ⟨by rfl, ?hy9⟩) hHeld ?rest9
      case hy9 => (intro w' hSw; (try dsimp only at hSw); go_simp; (try with_reducible rfl))
      try simp only [Act.put, List.setIfInBounds_toArray, List.set_cons_zero, List.set_cons_succ, List.getElem_toArray, List.getElem_cons_zero, List.getElem_cons_succ]
      refine wpAnyH_ready (rs := [2]) (by kernel_rfl) (by simp) ?_
      refine AllReadyH.cons rfl (fun K hK => ?_) AllReadyH.nil
      go_simp
      refine C1.out.mono ?_
      rintro e wx ⟨rfl, rfl⟩
      try go_wp2_with fail
      refine hK.out _ _ (⟨a0, a1, a2⟩) (fun hHeld => ?_)
      clear hK K
      try simp only [Act.put, List.setIfInBounds_toArray, List.set_cons_zero, List.set_cons_succ, List.getElem_toArray, List.getElem_cons_zero, List.getElem_cons_succ]
      refine wpAnyH_take (i := 3) (v := ?v11) rfl (by kernel_rfl) (by kernel_rfl) (by kernel_rfl) (fun _ _ _ h => h) (Or.inl ⟨by rfl, ?hy11⟩) hHeld ?rest11
      case hy11 => (intro w' hSw; (try dsimp only at hSw); go_simp; (try with_reducible rfl))
      try simp only [Act.put, List.setIfInBounds_toArray, List.set_cons_zero, List.set_cons_succ, List.getElem_toArray, List.getElem_cons_zero, List.getElem_cons_succ]
      refine wpAnyH_ready (rs := [5]) (by kernel_rfl) (by simp) ?_
      refine AllReadyH.cons rfl (fun K hK => ?_) AllReadyH.nil
      go_simp
      refine C2.out.mono ?_
      rintro e wx ⟨rfl, rfl⟩
      try go_wp2_with fail
      refine hK.out _ _ (⟨a0, a1, a2⟩) (fun hHeld => ?_)
      clear hK K
      try simp only [Act.put, List.setIfInBounds_toArray, List.set_cons_zero, List.set_cons_succ, List.getElem_toArray, List.getElem_cons_zero, List.getElem_cons_succ]
      refine wpAnyH_take (i := 6) (v := ?v13) rfl (by kernel_rfl) (by kernel_rfl) (by kernel_rfl) (fun _ _ _ h => h) (Or.inl ⟨by rfl, ?hy13⟩) hHeld ?rest13
      case hy13 => (intro w' hSw; (try dsimp only at hSw); go_simp; (try with_reducible rfl))
      try simp only [Act.put, List.setIfInBounds_toArray, List.set_cons_zero, List.set_cons_succ, List.getElem_toArray, List.getElem_cons_zero, List.getElem_cons_succ]
      refine wpAnyH_take (i := 13) (v := ?v14) rfl (by kernel_rfl) (by kernel_rfl) (by kernel_rfl) (fun _ _ _ h => h) (Or.inl ⟨by rfl, ?hy14⟩) hHeld ?rest14
      case hy14 => (intro w' hSw; (try dsimp only at hSw); go_simp; (try with_reducible rfl))
      try simp only [Act.put, List.setIfInBounds_toArray, List.set_cons_zero, List.set_cons_succ, List.getElem_toArray, List.getElem_cons_zero, List.getElem_cons_succ]
      refine wpAnyH_ready (rs := [14]) (by kernel_rfl) (by simp) ?_
      refine AllReadyH.cons rfl (fun K hK => ?_) AllReadyH.nil
      go_simp
      try go_wp2_with fail
      refine hK.out _ _ (⟨(K1.turned (turned_setF wr w.heap.size (.int .i64 y) (.int .u16 q1) (.int .u32 q2) (.int .i32 x0) (.int .i32 x1) (.int .i32 x2)) (by simp)).drew.cell (i := 0) rfl, (K1.turned (turned_setF wr w.heap.size (.int .i64 y) (.int .u16 q1) (.int .u32 q2) (.int .i32 x0) (.int .i32 x1) (.int .i32 x2)) (by simp)).drew.cell (i := 1) rfl, (K1.turned (turned_setF wr w.heap.size (.int .i64 y) (.int .u16 q1) (.int .u32 q2) (.int .i32 x0) (.int .i32 x1) (.int .i32 x2)) (by simp)).drew.cell (i := 2) rfl⟩) (fun hHeld => ?_)
      clear hK K
      try simp only [Act.put, List.setIfInBounds_toArray, List.set_cons_zero, List.set_cons_succ, List.getElem_toArray, List.getElem_cons_zero, List.getElem_cons_succ]
      refine wpAnyH_done (by kernel_rfl) ?_ _
      go_wp2_with fail
      refine bodyPost_ret (v := fvs y q1 q2 x0 x1 x2) (res_one rfl rfl (blk_setF K0 _ _ _ _ _ _).drew Tryd.underlying25 rfl (by kernel_rfl)) rfl ?_
      exact ⟨by rw [E9.out], (below_setF hB _ (Nat.le_refl _) _ _ _ _ _ _).drew⟩
end Go.Proofs.YtfkncfjdgbgeeaaDoor
