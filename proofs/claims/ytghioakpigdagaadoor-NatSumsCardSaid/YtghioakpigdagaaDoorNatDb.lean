/-
  How often one number goes into another one, and what is left: the long way: the code's.
-/
import Derived.Sort.CutIn
import Derived.Test.YtghioakpigdagaaDoorNatDa
set_option linter.unusedVariables false
set_option linter.unusedSimpArgs false
namespace Go.Th
open Go Go.RowKit
section
variable {P : Program} {w w0 : World} {bs bs' : List (Nat × TypeId × List Value)} {g off : Nat} {t ty : TypeId} {cs cs' : List Value} {v : Value} {ops : Array Oper} {rest : List Oper} {o : Oper} {a : Act} {Q : Exit → Act → World → Prop} {x y : Operand}
/-- No panic, and else what is asked for: a region that draws, behind a range over an iterator. -/
def noPan (Q : Exit → Act → World → Prop) : Exit → Act → World → Prop
  | .panic _, _, _ => False
  | e, a, w => Q e a w
theorem wp_noPan {c : Code} {Q : Exit → Act → World → Prop} {a : Act} {w : World} (h : c.wp P (noPan Q) a w) : c.wp P Q a w :=
  Code.wp_mono (fun e a w h => by cases e <;> first | exact h | exact h.elim) h
theorem noPan_end {Q : Exit → Act → World → Prop} {a : Act} {w : World} (h : Q .normal a w) : noPan Q .normal a w := h
theorem store_slice (p : Option Addr) (n c : Nat) (u : Value) (w : World) (g i : Nat) (hc : w.cell? ⟨g, i, none⟩ = some u) (hf : w.frozen? ⟨g, i, none⟩ = false) : (storeCells ⟨g, i, none⟩ [.slice p n c] 0).run P w = .ok () (w.setCell ⟨g, i, none⟩ (.slice p n c)) := by
  have hst := run_store P w ⟨g, i, none⟩ (.slice p n c) .plain rfl
  rw [hc] at hst
  simp only [hf, Bool.false_eq_true, if_false] at hst
  simp [storeCells, hst, add_none]
theorem wpL_sts {p : Option Addr} {n c : Nat} (M : Mem w0 w bs) (hgd : o.guard = none) (ho : o.op = .store ty x y) (hx : a.eval x = .pointer (some ⟨g, off, none⟩)) (hy : a.eval y = .slice p n c) (h : ∀ w', Mem w0 w' bs' → wpList P ops Q rest (a.put o.dst undef) w')
    [hm : HsI bs g t cs] [hs : SzI P ty 1] [he : StI cs off (.slice p n c) cs'] [hu : UpI bs g t cs cs' bs'] : wpList P ops Q (o :: rest) a w :=
  wpL_st M hgd ho hx hy hm.has (wr_cell1 hs.sz (List.getElem?_eq_getElem he.lt) rfl (fun w g hc hf => store_slice p n c _ w g off hc hf) he.st) hu.upd h
end
end Go.Th
namespace Go.Proofs.YtghioakpigdagaaDoor
open Go Go.RowKit Go.Th Go.Th.Dig
theorem over_win {R W : List Nat} {o : Nat} (h : o + W.length ≤ R.length) : over (u32s R) o (u32s W) = u32s (R.take o ++ W ++ R.drop (o + W.length)) := by
  have e : (u32s W).length = W.length := by simp [u32s]
  unfold over splice
  rw [e]
  simp [u32s, List.map_take, List.map_drop]
theorem run_mid {P : Program} {t e : TypeId} {bytes : Nat} (E : ElemOf P t e 1 bytes) (g o n cap lo hi : Nat) (hk : lo < hi) (hh : hi ≤ n) (hn : n ≤ cap) (hc : cap ≤ maxLen) (wx : World) :
    (Instr.slice t (.slice (some ⟨g, o, none⟩) n cap) (some (.int .i64 lo)) (some (.int .i64 hi)) none).run P wx = .ok (.slice (some ⟨g, o + lo, none⟩) (hi - lo) (cap - lo)) wx := by
  obtain ⟨i, z, hi', hz, hsize, hby, hzs⟩ := E.info
  unfold maxLen at hc
  have hb2 : (lo : Int) ≤ hi := by omega
  have hb3 : (hi : Int) ≤ cap := by omega
  have hne : ¬ cap = lo := by omega
  have hb4 : lo ≤ hi := by omega
  have hb5 : hi ≤ cap := by omega
  simp [Instr.slice, run_underlying E.und, Instr.sliceBounds, run_sliceBound, hb2, hb3, hb4, hb5, sizeOf, typeInfo, hi', hsize, hne, add_none]
theorem Mem.join {w V W : World} {bs cs : List (Nat × TypeId × List Value)} (M : Mem w V bs) (N : Mem V W cs) : Mem w W (cs ++ bs) :=
  ⟨(M.call N.below).below, by
    rw [List.map_append, List.nodup_append]
    refine ⟨N.nodup, M.nodup, fun x hx y hy e => ?_⟩
    obtain ⟨c, hc, rfl⟩ := List.mem_map.1 hx
    obtain ⟨b, hb, rfl⟩ := List.mem_map.1 hy
    have h1 := N.old c hc
    have h2 := (M.blk b hb).lt
    omega, fun e he => by
    rcases List.mem_append.1 he with he | he
    · exact Nat.le_trans M.below.size (N.old e he)
    · exact M.old e he, fun e he => by
    rcases List.mem_append.1 he with he | he
    · exact N.blk e he
    · exact (M.call N.below).blk e he⟩
theorem sl_put {w : World} {v : Value} {n : Nat} {xs : List Value} (h : Sl w 1 v n xs) {D : Nat} {l : Option (List Deferred)} (o : Obj) (hD : w.heap[D]? = some (.deferred l)) : Sl (w.putObj D o) 1 v n xs := by
  obtain ⟨a, c, he, h1, h2, h3, h4, h5⟩ := h
  refine ⟨a, c, he, h1, h2, h3, h4, fun j u hu => ?_⟩
  obtain ⟨b, o', e, hc⟩ := h5 j u hu
  refine ⟨b, o', e, (World.cell?_of_block (w := w) (World.putObj_heap_other ?_)).trans hc⟩
  rintro rfl
  simp [World.cell?, hD] at hc
theorem keepsFrom_turned {S : Nat → Prop} {B : Nat} {W W' : World} (h : Turned S W W') (hS : ∀ k, S k → k < B) : KeepsFrom B W W' :=
  ⟨h.size, fun k o hk ho _ => (h.block k (Array.getElem?_eq_some_iff.1 ho).1 (fun hs => by have := hS k hs; omega)).trans ho⟩
end Go.Proofs.YtghioakpigdagaaDoor
namespace Go.Proofs.YtghioakpigdagaaDoor
open Go Go.RowKit Go.Shelf Go.Th Go.Th.Dig
attribute [local go_sem] Oper.semAt_some
instance kU32r : SzI Tryd.prog 22 1 := ⟨by kernel_rfl⟩
instance zU32r : ZrI Tryd.prog 22 (.slice none 0 0) [.slice none 0 0] := ⟨by kernel_rfl, rfl⟩

set_option maxRecDepth 100000 in
set_option maxHeartbeats 8000000 in
theorem div_go (v u : Value) (p q : Nat) (w : World) (hp : IsN w v p) (hq : IsN w u q) (h1 : len32 p ≤ 1000) (hq0 : q ≠ 0) (hle : q ≤ p) :
    Calls Tryd.prog 25 #[v, u] w fun e w' => ∃ t s, e = .returned (.tuple #[t, s]) ∧ IsN w' t (p / q) ∧ IsN w' s (p % q) ∧ Below w.heap.size w w' := by
  have hlq : len32 q ≤ len32 p := dg_len_of (by decide) hle (Nat.le_refl _)
  have CZ := fun wx (hx : IsN wx u q) => zero_any u q wx hx (by omega)
  have CC := fun wx (hx : IsN wx v p) (hy : IsN wx u q) => cmp_any v u p q wx hx hy (by omega) (by omega)
  rw [decide_eq_false hq0] at CZ
  have hcm := (cmpN_lt p q).2 (by omega)
  obtain ⟨c, hc⟩ : ∃ c, c = cmpN p q := ⟨_, rfl⟩
  rw [← hc] at CC hcm
  have hcm2 : ¬ c < 0 := by omega
  have HP := Lib.hid hp
  have HQ := Lib.hid hq
  have hnt := nb_top hq0
  have hln := len_nb hq0
  have hl0 : 0 < len32 q := Nat.pos_of_ne_zero fun e => hq0 ((len32_0 q).1 e)
  have hdP := dg_lt (B := 4294967296) (by decide) p
  have hvP := dg_val (B := 4294967296) (by decide) p
  have hdQ := dg_lt (B := 4294967296) (by decide) q
  have hpl := len32_lt p
  obtain ⟨a, ca, rfl, hS⟩ := hp.form
  obtain ⟨b, cb, rfl, hT⟩ := hq.form
  obtain ⟨m, hm⟩ : ∃ m, len32 q = m + 1 := ⟨len32 q - 1, by omega⟩
  obtain ⟨N, hN⟩ : ∃ N, len32 p = N + m := ⟨len32 p - m, by omega⟩
  have hN0 : 0 < N := by omega
  obtain ⟨A, hA⟩ : ∃ A, A = dg 4294967296 p := ⟨_, rfl⟩
  obtain ⟨L, hL⟩ : ∃ L, L = dg 4294967296 q := ⟨_, rfl⟩
  have hAl : A.length = N + m := by rw [hA]; exact hN
  have hLl : L.length = m + 1 := by rw [hL]; exact hm
  have hlast : L.getD m 0 ≠ 0 := by
    rw [hL]
    refine dg_last (B := 4294967296) (by decide) q _ ?_
    have e : (dg 4294967296 q).length = m + 1 := hm
    rw [List.getLast?_eq_getElem?, e, Nat.add_sub_cancel, List.getD_eq_getElem?_getD, List.getElem?_eq_getElem (by omega)]; rfl
  rw [← hL, hLl, Nat.add_sub_cancel] at hnt
  rw [← hA] at hS hdP hvP
  rw [← hL] at hT hdQ
  rw [hN] at hS HP CC h1 hpl ⊢
  rw [hm] at hT HQ CC CZ ⊢
  have htb := getD_mem (by decide : 0 < 4294967296) hdQ m
  obtain ⟨b1, o1, rfl, hb1, hct⟩ := cell_u32 hT m (by omega)
  obtain ⟨t, ht⟩ : ∃ t, t = L.getD m 0 := ⟨_, rfl⟩
  rw [← ht] at hlast hnt htb hct
  have CLZ := fun wx => lz_any t htb wx
  obtain ⟨n1, n2⟩ := nb_ge hlast
  have n3 := nb_le (b := 32) htb
  obtain ⟨s, hs⟩ : ∃ s, s = 32 - nb t := ⟨_, rfl⟩
  rw [← hs] at CLZ
  have hs31 : s ≤ 31 := by omega
  have CSH := fun wx (hx : IsN wx (.agg #[.slice (some ⟨b1, o1, none⟩) (m + 1) cb]) q) => shl_any16 _ q s wx hx (by omega) (by omega)
  obtain ⟨D, hD⟩ : ∃ D, D = q * 2 ^ s := ⟨_, rfl⟩
  rw [← hD] at CSH
  have hD0 : D ≠ 0 := by rw [hD]; exact Nat.mul_ne_zero hq0 (Nat.pos_iff_ne_zero.1 (Nat.two_pow_pos s))
  obtain ⟨q1, q2⟩ := nb_ge hq0
  have q3 := nb_lt q
  have hDge : 2 ^ (32 * m + 31) ≤ D := by
    rw [hD, show 32 * m + 31 = (nb q - 1) + s by omega, Nat.pow_add]
    exact Nat.mul_le_mul_right _ q2
  have hDlt : D < 4294967296 ^ (m + 1) := by
    rw [hD, big_two, show 32 * (m + 1) = nb q + s by omega, Nat.pow_add]
    exact Nat.mul_lt_mul_of_pos_right q3 (Nat.two_pow_pos s)
  have hDl : len32 D = m + 1 := by
    rw [show len32 D = (nb D + 31) / 32 from len_nb hD0]
    have a1 := nb_le (b := 32 * (m + 1)) (by rw [← big_two]; exact hDlt)
    have a2 : 32 * m + 31 < nb D := (Nat.pow_lt_pow_iff_right (by decide : 1 < 2)).1 (Nat.lt_of_le_of_lt hDge (nb_lt D))
    omega
  have hfd : ∀ (x : Option Addr) (y z : Nat) (wx : World), (Instr.field 26 (.agg #[.slice x y z]) 0).run Tryd.prog wx = .ok (.slice x y z) wx := fun x y z wx => by kernel_rfl
  have HDG := Lib.hid hDge
  have HDL := Lib.hid hDl
  have HDT := Lib.hid hDlt
  have HDD := Lib.hid hD
  have HS := Lib.hid hS
  have HT := Lib.hid hT
  have HVP := Lib.hid hvP
  have HPL := Lib.hid hpl
  have HDP := Lib.hid hdP
  have HAL := Lib.hid hAl
  have HCT := Lib.hid hct
  have CZ := Lib.hid CZ
  have CC := Lib.hid CC
  have CLZ := Lib.hid CLZ
  have CSH := Lib.hid CSH
  have hctl := World.block_lt_of_cell? w _ hct
  clear hp hq hlq hc hnt hln hl0 hdP hvP hdQ hpl hm hN hA hL hAl hLl hlast hS hT htb hct n1 n2 n3 hs hD hD0 q1 q2 q3 hDge hDlt hDl ht hq0 hle
  refine (callsIn_wide (n := 10)).1 ?_
  refine callsIn_of_wp_marks Tryd.func25 rfl trivial ?_ rfl
  simp only [Tryd.ntmps25, List.size_toArray, List.length_cons, List.length_nil, Nat.reduceAdd, Nat.reduceSub, Array.replicate_succ, Array.replicate_zero, List.push_toArray, List.append_toArray, List.nil_append, List.cons_append]
  refine wpIn_wide.2 ?_
  have M0 := Mem.start w
  go_wp2_with ((with_reducible refine (?_ : Go.wpList _ _ _ (_ :: _) _ _)); (first | go_skip | (refine wpL_bx M0 rfl rfl rfl rfl ?_; clear M0; intro g1 w1 M1) | (refine wpL_alc M0 rfl rfl ?_; clear M0; intro g1 w1 M1) | (refine wpL_ldc M0 rfl rfl rfl ?_) | (refine wpL_lgc M0 rfl rfl rfl ?_) | (refine wpL_stc M0 rfl rfl rfl rfl ?_; clear M0; intro w' M0) | (refine wpL_sti M0 rfl rfl rfl rfl ?_; clear M0; intro w' M0) | (refine wpL_sts M0 rfl rfl rfl rfl ?_; clear M0; intro w' M0) | (refine wpL_bx M1 rfl rfl rfl rfl ?_; clear M1; intro g2 w2 M2) | (refine wpL_alc M1 rfl rfl ?_; clear M1; intro g2 w2 M2) | (refine wpL_ldc M1 rfl rfl rfl ?_) | (refine wpL_lgc M1 rfl rfl rfl ?_) | (refine wpL_stc M1 rfl rfl rfl rfl ?_; clear M1; intro w' M1) | (refine wpL_sti M1 rfl rfl rfl rfl ?_; clear M1; intro w' M1) | (refine wpL_sts M1 rfl rfl rfl rfl ?_; clear M1; intro w' M1) | (refine wpL_bx M2 rfl rfl rfl rfl ?_; clear M2; intro g3 w3 M3) | (refine wpL_alc M2 rfl rfl ?_; clear M2; intro g3 w3 M3) | (refine wpL_ldc M2 rfl rfl rfl ?_) | (refine wpL_lgc M2 rfl rfl rfl ?_) | (refine wpL_stc M2 rfl rfl rfl rfl ?_; clear M2; intro w' M2) | (refine wpL_sti M2 rfl rfl rfl rfl ?_; clear M2; intro w' M2) | (refine wpL_sts M2 rfl rfl rfl rfl ?_; clear M2; intro w' M2) | (refine wpL_bx M3 rfl rfl rfl rfl ?_; clear M3; intro g4 w4 M4) | (refine wpL_alc M3 rfl rfl ?_; clear M3; intro g4 w4 M4) | (refine wpL_ldc M3 rfl rfl rfl ?_) | (refine wpL_lgc M3 rfl rfl rfl ?_) | (refine wpL_stc M3 rfl rfl rfl rfl ?_; clear M3; intro w' M3) | (refine wpL_sti M3 rfl rfl rfl rfl ?_; clear M3; intro w' M3) | (refine wpL_sts M3 rfl rfl rfl rfl ?_; clear M3; intro w' M3) | (refine wpL_ldc M4 rfl rfl rfl ?_) | (refine wpL_lgc M4 rfl rfl rfl ?_) | (refine wpL_stc M4 rfl rfl rfl rfl ?_; clear M4; intro w' M4) | (refine wpL_sti M4 rfl rfl rfl rfl ?_; clear M4; intro w' M4) | (refine wpL_sts M4 rfl rfl rfl rfl ?_; clear M4; intro w' M4)))
  refine (CZ.out _ (HQ.out.below M4.below)).mono ?_
  rintro e w5 ⟨rfl, hA⟩
  replace M4 := M4.call hA
  clear hA CZ
  go_wp2_with ((with_reducible refine (?_ : Go.wpList _ _ _ (_ :: _) _ _)); (first | go_skip | (refine wpL_ldc M4 rfl rfl rfl ?_) | (refine wpL_lgc M4 rfl rfl rfl ?_) | (refine wpL_stc M4 rfl rfl rfl rfl ?_; clear M4; intro w' M4) | (refine wpL_sti M4 rfl rfl rfl rfl ?_; clear M4; intro w' M4) | (refine wpL_sts M4 rfl rfl rfl rfl ?_; clear M4; intro w' M4)))
  refine (CC.out _ (HP.out.below M4.below) (HQ.out.below M4.below)).mono ?_
  rintro e w5 ⟨rfl, hA⟩
  replace M4 := M4.call hA
  clear hA CC
  have hct := (M4.below.cell (p := ⟨b1, o1 + m, none⟩) hctl).trans HCT.out
  go_wp2_with ((with_reducible refine (?_ : Go.wpList _ _ _ (_ :: _) _ _)); (first | go_skip | (refine wpL_ldc M4 rfl rfl rfl ?_) | (refine wpL_lgc M4 rfl rfl rfl ?_) | (refine wpL_stc M4 rfl rfl rfl rfl ?_; clear M4; intro w' M4) | (refine wpL_sti M4 rfl rfl rfl rfl ?_; clear M4; intro w' M4) | (refine wpL_sts M4 rfl rfl rfl rfl ?_; clear M4; intro w' M4)))
  refine (CLZ.out _).mono ?_
  rintro e w6 ⟨rfl, rfl⟩
  clear hct CLZ
  go_wp2_with ((with_reducible refine (?_ : Go.wpList _ _ _ (_ :: _) _ _)); (first | go_skip | (refine wpL_ldc M4 rfl rfl rfl ?_) | (refine wpL_lgc M4 rfl rfl rfl ?_) | (refine wpL_stc M4 rfl rfl rfl rfl ?_; clear M4; intro w' M4) | (refine wpL_sti M4 rfl rfl rfl rfl ?_; clear M4; intro w' M4) | (refine wpL_sts M4 rfl rfl rfl rfl ?_; clear M4; intro w' M4)))
  refine (CSH.out _ (HQ.out.below M4.below)).mono ?_
  rintro e V ⟨tv, rfl, htv, hA⟩
  replace M4 := M4.call hA
  obtain ⟨d, cd, rfl, hSd⟩ := htv.form
  rw [HDL.out] at hSd ⊢
  have HSd := Lib.hid hSd
  have M10 := Mem.start V
  have hwV := M4.below.size
  have HMV := Lib.hid M4
  clear hA CSH htv hSd
  go_upto_region 5 with ((with_reducible refine (?_ : Go.wpList _ _ _ (_ :: _) _ _)); (first | go_skip | (refine wpL_bx M10 rfl rfl rfl rfl ?_; clear M10; intro g11 w11 M11) | (refine wpL_alc M10 rfl rfl ?_; clear M10; intro g11 w11 M11) | (refine wpL_ldc M10 rfl rfl rfl ?_) | (refine wpL_lgc M10 rfl rfl rfl ?_) | (refine wpL_stc M10 rfl rfl rfl rfl ?_; clear M10; intro w' M10) | (refine wpL_sti M10 rfl rfl rfl rfl ?_; clear M10; intro w' M10) | (refine wpL_sts M10 rfl rfl rfl rfl ?_; clear M10; intro w' M10) | (refine wpL_ldc M11 rfl rfl rfl ?_) | (refine wpL_lgc M11 rfl rfl rfl ?_) | (refine wpL_stc M11 rfl rfl rfl rfl ?_; clear M11; intro w' M11) | (refine wpL_sti M11 rfl rfl rfl rfl ?_; clear M11; intro w' M11) | (refine wpL_sts M11 rfl rfl rfl rfl ?_; clear M11; intro w' M11)))
  obtain ⟨w5, rfl⟩ : ∃ w5, w5 = w' := ⟨_, rfl⟩
  have MK := run_mkU32 (N + m + 1) (by omega) w5
  rw [show (((N + m + 1 : Nat) : Int)) = (N : Int) + (m : Int) + 1 by omega] at MK
  have M12 := M11.alloc 38 (u32s (List.replicate (N + m + 1) 0))
  replace M4 := M4.call M11.below
  obtain ⟨w6, hw6⟩ : ∃ w6, w5.alloc (.cells (u32s (List.replicate (N + m + 1) 0)).toArray 38) = w6 := ⟨_, rfl⟩
  obtain ⟨G, hG⟩ : ∃ G, G = w5.heap.size := ⟨_, rfl⟩
  rw [hw6, ← hG] at MK M12
  clear hw6 hG M11
  go_upto_region 6 with ((with_reducible refine (?_ : Go.wpList _ _ _ (_ :: _) _ _)); (first | go_skip | (refine wpL_bx M4 rfl rfl rfl rfl ?_; clear M4; intro g5 w5 M5) | (refine wpL_alc M4 rfl rfl ?_; clear M4; intro g5 w5 M5) | (refine wpL_ldc M4 rfl rfl rfl ?_) | (refine wpL_lgc M4 rfl rfl rfl ?_) | (refine wpL_stc M4 rfl rfl rfl rfl ?_; clear M4; intro w' M4) | (refine wpL_sti M4 rfl rfl rfl rfl ?_; clear M4; intro w' M4) | (refine wpL_sts M4 rfl rfl rfl rfl ?_; clear M4; intro w' M4) | (refine wpL_bx M5 rfl rfl rfl rfl ?_; clear M5; intro g6 w6 M6) | (refine wpL_alc M5 rfl rfl ?_; clear M5; intro g6 w6 M6) | (refine wpL_ldc M5 rfl rfl rfl ?_) | (refine wpL_lgc M5 rfl rfl rfl ?_) | (refine wpL_stc M5 rfl rfl rfl rfl ?_; clear M5; intro w' M5) | (refine wpL_sti M5 rfl rfl rfl rfl ?_; clear M5; intro w' M5) | (refine wpL_sts M5 rfl rfl rfl rfl ?_; clear M5; intro w' M5) | (refine wpL_bx M6 rfl rfl rfl rfl ?_; clear M6; intro g7 w7 M7) | (refine wpL_alc M6 rfl rfl ?_; clear M6; intro g7 w7 M7) | (refine wpL_ldc M6 rfl rfl rfl ?_) | (refine wpL_lgc M6 rfl rfl rfl ?_) | (refine wpL_stc M6 rfl rfl rfl rfl ?_; clear M6; intro w' M6) | (refine wpL_sti M6 rfl rfl rfl rfl ?_; clear M6; intro w' M6) | (refine wpL_sts M6 rfl rfl rfl rfl ?_; clear M6; intro w' M6) | (refine wpL_bx M7 rfl rfl rfl rfl ?_; clear M7; intro g8 w8 M8) | (refine wpL_alc M7 rfl rfl ?_; clear M7; intro g8 w8 M8) | (refine wpL_ldc M7 rfl rfl rfl ?_) | (refine wpL_lgc M7 rfl rfl rfl ?_) | (refine wpL_stc M7 rfl rfl rfl rfl ?_; clear M7; intro w' M7) | (refine wpL_sti M7 rfl rfl rfl rfl ?_; clear M7; intro w' M7) | (refine wpL_sts M7 rfl rfl rfl rfl ?_; clear M7; intro w' M7) | (refine wpL_bx M8 rfl rfl rfl rfl ?_; clear M8; intro g9 w9 M9) | (refine wpL_alc M8 rfl rfl ?_; clear M8; intro g9 w9 M9) | (refine wpL_ldc M8 rfl rfl rfl ?_) | (refine wpL_lgc M8 rfl rfl rfl ?_) | (refine wpL_stc M8 rfl rfl rfl rfl ?_; clear M8; intro w' M8) | (refine wpL_sti M8 rfl rfl rfl rfl ?_; clear M8; intro w' M8) | (refine wpL_sts M8 rfl rfl rfl rfl ?_; clear M8; intro w' M8) | (refine wpL_bx M9 rfl rfl rfl rfl ?_; clear M9; intro g10 w10 M10) | (refine wpL_alc M9 rfl rfl ?_; clear M9; intro g10 w10 M10) | (refine wpL_ldc M9 rfl rfl rfl ?_) | (refine wpL_lgc M9 rfl rfl rfl ?_) | (refine wpL_stc M9 rfl rfl rfl rfl ?_; clear M9; intro w' M9) | (refine wpL_sti M9 rfl rfl rfl rfl ?_; clear M9; intro w' M9) | (refine wpL_sts M9 rfl rfl rfl rfl ?_; clear M9; intro w' M9) | (refine wpL_bx M10 rfl rfl rfl rfl ?_; clear M10; intro g11 w11 M11) | (refine wpL_alc M10 rfl rfl ?_; clear M10; intro g11 w11 M11) | (refine wpL_ldc M10 rfl rfl rfl ?_) | (refine wpL_lgc M10 rfl rfl rfl ?_) | (refine wpL_stc M10 rfl rfl rfl rfl ?_; clear M10; intro w' M10) | (refine wpL_sti M10 rfl rfl rfl rfl ?_; clear M10; intro w' M10) | (refine wpL_sts M10 rfl rfl rfl rfl ?_; clear M10; intro w' M10) | (refine wpL_bx M11 rfl rfl rfl rfl ?_; clear M11; intro g12 w12 M12) | (refine wpL_alc M11 rfl rfl ?_; clear M11; intro g12 w12 M12) | (refine wpL_ldc M11 rfl rfl rfl ?_) | (refine wpL_lgc M11 rfl rfl rfl ?_) | (refine wpL_stc M11 rfl rfl rfl rfl ?_; clear M11; intro w' M11) | (refine wpL_sti M11 rfl rfl rfl rfl ?_; clear M11; intro w' M11) | (refine wpL_sts M11 rfl rfl rfl rfl ?_; clear M11; intro w' M11) | (refine wpL_bx M12 rfl rfl rfl rfl ?_; clear M12; intro g13 w13 M13) | (refine wpL_alc M12 rfl rfl ?_; clear M12; intro g13 w13 M13) | (refine wpL_ldc M12 rfl rfl rfl ?_) | (refine wpL_lgc M12 rfl rfl rfl ?_) | (refine wpL_stc M12 rfl rfl rfl rfl ?_; clear M12; intro w' M12) | (refine wpL_sti M12 rfl rfl rfl rfl ?_; clear M12; intro w' M12) | (refine wpL_sts M12 rfl rfl rfl rfl ?_; clear M12; intro w' M12) | (refine wpL_ldc M13 rfl rfl rfl ?_) | (refine wpL_lgc M13 rfl rfl rfl ?_) | (refine wpL_stc M13 rfl rfl rfl rfl ?_; clear M13; intro w' M13) | (refine wpL_sti M13 rfl rfl rfl rfl ?_; clear M13; intro w' M13) | (refine wpL_sts M13 rfl rfl rfl rfl ?_; clear M13; intro w' M13)))
  obtain ⟨w7, rfl⟩ : ∃ w7, w7 = w' := ⟨_, rfl⟩
  clear MK
  have M4 := HMV.out.call M13.below
  have hK7 := M13.has (.tail _ _ _ _ _ (Has.head _ _ _ _))
  have hS7 := HS.out.below M4.below
  have hfit : 0 + (N + m) ≤ (u32s (List.replicate (N + m + 1) 0)).length := by rw [u32s_length, List.length_replicate]; omega
  go_upto_region 7 with ((with_reducible refine (?_ : Go.wpList _ _ _ (_ :: _) _ _)); (first | go_skip | (refine wpL_copy16 Eu32 rfl (.tmp 39) (.tmp 41) rfl rfl rfl hK7 hS7 (by omega) hfit (oneCell_u32s _) ?_; intro w8 hK8 hT8) | (refine wpL_ldc M13 rfl rfl rfl ?_) | (refine wpL_ldc M4 rfl rfl rfl ?_)))
  have hrl : (A ++ [0]).length = N + m + 1 := by rw [List.length_append, HAL.out]; rfl
  rw [over_win (by rw [HAL.out, List.length_replicate]; omega), List.take_zero, List.nil_append, HAL.out, List.drop_replicate, Nat.zero_add, show N + m + 1 - (N + m) = 1 by omega] at hK8
  have M14 := M13.turn (.tail _ _ _ _ _ _ _ (Upd.head _ _ _ _ _)) hK8 hT8
  have hK8 : Blk w8 G 38 (u32s (A ++ [0])) := hK8
  rw [← over_all (l := u32s (A ++ [0])) (m := u32s (A ++ [0])) rfl] at hK8
  have C := Lib.hid (climb_go G 0 (N + m + 1) (N + m + 1) s (A ++ [0]) (u32s (A ++ [0])) w8 hK8 (by rw [u32s_length, hrl]; omega) hrl (fun d hd => by
    rcases List.mem_append.1 hd with hd | hd
    · exact HDP.out d hd
    · rw [List.mem_singleton.1 hd]; decide) (by omega) (by omega))
  have hvl : val 4294967296 (A ++ [0]) = p := by rw [val_app, HVP.out]; simp [val]
  have hroom : 2 ^ s * val 4294967296 (A ++ [0]) < 4294967296 ^ (N + m + 1) := by
    rw [hvl, Nat.pow_succ, Nat.mul_comm]
    refine Nat.lt_of_lt_of_le (Nat.mul_lt_mul_of_pos_right HPL.out (Nat.two_pow_pos s)) (Nat.mul_le_mul_left _ ?_)
    exact Nat.le_trans (Nat.pow_le_pow_right (by decide) hs31) (by decide)
  have HVL := Lib.hid hvl
  have HRM := Lib.hid hroom
  have HRL := Lib.hid hrl
  clear hK7 hS7 hfit hK8 hT8 M13 M4 hrl hroom hvl
  go_wp2_with ((with_reducible refine (?_ : Go.wpList _ _ _ (_ :: _) _ _)); (first | go_skip | (refine wpL_ldc M14 rfl rfl rfl ?_)))
  refine C.out.mono ?_
  rintro e w9 ⟨c9, R, rfl, hK9, k1, k2, k3, hT9⟩
  have k4 : Cli 4294967296 (2 ^ s) (A ++ [0]) (A ++ [0]).length c9 R := by rw [HRL.out]; exact k3
  have hRv := k4.room (by rw [HRL.out]; exact HRM.out)
  rw [HVL.out, Nat.mul_comm] at hRv
  rw [over_all (by rw [u32s_length, u32s_length, HRL.out, k1])] at hK9
  have M15 := M14.turn (.tail _ _ _ _ _ _ _ (Upd.head _ _ _ _ _)) hK9 hT9
  have HK1 := Lib.hid k1
  have HK2 := Lib.hid k2
  have HRV := Lib.hid hRv
  clear hK9 hT9 k1 k2 k3 k4 hRv C M14 HRM HVL
  have MK := run_mkU32 N (by omega) w9
  rw [show (N : Int) = (N : Int) + (m : Int) + 1 - ((m : Int) + 1) by omega] at MK
  have M16 := M15.alloc 38 (u32s (List.replicate N 0))
  obtain ⟨w10, hw10⟩ : ∃ w10, w9.alloc (.cells (u32s (List.replicate N 0)).toArray 38) = w10 := ⟨_, rfl⟩
  obtain ⟨GO, hGO⟩ : ∃ GO, GO = w9.heap.size := ⟨_, rfl⟩
  rw [hw10, ← hGO] at MK M16
  clear hw10 hGO
  go_upto_region 9 with ((with_reducible refine (?_ : Go.wpList _ _ _ (_ :: _) _ _)); (first | go_skip | (refine wpL_bx M15 rfl rfl rfl rfl ?_; clear M15; intro g16 w16 M16) | (refine wpL_alc M15 rfl rfl ?_; clear M15; intro g16 w16 M16) | (refine wpL_ldc M15 rfl rfl rfl ?_) | (refine wpL_lgc M15 rfl rfl rfl ?_) | (refine wpL_stc M15 rfl rfl rfl rfl ?_; clear M15; intro w' M15) | (refine wpL_sti M15 rfl rfl rfl rfl ?_; clear M15; intro w' M15) | (refine wpL_sts M15 rfl rfl rfl rfl ?_; clear M15; intro w' M15) | (refine wpL_bx M16 rfl rfl rfl rfl ?_; clear M16; intro g17 w17 M17) | (refine wpL_alc M16 rfl rfl ?_; clear M16; intro g17 w17 M17) | (refine wpL_ldc M16 rfl rfl rfl ?_) | (refine wpL_lgc M16 rfl rfl rfl ?_) | (refine wpL_stc M16 rfl rfl rfl rfl ?_; clear M16; intro w' M16) | (refine wpL_sti M16 rfl rfl rfl rfl ?_; clear M16; intro w' M16) | (refine wpL_sts M16 rfl rfl rfl rfl ?_; clear M16; intro w' M16) | (refine wpL_ldc M17 rfl rfl rfl ?_) | (refine wpL_lgc M17 rfl rfl rfl ?_) | (refine wpL_stc M17 rfl rfl rfl rfl ?_; clear M17; intro w' M17) | (refine wpL_sti M17 rfl rfl rfl rfl ?_; clear M17; intro w' M17) | (refine wpL_sts M17 rfl rfl rfl rfl ?_; clear M17; intro w' M17)))
  obtain ⟨w11, rfl⟩ : ∃ w11, w11 = w' := ⟨_, rfl⟩
  obtain ⟨Z, hZ⟩ : ∃ Z, Z = List.replicate N 0 := ⟨_, rfl⟩
  have hZl : Z.length = N := by rw [hZ, List.length_replicate]
  have hZd : ∀ d ∈ Z, d < 4294967296 := by rw [hZ]; exact rep_lt N
  rw [← hZ] at M17
  have hLon : Lon (p * 2 ^ s) D m N N R Z := by rw [HDD.out]; exact Lon.start HK1.out hZl HK2.out hZd HRV.out HPL.out hs31 (by rw [← HDD.out]; exact HDG.out)
  clear MK hZ
  go_wp2_with ((with_reducible refine (?_ : Go.wpList _ _ _ (_ :: _) _ _)); (first | go_skip | (refine wpL_ldc M17 rfl rfl rfl ?_) | (refine wpL_lgc M17 rfl rfl rfl ?_) | (refine wpL_stc M17 rfl rfl rfl rfl ?_; clear M17; intro w' M17) | (refine wpL_sti M17 rfl rfl rfl rfl ?_; clear M17; intro w' M17) | (refine wpL_sts M17 rfl rfl rfl rfl ?_; clear M17; intro w' M17)))
  refine (backward_any (some ⟨GO, 0, none⟩) N N _).mono ?_
  rintro e W0 ⟨rfl, hW0⟩
  have M18 := M17.alloc 22 [.slice (some ⟨GO, 0, none⟩) N N]
  rw [show w11.alloc (.cells [Value.slice (some ⟨GO, 0, none⟩) N N].toArray 22) = W0 from hW0.symm] at M18
  have N0 := Mew.of_mem (S := fun _ => False) M18
  obtain ⟨gP, hgP⟩ : ∃ gP, gP = w11.heap.size := ⟨_, rfl⟩
  rw [← hgP] at M18 N0 ⊢
  have lP := N0.lt (Has.head _ _ _ _)
  have lO := N0.lt (.tail _ _ _ _ _ (.tail _ _ _ _ _ (Has.head _ _ _ _)))
  have lG := N0.lt (.tail _ _ _ _ _ (.tail _ _ _ _ _ (.tail _ _ _ _ _ (.tail _ _ _ _ _ (Has.head _ _ _ _)))))
  have hGV : V.heap.size ≤ G := M18.from (.tail _ _ _ _ _ (.tail _ _ _ _ _ (.tail _ _ _ _ _ (.tail _ _ _ _ _ (Has.head _ _ _ _)))))
  have hzW := N0.turned.size
  have hcP := N0.cell (Has.head _ _ _ _) (i := 0) rfl
  have hKO := N0.has (.tail _ _ _ _ _ (.tail _ _ _ _ _ (Has.head _ _ _ _)))
  rw [← over_all (l := u32s Z) (m := u32s Z) rfl] at hKO
  have hS0 := win_sl hKO (by rw [u32s_length]; omega) hZl (Nat.le_refl _) (by unfold maxLen; omega)
  have HSQ := Lib.hid (backward_at gP (some ⟨GO, 0, none⟩) N N Z (by omega) W0 hcP hS0)
  have hEN := enters_of Tryd.func53 (by kernel_rfl) rfl
  have HLN := Lib.hid hLon
  have HN0 := Lib.hid N0
  have HZL := Lib.hid hZl
  have hDlt := sl_lt32 HSd.out
  have HDA : Hid (∀ q, d = some q → q.block ≠ G) := Lib.hid (fun q hq => by have := hDlt q hq (by omega); omega)
  have HDV : Hid (val 4294967296 (dg 4294967296 D) = D) := Lib.hid (dg_val (by decide) D)
  have HDD2 : Hid (∀ x ∈ dg 4294967296 D, x < 4294967296) := Lib.hid (dg_lt (by decide) D)
  have hD0 : D ≠ 0 := fun h => by have := HDG.out; rw [h] at this; have := Nat.two_pow_pos (32 * m + 31); omega
  have HTOP : Hid ((dg 4294967296 D).getD m 0 ≠ 0) := Lib.hid (by
    have e : (dg 4294967296 D).length = m + 1 := HDL.out
    refine dg_last (B := 4294967296) (by decide) D _ ?_
    rw [List.getLast?_eq_getElem?, e, Nat.add_sub_cancel, List.getD_eq_getElem?_getD, List.getElem?_eq_getElem (by omega)]; rfl)
  have HD0 := Lib.hid (Nat.pos_of_ne_zero hD0)
  clear hW0 hgP M15 M17 M18 N0 hcP hKO hS0 hLon hZl hZd hDlt hD0
  go_wp2_with fail
  refine with_tmps (fun A hA => ?_)
  refine (wpIn_wide (n := 10)).1 ?_
  refine wpIn_rangeFunc_at rfl (by omega) (gf := 53) (lb := #[.pointer (some ⟨gP, 0, none⟩)]) (by rw [hA]; rfl) trivial hEN HSQ.out (backC_lt lP (fun q hq _ => by cases hq; exact lO)) (backs_two Z)
    (fun k W => ∃ R O, Lon (p * 2 ^ s) D m N (N - k) R O ∧ Mew (fun _ => False) V W [(gP, 22, [.slice (some ⟨GO, 0, none⟩) N N]), (g17, 22, [.slice (some ⟨GO, 0, none⟩) N N]), (GO, 38, u32s O), (g13, 22, [.slice (some ⟨G, 0, none⟩) (N + m + 1) (N + m + 1)]), (G, 38, u32s R), (g11, 22, [.slice d (m + 1) cd])])
    (fun _ _ => False) (fun _ _ _ => False) ?own (fun _ _ _ _ h _ _ => h) (fun _ _ _ _ _ h _ _ => h) ⟨R, Z, HLN.out, HN0.out⟩
    (fun k a' _ => a' = { tmps := ((A.setIfInBounds 54 (.int .i64 ((Z.length - 1 - k : Nat) : Int))).setIfInBounds 55 (.int .u32 ((Z.getD (Z.length - 1 - k) 0 : Nat) : Int))).setIfInBounds 10 (.int .i64 ((Z.length - 1 - k : Nat) : Int)), defers := [] })
    (fun _ _ _ _ _ h _ _ => h) ?assign ?body ?done ?ret ?stop
  case own =>
    rintro k X Y row ⟨R, O, h1, h2⟩ hg hr
    exact ⟨R, O, h1, h2.grown hg (fun r e => ⟨Nat.le_trans hzW (hr r e).1, (hr r e).2⟩)⟩
  case assign =>
    rintro l k x W K hx HI hK
    have HI0 := HI
    rw [backs_at Z k (by have := (List.getElem?_eq_some_iff.1 hx).1; rwa [backs_length] at this)] at hx
    cases hx
    subst hA
    obtain ⟨i, hi⟩ : ∃ i, i = Z.length - 1 - k := ⟨_, rfl⟩
    obtain ⟨u, eu⟩ : ∃ u, u = Z.getD i 0 := ⟨_, rfl⟩
    rw [← hi, ← eu] at hK ⊢
    clear hi eu HI
    gi_wp2
    exact hK _ _ (KeepsFrom.refl _ _) (CellsKept.refl _ _) HI0 rfl
  case body =>
    rintro l k a' W hl hr hk ⟨R, O, HS, M⟩ rfl
    subst hA
    rw [backs_length, HZL.out] at hk
    rw [HZL.out]
    obtain ⟨i, hi⟩ : ∃ i, N - 1 - k = i := ⟨_, rfl⟩
    rw [hi]
    rw [show N - k = i + 1 by omega] at HS
    have hin : i < N := by omega
    obtain ⟨u, eu⟩ : ∃ u, u = Z.getD i 0 := ⟨_, rfl⟩
    rw [← eu]
    obtain ⟨w1, w2, w3⟩ := HS.window hin HDT.out
    have hRl := HS.lenR
    have hOl := HS.lenO
    have hsl : ∀ wx, (Instr.slice 22 (.slice (some ⟨G, 0, none⟩) (N + m + 1) (N + m + 1)) (some (.int .i64 i)) (some (.int .i64 ((i : Int) + ((m : Int) + 1) + 1))) none).run Tryd.prog wx = .ok (.slice (some ⟨G, i, none⟩) (m + 2) (N + m + 1 - i)) wx := fun wx => by
      have := run_mid Eu32 G 0 (N + m + 1) (N + m + 1) i (i + m + 2) (by omega) (by omega) (Nat.le_refl _) (by unfold maxLen; omega) wx
      rw [Nat.zero_add, show i + m + 2 - i = m + 2 by omega, show (((i + m + 2 : Nat) : Int)) = (i : Int) + ((m : Int) + 1) + 1 by omega] at this
      exact this
    have e1 : IntKind.i64.wrap ((i : Int) + ((m : Int) + 1)) = (i : Int) + ((m : Int) + 1) := IntWalk.i64_in _ (by omega)
    have e2 : IntKind.i64.wrap ((i : Int) + ((m : Int) + 1) + 1) = (i : Int) + ((m : Int) + 1) + 1 := IntWalk.i64_in _ (by omega)
    have K := M.drew.has (.tail _ _ _ _ _ (.tail _ _ _ _ _ (.tail _ _ _ _ _ (.tail _ _ _ _ _ (Has.head _ _ _ _)))))
    rw [← win_self (l := R) (o := i) (k := m + 2) (by omega)] at K
    have C := goes_go G i m (N + m + 1 - i) d cd ((R.drop i).take (m + 2)) (dg 4294967296 D) (u32s R) W.drew K (by rw [u32s_length]; omega) (by rw [List.length_take, List.length_drop]; omega) (fun x hx => HS.digR x (List.mem_of_mem_drop (List.mem_of_mem_take hx)))
      (HSd.out.below M.drew.below) HDA.out (by omega) HDD2.out HTOP.out (by rw [HDV.out, w2]; exact w1)
    rw [HDV.out, w2] at C
    have HST : Hid (∀ Wd, Wd.length = m + 2 → (∀ d ∈ Wd, d < 4294967296) → val 4294967296 Wd = val 4294967296 (R.drop i) % D → Lon (p * 2 ^ s) D m N i (R.take i ++ Wd ++ R.drop (i + (m + 2))) (O.set i (val 4294967296 (R.drop i) / D)) ∧ over (u32s R) i (u32s Wd) = u32s (R.take i ++ Wd ++ R.drop (i + (m + 2)))) := Lib.hid (fun Wd a1 a2 a3 => ⟨HS.step hin HDT.out HD0.out a1 a2 a3, by rw [over_win (by omega), a1]⟩)
    obtain ⟨Y, eY⟩ : ∃ Y, Y = val 4294967296 (R.drop i) / D := ⟨_, rfl⟩
    rw [← eY] at C HST
    have HC := Lib.hid C
    have HM := Lib.hid M
    have c1 := M.cell (.tail _ _ _ _ _ (Has.head _ _ _ _)) (i := 0) rfl
    have c2 := M.cell (.tail _ _ _ _ _ (.tail _ _ _ _ _ (.tail _ _ _ _ _ (Has.head _ _ _ _)))) (i := 0) rfl
    have c3 := M.cell (.tail _ _ _ _ _ (.tail _ _ _ _ _ (.tail _ _ _ _ _ (.tail _ _ _ _ _ (.tail _ _ _ _ _ (Has.head _ _ _ _)))))) (i := 0) rfl
    have HOL := Lib.hid hOl
    have HEU := Lib.hid eu
    clear M K C eY eu w1 w2 w3 HS hRl hOl
    gi_wp2
    refine wpIn_region_round (by simp) (fun _ _ h => h) (S := (fun w' : World => w'.cell? ⟨g17, 0, none⟩ = some (.slice (some ⟨GO, 0, none⟩) N N) ∧ w'.cell? ⟨g13, 0, none⟩ = some (.slice (some ⟨G, 0, none⟩) (N + m + 1) (N + m + 1)) ∧ w'.cell? ⟨g11, 0, none⟩ = some (.slice d (m + 1) cd))) (by kernel_rfl) (⟨c1, c2, c3⟩) (fun hHeld => ?_)
    refine tkT 0 ?v39 ?hy39 hHeld ?rest39
    case hy39 => (intro w' hSw; (try dsimp only at hSw); go_simp; (try with_reducible rfl))
    try simp only [Act.put, puts]
    refine tkT 1 ?v40 ?hy40 hHeld ?rest40
    case hy40 => (intro w' hSw; (try dsimp only at hSw); go_simp; (try with_reducible rfl))
    try simp only [Act.put, puts]
    refine tkT 2 ?v41 ?hy41 hHeld ?rest41
    case hy41 => (intro w' hSw; (try dsimp only at hSw); go_simp; (try with_reducible rfl))
    try simp only [Act.put, puts]
    refine tkT 3 ?v42 ?hy42 hHeld ?rest42
    case hy42 => (intro w' hSw; (try dsimp only at hSw); go_simp; (try with_reducible rfl))
    try simp only [Act.put, puts]
    refine tkT 4 ?v43 ?hy43 hHeld ?rest43
    case hy43 => (intro w' hSw; (try dsimp only at hSw); go_simp; (try with_reducible rfl))
    try simp only [Act.put, puts]
    refine tkT 5 ?v44 ?hy44 hHeld ?rest44
    case hy44 => (intro w' hSw; (try dsimp only at hSw); go_simp; (try with_reducible rfl))
    try simp only [Act.put, puts]
    refine tkT 6 ?v45 ?hy45 hHeld ?rest45
    case hy45 => (intro w' hSw; (try dsimp only at hSw); go_simp; (try with_reducible rfl))
    try simp only [Act.put, puts]
    refine tkT 7 ?v46 ?hy46 hHeld ?rest46
    case hy46 => (intro w' hSw; (try dsimp only at hSw); go_simp; (try with_reducible rfl))
    try simp only [Act.put, puts]
    refine tkT 8 ?v47 ?hy47 hHeld ?rest47
    case hy47 => (intro w' hSw; (try dsimp only at hSw); go_simp; (try with_reducible rfl))
    try simp only [Act.put, puts]
    refine tkT 9 ?v48 ?hy48 hHeld ?rest48
    case hy48 => (intro w' hSw; (try dsimp only at hSw); go_simp; (try with_reducible rfl))
    try simp only [Act.put, puts]
    refine tkT 10 ?v49 ?hy49 hHeld ?rest49
    case hy49 => (intro w' hSw; (try dsimp only at hSw); go_simp; (try with_reducible rfl))
    try simp only [Act.put, puts]
    refine wpAnyH_ready (rs := [11]) (by kernel_rfl) (by simp) ?_
    refine AllReadyH.cons rfl (fun K hK => ?_) AllReadyH.nil
    go_simp
    refine HC.out.mono ?_
    rintro e w7 ⟨O7, rfl, hK7, k1, k2, k3, hT7⟩
    obtain ⟨k4, k5⟩ := HST.out O7 k1 k2 k3
    rw [k5] at hK7
    have M7 := HM.out.drew.turn (.tail _ _ _ _ _ _ _ (.tail _ _ _ _ _ _ _ (.tail _ _ _ _ _ _ _ (.tail _ _ _ _ _ _ _ (Upd.head _ _ _ _ _))))) hK7 hT7
    have c4 := M7.cell (.tail _ _ _ _ _ (.tail _ _ _ _ _ (Has.head _ _ _ _))) (u32s_at O i (by rw [HOL.out]; exact hin))
    have f4 := M7.free (.tail _ _ _ _ _ (.tail _ _ _ _ _ (Has.head _ _ _ _))) i
    have M8 := M7.set i (.int .u32 (Y : Int)) (.tail _ _ _ _ _ _ _ (.tail _ _ _ _ _ _ _ (Upd.head _ _ _ _ _))) (by rw [u32s_length, HOL.out]; exact hin)
    rw [u32s_set] at M8
    have HM8 := Lib.hid M8
    try go_wp2_with fail
    refine hK.out _ _ (⟨M7.cell (.tail _ _ _ _ _ (Has.head _ _ _ _)) (i := 0) rfl, M7.cell (.tail _ _ _ _ _ (.tail _ _ _ _ _ (.tail _ _ _ _ _ (Has.head _ _ _ _)))) (i := 0) rfl, M7.cell (.tail _ _ _ _ _ (.tail _ _ _ _ _ (.tail _ _ _ _ _ (.tail _ _ _ _ _ (.tail _ _ _ _ _ (Has.head _ _ _ _)))))) (i := 0) rfl⟩) (fun hHeld => ?_)
    clear hK K
    try simp only [Act.put, puts]
    refine tkT 12 ?v51 ?hy51 hHeld ?rest51
    case hy51 => (intro w' hSw; (try dsimp only at hSw); go_simp; (try with_reducible rfl))
    try simp only [Act.put, puts]
    refine wpAnyH_ready (rs := [13]) (by kernel_rfl) (by simp) ?_
    refine AllReadyH.cons rfl (fun K hK => ?_) AllReadyH.nil
    go_simp
    try go_wp2_with fail
    refine hK.out _ _ (⟨HM8.out.cell (.tail _ _ _ _ _ (Has.head _ _ _ _)) (i := 0) rfl, HM8.out.cell (.tail _ _ _ _ _ (.tail _ _ _ _ _ (.tail _ _ _ _ _ (Has.head _ _ _ _)))) (i := 0) rfl, HM8.out.cell (.tail _ _ _ _ _ (.tail _ _ _ _ _ (.tail _ _ _ _ _ (.tail _ _ _ _ _ (.tail _ _ _ _ _ (Has.head _ _ _ _)))))) (i := 0) rfl⟩) (fun hHeld => ?_)
    clear hK K
    try simp only [Act.put, puts]
    refine wpAnyH_done (by kernel_rfl) ?_ _
    have HK9 := Lib.hid (((keepsFrom_turned (B := W0.heap.size) hT7 (fun k hk => by rw [hk]; exact lG)).trans ((KeepsOthers.setCell w7 ⟨GO, i, none⟩ (.int .u32 (Y : Int))).from _)))
    have HK0 := Lib.hid (((KeepsOthers.drew W).from W0.heap.size).trans HK9.out)
    clear hT7 hK7 M7 M8 c4 f4 k1 k2 k3 k5 HK9
    gi_wp2
    refine ⟨HK0.out, ?_, _, _, by rw [show N - (k + 1) = i by omega]; exact k4, HM8.out⟩
    rintro p (rfl | ⟨b', o', j, e, hj, rfl⟩)
    · exact cell_same HM.out HM8.out (Has.head _ _ _ _) (Has.head _ _ _ _) (i := 0) rfl rfl
    · cases e
      rw [Nat.zero_add]
      refine cell_same HM.out HM8.out (.tail _ _ _ _ _ (.tail _ _ _ _ _ (Has.head _ _ _ _))) (.tail _ _ _ _ _ (.tail _ _ _ _ _ (Has.head _ _ _ _))) (u32s_at O j (by rw [HOL.out]; omega)) ?_
      rw [u32s_at _ j (by rw [List.length_set, HOL.out]; omega), getD_set _ _ _ _ (by rw [HOL.out]; exact hin), if_neg (by omega)]
  case done =>
    rintro Dx W hD ⟨R, O, HS, M⟩ hK
    rw [backs_length, HZL.out, Nat.sub_self] at HS
    obtain ⟨v1, v2⟩ := HS.done
    have hOl := HS.lenO
    have hRl := HS.lenR
    have hlt : val 4294967296 R < D := by rw [v2]; exact Nat.mod_lt _ HD0.out
    have hrl : len32 (val 4294967296 R) ≤ 1000 := dg_len_of (by decide) (Nat.le_of_lt hlt) (by rw [show (dg 4294967296 D).length = m + 1 from HDL.out]; omega)
    rw [HDD.out, Nat.mul_div_mul_right _ _ (Nat.two_pow_pos s)] at v1
    have v2 : val 4294967296 R = p % q * 2 ^ s := by rw [v2, HDD.out, Nat.mul_mod_mul_right]
    have N1 : Mem w W [(gP, 22, [.slice (some ⟨GO, 0, none⟩) N N]), (g17, 22, [.slice (some ⟨GO, 0, none⟩) N N]), (GO, 38, u32s O), (g13, 22, [.slice (some ⟨G, 0, none⟩) (N + m + 1) (N + m + 1)]), (G, 38, u32s R), (g11, 22, [.slice d (m + 1) cd]), (g4, 26, [.slice none 0 0]), (g3, 26, [.slice none 0 0]), (g2, 26, [.slice (some ⟨b1, o1, none⟩) (m + 1) cb]), (g1, 26, [.slice a (N + m) ca])] := Mem.join HMV.out (Mem.of_mew M)
    have N2 : Mem w W [(g17, 22, [.slice (some ⟨GO, 0, none⟩) N N]), (g13, 22, [.slice (some ⟨G, 0, none⟩) (N + m + 1) (N + m + 1)]), (g4, 26, [.slice none 0 0]), (g3, 26, [.slice none 0 0])] := N1.pick (by repeat (first | exact List.nil_sublist _ | apply List.Sublist.cons_cons | apply List.Sublist.cons))
    have K1 := N1.has (.tail _ _ _ _ _ (.tail _ _ _ _ _ (Has.head _ _ _ _)))
    rw [← over_all (l := u32s O) (m := u32s O) rfl] at K1
    have S1 := win_sl K1.drew (by rw [u32s_length]; omega) hOl (Nat.le_refl _) (by unfold maxLen; omega)
    have C1 := cut_any _ N N O W.drew S1 HS.digO (by omega)
    rw [v1] at C1
    have K2 := N1.has (.tail _ _ _ _ _ (.tail _ _ _ _ _ (.tail _ _ _ _ _ (.tail _ _ _ _ _ (Has.head _ _ _ _)))))
    rw [← over_all (l := u32s R) (m := u32s R) rfl] at K2
    have S2 := win_sl K2.drew (by rw [u32s_length]; omega) hRl (Nat.le_refl _) (by unfold maxLen; omega)
    have C2 := cut_any _ (N + m + 1) (N + m + 1) R W.drew S2 HS.digR (by omega)
    rw [v2] at C2 hrl
    have CS := fun v hv => shr_any16 v (p % q * 2 ^ s) s W.drew hv hrl (by omega)
    rw [Nat.mul_div_cancel _ (Nat.two_pow_pos s)] at CS
    obtain ⟨lq, elq⟩ : ∃ lq, lq = len32 (p / q) := ⟨_, rfl⟩
    obtain ⟨lr, elr⟩ : ∃ lr, lr = len32 (p % q * 2 ^ s) := ⟨_, rfl⟩
    have HIS : Hid (∀ wx (x : Option Addr) (c : Nat), Sl wx 1 (.slice x lq c) lq (u32s (dg 4294967296 (p / q))) → IsN wx (.agg #[.slice x lq c]) (p / q)) := Lib.hid (fun wx x c hx => ⟨x, c, by rw [elq], by rw [elq] at hx; exact hx⟩)
    have HIR : Hid (∀ wx (x : Option Addr) (c : Nat), Sl wx 1 (.slice x lr c) lr (u32s (dg 4294967296 (p % q * 2 ^ s))) → IsN wx (.agg #[.slice x lr c]) (p % q * 2 ^ s)) := Lib.hid (fun wx x c hx => ⟨x, c, by rw [elr], by rw [elr] at hx; exact hx⟩)
    have C1 : Calls Tryd.prog 35 #[.slice (some ⟨GO, 0, none⟩) N N] W.drew fun e w' => e = .returned (.slice (some ⟨GO, 0, none⟩) lq lq) ∧ W.drew = w' ∧ Sl W.drew 1 (.slice (some ⟨GO, 0, none⟩) lq lq) lq (u32s (dg 4294967296 (p / q))) := by rw [elq]; exact C1
    have C2 : Calls Tryd.prog 35 #[.slice (some ⟨G, 0, none⟩) (N + m + 1) (N + m + 1)] W.drew fun e w' => e = .returned (.slice (some ⟨G, 0, none⟩) lr lr) ∧ W.drew = w' ∧ Sl W.drew 1 (.slice (some ⟨G, 0, none⟩) lr lr) lr (u32s (dg 4294967296 (p % q * 2 ^ s))) := by rw [elr]; exact C2
    have C1 := Lib.hid C1
    have C2 := Lib.hid C2
    have CS := Lib.hid CS
    have HN2 := Lib.hid N2.drew
    have HK := Lib.hid hK
    have c1 := N2.cell (Has.head _ _ _ _) (i := 0) rfl
    have c2 := N2.cell (.tail _ _ _ _ _ (Has.head _ _ _ _)) (i := 0) rfl
    clear elq elr K1 K2 S1 S2 N1 N2 HS v1 v2 hOl hRl hlt hrl M hK
    subst hA
    go_wp2_with fail
    refine wp_noPan ?_
    refine wp_region_held_drew (S := (fun w' : World => w'.cell? ⟨g17, 0, none⟩ = some (.slice (some ⟨GO, 0, none⟩) N N) ∧ w'.cell? ⟨g13, 0, none⟩ = some (.slice (some ⟨G, 0, none⟩) (N + m + 1) (N + m + 1)))) (by kernel_rfl) (⟨c1, c2⟩) (fun hHeld => ?_)
    refine tkT 0 ?v53 ?hy53 hHeld ?rest53
    case hy53 => (intro w' hSw; (try dsimp only at hSw); go_simp; (try with_reducible rfl))
    try simp only [Act.put, puts]
    refine tkT 3 ?v54 ?hy54 hHeld ?rest54
    case hy54 => (intro w' hSw; (try dsimp only at hSw); go_simp; (try with_reducible rfl))
    try simp only [Act.put, puts]
    refine tkT 6 ?v55 ?hy55 hHeld ?rest55
    case hy55 => (intro w' hSw; (try dsimp only at hSw); go_simp; (try with_reducible rfl))
    try simp only [Act.put, puts]
    refine wpAnyH_ready (rs := [1]) (by kernel_rfl) (by simp) ?_
    refine AllReadyH.cons rfl (fun K hK => ?_) AllReadyH.nil
    go_simp
    refine C1.out.mono ?_
    rintro e w1 ⟨rfl, rfl, S1⟩
    have S1 := Lib.hid S1
    try go_wp2_with fail
    refine hK.out _ _ (⟨HN2.out.cell (Has.head _ _ _ _) (i := 0) rfl, HN2.out.cell (.tail _ _ _ _ _ (Has.head _ _ _ _)) (i := 0) rfl⟩) (fun hHeld => ?_)
    clear hK K
    try simp only [Act.put, puts]
    refine tkT 2 ?v57 ?hy57 hHeld ?rest57
    case hy57 => (intro w' hSw; (try dsimp only at hSw); go_simp; (try with_reducible rfl))
    try simp only [Act.put, puts]
    refine wpAnyH_ready (rs := [4]) (by kernel_rfl) (by simp) ?_
    refine AllReadyH.cons rfl (fun K hK => ?_) AllReadyH.nil
    go_simp
    refine C2.out.mono ?_
    rintro e w1 ⟨rfl, rfl, S2⟩
    have S2 := Lib.hid S2
    try go_wp2_with fail
    refine hK.out _ _ (⟨HN2.out.cell (Has.head _ _ _ _) (i := 0) rfl, HN2.out.cell (.tail _ _ _ _ _ (Has.head _ _ _ _)) (i := 0) rfl⟩) (fun hHeld => ?_)
    clear hK K
    try simp only [Act.put, puts]
    refine tkT 5 ?v59 ?hy59 hHeld ?rest59
    case hy59 => (intro w' hSw; (try dsimp only at hSw); go_simp; (try with_reducible rfl))
    try simp only [Act.put, puts]
    refine wpAnyH_ready (rs := [7]) (by kernel_rfl) (by simp) ?_
    refine AllReadyH.cons rfl (fun K hK => ?_) AllReadyH.nil
    go_simp
    refine (CS.out _ (HIR.out _ _ _ S2.out)).mono ?_
    rintro e w9 ⟨tv, rfl, htv, hA⟩
    have M7 := HN2.out.call hA
    have HD7 := Lib.hid ((hA.block Dx (Array.getElem?_eq_some_iff.1 HK.out).1).trans HK.out)
    have S1 := Lib.hid (S1.out.below hA)
    obtain ⟨a9, c9, rfl, S9⟩ := htv.form
    try go_wp2_with fail
    refine hK.out _ _ (⟨M7.cell (Has.head _ _ _ _) (i := 0) rfl, M7.cell (.tail _ _ _ _ _ (Has.head _ _ _ _)) (i := 0) rfl⟩) (fun hHeld => ?_)
    clear hK K
    try simp only [Act.put, puts]
    refine wpAnyH_ready (rs := [8]) (by kernel_rfl) (by simp) ?_
    refine AllReadyH.cons rfl (fun K hK => ?_) AllReadyH.nil
    rw [if_pos (by rfl)]
    refine wp_stM (v := .agg #[.slice (some ⟨GO, 0, none⟩) lq lq]) M7 rfl rfl rfl (wr_nat _ _ _ _) (.tail _ _ _ _ _ _ _ (.tail _ _ _ _ _ _ _ (.tail _ _ _ _ _ _ _ (Upd.head _ _ _ _ _)))) ?_
    intro w8 M8 hT8
    refine hK.out _ _ (⟨M8.cell (Has.head _ _ _ _) (i := 0) rfl, M8.cell (.tail _ _ _ _ _ (Has.head _ _ _ _)) (i := 0) rfl⟩) (fun hHeld => ?_)
    clear hK K
    try simp only [Act.put, puts]
    refine wpAnyH_ready (rs := [9]) (by kernel_rfl) (by simp) ?_
    refine AllReadyH.cons rfl (fun K hK => ?_) AllReadyH.nil
    rw [if_pos (by rfl)]
    refine wp_stM (v := .agg #[.slice a9 (len32 (p % q)) c9]) M8 rfl rfl rfl (wr_nat _ _ _ _) (.tail _ _ _ _ _ _ _ (.tail _ _ _ _ _ _ _ (Upd.head _ _ _ _ _))) ?_
    intro w9 M9 hT9
    refine hK.out _ _ (⟨M9.cell (Has.head _ _ _ _) (i := 0) rfl, M9.cell (.tail _ _ _ _ _ (Has.head _ _ _ _)) (i := 0) rfl⟩) (fun hHeld => ?_)
    clear hK K
    try simp only [Act.put, puts]
    refine wpAnyH_done (by kernel_rfl) ?_ _
    have lg4 := HMV.out.lt (Has.head _ _ _ _)
    have lg3 := HMV.out.lt (.tail _ _ _ _ _ (Has.head _ _ _ _))
    have hD8 := (hT8.block Dx (Array.getElem?_eq_some_iff.1 HD7.out).1 (by intro h; omega)).trans HD7.out
    have hD9 := (hT9.block Dx (Array.getElem?_eq_some_iff.1 hD8).1 (by intro h; omega)).trans hD8
    have hS1 := HIS.out _ _ _ (sl_put (sl_kept (sl_kept S1.out (M7.has (.tail _ _ _ _ _ (.tail _ _ _ _ _ (.tail _ _ _ _ _ (Has.head _ _ _ _))))) (noPart_sl _ _ _) hT8) (M8.has (.tail _ _ _ _ _ (.tail _ _ _ _ _ (Has.head _ _ _ _)))) (noPart_sl _ _ _) hT9) (.deferred none) hD9)
    have hS2 := sl_put (sl_kept (sl_kept S9 (M7.has (.tail _ _ _ _ _ (.tail _ _ _ _ _ (.tail _ _ _ _ _ (Has.head _ _ _ _))))) (noPart_sl _ _ _) hT8) (M8.has (.tail _ _ _ _ _ (.tail _ _ _ _ _ (Has.head _ _ _ _)))) (noPart_sl _ _ _) hT9) (.deferred none) hD9
    have HM9 := Lib.hid M9
    have HD9 := Lib.hid hD9
    have HS1 := Lib.hid hS1
    have HS2 := Lib.hid hS2
    have hDw : w.heap.size ≤ Dx := by omega
    clear hT8 hT9 HD7 hD8 hD9 hS1 hS2 M7 M8 M9 S9
    refine noPan_end ?_
    go_wp2_with fail
    refine ⟨by simp, .inl ⟨_, _, rfl, run_takeDeferred HD9.out, ?_⟩⟩
    have hg := grownBy_putObj' w9 Dx (.deferred none)
    have hM := Mem.of_mew ((Mew.of_mem (S := fun _ => False) HM9.out).grown hg (fun r e => by cases e; exact ⟨hDw, _, HD9.out, rfl⟩))
    exact ⟨_, res_cells rfl hM rfl (.tail _ _ _ _ _ (.tail _ _ _ _ _ (.tail _ _ _ _ _ (Has.head _ _ _ _)))) (rd_nat _) rfl (.tail _ _ _ _ _ (.tail _ _ _ _ _ (Has.head _ _ _ _))) (rd_nat _), _, _, rfl, HS1.out, ⟨_, _, rfl, HS2.out⟩, hM.below⟩
  case ret => exact fun _ _ _ _ _ h _ => h.elim
  case stop => exact fun _ _ _ _ _ _ h _ => h.elim
end Go.Proofs.YtghioakpigdagaaDoor
