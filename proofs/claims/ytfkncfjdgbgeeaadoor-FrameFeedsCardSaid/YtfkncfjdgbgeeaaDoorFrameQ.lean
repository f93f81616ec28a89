/-
  Bytes that come in pieces: the code's Feed.
-/
import Derived.Test.YtfkncfjdgbgeeaaDoorFrameU
import Derived.Deep.Cut
set_option linter.unusedVariables false
set_option linter.unusedSimpArgs false
namespace Go.Proofs.YtfkncfjdgbgeeaaDoor
open Go Go.RowKit Go.Th Go.Th.Crc

set_option maxRecDepth 20000 in
theorem grow12_any (n : Nat) (hn : n ≤ 140737488355328) (w : World) :
    Calls Tryd.prog 39 #[.slice none 0 0, .int .i64 n] w fun e w' => ∃ v, e = .returned v ∧ w'.ownsRow w.heap.size 5 1 v 0 [] ∧ Below w.heap.size w w' := by
  rcases Nat.eq_zero_or_pos n with rfl | h0
  · go_enter Tryd.func39, Tryd.ntmps39
    go_wp2
    go_ret
    exact ⟨_, rfl, World.ownsRow_nil _ _ _ _, Below.refl _ _⟩
  · exact grow_nil n h0 hn w

set_option maxHeartbeats 1600000 in
set_option maxRecDepth 20000 in
theorem concat12_any (vs va vb : Value) (ps bs : List Nat) (w : World) (hs : Sl w 1 vs 2 [va, vb]) (ha : Sl w 1 va ps.length (u8s ps)) (hb : Sl w 1 vb bs.length (u8s bs))
    (hl : ps.length + bs.length ≤ 70368744177664) :
    Calls Tryd.prog 33 #[vs] w fun e w' => ∃ v, e = .returned v ∧ w'.ownsRow w.heap.size 5 1 v (ps.length + bs.length) (u8s (ps ++ bs)) ∧ Below w.heap.size w w' := by
  obtain ⟨aa, ca, rfl⟩ := sl_slice ha
  obtain ⟨ab, cb, rfl⟩ := sl_slice hb
  obtain ⟨vsa, vsc, rfl, _, _, _, _, hc⟩ := hs
  obtain ⟨b, o, rfl, c0⟩ := hc 0 _ rfl
  obtain ⟨b', o', hA, c1⟩ := hc 1 _ rfl
  cases hA
  rw [Nat.add_zero] at c0
  have hbl := World.block_lt_of_cell? w _ c0
  clear hc
  go_enter Tryd.func33, Tryd.ntmps33
  go_wp2
  go_loop [3, 11] (fun s c => ∃ i : Nat, i ≤ 2 ∧ c = .int .i64 i ∧ s = .int .i64 (if i = 0 then 0 else if i = 1 then ps.length else ps.length + bs.length : Nat)) (fun _ c => 2 - (intOf c).toNat)
  case atStart => exact ⟨0, by omega, rfl, rfl⟩
  case round =>
    obtain ⟨i, hi, rfl, rfl⟩ := hrel
    rcases (show i = 0 ∨ i = 1 ∨ i = 2 by omega) with rfl | rfl | rfl
    · go_wp2
      go_round
      case rel => exact ⟨1, by omega, rfl, by simp⟩
      case measure => simp [intOf]
    · go_wp2
      go_round
      case rel => exact ⟨2, by omega, rfl, by simp⟩
      case measure => simp [intOf]
    · go_wp2_with fail
      refine (grow12_any (ps.length + bs.length) (by omega) _).mono ?_
      rintro e w1 ⟨v1, rfl, ho, hB⟩
      go_wp2
      go_loopw [6, 27] (fun v c wx => ∃ i : Nat, i ≤ 2 ∧ c = .int .i64 i ∧ wx.ownsRow w.heap.size 5 1 v (if i = 0 then 0 else if i = 1 then ps.length else ps.length + bs.length) (u8s (if i = 0 then [] else if i = 1 then ps else ps ++ bs)) ∧ Below w.heap.size w wx) (fun _ c _ => 2 - (intOf c).toNat)
      case atStart => exact ⟨0, by omega, rfl, by simpa [u8s] using ho, hB⟩
      case round =>
        clear ho hB
        obtain ⟨i, hi, rfl, ho, hB⟩ := hrel
        have hsz := hB.size
        have d0 := (hB.cell (p := ⟨b, o, none⟩) hbl).trans c0
        have d1 := (hB.cell (p := ⟨b, o + 1, none⟩) hbl).trans c1
        have sa := ha.below hB
        have sb := hb.below hB
        rcases (show i = 0 ∨ i = 1 ∨ i = 2 by omega) with rfl | rfl | rfl
        · go_wp2_with (at_builtin; refine wpList_app Eu8 rfl (.tmp 31) (.tmp 32) rfl w.heap.size rfl ho rfl sa (oneCell_u8s _) (by unfold maxLen; simp; omega) (by simp; omega) hsz ?_)
          intro v2 w2 ho2 hg2 _
          have hB2 := hB.grown hg2 hsz (fun q hq => (ho.lt q hq).1)
          clear ho hB hg2 sa sb
          go_wp2
          go_roundw
          case rel => exact ⟨1, by omega, rfl, by simpa [u8s] using ho2, hB2⟩
          case measure => simp [intOf]
        · go_wp2_with (at_builtin; refine wpList_app Eu8 rfl (.tmp 31) (.tmp 32) rfl w.heap.size rfl ho rfl sb (oneCell_u8s _) (by unfold maxLen; simp; omega) (by simp; omega) hsz ?_)
          intro v2 w2 ho2 hg2 _
          have hB2 := hB.grown hg2 hsz (fun q hq => (ho.lt q hq).1)
          clear ho hB hg2 sa sb
          go_wp2
          go_roundw
          case rel => exact ⟨2, by omega, rfl, by simpa [u8s] using ho2, hB2⟩
          case measure => simp [intOf]
        · go_wp2
          go_ret
          exact ⟨_, rfl, by simpa using ho, hB⟩

def slen : Value → Nat
  | .slice _ n _ => n
  | _ => 0

set_option maxRecDepth 20000 in
theorem lost_any (g : Nat) (v : Value) (k : Int) (w : World) (K : Blk w g 46 [v, .int .i64 k]) :
    Calls Tryd.prog 20 #[.pointer (some ⟨g, 0, none⟩)] w fun e w' => e = .returned (.int .i64 k) ∧ w = w' := by
  have c1 := K.cell (i := 1) rfl
  clear K
  go_enter Tryd.func20, Tryd.ntmps20
  go_wp2
  go_ret
  exact ⟨rfl, rfl⟩
set_option maxRecDepth 20000 in
theorem waits_any (g : Nat) (a : Option Addr) (n cap : Nat) (k : Int) (w : World) (K : Blk w g 46 [.slice a n cap, .int .i64 k]) :
    Calls Tryd.prog 21 #[.pointer (some ⟨g, 0, none⟩)] w fun e w' => e = .returned (.int .i64 n) ∧ w = w' := by
  have c1 := K.cell (i := 0) rfl
  clear K
  go_enter Tryd.func21, Tryd.ntmps21
  go_wp2
  go_ret
  exact ⟨rfl, rfl⟩

/-- Between two rounds of Push. -/
structure PushI (w : World) (g B2 : Nat) (wv : Value) (lost : Nat) (all : List Nat) (vt vl : Value) (l : List Fr) (k : Nat) (r : List Nat) (wr : World) : Prop where
  far : Far all l k r
  sl : Sl wr 1 vl r.length (u8s r)
  at_ : ∀ x n cap, vl = .slice (some x) n cap → w.heap.size ≤ x.block ∧ x.block < B2
  own : wr.ownsRow B2 25 6 vt l.length (frs l)
  K : Blk wr g 46 [wv, .int .i64 ((lost + k : Nat) : Int)]
  C : Cts wr
  T : Turned (fun j => j = g) w wr
  lb : ∀ x ∈ r, x < 256
  len : r.length + k + l.length ≤ all.length
  le2 : B2 ≤ wr.heap.size
  wB : w.heap.size ≤ B2
  glt : g < w.heap.size
  g0 : g ≠ 0

theorem PushI.below {w : World} {g B2 : Nat} {wv : Value} {lost : Nat} {all : List Nat} {vt vl : Value} {l : List Fr} {k : Nat} {r : List Nat} {wr wr' : World} (P : PushI w g B2 wv lost all vt vl l k r wr) (h : Below wr.heap.size wr wr') : PushI w g B2 wv lost all vt vl l k r wr' :=
  ⟨P.far, P.sl.below h, P.at_, ownsRow_below P.own h, P.K.below h P.K.lt, P.C.below h, P.T.trans (Turned.below h) (fun _ _ e => e), P.lb, P.len, Nat.le_trans P.le2 h.size, P.wB, P.glt, P.g0⟩

set_option maxRecDepth 20000 in
set_option maxHeartbeats 6400000 in
theorem push_any (g : Nat) (wv vx : Value) (ws bs : List Nat) (lost : Nat) (hlo : lost ≤ 1000000000) (hl : ws.length + bs.length ≤ 1000000) (hb1 : ∀ x ∈ ws, x < 256) (hb2 : ∀ x ∈ bs, x < 256) (w : World) (C : Cts w) (hg0 : g ≠ 0)
    (K : Blk w g 46 [wv, .int .i64 (lost : Nat)]) (hw : Sl w 1 wv ws.length (u8s ws)) (h : Sl w 1 vx bs.length (u8s bs)) :
    Calls Tryd.prog 18 #[.pointer (some ⟨g, 0, none⟩), vx] w fun e w' => ∃ v l k r wv', e = .returned v ∧ Feeds (ws ++ bs) l k r ∧ w'.ownsRow w.heap.size 25 6 v l.length (frs l) ∧ Blk w' g 46 [wv', .int .i64 ((lost + k : Nat) : Int)] ∧ w'.ownsRow w.heap.size 5 1 wv' r.length (u8s r) ∧ Turned (fun j => j = g) w w' := by
  obtain ⟨a1, cap1, rfl⟩ := sl_slice hw
  obtain ⟨a2, cap2, rfl⟩ := sl_slice h
  have c0 := K.cell (i := 0) rfl
  obtain ⟨w1, hw1⟩ : ∃ w1, w.alloc (.cells #[.slice a1 ws.length cap1, .slice a2 bs.length cap2] 26) = w1 := ⟨_, rfl⟩
  have hB1 : Below w.heap.size w w1 := by rw [← hw1]; exact (Below.refl _ _).alloc (Nat.le_refl _) _
  have s0 : Sl w1 1 (.slice (some ⟨w.heap.size, 0, none⟩) 2 2) 2 [.slice a1 ws.length cap1, .slice a2 bs.length cap2] := by rw [← hw1]; exact (Blk.new w 26 [.slice a1 ws.length cap1, .slice a2 bs.length cap2]).sl 2 rfl (by decide)
  have CC := concat12_any _ _ _ ws bs w1 s0 (hw.below hB1) (h.below hB1) (by omega)
  obtain ⟨all, hall⟩ : ∃ l, l = ws ++ bs := ⟨_, rfl⟩
  have hal : all.length = ws.length + bs.length := by rw [hall, List.length_append]
  have hbl : ∀ x ∈ all, x < 256 := by
    rw [hall]; intro x hx
    rcases List.mem_append.1 hx with hx | hx
    · exact hb1 x hx
    · exact hb2 x hx
  rw [← hall] at CC ⊢
  rw [← hal] at CC hl
  have HBL := Lib.hid hbl
  have CC := Lib.hid CC
  have KH := Lib.hid K
  have C1 := Lib.hid C
  have HW1 := Lib.hid hw1
  have hglt := K.lt
  clear s0 hw h hall hal hbl hb1 hb2 K C hw1
  go_enter Tryd.func18, Tryd.ntmps18
  go_wp2_with fail
  rw [HW1.out]
  refine CC.out.mono ?_
  rintro e w2 ⟨v2, rfl, ho2, hB2⟩
  have hBw := hB1.trans (hB2.mono hB1.size)
  have hv2 : ∀ x n cap, v2 = .slice (some x) n cap → w.heap.size ≤ x.block ∧ x.block < w2.heap.size := by
    rintro x n cap rfl
    obtain ⟨hq1, hq2⟩ := ho2
    rcases hq2 with ⟨e, _⟩ | ⟨gx, cx, cur, e, hgx, hh, _⟩
    · cases e
    · cases e
      exact ⟨Nat.le_trans hB1.size hgx, lt_of_block hh⟩
  have P0 : PushI w g w2.heap.size (.slice a1 ws.length cap1) lost all (.slice none 0 0) v2 [] 0 all w2 :=
    ⟨Far.start all, Sl.of_own ho2, hv2, World.ownsRow_nil _ _ _ _, KH.out.below hBw KH.out.lt, C1.out.below hBw, Turned.below hBw, HBL.out, by simp, Nat.le_refl _, hBw.size, hglt, hg0⟩
  clear CC hv2 ho2 hBw hB1 hB2 c0 HW1
  go_wp2_with fail
  go_loopw [5, 6] (fun vt vl wr => ∃ l k r, PushI w g w2.heap.size (.slice a1 ws.length cap1) lost all vt vl l k r wr) (fun _ vl _ => slen vl)
  case atStart => exact ⟨_, _, _, P0⟩
  case round =>
    clear P0
    obtain ⟨l, k, r, HP⟩ := hrel
    obtain ⟨ar, capr, hvr⟩ := sl_slice HP.sl
    subst hvr
    have hrlen := HP.len
    have C1' := first_any _ r (by omega) HP.lb wr HP.C HP.sl
    have HPH := Lib.hid HP
    obtain ⟨F, hF⟩ : ∃ F, F = fstF r := ⟨_, rfl⟩
    obtain ⟨m, hm⟩ : ∃ m, m = fstN r := ⟨_, rfl⟩
    have hcl := fst_lt r
    have hf1 : fst r = 0 → m ≤ r.length ∧ 12 ≤ m ∧ m = sz r ∧ F = frm r := fun h => by
      have := fst_fits (bs := r) (i := 0) (Nat.zero_le _) h
      simp only [List.drop_zero, Nat.zero_add] at this
      rw [hm, fstN, if_pos h, hF, fstF, if_pos h]
      exact ⟨this.1, this.2, rfl, rfl⟩
    have hpos : fst r ≠ 5 → 1 ≤ r.length := fst_pos
    have FT : fst r = 0 → Far all (l ++ [frm r]) k (r.drop (sz r)) := fun h => HP.far.tell h
    have FP : fst r ≠ 0 → fst r ≠ 5 → Far all l (k + 1) (r.drop 1) := fun h h5 => HP.far.pass h h5
    have FS : fst r = 5 → Feeds all l k r := fun h => HP.far.stop h
    rw [← hF, ← hm] at C1'
    obtain ⟨c, hc⟩ : ∃ c, c = fst r := ⟨_, rfl⟩
    rw [← hc] at C1' hcl hf1 hpos FT FP FS
    have CF := Lib.hid C1'
    have HF1 := Lib.hid hf1
    have HPO := Lib.hid hpos
    have FTH := Lib.hid FT
    have FPH := Lib.hid FP
    have FSH := Lib.hid FS
    have HRL := Lib.hid hrlen
    have hrb : r.length ≤ 1000000 := by omega
    have hkb : k ≤ 1000000 := by omega
    have hlb : l.length ≤ 1000000 := by omega
    obtain ⟨n, hn⟩ : ∃ n, n = r.length := ⟨_, rfl⟩
    rw [← hn] at CF hrb HF1 HPO
    have HNN := Lib.hid hn
    have hsl := HP.sl
    rw [← hn] at hsl
    have HSL := Lib.hid hsl
    rw [← hn]
    clear hF hm hc hf1 hpos FT FP FS C1' HP hrlen hn hsl
    go_wp2_with fail
    refine CF.out.mono ?_
    rintro e w4 ⟨rfl, hB4⟩
    clear CF
    have HP4 := HPH.out.below hB4
    obtain ⟨w5, hw5⟩ : ∃ w5, w4.alloc (.cells (fc F).toArray 25) = w5 := ⟨_, rfl⟩
    have hB5 : Below w4.heap.size w4 w5 := by rw [← hw5]; exact (Below.refl _ _).alloc (Nat.le_refl _) _
    have HP5 := HP4.below hB5
    have K5 : Blk w5 w4.heap.size 25 (fc F) := by rw [← hw5]; exact Blk.new w4 _ _
    have HW5 := Lib.hid hw5
    clear hw5 hB4 hB5 HP4
    go_upto_region 4 with fail
    rw [HW5.out]
    clear HW5
    by_cases hc0 : c = 0
    · obtain ⟨hf1, hf2, hf3, hf4⟩ := HF1.out hc0
      have hfd := FTH.out hc0
      rw [← hf3, ← hf4] at hfd
      have HFD := Lib.hid hfd
      subst hc0
      obtain ⟨ax, cx, cut1, sx, hax⟩ := (HP5.sl).cut_from Eu8 m (by rw [← HNN.out]; exact hf1)
      rw [← HNN.out] at cut1 sx
      have ed : u8s (r.drop m) = (u8s r).drop m := by simp [u8s]
      rw [← ed] at sx
      have c0 := K5.cell (i := 0) rfl
      have c1 := K5.cell (i := 1) rfl
      have c2 := K5.cell (i := 2) rfl
      have c3 := K5.cell (i := 3) rfl
      have c4 := K5.cell (i := 4) rfl
      have c5 := K5.cell (i := 5) rfl
      have ho5 := HP5.own
      have hB25 := HP5.le2
      obtain ⟨va, vc, rfl, _, _⟩ := ownsRow_slice ho5
      have HSX := Lib.hid sx
      have HAX := Lib.hid hax
      have HP5 := Lib.hid HP5
      clear hfd ed sx hax hf3 hf4 HF1 HPO FTH FPH FSH
      go_wp2_with (at_builtin; refine wpList_app EFr rfl (.tmp 35) (.tmp 37) rfl w2.heap.size rfl (ho5.alloc _) rfl (Sl.oneF F _) (oneCell_fc F) (by unfold maxLen; omega) (by omega) (by simp; omega) ?_)
      intro v6 w6 ho6 hg6 _
      have hov : ∀ q, (Value.slice va l.length vc).ownBlock = some q → w2.heap.size ≤ q := fun q hq => (ho5.lt q hq).1
      have T6 : Turned (fun j => (Value.slice va l.length vc).ownBlock = some j) w5 w6 := ((Turned.refl _ w5).alloc _).grown hg6 (fun q e _ => e)
      have P5 := HP5.out
      have HR : PushI w g w2.heap.size (.slice a1 ws.length cap1) lost all v6 (.slice ax (n - m) cx) (l ++ [F]) k (r.drop m) w6 := by
        have hdl : (r.drop m).length = n - m := by rw [List.length_drop, ← HNN.out]
        refine ⟨HFD.out, ?_, ?_, ?_, P5.K.turned T6 (fun e => by have := hov _ e; have := P5.glt; have := P5.wB; omega), P5.C.turned T6 (fun e => by have := hov _ e; have := P5.wB; have := P5.glt; omega), ?_, fun x hx => P5.lb x (List.mem_of_mem_drop hx), ?_, Nat.le_trans P5.le2 T6.size, P5.wB, P5.glt, P5.g0⟩
        · rw [hdl]
          refine HSX.out.turned T6 (fun x hx e => ?_)
          obtain ⟨y, hy, hyx⟩ := HAX.out x hx
          have := hov _ e
          have := (P5.at_ y _ _ (by rw [hy])).2
          omega
        · intro x n' cap' e
          cases e
          obtain ⟨y, hy, hyx⟩ := HAX.out x rfl
          rw [← hyx]
          exact P5.at_ y _ _ (by rw [hy])
        · simpa [frs] using ho6
        · exact P5.T.trans T6 (fun q hq e => by have := hov _ e; have := P5.wB; omega)
        · have := P5.len; rw [hdl]; simp; rw [← HNN.out] at this; omega
      have HR := Lib.hid HR
      clear ho5 ho6 hg6 T6 K5 c0 c1 c2 c3 c4 c5 P5 HP5 HPH hov
      obtain ⟨v6a, v6c, rfl, _, _⟩ := ownsRow_slice HR.out.own
      go_wp2_with fail
      go_roundw
      case rel => exact ⟨_, _, _, HR.out⟩
      case measure => simp [slen]; omega
    · have d0 : ((c : Int) == 0) = false := by simp; omega
      by_cases hc5 : c = 5
      · have hfd := FSH.out hc5
        have HFD := Lib.hid hfd
        subst hc5
        have CL := clone_any _ r w5 HP5.sl (by rw [← HNN.out]; omega)
        rw [← HNN.out] at CL
        have CL := Lib.hid CL
        have HP5 := Lib.hid HP5
        clear hfd K5 HF1 HPO FTH FPH FSH
        go_wp2_with fail
        refine CL.out.mono ?_
        rintro e w6 ⟨v6, rfl, ho6, hB6⟩
        have HP6 := HP5.out.below hB6
        obtain ⟨a6, c6, rfl, _, _⟩ := ownsRow_slice ho6
        have c0 := HP6.K.cell (i := 0) rfl
        have f0 := HP6.K.free 0
        have hset := HP6.K.set 0 (.slice a6 n c6) (by simp)
        have hT7 : Turned (fun j => j = g) w6 (w6.setCell ⟨g, 0, none⟩ (.slice a6 n c6)) := (Turned.refl (fun j => j = g) w6).setCell (a := ⟨g, 0, none⟩) (.inl rfl) _
        have hTw := HP6.T.setCell (a := ⟨g, 0, none⟩) (.inl rfl) (.slice a6 n c6)
        have ho7 := hT7.own ho6 (fun q hq e => by subst e; have := (ho6.lt _ hq).1; have := HP5.out.K.lt; omega)
        have hw7 := hT7.own HP6.own (fun q hq e => by subst e; have := (HP6.own.lt _ hq).1; have := HP6.glt; have := HP6.wB; omega)
        have hb5 : w.heap.size ≤ w5.heap.size := HP5.out.T.size
        have hwB := HP6.wB
        have HRES := Lib.hid (And.intro hset (And.intro hTw (And.intro ho7 hw7)))
        clear CL hB6 ho6 hset hT7 hTw ho7 hw7 HP6 HP5 HPH
        go_wp2_with fail
        go_ret
        obtain ⟨q1, q2, q3, q4⟩ := HRES.out
        refine ⟨_, l, k, r, _, rfl, HFD.out, ownsRow_base q4 hwB, q1, ?_, q2⟩
        rw [← HNN.out]
        exact ownsRow_base q3 hb5
      · have hlt := HPO.out hc5
        have hfd := FPH.out hc0 hc5
        have HFD := Lib.hid hfd
        have d1 : ((c : Int) == 5) = false := by simp; omega
        obtain ⟨ax, cx, cut1, sx, hax⟩ := (HP5.sl).cut_from Eu8 1 (by rw [← HNN.out]; exact hlt)
        rw [← HNN.out] at cut1 sx
        replace cut1 : ∀ wx, (Instr.slice 26 (.slice ar n capr) (some (.int .i64 1)) none none).run Tryd.prog wx = .ok (.slice ax (n - 1) cx) wx := cut1
        have ed : u8s (r.drop 1) = (u8s r).drop 1 := by simp [u8s]
        rw [← ed] at sx
        have c1 := HP5.K.cell (i := 1) rfl
        have f1 := HP5.K.free 1
        have hset := HP5.K.set 1 (.int .i64 ((lost + (k + 1) : Nat) : Int)) (by simp)
        have hT7 : Turned (fun j => j = g) w5 (w5.setCell ⟨g, 1, none⟩ (.int .i64 ((lost + (k + 1) : Nat) : Int))) := (Turned.refl (fun j => j = g) w5).setCell (a := ⟨g, 1, none⟩) (.inl rfl) _
        have hdl : (r.drop 1).length = n - 1 := by rw [List.length_drop, ← HNN.out]
        have e1 : ((lost + k : Nat) : Int) + 1 = ((lost + (k + 1) : Nat) : Int) := by omega
        obtain ⟨tv, tc, rfl, _, _⟩ := ownsRow_slice HP5.own
        have HR : PushI w g w2.heap.size (.slice a1 ws.length cap1) lost all (.slice tv l.length tc) (.slice ax (n - 1) cx) l (k + 1) (r.drop 1) (w5.setCell ⟨g, 1, none⟩ (.int .i64 ((lost + (k + 1) : Nat) : Int))) := by
          refine ⟨HFD.out, ?_, ?_, hT7.own HP5.own (fun q hq e => by subst e; have := (HP5.own.lt _ hq).1; have := HP5.glt; have := HP5.wB; omega), hset, HP5.C.turned hT7 (fun e => HP5.g0 e.symm), HP5.T.trans hT7 (fun _ _ e => e), fun x hx => HP5.lb x (List.mem_of_mem_drop hx), ?_, Nat.le_trans HP5.le2 hT7.size, HP5.wB, HP5.glt, HP5.g0⟩
          · rw [hdl]
            refine sx.turned hT7 (fun x hx e => ?_)
            obtain ⟨y, hy, hyx⟩ := hax x hx
            have := (HP5.at_ y _ _ (by rw [hy])).1
            have := HP5.glt
            omega
          · intro x n' cap' e
            cases e
            obtain ⟨y, hy, hyx⟩ := hax x rfl
            rw [← hyx]
            exact HP5.at_ y _ _ (by rw [hy])
          · have := HP5.len; rw [hdl]; rw [← HNN.out] at this; omega
        have HR := Lib.hid HR
        obtain ⟨z, hz⟩ : ∃ z, z = ((lost + (k + 1) : Nat) : Int) := ⟨_, rfl⟩
        obtain ⟨y, hy⟩ : ∃ y, y = ((lost + k : Nat) : Int) := ⟨_, rfl⟩
        have hyb : 0 ≤ y ∧ y ≤ 2000000000 := by omega
        rw [← hz, ← hy] at e1
        rw [← hz] at HR
        rw [← hy] at c1
        clear hfd ed sx hax hdl hset hT7 HP5 HPH K5 HF1 HPO FTH FPH FSH hz hy
        go_wp2_with fail
        go_roundw
        case rel => exact ⟨_, _, _, by first | exact HR.out | (rw [e1]; exact HR.out)⟩
        case measure => simp [slen]; omega
end Go.Proofs.YtfkncfjdgbgeeaaDoor
