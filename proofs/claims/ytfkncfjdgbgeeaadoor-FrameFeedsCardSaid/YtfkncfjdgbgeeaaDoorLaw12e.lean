/-
  FrameFeeds, walked.
-/
import Derived.Test.YtfkncfjdgbgeeaaDoorLaw12a
import Derived.Test.YtfkncfjdgbgeeaaDoorFrameU
import Derived.Test.YtfkncfjdgbgeeaaDoorFrameQ
import Derived.Test.YtfkncfjdgbgeeaaDoorPackBits
set_option linter.unusedVariables false
set_option linter.unusedSimpArgs false
namespace Go.Proofs.YtfkncfjdgbgeeaaDoor
open Go Go.RowKit Go.Th Go.Th.Crc

theorem frs_at2 (l : List Fr) (i j : Nat) (h : i < l.length) (hj : j < 6) : (frs l)[i * 6 + j]? = (fc l[i])[j]? := by
  induction l generalizing i with
  | nil => simp at h
  | cons f r ih =>
    unfold frs at ih ⊢
    rw [List.flatMap_cons]
    match i with
    | 0 => rw [Nat.zero_mul, Nat.zero_add, List.getElem?_append_left (by simpa using hj)]; rfl
    | i + 1 =>
      rw [List.getElem?_append_right (by simp; omega), show (i + 1) * 6 + j - (fc f).length = i * 6 + j by simp; omega]
      exact ih i (by simpa using h)

theorem _root_.Go.Th.Sl.below_old {w w' : World} {size n : Nat} {v : Value} {xs : List Value} (h : Go.Th.Sl w size v n xs) (hb : Below w.heap.size w w') : Go.Th.Sl w' size v n xs := h.below hb
/-- Between two pieces. -/
structure FeedI (w : World) (g : Nat) (bs : List Nat) (n : Nat) (vl : Value) (a : Option Addr) (cap : Nat) (p k : Nat) (l : List Fr) (r : List Nat) (wv : Value) (wr : World) : Prop where
  feeds : Feeds (bs.take p) l k r
  own : wr.ownsRow (w.heap.size + 1) 25 6 vl l.length (frs l)
  K : Blk wr g 46 [wv, .int .i64 (k : Nat)]
  wts : wr.ownsRow (w.heap.size + 1) 5 1 wv r.length (u8s r)
  sl : Sl wr 1 (.slice a (n - p) cap) (n - p) (u8s (bs.drop p))
  at_ : ∀ x, a = some x → 0 < n - p → x.block < w.heap.size
  C : Cts wr
  below : Below w.heap.size w wr
  big : w.heap.size + 1 ≤ wr.heap.size
  geq : g = w.heap.size
  g0 : g ≠ 0
  rb : ∀ x ∈ r, x < 256

/-- One piece more: what Push leaves, and the frames laid behind the others. -/
theorem FeedI.step {w : World} {g : Nat} {bs : List Nat} {n : Nat} {vl : Value} {a : Option Addr} {cap p k : Nat} {l : List Fr} {r : List Nat} {wv : Value} {wr : World} (F : FeedI w g bs n vl a cap p k l r wv wr)
    (m : Nat) (a' : Option Addr) (cap' : Nat) (hm : p + m ≤ n) (hn : n = bs.length) (hsl : ∀ wx, Sl wx 1 (.slice a (n - p) cap) (n - p) (u8s (bs.drop p)) → True)
    (s' : Sl wr 1 (.slice a' (n - p - m) cap') (n - p - m) ((u8s (bs.drop p)).drop m)) (hA : ∀ x, a' = some x → ∃ y, a = some y ∧ y.block = x.block)
    {w2 w3 : World} {v v3 wv' : Value} {l' : List Fr} {k' : Nat} {r' : List Nat} (hF : Feeds (r ++ (bs.drop p).take m) l' k' r') (ho : w2.ownsRow wr.heap.size 25 6 v l'.length (frs l'))
    (K2 : Blk w2 g 46 [wv', .int .i64 ((k + k' : Nat) : Int)]) (ow : w2.ownsRow wr.heap.size 5 1 wv' r'.length (u8s r')) (T2 : Turned (fun j => j = g) wr w2)
    (o3 : w3.ownsRow (w.heap.size + 1) 25 6 v3 (l.length + l'.length) (frs l ++ frs l')) (hg : w2.grownBy w3 vl.ownBlock) (hbs : ∀ x ∈ bs, x < 256) :
    FeedI w g bs n v3 a' cap' (p + m) (k + k') (l ++ l') r' wv' w3 := by
  have hov : ∀ q, vl.ownBlock = some q → w.heap.size + 1 ≤ q ∧ q < wr.heap.size := fun q hq => F.own.lt q hq
  have own2 := T2.own F.own (fun q hq e => by have := (hov q hq).1; have := F.geq; omega)
  have T3 : Turned (fun j => vl.ownBlock = some j) w2 w3 := (Turned.refl _ w2).grown hg (fun q e _ => e)
  have T23 : Turned (fun j => w.heap.size ≤ j) wr w3 := (T2.mono (fun q _ e => by subst e; have := F.geq; omega)).trans (T3.mono (S' := fun j => w.heap.size ≤ j) (fun q _ e => by have := (hov q e).1; omega)) (fun _ _ e => e)
  have hlen : (bs.drop p).drop m = bs.drop (p + m) := by rw [List.drop_drop]
  have e1 : n - (p + m) = n - p - m := by omega
  have e2 : (u8s (bs.drop p)).drop m = u8s (bs.drop (p + m)) := by rw [← hlen]; simp [u8s]
  rw [e2] at s'
  have hat : ∀ x, a' = some x → 0 < n - (p + m) → x.block < w.heap.size := by
    intro x hx h0
    obtain ⟨y, hy, hyx⟩ := hA x hx
    rw [← hyx]
    exact F.at_ y hy (by omega)
  refine ⟨?_, ?_, K2.turned T3 (fun e => by have := (hov g e).1; have := F.geq; omega), ownsRow_base (own_other own2 ow (by decide) hg) F.big, ?_, hat, ?_, T23.old F.below F.below.size (fun q hq e => by omega), Nat.le_trans F.big T23.size, F.geq, F.g0, ?_⟩
  · have := F.feeds.join hF
    rw [← List.take_add] at this
    exact this
  · rw [List.length_append, frs_app]; exact o3
  · rw [e1]
    refine s'.apart T23 (fun x hx h0 e => ?_)
    have := hat x hx (by omega)
    omega
  · refine F.C.turned T23 (fun e => ?_)
    have := F.g0
    have := F.geq
    omega
  · have h2 := hF.len.2
    intro x hx
    rcases List.mem_append.1 (h2.subset hx) with h | h
    · exact F.rb x h
    · exact hbs x (List.mem_of_mem_drop (List.mem_of_mem_take h))

set_option maxRecDepth 100000 in
set_option maxHeartbeats 8000000 in
theorem frameFeeds_any (a : Option Addr) (n cap : Nat) (bs : List Nat) (hn : n = bs.length) (hb : ∀ x ∈ bs, x < 256) (ac : Option Addr) (nc capc : Nat) (cs : List Nat) (hnc : nc = cs.length) (hbc : ∀ x ∈ cs, x < 256) (w : World) (h : Sl w 1 (.slice a n cap) n (u8s bs)) (hc : Sl w 1 (.slice ac nc capc) nc (u8s cs)) (C : Cts w) :
    Calls Tryd.prog 6 #[.slice a n cap, .slice ac nc capc] w fun e w' => e = .returned (.bool true) ∧ Below w.heap.size w w' := by
  have hmx := h.max
  have hmc := hc.max
  by_cases hl : 400 < n ∨ 60 < nc
  · have WK := Lib.hid (works12_any w C)
    clear h hc C hn hb hnc hbc
    by_cases hl1 : 400 < n
    · clear hl
      go_enter Tryd.func6, Tryd.ntmps6
      go_wp2_with fail
      refine WK.out.mono ?_
      rintro e w2 ⟨rfl, hB⟩
      clear WK
      go_wp2_with fail
      go_ret
      exact ⟨rfl, hB⟩
    · have hl2 : 60 < nc := by omega
      clear hl
      go_enter Tryd.func6, Tryd.ntmps6
      go_wp2_with fail
      refine WK.out.mono ?_
      rintro e w2 ⟨rfl, hB⟩
      clear WK
      go_wp2_with fail
      go_ret
      exact ⟨rfl, hB⟩
  have hl1 : ¬ 400 < n := by omega
  have hl2 : ¬ 60 < nc := by omega
  clear hl
  obtain ⟨w1, hw1⟩ : ∃ w1, w.alloc (.cells #[.slice none 0 0, .int .i64 0] 46) = w1 := ⟨_, rfl⟩
  have hB1 : Below w.heap.size w w1 := by rw [← hw1]; exact (Below.refl _ _).alloc (Nat.le_refl _) _
  have K1 : Blk w1 w.heap.size 46 [.slice none 0 0, .int .i64 0] := by rw [← hw1]; exact Blk.new w _ _
  have hlt := C.lt
  have I0 : FeedI w w.heap.size bs n (.slice none 0 0) a cap 0 0 [] [] (.slice none 0 0) w1 :=
    ⟨Feeds.stop [] (by decide), World.ownsRow_nil _ _ _ _, K1, World.ownsRow_nil _ _ _ _, h.below hB1, h.block_lt, C.below hB1, hB1, K1.lt, rfl, by omega, by simp⟩
  obtain ⟨g, hg⟩ : ∃ g, g = w.heap.size := ⟨_, rfl⟩
  rw [← hg] at I0
  have HI0 := Lib.hid I0
  have HSB := Lib.hid h
  have HCS := Lib.hid hc
  have HB := Lib.hid hb
  have HBC := Lib.hid hbc
  have HN := Lib.hid hn
  have HNC := Lib.hid hnc
  have HG := Lib.hid hg
  have HW1 := Lib.hid hw1
  clear hw1 I0 h hc hb hbc hn hnc K1 hB1 C hlt
  go_enter Tryd.func6, Tryd.ntmps6
  go_upto_region 4 with fail
  rw [HW1.out, ← HG.out]
  clear HW1 hg
  go_wp2_with fail
  go_loopw [6, 7, 8] (fun vl vr c wr => ∃ (i p k : Nat) (l : List Fr) (r : List Nat) (wv : Value) (ax : Option Addr) (cx : Nat), i ≤ nc ∧ p ≤ n ∧ c = .int .i64 i ∧ vr = .slice ax (n - p) cx ∧ Hid (FeedI w g bs n vl ax cx p k l r wv wr)) (fun _ _ c _ => nc - (intOf c).toNat)
  case atStart => exact ⟨0, 0, 0, [], [], _, _, _, Nat.zero_le _, Nat.zero_le _, rfl, rfl, HI0⟩
  case round =>
    clear HI0
    obtain ⟨i, p, k, l, r, wv, ax, cx, hi, hp, rfl, rfl, HI⟩ := hrel
    have htk : (bs.take p).length = p := by rw [List.length_take, ← HN.out]; omega
    have hfl := HI.out.feeds.len.1
    rw [htk] at hfl
    obtain ⟨va, vc, rfl, _, _⟩ := ownsRow_slice HI.out.own
    obtain ⟨wa, wc, hwv, _, _⟩ := ownsRow_slice HI.out.wts
    subst hwv
    have hmr := HI.out.sl.max
    by_cases hic : i < nc
    · obtain ⟨bc, oc, rfl, hcc⟩ := sl_cell (HCS.out.below_old HI.out.below) i (by rw [← HNC.out]; exact hic)
      have hx2 := HBC.out _ (List.getElem_mem (show i < cs.length by rw [← HNC.out]; exact hic))
      obtain ⟨x, hx⟩ : ∃ x, x = cs[i]'(by rw [← HNC.out]; exact hic) := ⟨_, rfl⟩
      rw [← hx] at hcc hx2
      have hmin : ∃ m : Nat, m ≤ n - p ∧ ∀ (ts : Array TypeId) (t : TypeId) (wx : World), (Builtin.min_ ts t #[.int .i64 (x : Int), .int .i64 ((n - p : Nat) : Int)]).run Tryd.prog wx = .ok (.int .i64 (m : Int)) wx := by
        by_cases hxm : x ≤ n - p
        · refine ⟨x, hxm, fun ts t wx => ?_⟩
          simp [Builtin.min_, Builtin.min2]
          omega
        · refine ⟨n - p, Nat.le_refl _, fun ts t wx => ?_⟩
          simp [Builtin.min_, Builtin.min2]
          omega
      obtain ⟨m, hmn, hmin⟩ := hmin
      clear hx
      obtain ⟨cut1, s1⟩ := HI.out.sl.cut_to Eu8 m hmn
      obtain ⟨a2, c2, cut2, s2, hA2⟩ := HI.out.sl.cut_from Eu8 m hmn
      rw [show (u8s (bs.drop p)).take m = u8s ((bs.drop p).take m) by simp [u8s]] at s1
      have hcl : ((bs.drop p).take m).length = m := by rw [List.length_take, List.length_drop, ← HN.out]; omega
      have PU := push_any g (.slice wa r.length wc) (.slice ax m cx) r ((bs.drop p).take m) k (by omega) (by rw [hcl]; omega) HI.out.rb (fun x hx => HB.out x (List.mem_of_mem_drop (List.mem_of_mem_take hx))) wr HI.out.C HI.out.g0 HI.out.K (Sl.of_own HI.out.wts) (by rw [hcl]; exact s1)
      have PU := Lib.hid PU
      have hbig := HI.out.big
      have HS2 := Lib.hid s2
      have HA2 := Lib.hid hA2
      have HCL := Lib.hid hcl
      clear s1 s2 hA2 htk hcl
      go_wp2_with fail
      refine PU.out.mono ?_
      rintro e w2 ⟨v2, l2, k2, r2, wv2, rfl, hF2, ho2, K2, ow2, T2⟩
      clear PU
      have hl2' := hF2.len.1
      rw [List.length_append, HCL.out] at hl2'
      have own2 : w2.ownsRow (w.heap.size + 1) 25 6 (.slice va l.length vc) l.length (frs l) := T2.own HI.out.own (fun q hq e => by have := (HI.out.own.lt q hq).1; have := HI.out.geq; omega)
      obtain ⟨v2a, v2c, rfl, _, _⟩ := ownsRow_slice ho2
      have hb2 : w.heap.size + 1 ≤ w2.heap.size := Nat.le_trans hbig T2.size
      have HT := Lib.hid (And.intro hF2 (And.intro ho2 (And.intro K2 (And.intro ow2 T2))))
      have hs2 := Lib.hid (Sl.of_own ho2)
      clear hF2 ho2 K2 ow2 T2
      go_wp2_with (at_builtin; refine wpList_app EFr rfl (.tmp 39) (.tmp 43) rfl (w.heap.size + 1) rfl own2 rfl hs2.out (oneCell_frs _) (by unfold maxLen; omega) (by omega) hb2 ?_)
      intro v3 w3 ho3 hg3 _
      obtain ⟨hF2, ho2, K2, ow2, T2⟩ := HT.out
      have HJ := Lib.hid (HI.out.step m a2 c2 (by omega) HN.out (fun _ _ => trivial) HS2.out HA2.out hF2 ho2 K2 ow2 T2 ho3 hg3 HB.out)
      clear hF2 ho2 K2 ow2 T2 HT own2 hs2 hg3 HI HS2 HA2 hcc
      obtain ⟨v3a, v3c, rfl, _, _⟩ := ownsRow_slice ho3
      clear ho3
      have e1 : n - (p + m) = n - p - m := by omega
      go_wp2_with fail
      go_roundw
      case rel => exact ⟨i + 1, p + m, _, _, _, _, _, _, by omega, by omega, by go_num, by rw [e1], HJ⟩
      case measure => simp [intOf]; omega
    · obtain rfl : i = nc := by omega
      have hcl : (bs.drop p).length = n - p := by rw [List.length_drop, ← HN.out]
      have PU := push_any g (.slice wa r.length wc) (.slice ax (n - p) cx) r (bs.drop p) k (by omega) (by rw [hcl]; omega) HI.out.rb (fun x hx => HB.out x (List.mem_of_mem_drop hx)) wr HI.out.C HI.out.g0 HI.out.K (Sl.of_own HI.out.wts) (by rw [hcl]; exact HI.out.sl)
      have PU := Lib.hid PU
      have hbig := HI.out.big
      have HCL := Lib.hid hcl
      clear htk hcl
      go_wp2_with fail
      refine PU.out.mono ?_
      rintro e w2 ⟨v2, l2, k2, r2, wv2, rfl, hF2, ho2, K2, ow2, T2⟩
      clear PU
      have hl2' := hF2.len.1
      rw [List.length_append, HCL.out] at hl2'
      have own2 : w2.ownsRow (w.heap.size + 1) 25 6 (.slice va l.length vc) l.length (frs l) := T2.own HI.out.own (fun q hq e => by have := (HI.out.own.lt q hq).1; have := HI.out.geq; omega)
      obtain ⟨v2a, v2c, rfl, _, _⟩ := ownsRow_slice ho2
      have hb2 : w.heap.size + 1 ≤ w2.heap.size := Nat.le_trans hbig T2.size
      have HT := Lib.hid (And.intro hF2 (And.intro ho2 (And.intro K2 (And.intro ow2 T2))))
      have hs2 := Lib.hid (Sl.of_own ho2)
      clear hF2 ho2 K2 ow2 T2
      go_wp2_with (at_builtin; refine wpList_app EFr rfl (.tmp 48) (.tmp 50) rfl (w.heap.size + 1) rfl own2 rfl hs2.out (oneCell_frs _) (by unfold maxLen; omega) (by omega) hb2 ?_)
      intro v3 w3 ho3 hg3 _
      obtain ⟨hF2, ho2, K2, ow2, T2⟩ := HT.out
      have hF : Feeds bs (l ++ l2) (k + k2) r2 := by
        have := HI.out.feeds.join hF2
        rwa [List.take_append_drop] at this
      have hov : ∀ q, (Value.slice va l.length vc).ownBlock = some q → w.heap.size + 1 ≤ q ∧ q < wr.heap.size := fun q hq => HI.out.own.lt q hq
      have T3 : Turned (fun j => (Value.slice va l.length vc).ownBlock = some j) w2 w3 := (Turned.refl _ w2).grown hg3 (fun q e _ => e)
      have T23 : Turned (fun j => w.heap.size ≤ j) wr w3 := (T2.mono (fun q _ e => by subst e; have := HI.out.geq; omega)).trans (T3.mono (S' := fun j => w.heap.size ≤ j) (fun q _ e => by have := (hov q e).1; omega)) (fun _ _ e => e)
      have K3 := K2.turned T3 (fun e => by have := (hov g e).1; have := HI.out.geq; omega)
      have C3 := HI.out.C.turned T23 (fun e => by have := HI.out.g0; have := HI.out.geq; omega)
      have hB3 : Below w.heap.size w w3 := T23.old HI.out.below HI.out.below.size (fun q hq e => by omega)
      have hb3 : w.heap.size + 1 ≤ w3.heap.size := Nat.le_trans hb2 T3.size
      obtain ⟨wa2, wc2, hwv2, _, _⟩ := ownsRow_slice ow2
      subst hwv2
      have hfl2 := hF.len.1
      rw [← HN.out] at hfl2
      rw [← frs_app, ← List.length_append] at ho3
      obtain ⟨L, hL⟩ : ∃ L, L = l ++ l2 := ⟨_, rfl⟩
      rw [← hL] at ho3 hF hfl2
      have hLl : L.length = l.length + l2.length := by rw [hL, List.length_append]
      have P4 := Lib.hid (refFeed12_any (.slice a n cap) bs (by rw [← HN.out]; omega) HB.out w3 (by rw [← HN.out]; exact HSB.out.below_old hB3))
      have HF := Lib.hid hF
      have HLL := Lib.hid hLl
      obtain ⟨kk, hkk⟩ : ∃ kk, kk = k + k2 := ⟨_, rfl⟩
      rw [← hkk] at K3 HF hfl2
      clear hF2 ho2 K2 ow2 T2 HT own2 hs2 hg3 HI T3 T23 hF hL hov hfl hl2' hbig hb2 hLl hkk
      obtain ⟨v3a, v3c, hv3, _, _⟩ := ownsRow_slice ho3
      subst hv3
      go_wp2_with fail
      refine P4.out.mono ?_
      rintro e w4 ⟨v4, l4, k4, r4, rfl, hF4, ho4, hB4⟩
      clear P4
      obtain ⟨e1, e2, e3⟩ := HF.out.one hF4
      subst e1 e2 e3
      have K4 := K3.below hB4 K3.lt
      have C4 := C3.below hB4
      have hBw4 := hB3.trans (hB4.mono hB3.size)
      have ho3' := ownsRow_below ho3 hB4
      obtain ⟨v4a, v4c, hv4, _, _⟩ := ownsRow_slice ho4
      subst hv4
      have L1 := Lib.hid (lost_any g _ _ w4 K4)
      have L2 := Lib.hid (waits_any g wa2 r2.length wc2 _ w4 K4)
      obtain ⟨N, hNL⟩ : ∃ N, N = L.length := ⟨_, rfl⟩
      have hN400 : N ≤ 400 := by omega
      rw [← hNL] at ho3' ho4 ⊢
      have HNL := Lib.hid hNL
      obtain ⟨R, hR⟩ : ∃ R, R = r2.length := ⟨_, rfl⟩
      rw [← hR] at L2 hfl2 ⊢
      have hR400 : R ≤ 400 := by omega
      have hkk400 : kk ≤ 400 := by omega
      have HO3 := Lib.hid ho3'
      have HO4 := Lib.hid ho4
      have hsz34 : w3.heap.size ≤ w4.heap.size := hB4.size
      clear hB3 ho3 K3 C3 K4 hF4 HF hR hNL hfl2 hB4 ho3' ho4
      go_wp2_with fail
      refine L1.out.mono ?_
      rintro e wx ⟨rfl, rfl⟩
      clear L1
      go_wp2_with fail
      refine L2.out.mono ?_
      rintro e wx ⟨rfl, rfl⟩
      clear L2
      go_wp2_with fail
      go_loopw [13] (fun c wr => ∃ j : Nat, j ≤ N ∧ c = .int .i64 j ∧ Below w4.heap.size w4 wr) (fun c _ => N - (intOf c).toNat)
      case atStart => exact ⟨0, Nat.zero_le _, rfl, Below.refl _ _⟩
      case round =>
        obtain ⟨j, hj, rfl, hBj⟩ := hrel
        by_cases hjn : j < N
        · obtain ⟨g3, q3, hv3, hg3a, hg3b, _, _⟩ := ownsRow_val HO3.out (by omega)
          cases hv3
          obtain ⟨g4, q4, hv4, hg4a, hg4b, _, _⟩ := ownsRow_val HO4.out (by omega)
          cases hv4
          have hjl : j < L.length := by rw [← HNL.out]; exact hjn
          have rc3 : ∀ i, i < 6 → ∀ u, (fc (L[j]'hjl))[i]? = some u → wr.cell? ⟨g3, j * 6 + i, none⟩ = some u := by
            intro i hi u hu
            have h1 := frs_at2 L j i hjl hi
            rw [hu] at h1
            have h2 := HO3.out.cells (g := g3) rfl _ _ h1
            rw [add_none, Nat.zero_add] at h2
            exact (hBj.cell (p := ⟨g3, j * 6 + i, none⟩) hg3b).trans h2
          have rc4 : ∀ i, i < 6 → ∀ u, (fc (L[j]'hjl))[i]? = some u → wr.cell? ⟨g4, j * 6 + i, none⟩ = some u := by
            intro i hi u hu
            have h1 := frs_at2 L j i hjl hi
            rw [hu] at h1
            have h2 := HO4.out.cells (g := g4) rfl _ _ h1
            rw [add_none, Nat.zero_add] at h2
            exact (hBj.cell (p := ⟨g4, j * 6 + i, none⟩) hg4b).trans h2
          obtain ⟨F, hF⟩ : ∃ F, F = L[j]'hjl := ⟨_, rfl⟩
          rw [← hF] at rc3 rc4
          clear hF hjl
          have r0 := rc3 0 (by decide) _ rfl
          have r1 := rc3 1 (by decide) _ rfl
          have r2 := rc3 2 (by decide) _ rfl
          have r3 := rc3 3 (by decide) _ rfl
          have r4 := rc3 4 (by decide) _ rfl
          have r5 := rc3 5 (by decide) _ rfl
          rw [Nat.add_zero] at r0
          have s0 := rc4 0 (by decide) _ rfl
          have s1 := rc4 1 (by decide) _ rfl
          have s2 := rc4 2 (by decide) _ rfl
          have s3 := rc4 3 (by decide) _ rfl
          have s4 := rc4 4 (by decide) _ rfl
          have s5 := rc4 5 (by decide) _ rfl
          rw [Nat.add_zero] at s0
          have hjN : (j : Int) < (N : Int) := by omega
          have hBd := hBj.drew
          clear rc3 rc4 hBj
          go_wp2_with fail
          refine wp_region_held_drew (S := (fun w' : World => w'.cell? ⟨g3, j * 6, none⟩ = some (.int .i64 (F.k : Int)) ∧ w'.cell? ⟨g3, j * 6 + 1, none⟩ = some (.int .u16 (F.s : Int)) ∧ w'.cell? ⟨g3, j * 6 + 2, none⟩ = some (.int .u32 (F.t : Int)) ∧ w'.cell? ⟨g3, j * 6 + 3, none⟩ = some (.int .i32 (F.a : Int)) ∧ w'.cell? ⟨g3, j * 6 + 4, none⟩ = some (.int .i32 (F.b : Int)) ∧ w'.cell? ⟨g3, j * 6 + 5, none⟩ = some (.int .i32 (F.c : Int)) ∧ w'.cell? ⟨g4, j * 6, none⟩ = some (.int .i64 (F.k : Int)) ∧ w'.cell? ⟨g4, j * 6 + 1, none⟩ = some (.int .u16 (F.s : Int)) ∧ w'.cell? ⟨g4, j * 6 + 2, none⟩ = some (.int .u32 (F.t : Int)) ∧ w'.cell? ⟨g4, j * 6 + 3, none⟩ = some (.int .i32 (F.a : Int)) ∧ w'.cell? ⟨g4, j * 6 + 4, none⟩ = some (.int .i32 (F.b : Int)) ∧ w'.cell? ⟨g4, j * 6 + 5, none⟩ = some (.int .i32 (F.c : Int)))) (by kernel_rfl) (⟨r0, r1, r2, r3, r4, r5, s0, s1, s2, s3, s4, s5⟩) (fun hHeld => ?_)
          refine wpAnyH_take (i := 0) (v := ?v1) rfl (by kernel_rfl) (by kernel_rfl) (by kernel_rfl) (fun _ _ _ h => h) (Or.inl ⟨by rfl, ?hy1⟩) hHeld ?rest1
          case hy1 => (intro w' hSw; (try dsimp only at hSw); go_simp; (try with_reducible rfl))
          try simp only [Act.put, List.setIfInBounds_toArray, List.set_cons_zero, List.set_cons_succ, List.getElem_toArray, List.getElem_cons_zero, List.getElem_cons_succ]
          refine wpAnyH_take (i := 1) (v := ?v2) rfl (by kernel_rfl) (by kernel_rfl) (by kernel_rfl) (fun _ _ _ h => h) (Or.inl ⟨by rfl, ?hy2⟩) hHeld ?rest2
          case hy2 => (intro w' hSw; (try dsimp only at hSw); go_simp; (try with_reducible rfl))
          try simp only [Act.put, List.setIfInBounds_toArray, List.set_cons_zero, List.set_cons_succ, List.getElem_toArray, List.getElem_cons_zero, List.getElem_cons_succ]
          refine wpAnyH_take (i := 2) (v := ?v3) rfl (by kernel_rfl) (by kernel_rfl) (by kernel_rfl) (fun _ _ _ h => h) (Or.inl ⟨by rfl, ?hy3⟩) hHeld ?rest3
          case hy3 => (intro w' hSw; (try dsimp only at hSw); go_simp; (try with_reducible rfl))
          try simp only [Act.put, List.setIfInBounds_toArray, List.set_cons_zero, List.set_cons_succ, List.getElem_toArray, List.getElem_cons_zero, List.getElem_cons_succ]
          refine wpAnyH_take (i := 3) (v := ?v4) rfl (by kernel_rfl) (by kernel_rfl) (by kernel_rfl) (fun _ _ _ h => h) (Or.inl ⟨by rfl, ?hy4⟩) hHeld ?rest4
          case hy4 => (intro w' hSw; (try dsimp only at hSw); go_simp; (try with_reducible rfl))
          try simp only [Act.put, List.setIfInBounds_toArray, List.set_cons_zero, List.set_cons_succ, List.getElem_toArray, List.getElem_cons_zero, List.getElem_cons_succ]
          refine wpAnyH_take (i := 4) (v := ?v5) rfl (by kernel_rfl) (by kernel_rfl) (by kernel_rfl) (fun _ _ _ h => h) (Or.inl ⟨by rfl, ?hy5⟩) hHeld ?rest5
          case hy5 => (intro w' hSw; (try dsimp only at hSw); go_simp; (try with_reducible rfl))
          try simp only [Act.put, List.setIfInBounds_toArray, List.set_cons_zero, List.set_cons_succ, List.getElem_toArray, List.getElem_cons_zero, List.getElem_cons_succ]
          refine wpAnyH_take (i := 5) (v := ?v6) rfl (by kernel_rfl) (by kernel_rfl) (by kernel_rfl) (fun _ _ _ h => h) (Or.inl ⟨by rfl, ?hy6⟩) hHeld ?rest6
          case hy6 => (intro w' hSw; (try dsimp only at hSw); go_simp; (try with_reducible rfl))
          try simp only [Act.put, List.setIfInBounds_toArray, List.set_cons_zero, List.set_cons_succ, List.getElem_toArray, List.getElem_cons_zero, List.getElem_cons_succ]
          refine wpAnyH_take (i := 6) (v := ?v7) rfl (by kernel_rfl) (by kernel_rfl) (by kernel_rfl) (fun _ _ _ h => h) (Or.inl ⟨by rfl, ?hy7⟩) hHeld ?rest7
          case hy7 => (intro w' hSw; (try dsimp only at hSw); go_simp; (try with_reducible rfl))
          try simp only [Act.put, List.setIfInBounds_toArray, List.set_cons_zero, List.set_cons_succ, List.getElem_toArray, List.getElem_cons_zero, List.getElem_cons_succ]
          refine wpAnyH_take (i := 7) (v := ?v8) rfl (by kernel_rfl) (by kernel_rfl) (by kernel_rfl) (fun _ _ _ h => h) (Or.inl ⟨by rfl, ?hy8⟩) hHeld ?rest8
          case hy8 => (intro w' hSw; (try dsimp only at hSw); go_simp; (try with_reducible rfl))
          try simp only [Act.put, List.setIfInBounds_toArray, List.set_cons_zero, List.set_cons_succ, List.getElem_toArray, List.getElem_cons_zero, List.getElem_cons_succ]
          refine wpAnyH_take (i := 8) (v := ?v9) rfl (by kernel_rfl) (by kernel_rfl) (by kernel_rfl) (fun _ _ _ h => h) (Or.inl ⟨by rfl, ?hy9⟩) hHeld ?rest9
          case hy9 => (intro w' hSw; (try dsimp only at hSw); go_simp; (try with_reducible rfl))
          try simp only [Act.put, List.setIfInBounds_toArray, List.set_cons_zero, List.set_cons_succ, List.getElem_toArray, List.getElem_cons_zero, List.getElem_cons_succ]
          refine wpAnyH_done (by kernel_rfl) ?_ _
          go_wp2_with fail
          go_roundw
          case rel => exact ⟨j + 1, by omega, by go_num, hBd⟩
          case measure => simp [intOf]; omega
        · obtain rfl : j = N := by omega
          have WK := Lib.hid (works12_any wr (C4.below hBj))
          have hBw5 := hBw4.trans (hBj.mono hBw4.size)
          clear hBj
          go_wp2_with fail
          refine WK.out.mono ?_
          rintro e w6 ⟨rfl, hB6⟩
          clear WK
          have hBw6 := hBw5.trans (hB6.mono hBw5.size)
          go_wp2_with fail
          go_ret
          exact ⟨rfl, hBw6⟩
end Go.Proofs.YtfkncfjdgbgeeaaDoor
