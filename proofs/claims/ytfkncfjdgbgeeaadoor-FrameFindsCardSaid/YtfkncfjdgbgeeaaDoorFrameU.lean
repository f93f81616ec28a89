/-
  Rows of frames; all frames that stand in bytes, and bytes gone through piece by piece: the reference's.
-/
import Derived.Test.YtfkncfjdgbgeeaaDoorFrameT
set_option linter.unusedVariables false
set_option linter.unusedSimpArgs false
namespace Go.Proofs.YtfkncfjdgbgeeaaDoor
open Go Go.RowKit Go.Th Go.Th.Crc

/-- Frames as cells. -/
def frs (l : List Fr) : List Value := l.flatMap fc
theorem frs_length (l : List Fr) : (frs l).length = l.length * 6 := by
  induction l with
  | nil => rfl
  | cons f r ih => unfold frs at ih ⊢; rw [List.flatMap_cons, List.length_append, ih, List.length_cons]; simp; omega
theorem frs_app (l m : List Fr) : frs (l ++ m) = frs l ++ frs m := by simp [frs]
theorem frs_one (f : Fr) : frs [f] = fc f := by simp [frs]
theorem oneCell_fc (f : Fr) : ∀ u ∈ fc f, u.oneCell' = true := by
  intro u hu
  simp only [List.mem_cons, List.not_mem_nil, or_false] at hu
  rcases hu with rfl | rfl | rfl | rfl | rfl | rfl <;> rfl
theorem oneCell_frs (l : List Fr) : ∀ u ∈ frs l, u.oneCell' = true := by
  intro u hu
  obtain ⟨f, _, h⟩ := List.mem_flatMap.1 hu
  exact oneCell_fc f u h
theorem EFr : ElemOf Tryd.prog 38 25 6 32 := ElemOf.mk' Tryd.underlying38 (z := fvs 0 0 0 0 0 0) (by kernel_rfl) rfl (by decide)
theorem EInt : ElemOf Tryd.prog 39 3 1 8 := ElemOf.mk' Tryd.underlying39 (z := .int .i64 0) (by kernel_rfl) rfl (by decide)
theorem Sl.oneF {w : World} (f : Fr) (t : TypeId) : Sl (w.alloc (.cells (fc f).toArray t)) 6 (.slice (some ⟨w.heap.size, 0, none⟩) 1 1) 1 (fc f) := by
  refine ⟨_, _, rfl, rfl, Nat.le_refl _, by decide, fun h => (by cases h), ?_⟩
  intro j u hu
  refine ⟨_, _, rfl, ?_⟩
  rw [World.cell?_alloc_at _ _ _ _ rfl]
  simpa using hu
/-- Rows of two types are two rows. -/
theorem own_apart {w : World} {b1 b2 : Nat} {e1 e2 : TypeId} {s1 s2 : Nat} {v u : Value} {n m : Nat} {xs ys : List Value} (h : w.ownsRow b1 e1 s1 v n xs) (g : w.ownsRow b2 e2 s2 u m ys) (hne : e1 ≠ e2) (k : Nat) (hk : v.ownBlock = some k) : u.ownBlock ≠ some k := by
  intro hu
  rcases h.2 with ⟨rfl, _⟩ | ⟨g1, c1, cur1, rfl, _, hg1, _⟩
  · simp [Value.ownBlock] at hk
  · rcases g.2 with ⟨rfl, _⟩ | ⟨g2, c2, cur2, rfl, _, hg2, _⟩
    · simp [Value.ownBlock] at hu
    · simp [Value.ownBlock] at hk hu
      subst hk hu
      rw [hg1] at hg2
      cases hg2
      exact hne rfl
theorem own_other {w w' : World} {b1 b2 : Nat} {e1 e2 : TypeId} {s1 s2 : Nat} {v u : Value} {n m : Nat} {xs ys : List Value} (h : w.ownsRow b1 e1 s1 v n xs) (g : w.ownsRow b2 e2 s2 u m ys) (hne : e1 ≠ e2) (hg : w.grownBy w' v.ownBlock) : w'.ownsRow b2 e2 s2 u m ys :=
  ((Turned.refl (fun k => v.ownBlock = some k) w).grown hg (fun k e _ => e)).own g (fun k hk e => own_apart h g hne k e hk)

theorem drop_lt {bs : List Nat} (hb : ∀ x ∈ bs, x < 256) (i : Nat) : ∀ x ∈ bs.drop i, x < 256 := fun x hx => hb x (List.mem_of_mem_drop hx)
theorem fst_fits {bs : List Nat} {i : Nat} (hi : i ≤ bs.length) (h : fst (bs.drop i) = 0) : i + sz (bs.drop i) ≤ bs.length ∧ 12 ≤ sz (bs.drop i) := by
  have h1 := (lcode_ok (fst_ok h).1).1
  rw [List.length_drop] at h1
  exact ⟨by omega, (sz_le _).1⟩

def ints (l : List Nat) : List Value := l.map (fun x : Nat => .int .i64 (x : Int))

set_option maxRecDepth 20000 in
set_option maxHeartbeats 6400000 in
theorem refAll12_any (vx : Value) (bs : List Nat) (hl : bs.length ≤ 1000000) (hb : ∀ x ∈ bs, x < 256) (w : World) (h : Sl w 1 vx bs.length (u8s bs)) :
    Calls Tryd.prog 16 #[vx] w fun e w' => ∃ v u, e = .returned (.tuple #[v, u]) ∧ w'.ownsRow w.heap.size 25 6 v (found bs 0).length (frs ((found bs 0).map (·.2))) ∧ w'.ownsRow w.heap.size 3 1 u (found bs 0).length (ints ((found bs 0).map (·.1))) ∧ Below w.heap.size w w' := by
  have CF := Lib.hid (fun p (hp : p ≤ bs.length) wx hs => refFirst_any vx bs p hp hl hb wx hs)
  obtain ⟨a, cap, rfl⟩ := sl_slice h
  have HS := Lib.hid h
  obtain ⟨n, hn⟩ : ∃ n, n = bs.length := ⟨_, rfl⟩
  have HNN := Lib.hid hn
  rw [← hn] at CF HS hl ⊢
  clear hn h hb
  go_enter Tryd.func16, Tryd.ntmps16
  go_wp2_with fail
  go_loopw [4, 5, 6] (fun v u c wr => ∃ (i : Nat) (pre : List (Nat × Fr)), i ≤ n ∧ c = .int .i64 i ∧ pre.length ≤ i ∧ Hid (found bs 0 = pre ++ found bs i) ∧ wr.ownsRow w.heap.size 25 6 v pre.length (frs (pre.map (·.2))) ∧ wr.ownsRow w.heap.size 3 1 u pre.length (ints (pre.map (·.1))) ∧ Below w.heap.size w wr) (fun _ _ c _ => n - (intOf c).toNat)
  case atStart => exact ⟨0, [], Nat.zero_le _, rfl, Nat.le_refl _, Lib.hid rfl, World.ownsRow_nil _ _ _ _, World.ownsRow_nil _ _ _ _, Below.refl _ _⟩
  case round =>
    obtain ⟨i, pre, hi, rfl, hpl, HF, ho, hu, hB⟩ := hrel
    by_cases hlt : i < n
    · have C1 := CF.out i hi wr (HS.out.below hB)
      unfold FirstSaid at C1
      obtain ⟨F, hF⟩ : ∃ F, F = fstF (bs.drop i) := ⟨_, rfl⟩
      obtain ⟨m, hm⟩ : ∃ m, m = fstN (bs.drop i) := ⟨_, rfl⟩
      have hcl := fst_lt (bs.drop i)
      have hf1 := fun h => fst_fits (bs := bs) (i := i) (by rw [← HNN.out]; exact hi) h
      have hmy : fst (bs.drop i) = 0 → m = sz (bs.drop i) := fun h => by rw [hm, fstN, if_pos h]
      have hFy : fst (bs.drop i) = 0 → F = frm (bs.drop i) := fun h => by rw [hF, fstF, if_pos h]
      have FY := Lib.hid (fun h => found_yes bs i (by rw [← HNN.out]; exact hlt) h)
      have FN := Lib.hid (fun h => found_no bs i (by rw [← HNN.out]; exact hlt) h)
      rw [← hF, ← hm] at C1
      obtain ⟨c, hc⟩ : ∃ c, c = fst (bs.drop i) := ⟨_, rfl⟩
      rw [← hc] at C1 hcl hf1 hmy hFy FY FN
      have C1 := Lib.hid C1
      have HF1 := Lib.hid hf1
      have HMY := Lib.hid hmy
      have HFY := Lib.hid hFy
      clear hF hm hc hf1 hmy hFy
      by_cases hc0 : c = 0
      · obtain ⟨hf1, hf2⟩ := HF1.out hc0
        rw [← HNN.out] at hf1
        have hme := HMY.out hc0
        have hFe := HFY.out hc0
        have hfd := FY.out hc0
        rw [← hme] at hf1 hf2 hfd
        rw [← hFe] at hfd
        have HFD := Lib.hid hfd
        subst hc0
        have hml : m ≤ 1000000 := by omega
        clear hme hFe hfd HF1 HMY HFY FY FN
        go_wp2_with fail
        refine C1.out.mono ?_
        rintro e w2 ⟨rfl, hB2⟩
        clear C1
        have ho2 := ownsRow_below ho hB2
        have hu2 := ownsRow_below hu hB2
        replace hB := hB.trans (hB2.mono hB.size)
        have hsz := hB.size
        clear ho hu hB2
        obtain ⟨w3, hw3⟩ : ∃ w3, w2.alloc (.cells (fc F).toArray 25) = w3 := ⟨_, rfl⟩
        have hB3 : Below w.heap.size w w3 := by rw [← hw3]; exact hB.alloc hsz _
        have ho3 := ho2.alloc (.cells (fc F).toArray 25)
        rw [hw3] at ho3
        have hu3 := hu2.alloc (.cells (fc F).toArray 25)
        rw [hw3] at hu3
        have K3 : Blk w3 w2.heap.size 25 (fc F) := by rw [← hw3]; exact Blk.new w2 _ _
        have c0 := K3.cell (i := 0) rfl
        have c1 := K3.cell (i := 1) rfl
        have c2 := K3.cell (i := 2) rfl
        have c3 := K3.cell (i := 3) rfl
        have c4 := K3.cell (i := 4) rfl
        have c5 := K3.cell (i := 5) rfl
        have HW3 := Lib.hid hw3
        clear hw3 ho2 hu2 hB
        go_upto_region 6 with fail
        rw [HW3.out]
        clear HW3
        have hsz3 := hB3.size
        obtain ⟨va, vc, rfl, _, _⟩ := ownsRow_slice ho3
        go_wp2_with (at_builtin; refine wpList_app EFr rfl (.tmp 25) (.tmp 27) rfl w.heap.size rfl (ho3.alloc _) rfl (Sl.oneF F _) (oneCell_fc F) (by unfold maxLen; omega) (by omega) (by simp; omega) ?_)
        intro v4 w4 ho4 hg4 _
        have hB4 := (hB3.alloc hB3.size (.cells (fc F).toArray 25)).grown hg4 (by simp; omega) (fun q hq => (ho3.lt q hq).1)
        have hu4 := own_other (ho3.alloc (.cells (fc F).toArray 25)) (hu3.alloc (.cells (fc F).toArray 25)) (by decide) hg4
        clear ho3 hu3 hg4 hB3 K3 c0 c1 c2 c3 c4 c5
        have hsz4 := hB4.size
        obtain ⟨ub, uc, rfl, _, _⟩ := ownsRow_slice hu4
        obtain ⟨v4b, v4c, rfl, _, _⟩ := ownsRow_slice ho4
        go_wp2_with (at_builtin; refine wpList_app EInt rfl (.tmp 29) (.tmp 31) rfl w.heap.size rfl (hu4.alloc _) rfl (Sl.one _ _ _) (by intro u hu; simp at hu; subst hu; rfl) (by unfold maxLen; omega) (by omega) (by simp; omega) ?_)
        intro u5 w5 hu5 hg5 _
        have hB5 := (hB4.alloc hB4.size (.cells #[.int .i64 i] 3)).grown hg5 (by simp; omega) (fun q hq => (hu4.lt q hq).1)
        have ho5 := own_other (hu4.alloc (.cells #[.int .i64 i] 3)) (ho4.alloc (.cells #[.int .i64 i] 3)) (by decide) hg5
        clear ho4 hu4 hg5 hB4
        go_wp2_with fail
        go_roundw
        case rel =>
          refine ⟨i + m, pre ++ [(i, F)], hf1, by go_num, by simp; omega, Lib.hid ?_, ?_, ?_, hB5⟩
          · rw [HF.out, HFD.out]; simp
          · simpa [frs] using ho5
          · simpa [ints] using hu5
        case measure => simp [intOf]; omega
      · have hfd := FN.out hc0
        have HFD := Lib.hid hfd
        have d1 : ((c : Int) != 0) = true := by simp; omega
        clear hfd HF1 HMY HFY FY FN
        go_wp2_with fail
        refine C1.out.mono ?_
        rintro e w2 ⟨rfl, hB2⟩
        clear C1
        have ho2 := ownsRow_below ho hB2
        have hu2 := ownsRow_below hu hB2
        replace hB := hB.trans (hB2.mono hB.size)
        have hsz := hB.size
        clear ho hu hB2
        obtain ⟨w3, hw3⟩ : ∃ w3, w2.alloc (.cells (fc F).toArray 25) = w3 := ⟨_, rfl⟩
        have hB3 : Below w.heap.size w w3 := by rw [← hw3]; exact hB.alloc hsz _
        have ho3 := ho2.alloc (.cells (fc F).toArray 25)
        rw [hw3] at ho3
        have hu3 := hu2.alloc (.cells (fc F).toArray 25)
        rw [hw3] at hu3
        have HW3 := Lib.hid hw3
        clear hw3 ho2 hu2 hB
        go_upto_region 6 with fail
        rw [HW3.out]
        clear HW3
        go_wp2_with fail
        go_roundw
        case rel => exact ⟨i + 1, pre, by omega, by go_num, by omega, Lib.hid (by rw [HF.out, HFD.out]), ho3, hu3, hB3⟩
        case measure => simp [intOf]; omega
    · obtain rfl : i = n := by omega
      go_wp2_with fail
      go_ret2
      have e : found bs 0 = pre := by
        have := HF.out
        rw [found_end bs i (by rw [← HNN.out]; exact Nat.le_refl _), List.append_nil] at this
        exact this
      rw [e]
      exact ⟨_, _, rfl, ho, hu, hB⟩

set_option maxRecDepth 20000 in
set_option maxHeartbeats 6400000 in
theorem refFeed12_any (vx : Value) (bs : List Nat) (hl : bs.length ≤ 1000000) (hb : ∀ x ∈ bs, x < 256) (w : World) (h : Sl w 1 vx bs.length (u8s bs)) :
    Calls Tryd.prog 19 #[vx] w fun e w' => ∃ v l k r, e = .returned (.tuple #[v, .int .i64 (k : Nat), .int .i64 (r.length : Nat)]) ∧ Feeds bs l k r ∧ w'.ownsRow w.heap.size 25 6 v l.length (frs l) ∧ Below w.heap.size w w' := by
  have CF := Lib.hid (fun p (hp : p ≤ bs.length) wx hs => refFirst_any vx bs p hp hl hb wx hs)
  obtain ⟨a, cap, rfl⟩ := sl_slice h
  have HS := Lib.hid h
  obtain ⟨n, hn⟩ : ∃ n, n = bs.length := ⟨_, rfl⟩
  have HNN := Lib.hid hn
  rw [← hn] at CF HS hl ⊢
  clear hn h hb
  go_enter Tryd.func19, Tryd.ntmps19
  go_wp2_with fail
  go_loopw [5, 6, 7] (fun v z c wr => ∃ (i k : Nat) (l : List Fr), i ≤ n ∧ c = .int .i64 i ∧ z = .int .i64 k ∧ k ≤ i ∧ l.length ≤ i ∧ Hid (Far bs l k (bs.drop i)) ∧ wr.ownsRow w.heap.size 25 6 v l.length (frs l) ∧ Below w.heap.size w wr) (fun _ _ c _ => n - (intOf c).toNat)
  case atStart => exact ⟨0, 0, [], Nat.zero_le _, rfl, rfl, Nat.le_refl _, Nat.le_refl _, Lib.hid (Far.start bs), World.ownsRow_nil _ _ _ _, Below.refl _ _⟩
  case round =>
    obtain ⟨i, k, l, hi, rfl, rfl, hki, hll, HF, ho, hB⟩ := hrel
    have C1 := CF.out i hi wr (HS.out.below hB)
    unfold FirstSaid at C1
    obtain ⟨F, hF⟩ : ∃ F, F = fstF (bs.drop i) := ⟨_, rfl⟩
    obtain ⟨m, hm⟩ : ∃ m, m = fstN (bs.drop i) := ⟨_, rfl⟩
    have hcl := fst_lt (bs.drop i)
    have hf1 := fun h => fst_fits (bs := bs) (i := i) (by rw [← HNN.out]; exact hi) h
    have hmy : fst (bs.drop i) = 0 → m = sz (bs.drop i) := fun h => by rw [hm, fstN, if_pos h]
    have hFy : fst (bs.drop i) = 0 → F = frm (bs.drop i) := fun h => by rw [hF, fstF, if_pos h]
    have FT := Lib.hid (fun h => HF.out.tell h)
    have FP := Lib.hid (fun h h5 => HF.out.pass h h5)
    have FS := Lib.hid (fun h => HF.out.stop h)
    have hpos : fst (bs.drop i) ≠ 5 → i < n := fun h => by have := fst_pos h; rw [List.length_drop, ← HNN.out] at this; omega
    rw [← hF, ← hm] at C1
    obtain ⟨c, hc⟩ : ∃ c, c = fst (bs.drop i) := ⟨_, rfl⟩
    rw [← hc] at C1 hcl hf1 hmy hFy FT FP FS hpos
    have C1 := Lib.hid C1
    have HF1 := Lib.hid hf1
    have HMY := Lib.hid hmy
    have HFY := Lib.hid hFy
    have HP := Lib.hid hpos
    clear hF hm hc hf1 hmy hFy hpos
    by_cases hc0 : c = 0
    · obtain ⟨hf1, hf2⟩ := HF1.out hc0
      rw [← HNN.out] at hf1
      have hme := HMY.out hc0
      have hFe := HFY.out hc0
      have hfd := FT.out hc0
      rw [← hme] at hf1 hf2 hfd
      rw [← hFe, List.drop_drop] at hfd
      have HFD := Lib.hid hfd
      subst hc0
      have hml : m ≤ 1000000 := by omega
      clear hme hFe hfd HF1 HMY HFY FT FP FS HF
      go_wp2_with fail
      refine C1.out.mono ?_
      rintro e w2 ⟨rfl, hB2⟩
      clear C1
      have ho2 := ownsRow_below ho hB2
      replace hB := hB.trans (hB2.mono hB.size)
      have hsz := hB.size
      clear ho hB2
      obtain ⟨w3, hw3⟩ : ∃ w3, w2.alloc (.cells (fc F).toArray 25) = w3 := ⟨_, rfl⟩
      have hB3 : Below w.heap.size w w3 := by rw [← hw3]; exact hB.alloc hsz _
      have ho3 := ho2.alloc (.cells (fc F).toArray 25)
      rw [hw3] at ho3
      have K3 : Blk w3 w2.heap.size 25 (fc F) := by rw [← hw3]; exact Blk.new w2 _ _
      have c0 := K3.cell (i := 0) rfl
      have c1 := K3.cell (i := 1) rfl
      have c2 := K3.cell (i := 2) rfl
      have c3 := K3.cell (i := 3) rfl
      have c4 := K3.cell (i := 4) rfl
      have c5 := K3.cell (i := 5) rfl
      have HW3 := Lib.hid hw3
      clear hw3 ho2 hB
      go_upto_region 5 with fail
      rw [HW3.out]
      clear HW3
      have hsz3 := hB3.size
      obtain ⟨va, vc, rfl, _, _⟩ := ownsRow_slice ho3
      go_wp2_with (at_builtin; refine wpList_app EFr rfl (.tmp 32) (.tmp 34) rfl w.heap.size rfl (ho3.alloc _) rfl (Sl.oneF F _) (oneCell_fc F) (by unfold maxLen; omega) (by omega) (by simp; omega) ?_)
      intro v4 w4 ho4 hg4 _
      have hB4 := (hB3.alloc hB3.size (.cells (fc F).toArray 25)).grown hg4 (by simp; omega) (fun q hq => (ho3.lt q hq).1)
      clear ho3 hg4 hB3 K3 c0 c1 c2 c3 c4 c5
      go_wp2_with fail
      go_roundw
      case rel =>
        refine ⟨i + m, k, l ++ [F], hf1, by go_num, rfl, by omega, by simp; omega, HFD, ?_, hB4⟩
        simpa [frs] using ho4
      case measure => simp [intOf]; omega
    · by_cases hc5 : c = 5
      · have hfd := FS.out hc5
        have HFD := Lib.hid hfd
        have hrl : (bs.drop i).length = n - i := by rw [List.length_drop, ← HNN.out]
        have HRL := Lib.hid hrl
        subst hc5
        clear hfd HF1 HMY HFY FT FP FS hrl
        go_wp2_with fail
        refine C1.out.mono ?_
        rintro e w2 ⟨rfl, hB2⟩
        clear C1
        have ho2 := ownsRow_below ho hB2
        replace hB := hB.trans (hB2.mono hB.size)
        have hsz := hB.size
        clear ho hB2
        obtain ⟨w3, hw3⟩ : ∃ w3, w2.alloc (.cells (fc F).toArray 25) = w3 := ⟨_, rfl⟩
        have hB3 : Below w.heap.size w w3 := by rw [← hw3]; exact hB.alloc hsz _
        have ho3 := ho2.alloc (.cells (fc F).toArray 25)
        rw [hw3] at ho3
        have HW3 := Lib.hid hw3
        clear hw3 ho2 hB
        go_upto_region 5 with fail
        rw [HW3.out]
        clear HW3
        go_wp2_with fail
        refine bodyPost_ret (results_tmp3 rfl _ _ _) rfl ?_
        refine ⟨_, l, k, bs.drop i, ?_, HFD.out, ho3, hB3⟩
        rw [HRL.out]
        simp
        omega
      · have hlt := HP.out hc5
        have hfd := FP.out hc0 hc5
        rw [List.drop_drop] at hfd
        have HFD := Lib.hid hfd
        have d1 : ((c : Int) != 0) = true := by simp; omega
        have d2 : ((c : Int) == 5) = false := by simp; omega
        clear hfd HF1 HMY HFY FT FP FS
        go_wp2_with fail
        refine C1.out.mono ?_
        rintro e w2 ⟨rfl, hB2⟩
        clear C1
        have ho2 := ownsRow_below ho hB2
        replace hB := hB.trans (hB2.mono hB.size)
        have hsz := hB.size
        clear ho hB2
        obtain ⟨w3, hw3⟩ : ∃ w3, w2.alloc (.cells (fc F).toArray 25) = w3 := ⟨_, rfl⟩
        have hB3 : Below w.heap.size w w3 := by rw [← hw3]; exact hB.alloc hsz _
        have ho3 := ho2.alloc (.cells (fc F).toArray 25)
        rw [hw3] at ho3
        have HW3 := Lib.hid hw3
        clear hw3 ho2 hB
        go_upto_region 5 with fail
        rw [HW3.out]
        clear HW3
        go_wp2_with fail
        go_roundw
        case rel => exact ⟨i + 1, k + 1, l, by omega, by go_num, by go_num, by omega, by omega, HFD, ho3, hB3⟩
        case measure => simp [intOf]; omega
end Go.Proofs.YtfkncfjdgbgeeaaDoor
