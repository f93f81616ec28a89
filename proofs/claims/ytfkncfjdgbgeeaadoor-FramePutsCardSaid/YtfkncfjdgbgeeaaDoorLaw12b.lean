/-
  FramePuts, walked.
-/
import Derived.Test.YtfkncfjdgbgeeaaDoorLaw12a
import Derived.Test.YtfkncfjdgbgeeaaDoorFrameS
import Derived.Test.YtfkncfjdgbgeeaaDoorPackBits
set_option linter.unusedVariables false
set_option linter.unusedSimpArgs false
namespace Go.Proofs.YtfkncfjdgbgeeaaDoor
open Go Go.RowKit Go.Th Go.Th.Crc

set_option maxRecDepth 100000 in
set_option maxHeartbeats 4000000 in
theorem framePuts_any (f : Fr) (ho : f.Ok) (w : World) (C : Cts w) : Calls Tryd.prog 3 #[fv f] w fun e w' => e = .returned (.bool true) ∧ Below w.heap.size w w' := by
  obtain ⟨w1, hw1⟩ : ∃ w1, w.alloc (.cells #[.int .i64 f.k, .int .u16 f.s, .int .u32 f.t, .int .i32 f.a, .int .i32 f.b, .int .i32 f.c] 25) = w1 := ⟨_, rfl⟩
  have hB1 : Below w.heap.size w w1 := by rw [← hw1]; exact (Below.refl _ _).alloc (Nat.le_refl _) _
  have K1 : Blk w1 w.heap.size 25 (fc f) := by rw [← hw1]; exact Blk.new w _ _
  have C1 := C.below hB1
  have P1 := Lib.hid (putF_any f ho w1 C1)
  have c0 := K1.cell (i := 0) rfl
  have c1 := K1.cell (i := 1) rfl
  have c2 := K1.cell (i := 2) rfl
  have c3 := K1.cell (i := 3) rfl
  have c4 := K1.cell (i := 4) rfl
  have c5 := K1.cell (i := 5) rfl
  have HO := Lib.hid ho
  have HW1 := Lib.hid hw1
  have hlt : w.heap.size < w1.heap.size := K1.lt
  clear hw1 ho C
  go_enter Tryd.func3, Tryd.ntmps3
  go_upto_region 1 with fail
  rw [HW1.out]
  clear HW1
  go_wp2_with fail
  refine P1.out.mono ?_
  rintro e w2 ⟨⟨v2, rfl, h20, h21⟩, hB2⟩
  clear P1 c0 c1 c2 c3 c4 c5
  have K2 := K1.below hB2 K1.lt
  have C2 := C1.below hB2
  have hBw2 := hB1.trans (hB2.mono hB1.size)
  have P2 := Lib.hid (refPutF_any f HO.out w2)
  have c0 := K2.cell (i := 0) rfl
  have c1 := K2.cell (i := 1) rfl
  have c2 := K2.cell (i := 2) rfl
  have c3 := K2.cell (i := 3) rfl
  have c4 := K2.cell (i := 4) rfl
  have c5 := K2.cell (i := 5) rfl
  have hcp : pcode f < 14 := by unfold pcode; split; omega; split <;> omega
  obtain ⟨c, hc⟩ : ∃ c, c = pcode f := ⟨_, rfl⟩
  have HCC := Lib.hid hc
  have P2' : Hid (Calls Tryd.prog 8 #[fv f] w2 fun e w' => (∃ v, e = .returned (.tuple #[v, .int .i64 (c : Nat)]) ∧ (c = 0 → w'.ownsRow w2.heap.size 5 1 v (bytesF f).length (u8s (bytesF f))) ∧ (c ≠ 0 → v = .slice none 0 0)) ∧ Below w2.heap.size w2 w') := by
    rw [hc]; exact P2
  rw [← hc] at h20 h21 hcp ⊢
  have H20 := Lib.hid h20
  have H21 := Lib.hid h21
  clear hB1 hB2 C1 K1 P2 h20 h21 hc
  by_cases h0 : c = 0
  · have ho2 := H20.out h0
    obtain ⟨a2, cap2, rfl, _, _⟩ := ownsRow_slice ho2
    have hbl : (bytesF f).length = 12 + 4 * fncnt f.k := bytesF_length f
    have hn3 := fncnt_le f.k
    subst h0
    obtain ⟨n, hn⟩ : ∃ n, n = (bytesF f).length := ⟨_, rfl⟩
    have hn24 : n ≤ 24 := by omega
    have HNN := Lib.hid hn
    rw [← hn] at ho2 P2' ⊢
    clear hn hbl hn3
    go_wp2_with fail
    refine P2'.out.mono ?_
    rintro e w3 ⟨⟨v3, rfl, h30, _⟩, hB3⟩
    clear P2'
    have ho3 := h30 trivial
    obtain ⟨a3, cap3, rfl, _, _⟩ := ownsRow_slice ho3
    have K3 := K2.below hB3 K2.lt
    have C3 := C2.below hB3
    have hBw3 := hBw2.trans (hB3.mono hBw2.size)
    have ho2' := ownsRow_below ho2 hB3
    clear c0 c1 c2 c3 c4 c5 h30 hB3 K2 C2 hBw2 ho2
    have c0 := K3.cell (i := 0) rfl
    have SM := same_any (.slice a2 n cap2) (.slice a3 n cap3) (bytesF f) (bytesF f) w3.drew (by rw [← HNN.out]; exact Sl.of_own ho2') (by rw [← HNN.out]; exact Sl.of_own ho3) rfl
    have SM := Lib.hid SM
    have N1 := Lib.hid (numbers_any f.k w3.drew C3)
    have N2 := Lib.hid (refNumbers12_any f.k w3.drew)
    have hfr := fcnt_range f.k
    obtain ⟨q, hq⟩ : ∃ q, q = fcnt f.k := ⟨_, rfl⟩
    rw [← hq] at N1 N2 hfr
    have FS := first_any (.slice a2 n cap2) (bytesF f) (by rw [← HNN.out]; omega) (bytesF_lt f (pcode_fcnt HCC.out.symm).1) w3.drew C3 (by rw [← HNN.out]; exact Sl.of_own ho2')
    obtain ⟨b1, b2, b3⟩ := back_F f HO.out HCC.out.symm
    rw [show fstF (bytesF f) = f by unfold fstF; rw [if_pos b1, b2], show fstN (bytesF f) = n by unfold fstN; rw [if_pos b1, b3, ← HNN.out], b1] at FS
    have FS := Lib.hid FS
    have HFS := Lib.hid (show fsize f.k = (n : Nat) by
      have hc := (pcode_fcnt HCC.out.symm).1
      rw [HNN.out, bytesF_length]
      unfold fsize fncnt
      rw [if_neg (by omega)]
      omega)
    clear hq ho2' ho3 b1 b2 b3
    go_wp2_with fail
    refine wp_region_held_drew (S := (fun w' : World => w'.cell? ⟨w.heap.size, 0, none⟩ = some (.int .i64 f.k))) (by kernel_rfl) (c0) (fun hHeld => ?_)
    refine wpAnyH_take (i := 0) (v := ?v1) rfl (by kernel_rfl) (by kernel_rfl) (by kernel_rfl) (fun _ _ _ h => h) (Or.inl ⟨by rfl, ?hy1⟩) hHeld ?rest1
    case hy1 => (intro w' hSw; (try dsimp only at hSw); go_simp; (try with_reducible rfl))
    try simp only [Act.put, List.setIfInBounds_toArray, List.set_cons_zero, List.set_cons_succ, List.getElem_toArray, List.getElem_cons_zero, List.getElem_cons_succ]
    refine wpAnyH_take (i := 1) (v := ?v2) rfl (by kernel_rfl) (by kernel_rfl) (by kernel_rfl) (fun _ _ _ h => h) (Or.inl ⟨by rfl, ?hy2⟩) hHeld ?rest2
    case hy2 => (intro w' hSw; (try dsimp only at hSw); go_simp; (try with_reducible rfl))
    try simp only [Act.put, List.setIfInBounds_toArray, List.set_cons_zero, List.set_cons_succ, List.getElem_toArray, List.getElem_cons_zero, List.getElem_cons_succ]
    refine wpAnyH_ready (rs := [2]) (by kernel_rfl) (by simp) ?_
    refine AllReadyH.cons rfl (fun K hK => ?_) AllReadyH.nil
    go_simp
    refine SM.out.mono ?_
    rintro e wx ⟨rfl, rfl⟩
    clear SM
    try go_wp2_with fail
    refine hK.out _ _ (c0) (fun hHeld => ?_)
    clear hK K
    try simp only [Act.put, List.setIfInBounds_toArray, List.set_cons_zero, List.set_cons_succ, List.getElem_toArray, List.getElem_cons_zero, List.getElem_cons_succ]
    refine wpAnyH_take (i := 3) (v := ?v4) rfl (by kernel_rfl) (by kernel_rfl) (by kernel_rfl) (fun _ _ _ h => h) (Or.inl ⟨by rfl, ?hy4⟩) hHeld ?rest4
    case hy4 => (intro w' hSw; (try dsimp only at hSw); go_simp; (try with_reducible rfl))
    try simp only [Act.put, List.setIfInBounds_toArray, List.set_cons_zero, List.set_cons_succ, List.getElem_toArray, List.getElem_cons_zero, List.getElem_cons_succ]
    refine wpAnyH_take (i := 4) (v := ?v5) rfl (by kernel_rfl) (by kernel_rfl) (by kernel_rfl) (fun _ _ _ h => h) (Or.inl ⟨by rfl, ?hy5⟩) hHeld ?rest5
    case hy5 => (intro w' hSw; (try dsimp only at hSw); go_simp; (try with_reducible rfl))
    try simp only [Act.put, List.setIfInBounds_toArray, List.set_cons_zero, List.set_cons_succ, List.getElem_toArray, List.getElem_cons_zero, List.getElem_cons_succ]
    refine wpAnyH_take (i := 5) (v := ?v6) rfl (by kernel_rfl) (by kernel_rfl) (by kernel_rfl) (fun _ _ _ h => h) (Or.inl ⟨by rfl, ?hy6⟩) hHeld ?rest6
    case hy6 => (intro w' hSw; (try dsimp only at hSw); go_simp; (try with_reducible rfl))
    try simp only [Act.put, List.setIfInBounds_toArray, List.set_cons_zero, List.set_cons_succ, List.getElem_toArray, List.getElem_cons_zero, List.getElem_cons_succ]
    refine wpAnyH_take (i := 6) (v := ?v7) rfl (by kernel_rfl) (by kernel_rfl) (by kernel_rfl) (fun _ _ _ h => h) (Or.inl ⟨by rfl, ?hy7⟩) hHeld ?rest7
    case hy7 => (intro w' hSw; (try dsimp only at hSw); go_simp; (try with_reducible rfl))
    try simp only [Act.put, List.setIfInBounds_toArray, List.set_cons_zero, List.set_cons_succ, List.getElem_toArray, List.getElem_cons_zero, List.getElem_cons_succ]
    refine wpAnyH_take (i := 7) (v := ?v8) rfl (by kernel_rfl) (by kernel_rfl) (by kernel_rfl) (fun _ _ _ h => h) (Or.inl ⟨by rfl, ?hy8⟩) hHeld ?rest8
    case hy8 => (intro w' hSw; (try dsimp only at hSw); go_simp; (try with_reducible rfl))
    try simp only [Act.put, List.setIfInBounds_toArray, List.set_cons_zero, List.set_cons_succ, List.getElem_toArray, List.getElem_cons_zero, List.getElem_cons_succ]
    refine wpAnyH_take (i := 8) (v := ?v9) rfl (by kernel_rfl) (by kernel_rfl) (by kernel_rfl) (fun _ _ _ h => h) (Or.inl ⟨by rfl, ?hy9⟩) hHeld ?rest9
    case hy9 => (intro w' hSw; (try dsimp only at hSw); go_simp; (try with_reducible rfl))
    try simp only [Act.put, List.setIfInBounds_toArray, List.set_cons_zero, List.set_cons_succ, List.getElem_toArray, List.getElem_cons_zero, List.getElem_cons_succ]
    refine wpAnyH_take (i := 9) (v := ?v10) rfl (by kernel_rfl) (by kernel_rfl) (by kernel_rfl) (fun _ _ _ h => h) (Or.inl ⟨by rfl, ?hy10⟩) hHeld ?rest10
    case hy10 => (intro w' hSw; (try dsimp only at hSw); go_simp; (try with_reducible rfl))
    try simp only [Act.put, List.setIfInBounds_toArray, List.set_cons_zero, List.set_cons_succ, List.getElem_toArray, List.getElem_cons_zero, List.getElem_cons_succ]
    refine wpAnyH_take (i := 10) (v := ?v11) rfl (by kernel_rfl) (by kernel_rfl) (by kernel_rfl) (fun _ _ _ h => h) (Or.inl ⟨by rfl, ?hy11⟩) hHeld ?rest11
    case hy11 => (intro w' hSw; (try dsimp only at hSw); go_simp; (try with_reducible rfl))
    try simp only [Act.put, List.setIfInBounds_toArray, List.set_cons_zero, List.set_cons_succ, List.getElem_toArray, List.getElem_cons_zero, List.getElem_cons_succ]
    refine wpAnyH_take (i := 11) (v := ?v12) rfl (by kernel_rfl) (by kernel_rfl) (by kernel_rfl) (fun _ _ _ h => h) (Or.inl ⟨by rfl, ?hy12⟩) hHeld ?rest12
    case hy12 => (intro w' hSw; (try dsimp only at hSw); go_simp; (try with_reducible rfl))
    try simp only [Act.put, List.setIfInBounds_toArray, List.set_cons_zero, List.set_cons_succ, List.getElem_toArray, List.getElem_cons_zero, List.getElem_cons_succ]
    refine wpAnyH_take (i := 13) (v := ?v13) rfl (by kernel_rfl) (by kernel_rfl) (by kernel_rfl) (fun _ _ _ h => h) (Or.inl ⟨by rfl, ?hy13⟩) hHeld ?rest13
    case hy13 => (intro w' hSw; (try dsimp only at hSw); go_simp; (try with_reducible rfl))
    try simp only [Act.put, List.setIfInBounds_toArray, List.set_cons_zero, List.set_cons_succ, List.getElem_toArray, List.getElem_cons_zero, List.getElem_cons_succ]
    refine wpAnyH_take (i := 14) (v := ?v14) rfl (by kernel_rfl) (by kernel_rfl) (by kernel_rfl) (fun _ _ _ h => h) (Or.inl ⟨by rfl, ?hy14⟩) hHeld ?rest14
    case hy14 => (intro w' hSw; (try dsimp only at hSw); go_simp; (try with_reducible rfl))
    try simp only [Act.put, List.setIfInBounds_toArray, List.set_cons_zero, List.set_cons_succ, List.getElem_toArray, List.getElem_cons_zero, List.getElem_cons_succ]
    refine wpAnyH_ready (rs := [12]) (by kernel_rfl) (by simp) ?_
    refine AllReadyH.cons rfl (fun K hK => ?_) AllReadyH.nil
    go_simp
    refine N1.out.mono ?_
    rintro e wx ⟨rfl, rfl⟩
    clear N1
    try go_wp2_with fail
    refine hK.out _ _ (c0) (fun hHeld => ?_)
    clear hK K
    try simp only [Act.put, List.setIfInBounds_toArray, List.set_cons_zero, List.set_cons_succ, List.getElem_toArray, List.getElem_cons_zero, List.getElem_cons_succ]
    refine wpAnyH_ready (rs := [15]) (by kernel_rfl) (by simp) ?_
    refine AllReadyH.cons rfl (fun K hK => ?_) AllReadyH.nil
    go_simp
    refine N2.out.mono ?_
    rintro e wx ⟨rfl, rfl⟩
    clear N2
    try go_wp2_with fail
    refine hK.out _ _ (c0) (fun hHeld => ?_)
    clear hK K
    try simp only [Act.put, List.setIfInBounds_toArray, List.set_cons_zero, List.set_cons_succ, List.getElem_toArray, List.getElem_cons_zero, List.getElem_cons_succ]
    refine wpAnyH_take (i := 16) (v := ?v17) rfl (by kernel_rfl) (by kernel_rfl) (by kernel_rfl) (fun _ _ _ h => h) (Or.inl ⟨by rfl, ?hy17⟩) hHeld ?rest17
    case hy17 => (intro w' hSw; (try dsimp only at hSw); go_simp; (try with_reducible rfl))
    try simp only [Act.put, List.setIfInBounds_toArray, List.set_cons_zero, List.set_cons_succ, List.getElem_toArray, List.getElem_cons_zero, List.getElem_cons_succ]
    refine wpAnyH_take (i := 17) (v := ?v18) rfl (by kernel_rfl) (by kernel_rfl) (by kernel_rfl) (fun _ _ _ h => h) (Or.inl ⟨by rfl, ?hy18⟩) hHeld ?rest18
    case hy18 => (intro w' hSw; (try dsimp only at hSw); go_simp; (try with_reducible rfl))
    try simp only [Act.put, List.setIfInBounds_toArray, List.set_cons_zero, List.set_cons_succ, List.getElem_toArray, List.getElem_cons_zero, List.getElem_cons_succ]
    refine wpAnyH_done (by kernel_rfl) ?_ _
    go_wp2_with fail
    refine FS.out.mono ?_
    rintro e w4 ⟨rfl, hB4⟩
    clear FS c0
    have K4 := K3.drew.below hB4 K3.lt
    have C4 := C3.drew.below hB4
    have hBw4 := hBw3.drew.trans (hB4.mono hBw3.size)
    obtain ⟨w5, hw5⟩ : ∃ w5, w4.alloc (.cells #[.int .i64 f.k, .int .u16 f.s, .int .u32 f.t, .int .i32 f.a, .int .i32 f.b, .int .i32 f.c] 25) = w5 := ⟨_, rfl⟩
    have hB5 : Below w4.heap.size w4 w5 := by rw [← hw5]; exact (Below.refl _ _).alloc (Nat.le_refl _) _
    have K5 : Blk w5 w4.heap.size 25 (fc f) := by rw [← hw5]; exact Blk.new w4 _ _
    have K45 := K4.below hB5 K4.lt
    have C5 := C4.below hB5
    have hBw5 := hBw4.trans (hB5.mono hBw4.size)
    have c0 := K45.cell (i := 0) rfl
    have c1 := K45.cell (i := 1) rfl
    have c2 := K45.cell (i := 2) rfl
    have c3 := K45.cell (i := 3) rfl
    have c4 := K45.cell (i := 4) rfl
    have c5 := K45.cell (i := 5) rfl
    have d0 := K5.cell (i := 0) rfl
    have d1 := K5.cell (i := 1) rfl
    have d2 := K5.cell (i := 2) rfl
    have d3 := K5.cell (i := 3) rfl
    have d4 := K5.cell (i := 4) rfl
    have d5 := K5.cell (i := 5) rfl
    have SZ := size_any f.k w5 C5
    rw [HFS.out] at SZ
    have SZ := Lib.hid SZ
    have WK := Lib.hid (works12_any w5 C5)
    have HW5 := Lib.hid hw5
    clear hw5 hB4 hB5 K3 C3 hBw3 K4 C4 hBw4 K5 K45 C5
    go_upto_region 8 with fail
    rw [HW5.out]
    clear HW5
    go_wp2_with fail
    refine SZ.out.mono ?_
    rintro e wx ⟨rfl, rfl⟩
    clear SZ
    go_wp2_with fail
    refine WK.out.mono ?_
    rintro e w6 ⟨rfl, hB6⟩
    clear WK
    have hBw6 := hBw5.trans (hB6.mono hBw5.size)
    go_wp2_with fail
    go_ret
    exact ⟨rfl, hBw6⟩
  · have hv2 := H21.out h0
    subst hv2
    have d1 : ((c : Int) != 0) = true := by simp; omega
    go_wp2_with fail
    refine P2'.out.mono ?_
    rintro e w3 ⟨⟨v3, rfl, _, h31⟩, hB3⟩
    clear P2'
    have hv3 := h31 h0
    subst hv3
    have K3 := K2.below hB3 K2.lt
    have C3 := C2.below hB3
    have hBw3 := hBw2.trans (hB3.mono hBw2.size)
    clear c0 c1 c2 c3 c4 c5 h31 hB3 K2 C2 hBw2
    have c0 := K3.cell (i := 0) rfl
    have SM := Lib.hid (same_any (.slice none 0 0) (.slice none 0 0) [] [] w3.drew (Sl.nil _ _) (Sl.nil _ _) rfl)
    have N1 := Lib.hid (numbers_any f.k w3.drew C3)
    have N2 := Lib.hid (refNumbers12_any f.k w3.drew)
    have hfr := fcnt_range f.k
    obtain ⟨q, hq⟩ : ∃ q, q = fcnt f.k := ⟨_, rfl⟩
    rw [← hq] at N1 N2 hfr
    have WK := Lib.hid (works12_any w3.drew C3)
    clear hq
    go_wp2_with fail
    refine wp_region_held_drew (S := (fun w' : World => w'.cell? ⟨w.heap.size, 0, none⟩ = some (.int .i64 f.k))) (by kernel_rfl) (c0) (fun hHeld => ?_)
    refine wpAnyH_take (i := 0) (v := ?v19) rfl (by kernel_rfl) (by kernel_rfl) (by kernel_rfl) (fun _ _ _ h => h) (Or.inl ⟨by rfl, ?hy19⟩) hHeld ?rest19
    case hy19 => (intro w' hSw; (try dsimp only at hSw); go_simp; (try with_reducible rfl))
    try simp only [Act.put, List.setIfInBounds_toArray, List.set_cons_zero, List.set_cons_succ, List.getElem_toArray, List.getElem_cons_zero, List.getElem_cons_succ]
    refine wpAnyH_take (i := 1) (v := ?v20) rfl (by kernel_rfl) (by kernel_rfl) (by kernel_rfl) (fun _ _ _ h => h) (Or.inl ⟨by rfl, ?hy20⟩) hHeld ?rest20
    case hy20 => (intro w' hSw; (try dsimp only at hSw); go_simp; (try with_reducible rfl))
    try simp only [Act.put, List.setIfInBounds_toArray, List.set_cons_zero, List.set_cons_succ, List.getElem_toArray, List.getElem_cons_zero, List.getElem_cons_succ]
    refine wpAnyH_ready (rs := [2]) (by kernel_rfl) (by simp) ?_
    refine AllReadyH.cons rfl (fun K hK => ?_) AllReadyH.nil
    go_simp
    refine SM.out.mono ?_
    rintro e wx ⟨rfl, rfl⟩
    clear SM
    try go_wp2_with fail
    refine hK.out _ _ (c0) (fun hHeld => ?_)
    clear hK K
    try simp only [Act.put, List.setIfInBounds_toArray, List.set_cons_zero, List.set_cons_succ, List.getElem_toArray, List.getElem_cons_zero, List.getElem_cons_succ]
    refine wpAnyH_take (i := 3) (v := ?v22) rfl (by kernel_rfl) (by kernel_rfl) (by kernel_rfl) (fun _ _ _ h => h) (Or.inl ⟨by rfl, ?hy22⟩) hHeld ?rest22
    case hy22 => (intro w' hSw; (try dsimp only at hSw); go_simp; (try with_reducible rfl))
    try simp only [Act.put, List.setIfInBounds_toArray, List.set_cons_zero, List.set_cons_succ, List.getElem_toArray, List.getElem_cons_zero, List.getElem_cons_succ]
    refine wpAnyH_take (i := 4) (v := ?v23) rfl (by kernel_rfl) (by kernel_rfl) (by kernel_rfl) (fun _ _ _ h => h) (Or.inl ⟨by rfl, ?hy23⟩) hHeld ?rest23
    case hy23 => (intro w' hSw; (try dsimp only at hSw); go_simp; (try with_reducible rfl))
    try simp only [Act.put, List.setIfInBounds_toArray, List.set_cons_zero, List.set_cons_succ, List.getElem_toArray, List.getElem_cons_zero, List.getElem_cons_succ]
    refine wpAnyH_take (i := 5) (v := ?v24) rfl (by kernel_rfl) (by kernel_rfl) (by kernel_rfl) (fun _ _ _ h => h) (Or.inl ⟨by rfl, ?hy24⟩) hHeld ?rest24
    case hy24 => (intro w' hSw; (try dsimp only at hSw); go_simp; (try with_reducible rfl))
    try simp only [Act.put, List.setIfInBounds_toArray, List.set_cons_zero, List.set_cons_succ, List.getElem_toArray, List.getElem_cons_zero, List.getElem_cons_succ]
    refine wpAnyH_take (i := 6) (v := ?v25) rfl (by kernel_rfl) (by kernel_rfl) (by kernel_rfl) (fun _ _ _ h => h) (Or.inl ⟨by rfl, ?hy25⟩) hHeld ?rest25
    case hy25 => (intro w' hSw; (try dsimp only at hSw); go_simp; (try with_reducible rfl))
    try simp only [Act.put, List.setIfInBounds_toArray, List.set_cons_zero, List.set_cons_succ, List.getElem_toArray, List.getElem_cons_zero, List.getElem_cons_succ]
    refine wpAnyH_take (i := 7) (v := ?v26) rfl (by kernel_rfl) (by kernel_rfl) (by kernel_rfl) (fun _ _ _ h => h) (Or.inl ⟨by rfl, ?hy26⟩) hHeld ?rest26
    case hy26 => (intro w' hSw; (try dsimp only at hSw); go_simp; (try with_reducible rfl))
    try simp only [Act.put, List.setIfInBounds_toArray, List.set_cons_zero, List.set_cons_succ, List.getElem_toArray, List.getElem_cons_zero, List.getElem_cons_succ]
    refine wpAnyH_take (i := 8) (v := ?v27) rfl (by kernel_rfl) (by kernel_rfl) (by kernel_rfl) (fun _ _ _ h => h) (Or.inl ⟨by rfl, ?hy27⟩) hHeld ?rest27
    case hy27 => (intro w' hSw; (try dsimp only at hSw); go_simp; (try with_reducible rfl))
    try simp only [Act.put, List.setIfInBounds_toArray, List.set_cons_zero, List.set_cons_succ, List.getElem_toArray, List.getElem_cons_zero, List.getElem_cons_succ]
    refine wpAnyH_take (i := 9) (v := ?v28) rfl (by kernel_rfl) (by kernel_rfl) (by kernel_rfl) (fun _ _ _ h => h) (Or.inl ⟨by rfl, ?hy28⟩) hHeld ?rest28
    case hy28 => (intro w' hSw; (try dsimp only at hSw); go_simp; (try with_reducible rfl))
    try simp only [Act.put, List.setIfInBounds_toArray, List.set_cons_zero, List.set_cons_succ, List.getElem_toArray, List.getElem_cons_zero, List.getElem_cons_succ]
    refine wpAnyH_take (i := 10) (v := ?v29) rfl (by kernel_rfl) (by kernel_rfl) (by kernel_rfl) (fun _ _ _ h => h) (Or.inl ⟨by rfl, ?hy29⟩) hHeld ?rest29
    case hy29 => (intro w' hSw; (try dsimp only at hSw); go_simp; (try with_reducible rfl))
    try simp only [Act.put, List.setIfInBounds_toArray, List.set_cons_zero, List.set_cons_succ, List.getElem_toArray, List.getElem_cons_zero, List.getElem_cons_succ]
    refine wpAnyH_take (i := 11) (v := ?v30) rfl (by kernel_rfl) (by kernel_rfl) (by kernel_rfl) (fun _ _ _ h => h) (Or.inl ⟨by rfl, ?hy30⟩) hHeld ?rest30
    case hy30 => (intro w' hSw; (try dsimp only at hSw); go_simp; (try with_reducible rfl))
    try simp only [Act.put, List.setIfInBounds_toArray, List.set_cons_zero, List.set_cons_succ, List.getElem_toArray, List.getElem_cons_zero, List.getElem_cons_succ]
    refine wpAnyH_take (i := 13) (v := ?v31) rfl (by kernel_rfl) (by kernel_rfl) (by kernel_rfl) (fun _ _ _ h => h) (Or.inl ⟨by rfl, ?hy31⟩) hHeld ?rest31
    case hy31 => (intro w' hSw; (try dsimp only at hSw); go_simp; (try with_reducible rfl))
    try simp only [Act.put, List.setIfInBounds_toArray, List.set_cons_zero, List.set_cons_succ, List.getElem_toArray, List.getElem_cons_zero, List.getElem_cons_succ]
    refine wpAnyH_take (i := 14) (v := ?v32) rfl (by kernel_rfl) (by kernel_rfl) (by kernel_rfl) (fun _ _ _ h => h) (Or.inl ⟨by rfl, ?hy32⟩) hHeld ?rest32
    case hy32 => (intro w' hSw; (try dsimp only at hSw); go_simp; (try with_reducible rfl))
    try simp only [Act.put, List.setIfInBounds_toArray, List.set_cons_zero, List.set_cons_succ, List.getElem_toArray, List.getElem_cons_zero, List.getElem_cons_succ]
    refine wpAnyH_ready (rs := [12]) (by kernel_rfl) (by simp) ?_
    refine AllReadyH.cons rfl (fun K hK => ?_) AllReadyH.nil
    go_simp
    refine N1.out.mono ?_
    rintro e wx ⟨rfl, rfl⟩
    clear N1
    try go_wp2_with fail
    refine hK.out _ _ (c0) (fun hHeld => ?_)
    clear hK K
    try simp only [Act.put, List.setIfInBounds_toArray, List.set_cons_zero, List.set_cons_succ, List.getElem_toArray, List.getElem_cons_zero, List.getElem_cons_succ]
    refine wpAnyH_ready (rs := [15]) (by kernel_rfl) (by simp) ?_
    refine AllReadyH.cons rfl (fun K hK => ?_) AllReadyH.nil
    go_simp
    refine N2.out.mono ?_
    rintro e wx ⟨rfl, rfl⟩
    clear N2
    try go_wp2_with fail
    refine hK.out _ _ (c0) (fun hHeld => ?_)
    clear hK K
    try simp only [Act.put, List.setIfInBounds_toArray, List.set_cons_zero, List.set_cons_succ, List.getElem_toArray, List.getElem_cons_zero, List.getElem_cons_succ]
    refine wpAnyH_take (i := 16) (v := ?v35) rfl (by kernel_rfl) (by kernel_rfl) (by kernel_rfl) (fun _ _ _ h => h) (Or.inl ⟨by rfl, ?hy35⟩) hHeld ?rest35
    case hy35 => (intro w' hSw; (try dsimp only at hSw); go_simp; (try with_reducible rfl))
    try simp only [Act.put, List.setIfInBounds_toArray, List.set_cons_zero, List.set_cons_succ, List.getElem_toArray, List.getElem_cons_zero, List.getElem_cons_succ]
    refine wpAnyH_take (i := 17) (v := ?v36) rfl (by kernel_rfl) (by kernel_rfl) (by kernel_rfl) (fun _ _ _ h => h) (Or.inl ⟨by rfl, ?hy36⟩) hHeld ?rest36
    case hy36 => (intro w' hSw; (try dsimp only at hSw); go_simp; (try with_reducible rfl))
    try simp only [Act.put, List.setIfInBounds_toArray, List.set_cons_zero, List.set_cons_succ, List.getElem_toArray, List.getElem_cons_zero, List.getElem_cons_succ]
    refine wpAnyH_done (by kernel_rfl) ?_ _
    go_wp2_with fail
    refine WK.out.mono ?_
    rintro e w6 ⟨rfl, hB6⟩
    clear WK
    have hBw6 := hBw3.drew.trans (hB6.mono hBw3.size)
    go_wp2_with fail
    go_ret
    exact ⟨rfl, hBw6⟩
end Go.Proofs.YtfkncfjdgbgeeaaDoor
