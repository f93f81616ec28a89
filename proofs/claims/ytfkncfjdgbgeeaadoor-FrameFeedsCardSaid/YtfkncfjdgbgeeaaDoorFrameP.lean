/-
  A frame as bytes: the code's Put.
-/
import Derived.Test.YtfkncfjdgbgeeaaDoorFrameC
set_option linter.unusedVariables false
set_option linter.unusedSimpArgs false
namespace Go.Proofs.YtfkncfjdgbgeeaaDoor
open Go Go.RowKit Go.Th Go.Th.Crc

def i32c (l : List Int) : List Value := l.map (.int .i32)
theorem i32c_at (l : List Int) (i : Nat) (x : Int) (h : l[i]? = some x) : (i32c l)[i]? = some (.int .i32 x) := by simp [i32c, h]

theorem pcode_kind (f : Fr) (h : fcnt f.k < 0) : pcode f = 13 := by unfold pcode; rw [if_pos h]
theorem pcode_arg (f : Fr) (h : ¬ fcnt f.k < 0) (i : Nat) (x : Int) (hi : (abc f)[fncnt f.k + i]? = some x) (hx : x ≠ 0) : pcode f = 1 := by
  unfold pcode
  rw [if_neg h, if_neg]
  intro hall
  rw [List.all_eq_true] at hall
  have := hall x (List.mem_of_getElem? (i := i) (by rw [List.getElem?_drop]; exact hi))
  simp at this
  exact hx this
theorem pcode_zero (f : Fr) (h : ¬ fcnt f.k < 0) (h0 : ∀ i x, i < 3 - fncnt f.k → (abc f)[fncnt f.k + i]? = some x → x = 0) : pcode f = 0 := by
  unfold pcode
  rw [if_neg h, if_pos]
  rw [List.all_eq_true]
  intro x hx
  obtain ⟨i, hi⟩ := List.getElem?_of_mem hx
  rw [List.getElem?_drop] at hi
  have hl : (abc f).length = 3 := rfl
  have := (List.getElem?_eq_some_iff.1 hi).1
  have := h0 i x (by omega) hi
  simp [this]

theorem cut_l (g n : Nat) (h : n ≤ 3) : ∃ o, (∀ wx : World, (Instr.sliceAt 51 (.pointer (some ⟨g, 0, none⟩)) (some (.int .i64 n)) none none).run Tryd.prog wx = .ok (.slice (some ⟨g, o, none⟩) (3 - n) (3 - n)) wx) ∧ (n < 3 → o = n) := by
  have hal : Tryd.prog.arrayLen 51 = 3 := by kernel_rfl
  have h2 : (n : Int) ≤ ((Tryd.prog.arrayLen 51 : Nat) : Int) := by rw [hal]; omega
  have hs : ∀ wx : World, (sizeOf (Tryd.prog.elem 51)).run Tryd.prog wx = .ok 1 wx := fun wx => by kernel_rfl
  rcases (show n = 0 ∨ n = 1 ∨ n = 2 ∨ n = 3 by omega) with rfl | rfl | rfl | rfl
  · exact ⟨0, fun wx => by rw [run_sliceAt_array_l (P := Tryd.prog) wx 51 ⟨g, 0, none⟩ Tryd.underlying51 .i64 _ (by omega) h2, hs, hal]; simp [slicedAt, add_none], fun _ => rfl⟩
  · exact ⟨1, fun wx => by rw [run_sliceAt_array_l (P := Tryd.prog) wx 51 ⟨g, 0, none⟩ Tryd.underlying51 .i64 _ (by omega) h2, hs, hal]; simp [slicedAt, add_none], fun _ => rfl⟩
  · exact ⟨2, fun wx => by rw [run_sliceAt_array_l (P := Tryd.prog) wx 51 ⟨g, 0, none⟩ Tryd.underlying51 .i64 _ (by omega) h2, hs, hal]; simp [slicedAt, add_none], fun _ => rfl⟩
  · exact ⟨0, fun wx => by rw [run_sliceAt_array_l (P := Tryd.prog) wx 51 ⟨g, 0, none⟩ Tryd.underlying51 .i64 _ (by omega) h2, hs, hal]; simp [slicedAt, add_none], fun h => by omega⟩
theorem cut_h (g n : Nat) (h : n ≤ 3) (wx : World) : (Instr.sliceAt 51 (.pointer (some ⟨g, 0, none⟩)) none (some (.int .i64 n)) none).run Tryd.prog wx = .ok (.slice (some ⟨g, 0, none⟩) n 3) wx := by
  have hal : Tryd.prog.arrayLen 51 = 3 := by kernel_rfl
  have h2 : (n : Int) ≤ ((Tryd.prog.arrayLen 51 : Nat) : Int) := by rw [hal]; omega
  have hs : (sizeOf (Tryd.prog.elem 51)).run Tryd.prog wx = .ok 1 wx := by kernel_rfl
  rw [run_sliceAt_array_h (P := Tryd.prog) wx 51 ⟨g, 0, none⟩ Tryd.underlying51 .i64 (n : Int) (by omega) h2, hs, hal]
  simp [slicedAt, add_none]

theorem u32_un (x : Int) : IntKind.u32.wrap x = (un x : Nat) := by
  unfold un
  simp [IntKind.wrap, IntKind.bits, IntKind.signed]
  omega

set_option maxRecDepth 20000 in
set_option maxHeartbeats 3200000 in
theorem putF_any (f : Fr) (ho : f.Ok) (w : World) (C : Cts w) :
    Calls Tryd.prog 7 #[fv f] w fun e w' => (∃ v, e = .returned (.tuple #[v, .int .i64 (pcode f : Nat)]) ∧ (pcode f = 0 → w'.ownsRow w.heap.size 5 1 v (bytesF f).length (u8s (bytesF f))) ∧ (pcode f ≠ 0 → v = .slice none 0 0)) ∧ Below w.heap.size w w' := by
  obtain ⟨w1, hw1⟩ : ∃ w1, w.alloc (.cells #[.int .i64 f.k, .int .u16 f.s, .int .u32 f.t, .int .i32 f.a, .int .i32 f.b, .int .i32 f.c] 25) = w1 := ⟨_, rfl⟩
  have hB1 : Below w.heap.size w w1 := by rw [← hw1]; exact (Below.refl _ _).alloc (Nat.le_refl _) _
  have K0 : Blk w1 w.heap.size 25 (fc f) := by rw [← hw1]; exact Blk.new w _ _
  have hs1 : w1.heap.size = w.heap.size + 1 := by rw [← hw1]; simp
  have CN := numbers_any f.k w1 (C.below hB1)
  have hr := fcnt_range f.k
  have a0 := K0.cell (i := 0) rfl
  have k1 := ho.k1
  have k2 := ho.k2
  have HW1 := Lib.hid hw1
  clear hw1
  by_cases hc : fcnt f.k < 0
  · have HP := Lib.hid (pcode_kind f hc)
    obtain ⟨q, hq⟩ : ∃ q, q = fcnt f.k := ⟨_, rfl⟩
    rw [← hq] at CN hr hc
    have CN := Lib.hid CN
    clear hq C ho hs1 K0
    go_enter Tryd.func7, Tryd.ntmps7
    go_upto_region 1 with fail
    rw [HW1.out]
    clear HW1
    go_wp2_with fail
    refine CN.out.mono ?_
    rintro e wx ⟨rfl, rfl⟩
    clear CN
    go_wp2_with fail
    go_ret2
    exact ⟨⟨_, by rw [HP.out]; rfl, fun h => by have := HP.out; omega, fun _ => rfl⟩, hB1⟩
  · have hk := fcnt_pos (k := f.k) (by omega)
    have hn3 := fncnt_le f.k
    have hfn : fcnt f.k = (fncnt f.k : Nat) := by unfold fncnt; omega
    rw [hfn] at CN
    obtain ⟨w2, hw2⟩ : ∃ w2, w1.alloc (.cells #[.int .i32 f.a, .int .i32 f.b, .int .i32 f.c] 51) = w2 := ⟨_, rfl⟩
    have hB2 : Below w.heap.size w w2 := by rw [← hw2]; exact hB1.alloc (by omega) _
    have K1 : Blk w2 w1.heap.size 51 (i32c (abc f)) := by rw [← hw2]; exact Blk.new w1 _ [.int .i32 f.a, .int .i32 f.b, .int .i32 f.c]
    have K0' : Blk w2 w.heap.size 25 (fc f) := by rw [← hw2]; exact K0.alloc _
    have hs2 : w2.heap.size = w.heap.size + 2 := by rw [← hw2]; simp; omega
    have a3 := K0.cell (i := 3) rfl
    have a4 := K0.cell (i := 4) rfl
    have a5 := K0.cell (i := 5) rfl
    rw [hs1] at K1
    have PA := Lib.hid (pcode_arg f hc)
    have PZ := Lib.hid (pcode_zero f hc)
    have BL := Lib.hid (bytesF_length f)
    have BF := Lib.hid (show bytesF f = putB (nb f ++ ftl ((abc f).take (fncnt f.k))) from rfl)
    have BLT := Lib.hid (body_lt f (by omega))
    have NL := Lib.hid (nb_length f)
    have al : (abc f).length = 3 := rfl
    obtain ⟨kk, hkk⟩ := Int.eq_ofNat_of_zero_le (show 0 ≤ f.k by omega)
    have NB := Lib.hid (show nb f = ([126, kk] ++ lowB f.s 2) ++ lowB f.t 4 by unfold nb; rw [hkk]; rfl)
    have hk8 : IntKind.u8.wrap (kk : Int) = (kk : Int) := by simp [IntKind.wrap, IntKind.bits, IntKind.signed]; omega
    have hk8' : (kk : Int) % 256 = (kk : Int) := by omega
    have hkk7 : kk ≤ 7 := by omega
    obtain ⟨n, hn⟩ : ∃ n, n = fncnt f.k := ⟨_, rfl⟩
    rw [← hn] at CN hn3 PA PZ BL BF
    have hw1 := HW1.out
    unfold fv
    rw [hkk] at CN a0 hw1 ⊢
    replace HW1 := Lib.hid hw1
    clear hw1
    obtain ⟨o, cut1, ho1⟩ := cut_l (w.heap.size + 1) n hn3
    have cut2 := cut_h (w.heap.size + 1) n hn3
    have CN := Lib.hid CN
    have HS1 := Lib.hid hs1
    have HS2 := Lib.hid hs2
    have HW2 := Lib.hid hw2
    have HOO := Lib.hid ho
    have hBody := BLT
    have BDY := Lib.hid (show fbody f = nb f ++ ftl ((abc f).take n) by rw [hn]; rfl)
    have hot := ho.t
    have hos := ho.s
    obtain ⟨fs, hfs⟩ : ∃ x, x = f.s := ⟨_, rfl⟩
    obtain ⟨ft, hft⟩ : ∃ x, x = f.t := ⟨_, rfl⟩
    have c1' := K0'.cell (i := 1) rfl
    have c2' := K0'.cell (i := 2) rfl
    have c0' := K0'.cell (i := 0) rfl
    have e1 : IntKind.u64.wrap (fs : Int) = (fs : Int) := by rw [hfs]; simp [IntKind.wrap, IntKind.bits, IntKind.signed]; omega
    have e2 : IntKind.u64.wrap (ft : Int) = (ft : Int) := by rw [hft]; simp [IntKind.wrap, IntKind.bits, IntKind.signed]; omega
    rw [← hfs] at NB hos c1'
    rw [← hft] at NB hot c2'
    rw [hkk] at c0'
    clear hw2 hn C hc hfn hk k1 k2 hs1 hs2 K0 hkk hfs hft ho
    go_enter Tryd.func7, Tryd.ntmps7
    go_upto_region 1 with fail
    rw [HW1.out]
    clear HW1
    go_wp2_with fail
    refine CN.out.mono ?_
    rintro e wx ⟨rfl, rfl⟩
    clear CN
    go_upto_region 5 with fail
    rw [HS1.out, HW2.out]
    clear HW2 a0 a3 a4 a5 hB1
    go_wp2_with fail
    go_loop [26] (fun c => ∃ i : Nat, i ≤ 3 - n ∧ c = .int .i64 i ∧ ∀ j x, j < i → (abc f)[n + j]? = some x → x = 0) (fun c => 3 - n - (intOf c).toNat)
    case atStart => exact ⟨0, Nat.zero_le _, rfl, fun j x h => by omega⟩
    case round =>
      obtain ⟨i, hi, rfl, hz⟩ := hrel
      have HZ := Lib.hid hz
      clear hz
      by_cases hlt : i < 3 - n
      · obtain rfl : n = o := (ho1 (by omega)).symm
        obtain ⟨x, hx⟩ : ∃ x, (abc f)[n + i]? = some x := ⟨_, List.getElem?_eq_getElem (by omega)⟩
        have cx := K1.cell (i := n + i) (i32c_at _ _ _ hx)
        have HX := Lib.hid hx
        clear hx
        by_cases hx0 : x = 0
        · subst hx0
          go_wp2_with fail
          go_round
          case rel =>
            refine ⟨i + 1, by omega, by go_num, fun j x hj hx => ?_⟩
            by_cases hji : j = i
            · subst hji; rw [HX.out] at hx; exact (Option.some.inj hx).symm
            · exact HZ.out j x (by omega) hx
          case measure => simp [intOf]; omega
        · have HP := Lib.hid (PA.out i x HX.out hx0)
          have d1 : (x != 0) = true := by simp; exact hx0
          go_wp2_with fail
          go_ret2
          exact ⟨⟨_, by rw [HP.out]; rfl, fun h => by have := HP.out; omega, fun _ => rfl⟩, hB2⟩
      · obtain rfl : i = 3 - n := by omega
        have HP := Lib.hid (PZ.out HZ.out)
        clear HZ PA PZ ho1 cut1
        obtain ⟨w3, hw3⟩ : ∃ w3, w2.alloc (.cells #[.int .u8 126, .int .u8 kk] 5) = w3 := ⟨_, rfl⟩
        have hB3 : Below w.heap.size w w3 := by rw [← hw3]; exact hB2.alloc hB2.size _
        have s3 : Sl w3 1 (.slice (some ⟨w2.heap.size, 0, none⟩) 2 2) 2 (u8s [126, kk]) := by
          rw [← hw3]; exact Sl.bytes (w := w2) [126, kk] 5 2 rfl (by decide)
        have K13 : Blk w3 (w.heap.size + 1) 51 (i32c (abc f)) := by rw [← hw3]; exact K1.alloc _
        have c13 : w3.cell? ⟨w.heap.size, 1, none⟩ = some (.int .u16 fs) := by rw [← hw3]; exact (World.cell?_alloc_lt _ _ _ (by have := HS2.out; simp; omega)).trans c1'
        have c23 : w3.cell? ⟨w.heap.size, 2, none⟩ = some (.int .u32 ft) := by rw [← hw3]; exact (World.cell?_alloc_lt _ _ _ (by have := HS2.out; simp; omega)).trans c2'
        have hlt3 : w.heap.size < w3.heap.size := by rw [← hw3]; have := HS2.out; simp; omega
        have BP1 := Lib.hid (bput_any (.slice (some ⟨w2.heap.size, 0, none⟩) 2 2) [126, kk] fs 2 w3 s3 (by simp) (by omega) (by omega))
        have HW3 := Lib.hid hw3
        clear hw3 c1' c2' s3
        go_upto_region 12 with fail
        rw [HW3.out]
        clear HW3 K1 hB2
        go_wp2_with fail
        refine BP1.out.mono ?_
        rintro e w4 ⟨v4, rfl, ho4, hB4⟩
        clear BP1
        have c24 := (hB4.cell (p := ⟨w.heap.size, 2, none⟩) hlt3).trans c23
        have K14 := K13.below hB4 K13.lt
        have hBB := hB3.trans (hB4.mono hB3.size)
        have hlen4 : ([126, kk] ++ lowB fs 2).length = 4 := by simp [lowB_length]
        obtain ⟨l4, hl4⟩ : ∃ l4, l4 = [126, kk] ++ lowB fs 2 := ⟨_, rfl⟩
        rw [← hl4] at ho4 hlen4 NB
        have ho4' : w4.ownsRow w3.heap.size 5 1 v4 l4.length (u8s l4) := by rw [hlen4]; exact ho4
        have BP2 := bput_any v4 l4 ft 4 w4 (Sl.of_own ho4') (by omega) (by omega) (by omega)
        rw [hlen4] at BP2
        have BP2 := Lib.hid BP2
        obtain ⟨a4, c4, rfl, _, _⟩ := ownsRow_slice ho4
        clear ho4 ho4' c13 c23 K13 hB3 hB4 hl4 hlen4
        go_wp2_with fail
        refine BP2.out.mono ?_
        rintro e w5 ⟨v5, rfl, ho5, hB5⟩
        clear BP2
        have K15 := K14.below hB5 K14.lt
        have hB5' := hBB.trans (hB5.mono hBB.size)
        rw [← NB.out] at ho5
        have ho5' := ownsRow_base ho5 hBB.size
        clear ho5 K14 hBB hB5 c24
        go_wp2_with fail
        go_loopw [8, 50] (fun v c wr => ∃ j : Nat, j ≤ n ∧ c = .int .i64 j ∧ wr.ownsRow w.heap.size 5 1 v (8 + 4 * j) (u8s (nb f ++ ftl ((abc f).take j))) ∧ Below w.heap.size w wr ∧ Blk wr (w.heap.size + 1) 51 (i32c (abc f))) (fun _ c _ => n - (intOf c).toNat)
        case atStart => exact ⟨0, Nat.zero_le _, rfl, by simpa [ftl] using ho5', hB5', K15⟩
        case round =>
          clear ho5' hB5' K15
          obtain ⟨j, hj, rfl, hoj, hBj, Kj⟩ := hrel
          have hlj : (nb f ++ ftl ((abc f).take j)).length = 8 + 4 * j := by rw [List.length_append, NL.out, ftl_length, List.length_take, al]; omega
          by_cases hltj : j < n
          · obtain ⟨x, hx⟩ : ∃ x, (abc f)[j]? = some x := ⟨_, List.getElem?_eq_getElem (by omega)⟩
            have cx := Kj.cell (i := j) (i32c_at _ _ _ hx)
            have e3 := u32_un x
            have e4 : x % 4294967296 = (un x : Nat) := by unfold un; omega
            have e5 := un_lt x
            have hsn : nb f ++ ftl ((abc f).take (j + 1)) = (nb f ++ ftl ((abc f).take j)) ++ lowB (un x) 4 := by
              rw [List.take_add_one, hx]
              show nb f ++ ftl (_ ++ [x]) = _
              rw [ftl_snoc, List.append_assoc]
            obtain ⟨lj, hlj'⟩ : ∃ lj, lj = nb f ++ ftl ((abc f).take j) := ⟨_, rfl⟩
            rw [← hlj'] at hoj hlj hsn
            have hoj' := hoj
            rw [← hlj] at hoj'
            obtain ⟨u, hu⟩ : ∃ u, u = un x := ⟨_, rfl⟩
            rw [← hu] at e3 e4 e5 hsn
            have e6 : IntKind.u64.wrap (u : Int) = (u : Int) := by simp [IntKind.wrap, IntKind.bits, IntKind.signed]; omega
            have BPj := bput_any _ lj u 4 wr (Sl.of_own hoj') (by omega) (by omega) (by omega)
            rw [hlj] at BPj
            have BPj := Lib.hid BPj
            obtain ⟨aj, cj, rfl, _, _⟩ := ownsRow_slice hoj
            have HSN := Lib.hid hsn
            clear hoj hoj' hu hlj' hx hsn hlj
            go_wp2_with fail
            refine BPj.out.mono ?_
            rintro e w6 ⟨v6, rfl, ho6, hB6⟩
            clear BPj
            rw [← HSN.out] at ho6
            have ho6' := ownsRow_base ho6 hBj.size
            have hB6' := hBj.trans (hB6.mono hBj.size)
            have K6 := Kj.below hB6 Kj.lt
            clear ho6 hB6 hBj Kj cx
            go_wp2_with fail
            go_roundw
            case rel => exact ⟨j + 1, by omega, by go_num, by rw [show 8 + 4 * (j + 1) = 8 + 4 * j + 4 by omega]; exact ho6', hB6', K6⟩
            case measure => simp [intOf]; omega
          · obtain rfl : j = n := by omega
            rw [← BDY.out] at hoj hlj
            have hoj' := hoj
            rw [← hlj] at hoj'
            have CP := crcPut_any _ (fbody f) wr (Sl.of_own hoj') (by omega) hBody.out
            rw [hlj] at CP
            have CP := Lib.hid CP
            obtain ⟨aj, cj, rfl, _, _⟩ := ownsRow_slice hoj
            clear hoj hoj' Kj hlj
            go_wp2_with fail
            refine CP.out.mono ?_
            rintro e w6 ⟨v6, rfl, ho6, hB6⟩
            clear CP
            have hB6' := hBj.trans (hB6.mono hBj.size)
            go_wp2_with fail
            go_ret2
            refine ⟨⟨_, by rw [HP.out]; rfl, fun _ => ?_, fun h => absurd HP.out h⟩, hB6'⟩
            have hl := BL.out
            rw [hl]
            have := ownsRow_base ho6 hBj.size
            rw [show 12 + 4 * j = 8 + 4 * j + 4 by omega]
            exact this
end Go.Proofs.YtfkncfjdgbgeeaaDoor
