/-
  Put, Get.
-/
import Derived.Test.YtjedbffikhmbhaaCrcB
import Derived.Deep.RegionHeld3
import Derived.Outline
namespace Go.Proofs.Ytjedbffikhmbhaa
open Go Go.RowKit Go.Th Go.Th.Crc

theorem crcPut_any (vx : Value) (bs : List Nat) (w : World) (h : Sl w 1 vx bs.length (u8s bs)) (hl : bs.length ≤ 35184372088832) (hb : ∀ x ∈ bs, x < 256) :
    Calls Try.prog 12 #[vx] w fun e w' => ∃ v, e = .returned v ∧ w'.ownsRow w.heap.size 5 1 v (bs.length + 4) (u8s (putB bs)) ∧ Below w.heap.size w w' := by
  have HB := Lib.hid hb; clear hb
  obtain ⟨a, cap, rfl⟩ := sl_slice h
  go_enter Try.func12, Try.ntmps12
  go_wp2_with fail
  refine (crcSum_any _ bs _ h (by omega) HB.out).mono ?_
  rintro e w1 ⟨rfl, rfl⟩
  go_wp2_with fail
  refine (tail_any _ (sumB_lt bs) _).mono ?_
  rintro e w2 ⟨v2, rfl, hs2, hB2⟩
  obtain ⟨a2, c2, rfl⟩ := sl_slice hs2
  go_wp2_with fail
  have hsz := hB2.size
  have hBa : Below w2.heap.size w2 (w2.alloc (.cells #[.slice a bs.length cap, .slice a2 4 c2] 22)) := (Below.refl _ _).alloc (Nat.le_refl _) _
  have C := concat_any (.slice (some ⟨w2.heap.size, 0, none⟩) 2 2) _ _ bs (tail4 (sumB bs)) _ ((Blk.new w2 22 [.slice a bs.length cap, .slice a2 4 c2]).sl 2 rfl (by decide)) ((h.below hB2).below hBa) (hs2.below hBa) (by rw [tail4_length]; decide) (by rw [tail4_length]; omega)
  rw [tail4_length] at C
  refine C.mono ?_
  rintro e w3 ⟨v3, rfl, ho, hB3⟩
  have hB := hB2.trans ((hBa.trans (hB3.mono (by simp))).mono hsz)
  clear C hB2 hBa hB3
  go_wp2_with fail
  go_ret
  exact ⟨_, rfl, ownsRow_base ho (by simp; omega), hB⟩

theorem crcGet_short (vx : Value) (bs : List Nat) (w : World) (h : Sl w 1 vx bs.length (u8s bs)) (hl : bs.length < 4) :
    Calls Try.prog 13 #[vx] w fun e w' => e = .returned (.tuple #[.slice none 0 0, .bool false]) ∧ Below w.heap.size w w' := by
  obtain ⟨a, cap, rfl⟩ := sl_slice h
  have hd : decide ((bs.length : Int) - 4 < 0) = true := by simp; omega
  go_enter Try.func13, Try.ntmps13
  go_wp2
  go_quiet (fail)
  go_wp2
  go_ret2
  exact ⟨rfl, below_dN (Below.refl _ _) _⟩

set_option maxHeartbeats 1600000 in
theorem crcGet_yes (vx : Value) (bs : List Nat) (w : World) (h : Sl w 1 vx bs.length (u8s bs)) (hl : bs.length ≤ 35184372088832) (hb : ∀ x ∈ bs, x < 256) (h4 : 4 ≤ bs.length) (hok : okB bs = true) :
    Calls Try.prog 13 #[vx] w fun e w' => ∃ v, e = .returned (.tuple #[v, .bool true]) ∧ w'.ownsRow w.heap.size 5 1 v (bs.length - 4) (u8s (bs.take (bs.length - 4))) ∧ Below w.heap.size w w' := by
  have HB := Lib.hid hb; clear hb
  obtain ⟨n, hn⟩ : ∃ n, n = bs.length - 4 := ⟨_, rfl⟩
  obtain ⟨a, cap, rfl⟩ := sl_slice h
  obtain ⟨cut1, s1⟩ := h.cut_to Eu8 n (by omega)
  obtain ⟨a', cap', cut2, s2, _⟩ := h.cut_from Eu8 n (by omega)
  have hd : decide ((bs.length : Int) - 4 < 0) = false := by simp; omega
  have he : (bs.length : Int) - 4 = n := by omega
  have hnd : bs.length - n = 4 := by omega
  rw [hnd] at cut2 s2
  have et : u8s (bs.take n) = (u8s bs).take n := by simp [u8s]
  have ed : u8s (bs.drop n) = (u8s bs).drop n := by simp [u8s]
  rw [← et] at s1
  rw [← ed] at s2
  have hokB : okB bs = (bs.drop n == tail4 (sumB (bs.take n))) := by rw [hn]; unfold okB; simp [h4]
  rw [hok] at hokB
  rw [← hn]
  have HN := Lib.hid hn; clear hn hnd et ed
  have lt : (bs.take n).length = n := by simp; have := HN.out; omega
  have ld : (bs.drop n).length = 4 := by simp; have := HN.out; omega
  have LT := Lib.hid lt; clear lt
  have LD := Lib.hid ld; clear ld
  have HO := Lib.hid hokB; clear hokB hok
  have C1 := crcSum_any _ (bs.take n) w.drew (by rw [LT.out]; exact s1) (by rw [LT.out]; omega) (mem_take HB.out n)
  go_enter Try.func13, Try.ntmps13
  go_wp2
  refine wp_region_held_drew (S := (fun _ : World => True)) (by kernel_rfl) (trivial) (fun hHeld => ?_)
  refine wpAnyH_take (i := 0) (v := ?v1) rfl (by kernel_rfl) (by kernel_rfl) (by kernel_rfl) (fun _ _ _ h => h) (Or.inl ⟨by rfl, ?hy1⟩) hHeld ?rest1
  case hy1 => (intro w' hSw; (try dsimp only at hSw); go_simp; (try with_reducible rfl))
  try simp only [Act.put, List.setIfInBounds_toArray, List.set_cons_zero, List.set_cons_succ, List.getElem_toArray, List.getElem_cons_zero, List.getElem_cons_succ]
  refine wpAnyH_take (i := 1) (v := ?v2) rfl (by kernel_rfl) (by kernel_rfl) (by kernel_rfl) (fun _ _ _ h => h) (Or.inl ⟨by rfl, ?hy2⟩) hHeld ?rest2
  case hy2 => (intro w' hSw; (try dsimp only at hSw); go_simp; (try with_reducible rfl))
  try simp only [Act.put, List.setIfInBounds_toArray, List.set_cons_zero, List.set_cons_succ, List.getElem_toArray, List.getElem_cons_zero, List.getElem_cons_succ]
  refine wpAnyH_take (i := 2) (v := ?v3) rfl (by kernel_rfl) (by kernel_rfl) (by kernel_rfl) (fun _ _ _ h => h) (Or.inl ⟨by rfl, ?hy3⟩) hHeld ?rest3
  case hy3 => (intro w' hSw; (try dsimp only at hSw); go_simp; (try with_reducible rfl))
  try simp only [Act.put, List.setIfInBounds_toArray, List.set_cons_zero, List.set_cons_succ, List.getElem_toArray, List.getElem_cons_zero, List.getElem_cons_succ]
  refine wpAnyH_take (i := 3) (v := ?v4) rfl (by kernel_rfl) (by kernel_rfl) (by kernel_rfl) (fun _ _ _ h => h) (Or.inl ⟨by rfl, ?hy4⟩) hHeld ?rest4
  case hy4 => (intro w' hSw; (try dsimp only at hSw); go_simp; (try with_reducible rfl))
  try simp only [Act.put, List.setIfInBounds_toArray, List.set_cons_zero, List.set_cons_succ, List.getElem_toArray, List.getElem_cons_zero, List.getElem_cons_succ]
  refine wpAnyH_take (i := 4) (v := ?v5) rfl (by kernel_rfl) (by kernel_rfl) (by kernel_rfl) (fun _ _ _ h => h) (Or.inl ⟨by rfl, ?hy5⟩) hHeld ?rest5
  case hy5 => (intro w' hSw; (try dsimp only at hSw); go_simp; (try with_reducible rfl))
  try simp only [Act.put, List.setIfInBounds_toArray, List.set_cons_zero, List.set_cons_succ, List.getElem_toArray, List.getElem_cons_zero, List.getElem_cons_succ]
  refine wpAnyH_take (i := 5) (v := ?v6) rfl (by kernel_rfl) (by kernel_rfl) (by kernel_rfl) (fun _ _ _ h => h) (Or.inl ⟨by rfl, ?hy6⟩) hHeld ?rest6
  case hy6 => (intro w' hSw; (try dsimp only at hSw); go_simp; (try with_reducible rfl))
  try simp only [Act.put, List.setIfInBounds_toArray, List.set_cons_zero, List.set_cons_succ, List.getElem_toArray, List.getElem_cons_zero, List.getElem_cons_succ]
  refine wpAnyH_take (i := 8) (v := ?v7) rfl (by kernel_rfl) (by kernel_rfl) (by kernel_rfl) (fun _ _ _ h => h) (Or.inl ⟨by rfl, ?hy7⟩) hHeld ?rest7
  case hy7 => (intro w' hSw; (try dsimp only at hSw); go_simp; (try with_reducible rfl))
  try simp only [Act.put, List.setIfInBounds_toArray, List.set_cons_zero, List.set_cons_succ, List.getElem_toArray, List.getElem_cons_zero, List.getElem_cons_succ]
  refine wpAnyH_take (i := 9) (v := ?v8) rfl (by kernel_rfl) (by kernel_rfl) (by kernel_rfl) (fun _ _ _ h => h) (Or.inl ⟨by rfl, ?hy8⟩) hHeld ?rest8
  case hy8 => (intro w' hSw; (try dsimp only at hSw); go_simp; (try with_reducible rfl))
  try simp only [Act.put, List.setIfInBounds_toArray, List.set_cons_zero, List.set_cons_succ, List.getElem_toArray, List.getElem_cons_zero, List.getElem_cons_succ]
  refine wpAnyH_take (i := 10) (v := ?v9) rfl (by kernel_rfl) (by kernel_rfl) (by kernel_rfl) (fun _ _ _ h => h) (Or.inl ⟨by rfl, ?hy9⟩) hHeld ?rest9
  case hy9 => (intro w' hSw; (try dsimp only at hSw); go_simp; (try with_reducible rfl))
  try simp only [Act.put, List.setIfInBounds_toArray, List.set_cons_zero, List.set_cons_succ, List.getElem_toArray, List.getElem_cons_zero, List.getElem_cons_succ]
  refine wpAnyH_ready (rs := [6]) (by kernel_rfl) (by simp) ?_
  refine AllReadyH.cons rfl (fun K hK => ?_) AllReadyH.nil
  go_simp
  refine C1.mono ?_
  rintro e w1 ⟨rfl, rfl⟩
  try go_wp2_with fail
  refine hK.out _ _ (trivial) (fun hHeld => ?_)
  clear hK K
  try simp only [Act.put, List.setIfInBounds_toArray, List.set_cons_zero, List.set_cons_succ, List.getElem_toArray, List.getElem_cons_zero, List.getElem_cons_succ]
  refine wpAnyH_ready (rs := [7]) (by kernel_rfl) (by simp) ?_
  refine AllReadyH.cons rfl (fun K hK => ?_) AllReadyH.nil
  go_simp
  refine (tail_any _ (sumB_lt _) _).mono ?_
  rintro e w2 ⟨v2, rfl, hs2, hB2⟩
  try go_wp2_with fail
  refine hK.out _ _ (trivial) (fun hHeld => ?_)
  clear hK K
  try simp only [Act.put, List.setIfInBounds_toArray, List.set_cons_zero, List.set_cons_succ, List.getElem_toArray, List.getElem_cons_zero, List.getElem_cons_succ]
  refine wpAnyH_ready (rs := [11]) (by kernel_rfl) (by simp) ?_
  refine AllReadyH.cons rfl (fun K hK => ?_) AllReadyH.nil
  go_simp
  have hB : Below w.heap.size w w2 := ((Below.refl w.heap.size w).drew).trans hB2
  have s2' := s2.below hB
  refine (bytesEqual_yes _ _ (tail4 (sumB (bs.take n))) (bs.drop n) _ (by rw [tail4_length]; exact hs2) (by rw [LD.out]; exact s2') (eq_of_beq HO.out.symm).symm).mono ?_
  rintro e w3 ⟨rfl, rfl⟩
  try go_wp2_with fail
  refine hK.out _ _ (trivial) (fun hHeld => ?_)
  clear hK K
  try simp only [Act.put, List.setIfInBounds_toArray, List.set_cons_zero, List.set_cons_succ, List.getElem_toArray, List.getElem_cons_zero, List.getElem_cons_succ]
  refine wpAnyH_take (i := 12) (v := ?v13) rfl (by kernel_rfl) (by kernel_rfl) (by kernel_rfl) (fun _ _ _ h => h) (Or.inl ⟨by rfl, ?hy13⟩) hHeld ?rest13
  case hy13 => (intro w' hSw; (try dsimp only at hSw); go_simp; (try with_reducible rfl))
  try simp only [Act.put, List.setIfInBounds_toArray, List.set_cons_zero, List.set_cons_succ, List.getElem_toArray, List.getElem_cons_zero, List.getElem_cons_succ]
  refine wpAnyH_take (i := 13) (v := ?v14) rfl (by kernel_rfl) (by kernel_rfl) (by kernel_rfl) (fun _ _ _ h => h) (Or.inl ⟨by rfl, ?hy14⟩) hHeld ?rest14
  case hy14 => (intro w' hSw; (try dsimp only at hSw); go_simp; (try with_reducible rfl))
  try simp only [Act.put, List.setIfInBounds_toArray, List.set_cons_zero, List.set_cons_succ, List.getElem_toArray, List.getElem_cons_zero, List.getElem_cons_succ]
  refine wpAnyH_done (by kernel_rfl) ?_ _
  clear C1 hB2
  have s1' := s1.below hB
  go_wp2_with fail
  have C2 := clone_any _ (bs.take n) w2 (by rw [LT.out]; exact s1') (by rw [LT.out]; omega)
  rw [LT.out] at C2
  refine C2.mono ?_
  rintro e w4 ⟨v4, rfl, ho4, hB4⟩
  have hsz := hB.size
  go_wp2
  go_ret2
  exact ⟨_, rfl, ownsRow_base ho4 hsz, hB.trans (hB4.mono hsz)⟩

set_option maxHeartbeats 1600000 in
theorem crcGet_no (vx : Value) (bs : List Nat) (w : World) (h : Sl w 1 vx bs.length (u8s bs)) (hl : bs.length ≤ 35184372088832) (hb : ∀ x ∈ bs, x < 256) (h4 : 4 ≤ bs.length) (hok : okB bs = false) :
    Calls Try.prog 13 #[vx] w fun e w' => e = .returned (.tuple #[.slice none 0 0, .bool false]) ∧ Below w.heap.size w w' := by
  have HB := Lib.hid hb; clear hb
  obtain ⟨n, hn⟩ : ∃ n, n = bs.length - 4 := ⟨_, rfl⟩
  obtain ⟨a, cap, rfl⟩ := sl_slice h
  obtain ⟨cut1, s1⟩ := h.cut_to Eu8 n (by omega)
  obtain ⟨a', cap', cut2, s2, _⟩ := h.cut_from Eu8 n (by omega)
  have hd : decide ((bs.length : Int) - 4 < 0) = false := by simp; omega
  have he : (bs.length : Int) - 4 = n := by omega
  have hnd : bs.length - n = 4 := by omega
  rw [hnd] at cut2 s2
  have et : u8s (bs.take n) = (u8s bs).take n := by simp [u8s]
  have ed : u8s (bs.drop n) = (u8s bs).drop n := by simp [u8s]
  rw [← et] at s1
  rw [← ed] at s2
  have hokB : okB bs = (bs.drop n == tail4 (sumB (bs.take n))) := by rw [hn]; unfold okB; simp [h4]
  rw [hok] at hokB
  have HN := Lib.hid hn; clear hn hnd et ed
  have lt : (bs.take n).length = n := by simp; have := HN.out; omega
  have ld : (bs.drop n).length = 4 := by simp; have := HN.out; omega
  have LT := Lib.hid lt; clear lt
  have LD := Lib.hid ld; clear ld
  have HO := Lib.hid hokB; clear hokB hok
  have C1 := crcSum_any _ (bs.take n) w.drew (by rw [LT.out]; exact s1) (by rw [LT.out]; omega) (mem_take HB.out n)
  go_enter Try.func13, Try.ntmps13
  go_wp2
  refine wp_region_held_drew (S := (fun _ : World => True)) (by kernel_rfl) (trivial) (fun hHeld => ?_)
  refine wpAnyH_take (i := 0) (v := ?v15) rfl (by kernel_rfl) (by kernel_rfl) (by kernel_rfl) (fun _ _ _ h => h) (Or.inl ⟨by rfl, ?hy15⟩) hHeld ?rest15
  case hy15 => (intro w' hSw; (try dsimp only at hSw); go_simp; (try with_reducible rfl))
  try simp only [Act.put, List.setIfInBounds_toArray, List.set_cons_zero, List.set_cons_succ, List.getElem_toArray, List.getElem_cons_zero, List.getElem_cons_succ]
  refine wpAnyH_take (i := 1) (v := ?v16) rfl (by kernel_rfl) (by kernel_rfl) (by kernel_rfl) (fun _ _ _ h => h) (Or.inl ⟨by rfl, ?hy16⟩) hHeld ?rest16
  case hy16 => (intro w' hSw; (try dsimp only at hSw); go_simp; (try with_reducible rfl))
  try simp only [Act.put, List.setIfInBounds_toArray, List.set_cons_zero, List.set_cons_succ, List.getElem_toArray, List.getElem_cons_zero, List.getElem_cons_succ]
  refine wpAnyH_take (i := 2) (v := ?v17) rfl (by kernel_rfl) (by kernel_rfl) (by kernel_rfl) (fun _ _ _ h => h) (Or.inl ⟨by rfl, ?hy17⟩) hHeld ?rest17
  case hy17 => (intro w' hSw; (try dsimp only at hSw); go_simp; (try with_reducible rfl))
  try simp only [Act.put, List.setIfInBounds_toArray, List.set_cons_zero, List.set_cons_succ, List.getElem_toArray, List.getElem_cons_zero, List.getElem_cons_succ]
  refine wpAnyH_take (i := 3) (v := ?v18) rfl (by kernel_rfl) (by kernel_rfl) (by kernel_rfl) (fun _ _ _ h => h) (Or.inl ⟨by rfl, ?hy18⟩) hHeld ?rest18
  case hy18 => (intro w' hSw; (try dsimp only at hSw); go_simp; (try with_reducible rfl))
  try simp only [Act.put, List.setIfInBounds_toArray, List.set_cons_zero, List.set_cons_succ, List.getElem_toArray, List.getElem_cons_zero, List.getElem_cons_succ]
  refine wpAnyH_take (i := 4) (v := ?v19) rfl (by kernel_rfl) (by kernel_rfl) (by kernel_rfl) (fun _ _ _ h => h) (Or.inl ⟨by rfl, ?hy19⟩) hHeld ?rest19
  case hy19 => (intro w' hSw; (try dsimp only at hSw); go_simp; (try with_reducible rfl))
  try simp only [Act.put, List.setIfInBounds_toArray, List.set_cons_zero, List.set_cons_succ, List.getElem_toArray, List.getElem_cons_zero, List.getElem_cons_succ]
  refine wpAnyH_take (i := 5) (v := ?v20) rfl (by kernel_rfl) (by kernel_rfl) (by kernel_rfl) (fun _ _ _ h => h) (Or.inl ⟨by rfl, ?hy20⟩) hHeld ?rest20
  case hy20 => (intro w' hSw; (try dsimp only at hSw); go_simp; (try with_reducible rfl))
  try simp only [Act.put, List.setIfInBounds_toArray, List.set_cons_zero, List.set_cons_succ, List.getElem_toArray, List.getElem_cons_zero, List.getElem_cons_succ]
  refine wpAnyH_take (i := 8) (v := ?v21) rfl (by kernel_rfl) (by kernel_rfl) (by kernel_rfl) (fun _ _ _ h => h) (Or.inl ⟨by rfl, ?hy21⟩) hHeld ?rest21
  case hy21 => (intro w' hSw; (try dsimp only at hSw); go_simp; (try with_reducible rfl))
  try simp only [Act.put, List.setIfInBounds_toArray, List.set_cons_zero, List.set_cons_succ, List.getElem_toArray, List.getElem_cons_zero, List.getElem_cons_succ]
  refine wpAnyH_take (i := 9) (v := ?v22) rfl (by kernel_rfl) (by kernel_rfl) (by kernel_rfl) (fun _ _ _ h => h) (Or.inl ⟨by rfl, ?hy22⟩) hHeld ?rest22
  case hy22 => (intro w' hSw; (try dsimp only at hSw); go_simp; (try with_reducible rfl))
  try simp only [Act.put, List.setIfInBounds_toArray, List.set_cons_zero, List.set_cons_succ, List.getElem_toArray, List.getElem_cons_zero, List.getElem_cons_succ]
  refine wpAnyH_take (i := 10) (v := ?v23) rfl (by kernel_rfl) (by kernel_rfl) (by kernel_rfl) (fun _ _ _ h => h) (Or.inl ⟨by rfl, ?hy23⟩) hHeld ?rest23
  case hy23 => (intro w' hSw; (try dsimp only at hSw); go_simp; (try with_reducible rfl))
  try simp only [Act.put, List.setIfInBounds_toArray, List.set_cons_zero, List.set_cons_succ, List.getElem_toArray, List.getElem_cons_zero, List.getElem_cons_succ]
  refine wpAnyH_ready (rs := [6]) (by kernel_rfl) (by simp) ?_
  refine AllReadyH.cons rfl (fun K hK => ?_) AllReadyH.nil
  go_simp
  refine C1.mono ?_
  rintro e w1 ⟨rfl, rfl⟩
  try go_wp2_with fail
  refine hK.out _ _ (trivial) (fun hHeld => ?_)
  clear hK K
  try simp only [Act.put, List.setIfInBounds_toArray, List.set_cons_zero, List.set_cons_succ, List.getElem_toArray, List.getElem_cons_zero, List.getElem_cons_succ]
  refine wpAnyH_ready (rs := [7]) (by kernel_rfl) (by simp) ?_
  refine AllReadyH.cons rfl (fun K hK => ?_) AllReadyH.nil
  go_simp
  refine (tail_any _ (sumB_lt _) _).mono ?_
  rintro e w2 ⟨v2, rfl, hs2, hB2⟩
  try go_wp2_with fail
  refine hK.out _ _ (trivial) (fun hHeld => ?_)
  clear hK K
  try simp only [Act.put, List.setIfInBounds_toArray, List.set_cons_zero, List.set_cons_succ, List.getElem_toArray, List.getElem_cons_zero, List.getElem_cons_succ]
  refine wpAnyH_ready (rs := [11]) (by kernel_rfl) (by simp) ?_
  refine AllReadyH.cons rfl (fun K hK => ?_) AllReadyH.nil
  go_simp
  have hB : Below w.heap.size w w2 := ((Below.refl w.heap.size w).drew).trans hB2
  have s2' := s2.below hB
  refine (bytesEqual_no _ _ (tail4 (sumB (bs.take n))) (bs.drop n) _ (by rw [tail4_length]; exact hs2) (by rw [LD.out]; exact s2') (tail4_lt _) (fun x hx => HB.out x (List.mem_of_mem_drop hx)) (fun e => by have := HO.out; rw [e] at this; simp at this)).mono ?_
  rintro e w3 ⟨rfl, rfl⟩
  try go_wp2_with fail
  refine hK.out _ _ (trivial) (fun hHeld => ?_)
  clear hK K
  try simp only [Act.put, List.setIfInBounds_toArray, List.set_cons_zero, List.set_cons_succ, List.getElem_toArray, List.getElem_cons_zero, List.getElem_cons_succ]
  refine wpAnyH_take (i := 12) (v := ?v27) rfl (by kernel_rfl) (by kernel_rfl) (by kernel_rfl) (fun _ _ _ h => h) (Or.inl ⟨by rfl, ?hy27⟩) hHeld ?rest27
  case hy27 => (intro w' hSw; (try dsimp only at hSw); go_simp; (try with_reducible rfl))
  try simp only [Act.put, List.setIfInBounds_toArray, List.set_cons_zero, List.set_cons_succ, List.getElem_toArray, List.getElem_cons_zero, List.getElem_cons_succ]
  refine wpAnyH_take (i := 13) (v := ?v28) rfl (by kernel_rfl) (by kernel_rfl) (by kernel_rfl) (fun _ _ _ h => h) (Or.inl ⟨by rfl, ?hy28⟩) hHeld ?rest28
  case hy28 => (intro w' hSw; (try dsimp only at hSw); go_simp; (try with_reducible rfl))
  try simp only [Act.put, List.setIfInBounds_toArray, List.set_cons_zero, List.set_cons_succ, List.getElem_toArray, List.getElem_cons_zero, List.getElem_cons_succ]
  refine wpAnyH_done (by kernel_rfl) ?_ _
  clear C1 hB2
  go_wp2
  go_ret2
  exact ⟨rfl, hB⟩

end Go.Proofs.Ytjedbffikhmbhaa
