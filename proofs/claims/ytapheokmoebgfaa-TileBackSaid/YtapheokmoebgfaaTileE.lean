/-
  Tiles cut out of a field, and laid into one: the code's.
-/
import Derived.Test.YtapheokmoebgfaaTileB
import Derived.Test.YtapheokmoebgfaaTileD
import Derived.Test.YtapheokmoebgfaaTileX
import Derived.Test.YtapheokmoebgfaaCopy
import Derived.IntWalk
set_option linter.unusedVariables false
set_option linter.unusedSimpArgs false
namespace Go.Th
theorem over_next {α : Type} (A R : List α) (k q : Nat) (u : α) (hq : A.length = q) : over (A ++ List.replicate (k + R.length) u) q R = (A ++ R) ++ List.replicate k u := by
  subst hq
  unfold over splice
  rw [List.take_append_of_le_length (Nat.le_refl _), List.take_length, List.drop_append, List.drop_eq_nil_of_le (by omega), List.nil_append, List.drop_replicate, List.append_assoc]
  congr 3
  congr 1
  omega
end Go.Th
namespace Go.Proofs.Ytapheokmoebgfaa
open Go Go.RowKit Go.Th

theorem i64_nat (q : Nat) (h : q ≤ 1000000000) : IntKind.i64.wrap (q : Int) = (q : Int) := IntWalk.i64_in _ (by omega)

set_option maxRecDepth 20000 in
set_option maxHeartbeats 3200000 in
theorem cut_yes (x y X Y n : Nat) (a : Option Addr) (cap : Nat) (F : List Int) (hF : isF x y = true) (hn : n = x * y) (hX : X < cnt x) (hY : Y < cnt y) (hl : F.length = n) (w : World) (hS : Sl w 1 (.slice a n cap) n (i16s F)) :
    Calls Try.prog 15 #[hv x y (.slice a n cap), pv X Y] w fun e w' => ∃ v, e = .returned v ∧ w'.ownsRow w.heap.size 30 1 v (side y Y * side x X) (i16s (tileTo F x (16 * X) (16 * Y) (side x X) (side y Y))) ∧ Below w.heap.size w w' := by
  obtain ⟨h1, h2, h3, h4⟩ := isF_yes hF
  have f1 := side_fits x X hX
  have f2 := side_fits y Y hY
  have p1 := (side_pos x X).2 hX
  have p2 := (side_pos y Y).2 hY
  have s1 := side_le x X
  have s2 := side_le y Y
  have C1 := fun wx => check_ok x y n a cap hF hn wx
  have C2 := fun wx => box_yes x y X Y hF hX hY wx
  have hFl : F.length = x * y := by rw [hl, hn]
  obtain ⟨px, hpx⟩ : ∃ p, p = 16 * X := ⟨_, rfl⟩
  obtain ⟨py, hpy⟩ : ∃ p, p = 16 * Y := ⟨_, rfl⟩
  obtain ⟨sx, hsx⟩ : ∃ s, s = side x X := ⟨_, rfl⟩
  obtain ⟨sy, hsy⟩ : ∃ s, s = side y Y := ⟨_, rfl⟩
  rw [← hpx, ← hsx] at f1
  rw [← hpy, ← hsy] at f2
  rw [← hsx] at p1 s1
  rw [← hsy] at p2 s2
  rw [← hpx, ← hpy, ← hsx, ← hsy] at C2 ⊢
  have CP := fun r (hr : r < sy) wx hs => piece_any x y px (py + r) sx n a cap F f1 (by omega) (by omega) (by omega) hn wx hs
  have hTl : ∀ r, r ≤ sy → (tileTo F x px py sx r).length = r * sx := fun r hr => tileTo_length F x y px py sx r hFl f1 (by omega)
  have hRl : ∀ r, r < sy → ((F.drop ((py + r) * x + px)).take sx).length = sx := fun r hr => row_len F x y px py sx r hFl f1 (by omega)
  have hTn : ∀ r, tileTo F x px py sx (r + 1) = tileTo F x px py sx r ++ (F.drop ((py + r) * x + px)).take sx := fun r => rfl
  have hT0 : tileTo F x px py sx 0 = [] := rfl
  have hqs : ∀ r, r < sy → r * sx + sx ≤ sy * sx := fun r hr => by
    have := Nat.mul_le_mul_right sx (Nat.succ_le_of_lt hr)
    rwa [Nat.succ_mul] at this
  have hmle : sy * sx ≤ 16 * 16 := Nat.mul_le_mul s2 s1
  obtain ⟨T, hT⟩ : ∃ T, T = tileTo F x px py sx := ⟨_, rfl⟩
  rw [← hT] at hTl hTn hT0 ⊢
  obtain ⟨m, hm⟩ : ∃ m, m = sy * sx := ⟨_, rfl⟩
  have hmul : (sx : Int) * (sy : Int) = (m : Int) := by rw [hm, Nat.mul_comm sy sx]; simp
  have hqe : ∀ r : Nat, (r : Int) * (sx : Int) = ((r * sx : Nat) : Int) := fun r => by simp
  rw [← hm] at hqs hmle ⊢
  have C1 := Lib.hid C1
  have C2 := Lib.hid C2
  have CP := Lib.hid CP
  have HTL := Lib.hid hTl
  have HRL := Lib.hid hRl
  have HTN := Lib.hid hTn
  have HT0 := Lib.hid hT0
  have HQS := Lib.hid hqs
  have HQE := Lib.hid hqe
  have HM := Lib.hid hm
  have HS := Lib.hid hS
  have hmx := hS.max
  clear hF hn hX hY hl hS hFl hpx hpy hsx hsy hTl hRl hTn hT0 hqs hT hm hqe
  go_enter Try.func15, Try.ntmps15
  go_wp2_with fail
  obtain ⟨w2, hw2⟩ : ∃ w2, (w.alloc (.cells #[.int .i64 x, .int .i64 y, .slice a n cap] 36)).alloc (.cells #[.int .i64 X, .int .i64 Y] 43) = w2 := ⟨_, rfl⟩
  have hB2 : Below w.heap.size w w2 := by rw [← hw2]; exact ((Below.refl _ _).alloc (Nat.le_refl _) _).alloc (by simp) _
  have K1 : Blk w2 w.heap.size 36 [.int .i64 x, .int .i64 y, .slice a n cap] := by rw [← hw2]; exact (Blk.new w _ _).alloc _
  have K2 : Blk w2 (w.heap.size + 1) 43 [.int .i64 X, .int .i64 Y] := by
    rw [← hw2]
    have := Blk.new (w.alloc (.cells #[.int .i64 x, .int .i64 y, .slice a n cap] 36)) 43 [.int .i64 X, .int .i64 Y]
    rw [World.size_alloc] at this
    exact this
  rw [hw2]
  clear hw2
  refine (C1.out w2).mono ?_
  rintro e w3 ⟨rfl, hA3⟩
  clear C1
  have hB3 := hB2.trans (hA3.mono hB2.size)
  replace K1 := K1.below hA3 K1.lt
  replace K2 := K2.below hA3 K2.lt
  clear hB2 hA3
  have c0 := K1.cell (i := 0) rfl
  have c1 := K1.cell (i := 1) rfl
  have d0 := K2.cell (i := 0) rfl
  have d1 := K2.cell (i := 1) rfl
  go_wp2_with fail
  refine (C2.out w3).mono ?_
  rintro e w4 ⟨rfl, hA4⟩
  clear C2 c0 c1 d0 d1
  have hB4 := hB3.trans (hA4.mono hB3.size)
  replace K1 := K1.below hA4 K1.lt
  clear hB3 hA4 K2
  have hz4 := hB4.size
  have hk4 := K1.lt
  go_wp2_with (refine wpList_mk (t := 22) (e := 30) (z := .int .i16 0) (bytes := 2) Try.underlying22 (by kernel_rfl) rfl rfl _ _ rfl w4.heap.size m _ _ rfl rfl (by omega) (by unfold maxLen; omega) (Nat.le_refl _) ?_)
  intro w5 ho5 hg5
  have hA5 := grown_below hg5
  replace K1 := K1.below hA5 hk4
  have hB5 := hB4.trans (hA5.mono hz4)
  obtain ⟨G, hG⟩ : ∃ G, w4.heap.size = G := ⟨_, rfl⟩
  rw [hG] at ho5 hk4 hz4 ⊢
  clear hg5 hA5 hG hB4
  go_wp2_with fail
  go_loopw [30] (fun c wx => ∃ r : Nat, r ≤ sy ∧ c = .int .i64 r ∧ wx.ownsRow G 30 1 (.slice (some ⟨G, 0, none⟩) m m) m (i16s (T r ++ List.replicate (m - r * sx) 0)) ∧ Blk wx w.heap.size 36 [.int .i64 x, .int .i64 y, .slice a n cap] ∧ Below w.heap.size w wx) (fun c _ => sy - (intOf c).toNat)
  case atStart => exact ⟨0, Nat.zero_le _, rfl, by rw [HT0.out, Nat.zero_mul]; simpa [i16s] using ho5, K1, hB5⟩
  case round =>
    clear ho5 K1 hB5
    obtain ⟨r, hr, rfl, ho, K1, hB⟩ := hrel
    by_cases hlt : r < sy
    · have hq1 := HQS.out r hlt
      have hq2 := HQE.out r
      have hTl := HTL.out r hr
      have hRl := HRL.out r hlt
      have hTn := HTN.out r
      have hCP := CP.out r hlt wr.drew (HS.out.below hB.drew)
      obtain ⟨q, hq⟩ : ∃ q, q = r * sx := ⟨_, rfl⟩
      have hq3 : (r + 1) * sx = q + sx := by rw [hq, Nat.succ_mul]
      obtain ⟨s, hs⟩ : ∃ s, s = py + r := ⟨_, rfl⟩
      rw [← hs] at hRl hTn hCP
      obtain ⟨R, hR⟩ : ∃ R, R = (F.drop (s * x + px)).take sx := ⟨_, rfl⟩
      rw [← hR] at hRl hTn hCP
      rw [← hq] at ho hq1 hq2 hTl
      have hs1 : IntKind.i64.wrap ((py : Int) + (r : Int)) = (s : Int) := by
        have := i64_nat s (by omega)
        rw [hs] at this ⊢
        simpa using this
      have hs2 : (py : Int) + (r : Int) = (s : Int) := by omega
      have hqw := i64_nat q (by omega)
      have hsw := i64_nat s (by omega)
      obtain ⟨a1, cap1, hcut, _, _, hca⟩ := Sl.cut_off E16 (Sl.of_own ho) q (by omega) (q : Int) rfl
      have ea := hca G 0 rfl (by omega)
      rw [Nat.zero_add] at ea
      subst ea
      have hnext := over_next (i16s (T r)) (i16s R) (m - (r + 1) * sx) q (.int .i16 0) (by rw [i16s_length, hTl])
      have e1 : i16s (T r ++ List.replicate (m - q) 0) = i16s (T r) ++ List.replicate (m - (r + 1) * sx + (i16s R).length) (.int .i16 0) := by
        rw [i16s_length, hRl, hq3, show m - (q + sx) + sx = m - q by omega]; simp [i16s]
      have e2 : (i16s (T r) ++ i16s R) ++ List.replicate (m - (r + 1) * sx) (.int .i16 0) = i16s (T (r + 1) ++ List.replicate (m - (r + 1) * sx) 0) := by rw [hTn]; simp [i16s]
      rw [← e1, e2] at hnext
      have hRt : (i16s R).take sx = i16s R := List.take_of_length_le (by rw [i16s_length, hRl]; exact Nat.le_refl _)
      have HNX := Lib.hid hnext
      have HRT := Lib.hid hRt
      have HCP := Lib.hid hCP
      have HS2 := Lib.hid hs2
      have c0 := K1.cell (i := 0) rfl
      have c1 := K1.cell (i := 1) rfl
      have c2 := K1.cell (i := 2) rfl
      have hgl := K1.lt
      clear hnext hRt hCP hca e1 e2 hTl hRl hTn hq3 hq hR hs hs2
      go_wp2_with fail
      refine wp_region_held_drew (S := (fun w' : World => w'.cell? ⟨w.heap.size, 0, none⟩ = some (.int .i64 x) ∧ w'.cell? ⟨w.heap.size, 1, none⟩ = some (.int .i64 y) ∧ w'.cell? ⟨w.heap.size, 2, none⟩ = some (.slice a n cap))) (by kernel_rfl) (⟨c0, c1, c2⟩) (fun hHeld => ?_)
      refine wpAnyH_take (i := 0) (v := ?v1) rfl (by kernel_rfl) (by kernel_rfl) (by kernel_rfl) (fun _ _ _ h => h) (Or.inl ⟨by rfl, ?hy1⟩) hHeld ?rest1
      case hy1 => (intro w' hSw; (try dsimp only at hSw); go_simp; (try with_reducible rfl))
      try simp only [Act.put, List.setIfInBounds_toArray, List.set_cons_zero, List.set_cons_succ, List.getElem_toArray, List.getElem_cons_zero, List.getElem_cons_succ]
      refine wpAnyH_take (i := 1) (v := ?v2) rfl (by kernel_rfl) (by kernel_rfl) (by kernel_rfl) (fun _ _ _ h => h) (Or.inl ⟨by rfl, ?hy2⟩) hHeld ?rest2
      case hy2 => (intro w' hSw; (try dsimp only at hSw); go_simp; (try with_reducible rfl))
      try simp only [Act.put, List.setIfInBounds_toArray, List.set_cons_zero, List.set_cons_succ, List.getElem_toArray, List.getElem_cons_zero, List.getElem_cons_succ]
      refine wpAnyH_take (i := 2) (v := ?v3) rfl (by kernel_rfl) (by kernel_rfl) (by kernel_rfl) (fun _ _ _ h => h) (Or.inl ⟨by rfl, ?hy3⟩) hHeld ?rest3
      case hy3 => (intro w' hSw; (try dsimp only at hSw); go_simp; (try with_reducible rfl))
      try simp only [Act.put, List.setIfInBounds_toArray, List.set_cons_zero, List.set_cons_succ, List.getElem_toArray, List.getElem_cons_zero, List.getElem_cons_succ]
      refine wpAnyH_take (i := 3) (v := ?v4) rfl (by kernel_rfl) (by kernel_rfl) (by kernel_rfl) (fun _ _ _ h => h) (Or.inl ⟨by rfl, ?hy4⟩) hHeld ?rest4
      case hy4 => (intro w' hSw; (try dsimp only at hSw); go_simp; (try with_reducible rfl))
      try simp only [Act.put, List.setIfInBounds_toArray, List.set_cons_zero, List.set_cons_succ, List.getElem_toArray, List.getElem_cons_zero, List.getElem_cons_succ]
      refine wpAnyH_take (i := 4) (v := ?v5) rfl (by kernel_rfl) (by kernel_rfl) (by kernel_rfl) (fun _ _ _ h => h) (Or.inl ⟨by rfl, ?hy5⟩) hHeld ?rest5
      case hy5 => (intro w' hSw; (try dsimp only at hSw); go_simp; (try with_reducible rfl))
      try simp only [Act.put, List.setIfInBounds_toArray, List.set_cons_zero, List.set_cons_succ, List.getElem_toArray, List.getElem_cons_zero, List.getElem_cons_succ]
      refine wpAnyH_take (i := 5) (v := ?v6) rfl (by kernel_rfl) (by kernel_rfl) (by kernel_rfl) (fun _ _ _ h => h) (Or.inl ⟨by rfl, ?hy6⟩) hHeld ?rest6
      case hy6 => (intro w' hSw; (try dsimp only at hSw); go_simp; (try with_reducible rfl))
      try simp only [Act.put, List.setIfInBounds_toArray, List.set_cons_zero, List.set_cons_succ, List.getElem_toArray, List.getElem_cons_zero, List.getElem_cons_succ]
      refine wpAnyH_take (i := 6) (v := ?v7) rfl (by kernel_rfl) (by kernel_rfl) (by kernel_rfl) (fun _ _ _ h => h) (Or.inl ⟨by rfl, ?hy7⟩) hHeld ?rest7
      case hy7 => (intro w' hSw; (try dsimp only at hSw); go_simp; (try with_reducible rfl))
      try simp only [Act.put, List.setIfInBounds_toArray, List.set_cons_zero, List.set_cons_succ, List.getElem_toArray, List.getElem_cons_zero, List.getElem_cons_succ]
      refine wpAnyH_take (i := 7) (v := ?v8) rfl (by kernel_rfl) (by kernel_rfl) (by kernel_rfl) (fun _ _ _ h => h) (Or.inl ⟨by rfl, ?hy8⟩) hHeld ?rest8
      case hy8 => (intro w' hSw; (try dsimp only at hSw); go_simp; (try with_reducible rfl))
      try simp only [Act.put, List.setIfInBounds_toArray, List.set_cons_zero, List.set_cons_succ, List.getElem_toArray, List.getElem_cons_zero, List.getElem_cons_succ]
      refine wpAnyH_take (i := 8) (v := ?v9) rfl (by kernel_rfl) (by kernel_rfl) (by kernel_rfl) (fun _ _ _ h => h) (Or.inl ⟨by rfl, ?hy9⟩) hHeld ?rest9
      case hy9 => (intro w' hSw; (try dsimp only at hSw); go_simp; (try with_reducible rfl))
      try simp only [Act.put, List.setIfInBounds_toArray, List.set_cons_zero, List.set_cons_succ, List.getElem_toArray, List.getElem_cons_zero, List.getElem_cons_succ]
      refine wpAnyH_take (i := 9) (v := ?v10) rfl (by kernel_rfl) (by kernel_rfl) (by kernel_rfl) (fun _ _ _ h => h) (Or.inl ⟨by rfl, ?hy10⟩) hHeld ?rest10
      case hy10 => (intro w' hSw; (try dsimp only at hSw); go_simp; (try with_reducible rfl))
      try simp only [Act.put, List.setIfInBounds_toArray, List.set_cons_zero, List.set_cons_succ, List.getElem_toArray, List.getElem_cons_zero, List.getElem_cons_succ]
      refine wpAnyH_take (i := 10) (v := ?v11) rfl (by kernel_rfl) (by kernel_rfl) (by kernel_rfl) (fun _ _ _ h => h) (Or.inl ⟨by rfl, ?hy11⟩) hHeld ?rest11
      case hy11 => (intro w' hSw; (try dsimp only at hSw); go_simp; (try with_reducible rfl))
      try simp only [Act.put, List.setIfInBounds_toArray, List.set_cons_zero, List.set_cons_succ, List.getElem_toArray, List.getElem_cons_zero, List.getElem_cons_succ]
      refine wpAnyH_ready (rs := [11]) (by kernel_rfl) (by simp) ?_
      refine AllReadyH.cons rfl (fun K hK => ?_) AllReadyH.nil
      go_simp
      refine (HCP.out).mono ?_
      rintro e w6 ⟨a6, cap6, rfl, hs6, _, _, hB6⟩
      try go_wp2_with fail
      refine hK.out _ _ (⟨(hB6.cell (p := ⟨_, _, none⟩) hgl).trans c0, (hB6.cell (p := ⟨_, _, none⟩) hgl).trans c1, (hB6.cell (p := ⟨_, _, none⟩) hgl).trans c2⟩) (fun hHeld => ?_)
      clear hK K
      try simp only [Act.put, List.setIfInBounds_toArray, List.set_cons_zero, List.set_cons_succ, List.getElem_toArray, List.getElem_cons_zero, List.getElem_cons_succ]
      refine wpAnyH_ready (rs := [12]) (by kernel_rfl) (by simp) ?_
      refine AllReadyH.cons rfl (fun K hK => ?_) AllReadyH.nil
      rw [if_pos (by rfl)]
      refine wp_copy_at E16 (.tmp 37) (.tmp 44) rfl sx rfl rfl (ownsRow_below (w := wr.drew) ho hB6) (hs6.below hB6) (by show sx = min sx (m - q); omega) p1 (by omega) (oneCell_i16s _) ?_
      intro w7 ho7 hT7
      refine hK.out _ _ (⟨(hT7.cell (p := ⟨w.heap.size, 0, none⟩) (by have := hB6.size; simp at this ⊢; omega) (by simp; omega)).trans ((hB6.cell (p := ⟨_, _, none⟩) hgl).trans c0), (hT7.cell (p := ⟨w.heap.size, 1, none⟩) (by have := hB6.size; simp at this ⊢; omega) (by simp; omega)).trans ((hB6.cell (p := ⟨_, _, none⟩) hgl).trans c1), (hT7.cell (p := ⟨w.heap.size, 2, none⟩) (by have := hB6.size; simp at this ⊢; omega) (by simp; omega)).trans ((hB6.cell (p := ⟨_, _, none⟩) hgl).trans c2)⟩) (fun hHeld => ?_)
      clear hK K
      try simp only [Act.put, List.setIfInBounds_toArray, List.set_cons_zero, List.set_cons_succ, List.getElem_toArray, List.getElem_cons_zero, List.getElem_cons_succ]
      refine wpAnyH_done (by kernel_rfl) ?_ _
      have hB7 : Below w.heap.size w w7 := hT7.old (hB.drew.trans (hB6.mono hB.size)) (by have := hB6.size; have := hB.size; simp at *; omega) (by rintro j hj rfl; omega)
      have K7 := (K1.drew.below hB6 hgl).turned hT7 (by omega)
      rw [HRT.out, HNX.out] at ho7
      clear c0 c1 c2 K1 hB hT7 hB6 ho
      go_wp2_with fail
      go_roundw
      case rel => exact ⟨r + 1, by omega, by go_num, ho7, K7, hB7⟩
      case measure => simp [intOf]; omega
    · obtain rfl : r = sy := by omega
      rw [← HM.out, Nat.sub_self, List.replicate_zero, List.append_nil] at ho
      go_wp2_with fail
      go_ret
      exact ⟨_, rfl, ownsRow_base ho hz4, hB⟩
end Go.Proofs.Ytapheokmoebgfaa
