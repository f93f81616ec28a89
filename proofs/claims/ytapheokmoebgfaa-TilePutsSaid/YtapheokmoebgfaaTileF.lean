/-
  No tile is cut out where there is none; a tile is laid: the code's.
-/
import Derived.Test.YtapheokmoebgfaaTileE
set_option linter.unusedVariables false
set_option linter.unusedSimpArgs false
namespace Go.Proofs.Ytapheokmoebgfaa
open Go Go.RowKit Go.Th

set_option maxRecDepth 20000 in
set_option maxHeartbeats 3200000 in
theorem cut_no (x y n : Nat) (X Y : Int) (a : Option Addr) (cap : Nat) (hF : isF x y = true) (hn : n = x * y) (hno : ¬ (0 ≤ X ∧ 0 ≤ Y ∧ X < (cnt x : Nat) ∧ Y < (cnt y : Nat))) (w : World) :
    Calls Try.prog 15 #[hv x y (.slice a n cap), pv X Y] w fun e w' => ∃ v, e = .returned v ∧ w'.ownsRow w.heap.size 30 1 v 0 [] ∧ Below w.heap.size w w' := by
  have C1 := Lib.hid (fun wx => check_ok x y n a cap hF hn wx)
  have C2 := Lib.hid (fun wx => box_no x y X Y hF hno wx)
  clear hF hn hno
  go_enter Try.func15, Try.ntmps15
  go_wp2_with fail
  obtain ⟨w2, hw2⟩ : ∃ w2, (w.alloc (.cells #[.int .i64 x, .int .i64 y, .slice a n cap] 36)).alloc (.cells #[.int .i64 X, .int .i64 Y] 43) = w2 := ⟨_, rfl⟩
  have hB2 : Below w.heap.size w w2 := by rw [← hw2]; exact ((Below.refl _ _).alloc (Nat.le_refl _) _).alloc (by simp) _
  have K1 : Blk w2 w.heap.size 36 [.int .i64 x, .int .i64 y, .slice a n cap] := by rw [← hw2]; exact (Blk.new w _ _).alloc _
  have K2 : Blk w2 (w.heap.size + 1) 43 [.int .i64 X, .int .i64 Y] := by
    rw [← hw2]
    have := Blk.new (w.alloc (.cells #[.int .i64 x, .int .i64 y, .slice a n cap] 36)) 43 [.int .i64 X, .int .i64 Y]
    rw [World.size_alloc] at this
    exact this
  rw [hw2]
  clear hw2
  refine (C1.out w2).mono ?_
  rintro e w3 ⟨rfl, hA3⟩
  clear C1
  have hB3 := hB2.trans (hA3.mono hB2.size)
  replace K1 := K1.below hA3 K1.lt
  replace K2 := K2.below hA3 K2.lt
  clear hB2 hA3
  have c0 := K1.cell (i := 0) rfl
  have c1 := K1.cell (i := 1) rfl
  have d0 := K2.cell (i := 0) rfl
  have d1 := K2.cell (i := 1) rfl
  go_wp2_with fail
  refine (C2.out w3).mono ?_
  rintro e w4 ⟨rfl, hA4⟩
  clear C2 c0 c1 d0 d1
  have hB4 := hB3.trans (hA4.mono hB3.size)
  clear hB3 hA4 K2 K1
  have hz4 := hB4.size
  go_wp2_with (refine wpList_mk (t := 22) (e := 30) (z := .int .i16 0) (bytes := 2) Try.underlying22 (by kernel_rfl) rfl rfl _ _ rfl w4.heap.size 0 _ _ rfl rfl (by omega) (by unfold maxLen; omega) (Nat.le_refl _) ?_)
  intro w5 ho5 hg5
  have hA5 := grown_below hg5
  have hB5 := hB4.trans (hA5.mono hz4)
  clear hg5 hA5 hB4
  go_wp2_with fail
  go_loopw [30] (fun c wx => c = .int .i64 0 ∧ wx = w5) (fun c _ => 1 - (intOf c).toNat)
  case atStart => exact ⟨rfl, rfl⟩
  case round =>
    obtain ⟨rfl, rfl⟩ := hrel
    go_wp2_with fail
    go_ret
    exact ⟨_, rfl, ownsRow_base (by simpa using ho5) hz4, hB5⟩

set_option maxRecDepth 20000 in
set_option maxHeartbeats 3200000 in
theorem lay_yes (x y X Y n g cap base : Nat) (F z : List Int) (az : Option Addr) (nz capz : Nat) (hF : isF x y = true) (hn : n = x * y) (hX : X < cnt x) (hY : Y < cnt y) (hl : F.length = n) (hz : z.length = nz) (hnz : nz = side x X * side y Y) (w : World)
    (hown : w.ownsRow base 30 1 (.slice (some ⟨g, 0, none⟩) n cap) n (i16s F)) (hS : Sl w 1 (.slice az nz capz) nz (i16s z)) :
    Calls Try.prog 17 #[hv x y (.slice (some ⟨g, 0, none⟩) n cap), pv X Y, .slice az nz capz] w fun e w' => e = .returned (.bool true) ∧ w'.ownsRow base 30 1 (.slice (some ⟨g, 0, none⟩) n cap) n (i16s (layTo F x (16 * X) (16 * Y) (side x X) z (side y Y))) ∧ Turned (fun k => k = g) w w' := by
  obtain ⟨h1, h2, h3, h4⟩ := isF_yes hF
  have f1 := side_fits x X hX
  have f2 := side_fits y Y hY
  have p1 := (side_pos x X).2 hX
  have p2 := (side_pos y Y).2 hY
  have s1 := side_le x X
  have s2 := side_le y Y
  have C1 := fun wx => check_ok x y n (some ⟨g, 0, none⟩) cap hF hn wx
  have C2 := fun wx => box_yes x y X Y hF hX hY wx
  have hFl : F.length = x * y := by rw [hl, hn]
  obtain ⟨px, hpx⟩ : ∃ p, p = 16 * X := ⟨_, rfl⟩
  obtain ⟨py, hpy⟩ : ∃ p, p = 16 * Y := ⟨_, rfl⟩
  obtain ⟨sx, hsx⟩ : ∃ s, s = side x X := ⟨_, rfl⟩
  obtain ⟨sy, hsy⟩ : ∃ s, s = side y Y := ⟨_, rfl⟩
  rw [← hpx, ← hsx] at f1
  rw [← hpy, ← hsy] at f2
  rw [← hsx] at p1 s1
  rw [← hsy] at p2 s2
  rw [← hsx, ← hsy] at hnz
  rw [← hpx, ← hpy, ← hsx, ← hsy] at C2 ⊢
  have hzl : z.length = sx * sy := by rw [hz, hnz]
  have hLl : ∀ r, r ≤ sy → (layTo F x px py sx z r).length = n := fun r hr => by rw [layTo_length F x y px py sx sy z hFl hzl f1 f2 r hr, hn]
  have CP := fun r (hr : r < sy) L (hL : L.length = n) wx hs => piece_any x y px (py + r) sx n (some ⟨g, 0, none⟩) cap L f1 (by omega) (by omega) (by omega) hn wx hs
  have hZl : ∀ r, r < sy → ((z.drop (r * sx)).take sx).length = sx := fun r hr => zrow_len z sx sy r hzl hr
  have hLn : ∀ r, layTo F x px py sx z (r + 1) = over (layTo F x px py sx z r) ((py + r) * x + px) ((z.drop (r * sx)).take sx) := fun r => rfl
  have hL0 : layTo F x px py sx z 0 = F := rfl
  have hfit : ∀ r, r < sy → (py + r) * x + px + sx ≤ n := fun r hr => by rw [hn]; exact place_fits x y px py sx r f1 (by omega)
  have hqs : ∀ r, r < sy → r * sx + sx ≤ nz := fun r hr => by
    have := Nat.mul_le_mul_right sx (Nat.succ_le_of_lt hr)
    rw [hnz, Nat.mul_comm sx sy]
    rwa [Nat.succ_mul] at this
  have hmle : nz ≤ 16 * 16 := by rw [hnz]; exact Nat.mul_le_mul s1 s2
  have hmul : (sx : Int) * (sy : Int) = (nz : Int) := by rw [hnz]; simp
  have hqe : ∀ r : Nat, (r : Int) * (sx : Int) = ((r * sx : Nat) : Int) := fun r => by simp
  obtain ⟨T, hT⟩ : ∃ T, T = layTo F x px py sx z := ⟨_, rfl⟩
  rw [← hT] at hLl hLn hL0 ⊢
  have hg := (hown.lt g (by simp [Value.ownBlock])).2
  have hnn : ((nz : Int) != (nz : Int)) = false := by simp
  have hx0 : ((sx : Int) == 0) = false := by simp; omega
  have CL := Lib.hid (fun wx hs => clone16_any (.slice az nz capz) z wx hs (by omega))
  have C1 := Lib.hid C1
  have C2 := Lib.hid C2
  have CP := Lib.hid CP
  have HLL := Lib.hid hLl
  have HZL := Lib.hid hZl
  have HLN := Lib.hid hLn
  have HL0 := Lib.hid hL0
  have HQS := Lib.hid hqs
  have HQE := Lib.hid hqe
  have HFIT := Lib.hid hfit
  have HS := Lib.hid hS
  have HZ := Lib.hid hz
  have hmx := hS.max
  clear hF hn hX hY hl hS hFl hpx hpy hsx hsy hLl hZl hLn hL0 hqs hT hqe hz hnz hzl hfit
  go_enter Try.func17, Try.ntmps17
  go_wp2_with fail
  obtain ⟨w2, hw2⟩ : ∃ w2, (w.alloc (.cells #[.int .i64 x, .int .i64 y, .slice (some ⟨g, 0, none⟩) n cap] 36)).alloc (.cells #[.int .i64 X, .int .i64 Y] 43) = w2 := ⟨_, rfl⟩
  have hB2 : Below w.heap.size w w2 := by rw [← hw2]; exact ((Below.refl _ _).alloc (Nat.le_refl _) _).alloc (by simp) _
  have K1 : Blk w2 w.heap.size 36 [.int .i64 x, .int .i64 y, .slice (some ⟨g, 0, none⟩) n cap] := by rw [← hw2]; exact (Blk.new w _ _).alloc _
  have K2 : Blk w2 (w.heap.size + 1) 43 [.int .i64 X, .int .i64 Y] := by
    rw [← hw2]
    have := Blk.new (w.alloc (.cells #[.int .i64 x, .int .i64 y, .slice (some ⟨g, 0, none⟩) n cap] 36)) 43 [.int .i64 X, .int .i64 Y]
    rw [World.size_alloc] at this
    exact this
  rw [hw2]
  clear hw2
  refine (C1.out w2).mono ?_
  rintro e w3 ⟨rfl, hA3⟩
  clear C1
  have hB3 := hB2.trans (hA3.mono hB2.size)
  replace K1 := K1.below hA3 K1.lt
  replace K2 := K2.below hA3 K2.lt
  clear hB2 hA3
  have c0 := K1.cell (i := 0) rfl
  have c1 := K1.cell (i := 1) rfl
  have d0 := K2.cell (i := 0) rfl
  have d1 := K2.cell (i := 1) rfl
  go_wp2_with fail
  refine (C2.out w3).mono ?_
  rintro e w4 ⟨rfl, hA4⟩
  clear C2 c0 c1 d0 d1
  have hB4 := hB3.trans (hA4.mono hB3.size)
  replace K1 := K1.below hA4 K1.lt
  clear hB3 hA4 K2
  have hz4 := hB4.size
  have hk4 := K1.lt
  have CL2 := Lib.hid (CL.out w4 (by rw [HZ.out]; exact HS.out.below hB4))
  clear CL
  go_wp2_with fail
  refine CL2.out.mono ?_
  rintro e w5 ⟨v5, rfl, ho5, hA5⟩
  clear CL2
  rw [HZ.out] at ho5
  obtain ⟨a5, cap5, rfl, hc51, hc52⟩ := ownsRow_slice ho5
  replace K1 := K1.below hA5 hk4
  have hB5 := hB4.trans (hA5.mono hz4)
  obtain ⟨D, hD⟩ : ∃ D, w4.heap.size = D := ⟨_, rfl⟩
  rw [hD] at ho5 hk4 hz4
  clear hA5 hD hB4
  replace hown := ownsRow_below hown hB5
  go_wp2_with fail
  go_loopw [39] (fun c wx => ∃ r : Nat, r ≤ sy ∧ c = .int .i64 r ∧ wx.ownsRow base 30 1 (.slice (some ⟨g, 0, none⟩) n cap) n (i16s (T r)) ∧ wx.ownsRow D 30 1 (.slice a5 nz cap5) nz (i16s z) ∧ Blk wx w.heap.size 36 [.int .i64 x, .int .i64 y, .slice (some ⟨g, 0, none⟩) n cap] ∧ Turned (fun k => k = g) w wx) (fun c _ => sy - (intOf c).toNat)
  case atStart => exact ⟨0, Nat.zero_le _, rfl, by rw [HL0.out]; exact hown, ho5, K1, Turned.below hB5⟩
  case round =>
    clear ho5 K1 hB5 hown
    obtain ⟨r, hr, rfl, ho, hoz, K1, hTu⟩ := hrel
    have hgl := K1.lt
    by_cases hlt : r < sy
    · have hq1 := HQS.out r hlt
      have hq2 := HQE.out r
      have hZl := HZL.out r hlt
      have hLn := HLN.out r
      have hfit := HFIT.out r hlt
      have hCP := CP.out r hlt (T r) (HLL.out r hr) wr.drew (Sl.of_own (ho : wr.drew.ownsRow base 30 1 (.slice (some ⟨g, 0, none⟩) n cap) n (i16s (T r))))
      obtain ⟨q, hq⟩ : ∃ q, q = r * sx := ⟨_, rfl⟩
      obtain ⟨s, hs⟩ : ∃ s, s = py + r := ⟨_, rfl⟩
      rw [← hs] at hLn hCP hfit
      rw [← hq] at hq1 hq2 hZl hLn
      have hs1 : IntKind.i64.wrap ((py : Int) + (r : Int)) = (s : Int) := by
        have := i64_nat s (by omega)
        rw [hs] at this ⊢
        simpa using this
      have hs2 : (py : Int) + (r : Int) = (s : Int) := by omega
      have hqw := i64_nat q (by omega)
      have hsw := i64_nat s (by omega)
      obtain ⟨O, hO⟩ : ∃ O, O = s * x + px := ⟨_, rfl⟩
      rw [← hO] at hCP hLn hfit
      obtain ⟨a1, cap1, hcut, hs7, _, _⟩ := Sl.cut_off E16 (Sl.of_own hoz) q (by omega) (q : Int) rfl
      have e1 : ((i16s z).drop q).take sx = i16s ((z.drop q).take sx) := by simp [i16s, List.map_take, List.map_drop]
      have e2 : over (i16s (T r)) O (i16s ((z.drop q).take sx)) = i16s (T (r + 1)) := by rw [hLn]; exact over_map _ _ _ _
      have HE1 := Lib.hid e1
      have HE2 := Lib.hid e2
      have HCP := Lib.hid hCP
      have HS7 := Lib.hid hs7
      have HOZ := Lib.hid hoz
      have h16 : ∀ u ∈ (i16s z).drop q, u.oneCell' = true := fun u hu => oneCell_i16s z u (List.mem_of_mem_drop hu)
      have H16 := Lib.hid h16
      have c0 := K1.cell (i := 0) rfl
      have c1 := K1.cell (i := 1) rfl
      have c2 := K1.cell (i := 2) rfl
      clear hCP e1 e2 hZl hLn hq hO hs hs2 hs7 hoz h16
      go_wp2_with fail
      refine wp_region_held_drew (S := (fun w' : World => w'.cell? ⟨w.heap.size, 0, none⟩ = some (.int .i64 x) ∧ w'.cell? ⟨w.heap.size, 1, none⟩ = some (.int .i64 y) ∧ w'.cell? ⟨w.heap.size, 2, none⟩ = some (.slice (some ⟨g, 0, none⟩) n cap))) (by kernel_rfl) (⟨c0, c1, c2⟩) (fun hHeld => ?_)
      refine wpAnyH_take (i := 0) (v := ?v14) rfl (by kernel_rfl) (by kernel_rfl) (by kernel_rfl) (fun _ _ _ h => h) (Or.inl ⟨by rfl, ?hy14⟩) hHeld ?rest14
      case hy14 => (intro w' hSw; (try dsimp only at hSw); go_simp; (try with_reducible rfl))
      try simp only [Act.put, List.setIfInBounds_toArray, List.set_cons_zero, List.set_cons_succ, List.getElem_toArray, List.getElem_cons_zero, List.getElem_cons_succ]
      refine wpAnyH_take (i := 1) (v := ?v15) rfl (by kernel_rfl) (by kernel_rfl) (by kernel_rfl) (fun _ _ _ h => h) (Or.inl ⟨by rfl, ?hy15⟩) hHeld ?rest15
      case hy15 => (intro w' hSw; (try dsimp only at hSw); go_simp; (try with_reducible rfl))
      try simp only [Act.put, List.setIfInBounds_toArray, List.set_cons_zero, List.set_cons_succ, List.getElem_toArray, List.getElem_cons_zero, List.getElem_cons_succ]
      refine wpAnyH_take (i := 2) (v := ?v16) rfl (by kernel_rfl) (by kernel_rfl) (by kernel_rfl) (fun _ _ _ h => h) (Or.inl ⟨by rfl, ?hy16⟩) hHeld ?rest16
      case hy16 => (intro w' hSw; (try dsimp only at hSw); go_simp; (try with_reducible rfl))
      try simp only [Act.put, List.setIfInBounds_toArray, List.set_cons_zero, List.set_cons_succ, List.getElem_toArray, List.getElem_cons_zero, List.getElem_cons_succ]
      refine wpAnyH_take (i := 3) (v := ?v17) rfl (by kernel_rfl) (by kernel_rfl) (by kernel_rfl) (fun _ _ _ h => h) (Or.inl ⟨by rfl, ?hy17⟩) hHeld ?rest17
      case hy17 => (intro w' hSw; (try dsimp only at hSw); go_simp; (try with_reducible rfl))
      try simp only [Act.put, List.setIfInBounds_toArray, List.set_cons_zero, List.set_cons_succ, List.getElem_toArray, List.getElem_cons_zero, List.getElem_cons_succ]
      refine wpAnyH_take (i := 4) (v := ?v18) rfl (by kernel_rfl) (by kernel_rfl) (by kernel_rfl) (fun _ _ _ h => h) (Or.inl ⟨by rfl, ?hy18⟩) hHeld ?rest18
      case hy18 => (intro w' hSw; (try dsimp only at hSw); go_simp; (try with_reducible rfl))
      try simp only [Act.put, List.setIfInBounds_toArray, List.set_cons_zero, List.set_cons_succ, List.getElem_toArray, List.getElem_cons_zero, List.getElem_cons_succ]
      refine wpAnyH_take (i := 5) (v := ?v19) rfl (by kernel_rfl) (by kernel_rfl) (by kernel_rfl) (fun _ _ _ h => h) (Or.inl ⟨by rfl, ?hy19⟩) hHeld ?rest19
      case hy19 => (intro w' hSw; (try dsimp only at hSw); go_simp; (try with_reducible rfl))
      try simp only [Act.put, List.setIfInBounds_toArray, List.set_cons_zero, List.set_cons_succ, List.getElem_toArray, List.getElem_cons_zero, List.getElem_cons_succ]
      refine wpAnyH_take (i := 7) (v := ?v20) rfl (by kernel_rfl) (by kernel_rfl) (by kernel_rfl) (fun _ _ _ h => h) (Or.inl ⟨by rfl, ?hy20⟩) hHeld ?rest20
      case hy20 => (intro w' hSw; (try dsimp only at hSw); go_simp; (try with_reducible rfl))
      try simp only [Act.put, List.setIfInBounds_toArray, List.set_cons_zero, List.set_cons_succ, List.getElem_toArray, List.getElem_cons_zero, List.getElem_cons_succ]
      refine wpAnyH_take (i := 8) (v := ?v21) rfl (by kernel_rfl) (by kernel_rfl) (by kernel_rfl) (fun _ _ _ h => h) (Or.inl ⟨by rfl, ?hy21⟩) hHeld ?rest21
      case hy21 => (intro w' hSw; (try dsimp only at hSw); go_simp; (try with_reducible rfl))
      try simp only [Act.put, List.setIfInBounds_toArray, List.set_cons_zero, List.set_cons_succ, List.getElem_toArray, List.getElem_cons_zero, List.getElem_cons_succ]
      refine wpAnyH_take (i := 9) (v := ?v22) rfl (by kernel_rfl) (by kernel_rfl) (by kernel_rfl) (fun _ _ _ h => h) (Or.inl ⟨by rfl, ?hy22⟩) hHeld ?rest22
      case hy22 => (intro w' hSw; (try dsimp only at hSw); go_simp; (try with_reducible rfl))
      try simp only [Act.put, List.setIfInBounds_toArray, List.set_cons_zero, List.set_cons_succ, List.getElem_toArray, List.getElem_cons_zero, List.getElem_cons_succ]
      refine wpAnyH_take (i := 10) (v := ?v23) rfl (by kernel_rfl) (by kernel_rfl) (by kernel_rfl) (fun _ _ _ h => h) (Or.inl ⟨by rfl, ?hy23⟩) hHeld ?rest23
      case hy23 => (intro w' hSw; (try dsimp only at hSw); go_simp; (try with_reducible rfl))
      try simp only [Act.put, List.setIfInBounds_toArray, List.set_cons_zero, List.set_cons_succ, List.getElem_toArray, List.getElem_cons_zero, List.getElem_cons_succ]
      refine wpAnyH_take (i := 11) (v := ?v24) rfl (by kernel_rfl) (by kernel_rfl) (by kernel_rfl) (fun _ _ _ h => h) (Or.inl ⟨by rfl, ?hy24⟩) hHeld ?rest24
      case hy24 => (intro w' hSw; (try dsimp only at hSw); go_simp; (try with_reducible rfl))
      try simp only [Act.put, List.setIfInBounds_toArray, List.set_cons_zero, List.set_cons_succ, List.getElem_toArray, List.getElem_cons_zero, List.getElem_cons_succ]
      refine wpAnyH_ready (rs := [6]) (by kernel_rfl) (by simp) ?_
      refine AllReadyH.cons rfl (fun K hK => ?_) AllReadyH.nil
      go_simp
      refine (HCP.out).mono ?_
      rintro e w6 ⟨a6, cap6, rfl, hs6, _, had, hB6⟩
      have ea := had g 0 rfl p1
      rw [Nat.zero_add] at ea
      subst ea
      clear had
      try go_wp2_with fail
      refine hK.out _ _ (⟨(hB6.cell (p := ⟨_, _, none⟩) hgl).trans c0, (hB6.cell (p := ⟨_, _, none⟩) hgl).trans c1, (hB6.cell (p := ⟨_, _, none⟩) hgl).trans c2⟩) (fun hHeld => ?_)
      clear hK K
      try simp only [Act.put, List.setIfInBounds_toArray, List.set_cons_zero, List.set_cons_succ, List.getElem_toArray, List.getElem_cons_zero, List.getElem_cons_succ]
      refine wpAnyH_ready (rs := [12]) (by kernel_rfl) (by simp) ?_
      refine AllReadyH.cons rfl (fun K hK => ?_) AllReadyH.nil
      rw [if_pos (by rfl)]
      refine wp_copy_at E16 (.tmp 48) (.tmp 53) rfl sx rfl rfl (ownsRow_below (w := wr.drew) ho hB6) (HS7.out.below (w := wr.drew) hB6) (by show sx = min (nz - q) sx; omega) p1 hfit H16.out ?_
      intro w7 ho7 hT7
      refine hK.out _ _ (⟨(hT7.cell (p := ⟨w.heap.size, 0, none⟩) (by have := hB6.size; simp at this ⊢; omega) (by simp; omega)).trans ((hB6.cell (p := ⟨_, _, none⟩) hgl).trans c0), (hT7.cell (p := ⟨w.heap.size, 1, none⟩) (by have := hB6.size; simp at this ⊢; omega) (by simp; omega)).trans ((hB6.cell (p := ⟨_, _, none⟩) hgl).trans c1), (hT7.cell (p := ⟨w.heap.size, 2, none⟩) (by have := hB6.size; simp at this ⊢; omega) (by simp; omega)).trans ((hB6.cell (p := ⟨_, _, none⟩) hgl).trans c2)⟩) (fun hHeld => ?_)
      clear hK K
      try simp only [Act.put, List.setIfInBounds_toArray, List.set_cons_zero, List.set_cons_succ, List.getElem_toArray, List.getElem_cons_zero, List.getElem_cons_succ]
      refine wpAnyH_done (by kernel_rfl) ?_ _
      have hT6 : Turned (fun k => k = g) w w7 := (hTu.drew.trans (Turned.below hB6) (fun _ _ h => h)).trans hT7 (fun _ _ h => h)
      have K7 := (K1.drew.below hB6 hgl).turned hT7 (by omega)
      have hoz7 := hT7.own (ownsRow_below (w := wr.drew) HOZ.out hB6) (by rintro j hj rfl; have := (HOZ.out.lt _ hj).1; omega)
      rw [HE1.out, HE2.out] at ho7
      clear c0 c1 c2 K1 hTu hT7 hB6 ho
      go_wp2_with fail
      go_roundw
      case rel => exact ⟨r + 1, by omega, by go_num, ho7, hoz7, K7, hT6⟩
      case measure => simp [intOf]; omega
    · obtain rfl : r = sy := by omega
      go_wp2_with fail
      go_ret
      exact ⟨rfl, ho, hTu⟩
end Go.Proofs.Ytapheokmoebgfaa
