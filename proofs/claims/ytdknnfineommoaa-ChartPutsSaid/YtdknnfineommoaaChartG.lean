/-
  A map read: the code's.
-/
import Derived.Test.YtdknnfineommoaaChartV
import Derived.Test.YtdknnfineommoaaPackTile
import Derived.Deep.LoopGhost
set_option linter.unusedVariables false
set_option linter.unusedSimpArgs false
namespace Go.Th
open Go Go.RowKit
abbrev set6 (w : World) (g : Nat) (v0 v1 v2 v3 v4 v5 : Value) : World :=
  (((((w.setCell ⟨g, 0, none⟩ v0).setCell ⟨g, 1, none⟩ v1).setCell ⟨g, 2, none⟩ v2).setCell ⟨g, 3, none⟩ v3).setCell ⟨g, 4, none⟩ v4).setCell ⟨g, 5, none⟩ v5
theorem blk_set6 {w : World} {g : Nat} {t : TypeId} {c0 c1 c2 c3 c4 c5 : Value} (K : Blk w g t [c0, c1, c2, c3, c4, c5]) (v0 v1 v2 v3 v4 v5 : Value) : Blk (set6 w g v0 v1 v2 v3 v4 v5) g t [v0, v1, v2, v3, v4, v5] :=
  (((((K.set 0 v0 (by simp)).set 1 v1 (by simp)).set 2 v2 (by simp)).set 3 v3 (by simp)).set 4 v4 (by simp)).set 5 v5 (by simp)
theorem turned_set6 (w : World) (g : Nat) (v0 v1 v2 v3 v4 v5 : Value) : Turned (fun k => k = g) w (set6 w g v0 v1 v2 v3 v4 v5) :=
  ((((((Turned.refl (fun k => k = g) w).setCell (.inl rfl) v0).setCell (.inl rfl) v1).setCell (.inl rfl) v2).setCell (.inl rfl) v3).setCell (.inl rfl) v4).setCell (.inl rfl) v5
end Go.Th
namespace Go.Proofs.Ytdknnfineommoaa
open Go Go.RowKit Go.Th Go.Th.Crc

set_option maxRecDepth 20000 in
set_option maxHeartbeats 3200000 in
theorem get9_no (PC : Int → Prop) (c : Int) (L cap : Nat) (a : Option Addr) (w : World) (hc : c ≠ 0)
    (CO : ∀ wx, Below w.heap.size w wx → Calls Try.prog 12 #[.slice a L cap] wx fun e w' => ∃ c : Int, c ≠ 0 ∧ PC c ∧ e = .returned (.tuple #[dv 0 0 (.slice none 0 0) 0 0 0 (.slice none 0 0) (.slice none 0 0), .int .i64 c]) ∧ Below wx.heap.size wx w') :
    Calls Try.prog 18 #[.slice a L cap] w fun e w' => ∃ c : Int, c ≠ 0 ∧ PC c ∧ e = .returned (.tuple #[cv 0 0 (.slice none 0 0) 0 0 0, .int .i64 c]) ∧ Below w.heap.size w w' := by
  obtain ⟨w1, hw1⟩ : ∃ w1, w.alloc (.cells #[.int .i64 0, .int .i64 0, .slice none 0 0, .int .i64 0, .int .i32 0, .int .i32 0] 28) = w1 := ⟨_, rfl⟩
  have hB : Below w.heap.size w w1 := by rw [← hw1]; exact (Below.refl _ _).alloc (Nat.le_refl _) _
  have KR : Blk w1 w.heap.size 28 [.int .i64 0, .int .i64 0, .slice none 0 0, .int .i64 0, .int .i32 0, .int .i32 0] := by rw [← hw1]; exact Blk.new w _ _
  have C1 := Lib.hid (CO w1 hB)
  clear CO hc c
  go_enter Try.func18, Try.ntmps18
  go_wp2_with fail
  go_step3
  go_wp2_with fail
  clear hw1
  refine C1.out.mono ?_
  rintro e w2 ⟨c, hc, hpc, rfl, hA⟩
  have HPC := Lib.hid hpc
  have hne : (c != 0) = true := by simpa using hc
  replace KR := KR.below hA KR.lt
  replace hB := hB.trans (hA.mono hB.size)
  obtain ⟨w3, hw3⟩ : ∃ w3, w2.alloc (.cells #[.int .i64 0, .int .i64 0, .slice none 0 0, .int .i64 0, .int .i32 0, .int .i32 0, .slice none 0 0, .slice none 0 0] 37) = w3 := ⟨_, rfl⟩
  have hA3 : Below w2.heap.size w2 w3 := by rw [← hw3]; exact (Below.refl _ _).alloc (Nat.le_refl _) _
  replace KR := KR.below hA3 KR.lt
  replace hB := hB.trans (hA3.mono hB.size)
  have HW3 := Lib.hid hw3
  clear C1 hA hA3 hw3 hpc
  go_upto_region 2 with fail
  rw [HW3.out]
  have z0 := KR.cell (i := 0) rfl
  have z1 := KR.cell (i := 1) rfl
  have z2 := KR.cell (i := 2) rfl
  have z3 := KR.cell (i := 3) rfl
  have z4 := KR.cell (i := 4) rfl
  have z5 := KR.cell (i := 5) rfl
  have zf0 := KR.free 0
  have zf1 := KR.free 1
  have zf2 := KR.free 2
  have zf3 := KR.free 3
  have zf4 := KR.free 4
  have zf5 := KR.free 5
  go_wp2_with fail
  try rw [Exit.noGoto_ret]
  refine bodyPost_ret (v := .tuple #[cv 0 0 (.slice none 0 0) 0 0 0, .int .i64 c]) (res_blk_tmp rfl rfl (blk_set6 KR _ _ _ _ _ _) Try.underlying28 rfl (by kernel_rfl) rfl) rfl ?_
  have ht := turned_set6 w3 w.heap.size (.int .i64 0) (.int .i64 0) (.slice none 0 0) (.int .i64 0) (.int .i32 0) (.int .i32 0)
  exact ⟨c, hc, HPC.out, rfl, ht.old hB hB.size (by rintro k hk rfl; omega)⟩

/-- A map while its tiles are laid. -/
structure GetI (w W : World) (gR gD gC gz gp B D1 m n9 cp : Nat) (zs ds cs pl : List Value) (va vs : Value) (As Ss : List Nat) (G : List Int) : Prop where
  kR : Blk W gR 28 zs
  kD : Blk W gD 37 ds
  kC : Blk W gC 28 cs
  oz : W.ownsRow D1 56 1 (.slice (some ⟨gz, 0, none⟩) m m) m (i16s G)
  op : W.ownsRow B 62 2 (.slice (some ⟨gp, 0, none⟩) n9 cp) n9 pl
  oA : W.ownsRow w.heap.size 3 1 va n9 (ints As)
  oS : W.ownsRow w.heap.size 3 1 vs n9 (ints Ss)
  bel : Below w.heap.size w W
  le : w.heap.size ≤ gR ∧ w.heap.size ≤ gD ∧ w.heap.size ≤ gC ∧ gR < gD ∧ gD < gC ∧ gC < D1 ∧ D1 ≤ gz ∧ gz < B ∧ w.heap.size ≤ D1
  nA : ∀ j, va.ownBlock = some j → j < D1
  nS : ∀ j, vs.ownBlock = some j → j < D1
section
variable {w W W' : World} {gR gD gC gz gp B D1 m n9 cp : Nat} {zs ds cs pl : List Value} {va vs : Value} {As Ss : List Nat} {G G' : List Int}
theorem GetI.below (h : GetI w W gR gD gC gz gp B D1 m n9 cp zs ds cs pl va vs As Ss G) (hb : Below W.heap.size W W') : GetI w W' gR gD gC gz gp B D1 m n9 cp zs ds cs pl va vs As Ss G :=
  ⟨h.kR.below hb h.kR.lt, h.kD.below hb h.kD.lt, h.kC.below hb h.kC.lt, ownsRow_below h.oz hb, ownsRow_below h.op hb, ownsRow_below h.oA hb, ownsRow_below h.oS hb, h.bel.trans (hb.mono h.bel.size), h.le, h.nA, h.nS⟩
theorem GetI.lay (h : GetI w W gR gD gC gz gp B D1 m n9 cp zs ds cs pl va vs As Ss G) (ht : Turned (fun k => k = gz) W W') (ho : W'.ownsRow D1 56 1 (.slice (some ⟨gz, 0, none⟩) m m) m (i16s G')) : GetI w W' gR gD gC gz gp B D1 m n9 cp zs ds cs pl va vs As Ss G' :=
  ⟨h.kR.turned ht (fun e => by have := h.le; omega), h.kD.turned ht (fun e => by have := h.le; omega), h.kC.turned ht (fun e => by have := h.le; omega), ho,
    ht.own h.op (fun k hk e => by have := (h.op.lt k hk).1; have := h.le; omega), ht.own h.oA (fun k hk e => by have := h.nA k hk; have := h.le; omega), ht.own h.oS (fun k hk e => by have := h.nS k hk; have := h.le; omega),
    ht.old h.bel h.bel.size (fun k hk e => by have := h.le; omega), h.le, h.nA, h.nS⟩
end

set_option maxRecDepth 20000 in
set_option maxHeartbeats 6400000 in
theorem get9_go (W H n9 m L cell : Nat) (q4 q5 : Int) (bs As Ss : List Nat) (a : Option Addr) (cap : Nat) (P : Nat → List Int → Prop) (Rz : Nat → List Int → Int → Prop) (K : Nat → Nat) (Ly : Nat → List Int → List Int → List Int) (w : World)
    (hS : Sl w 1 (.slice a L cap) L (u8s bs)) (hW : W ≤ 256) (hH : H ≤ 256) (hm : m = W * H) (hn1 : 0 < n9) (hn9 : n9 ≤ 256)
    (CO : Hid (∀ wx, Below w.heap.size w wx → Calls Try.prog 12 #[.slice a L cap] wx fun e w' => ∃ va vs, e = .returned (.tuple #[dv W H (.slice none 0 0) cell q4 q5 va vs, .int .i64 0]) ∧ w'.ownsRow wx.heap.size 3 1 va n9 (ints As) ∧ w'.ownsRow wx.heap.size 3 1 vs n9 (ints Ss) ∧ Below wx.heap.size wx w'))
    (CP : Hid (∀ wx, Calls Try.prog 21 #[.int .i64 W, .int .i64 H] wx fun e w' => ∃ v, e = .returned v ∧ w'.ownsRow wx.heap.size 62 2 v n9 (plcs W n9) ∧ Below wx.heap.size wx w'))
    (CT : Hid (∀ i, i < n9 → ∀ aA cA aS cS wx, Sl wx 1 (.slice a L cap) L (u8s bs) → Sl wx 1 (.slice aA n9 cA) n9 (ints As) → Sl wx 1 (.slice aS n9 cS) n9 (ints Ss) →
      Calls Try.prog 14 #[.slice a L cap, dv W H (.slice none 0 0) cell q4 q5 (.slice aA n9 cA) (.slice aS n9 cS), .int .i64 i] wx (TAns (Rz i) (K i) wx)))
    (CL : Hid (∀ i, i < n9 → ∀ g D1 G zs az cz wx, G.length = m → zs.length = K i → wx.ownsRow D1 56 1 (.slice (some ⟨g, 0, none⟩) m m) m (i16s G) → Sl wx 1 (.slice az (K i) cz) (K i) (i16s zs) →
      Calls Try.prog 44 #[hv W H (.slice (some ⟨g, 0, none⟩) m m), pv ((i % cnt W : Nat) : Int) ((i / cnt W : Nat) : Int), .slice az (K i) cz] wx fun e w' => e = .returned (.bool true) ∧ w'.ownsRow D1 56 1 (.slice (some ⟨g, 0, none⟩) m m) m (i16s (Ly i G zs)) ∧ Turned (fun k => k = g) wx w'))
    (HP0 : Hid (P 0 (List.replicate m 0))) (HPn : Hid (∀ i G zs, i < n9 → G.length = m → P i G → Rz i zs 0 → zs.length = K i → P (i + 1) (Ly i G zs) ∧ (Ly i G zs).length = m)) :
    Calls Try.prog 18 #[.slice a L cap] w fun e w' =>
      (∃ G v, P n9 G ∧ G.length = m ∧ e = .returned (.tuple #[cv W H v cell q4 q5, .int .i64 0]) ∧ w'.ownsRow w.heap.size 56 1 v m (i16s G) ∧ Below w.heap.size w w') ∨
      (∃ i c zs G, i < n9 ∧ c ≠ 0 ∧ P i G ∧ Rz i zs c ∧ e = .returned (.tuple #[cv 0 0 (.slice none 0 0) 0 0 0, .int .i64 c]) ∧ Below w.heap.size w w') := by
  have HS := Lib.hid hS
  have hmul : (W : Int) * (H : Int) = (m : Int) := by rw [hm]; simp
  have hm2 : m ≤ 256 * 256 := by rw [hm]; exact Nat.mul_le_mul hW hH
  have HM := Lib.hid hm
  have hmx := hS.max
  clear hS hm
  obtain ⟨w1, hw1⟩ : ∃ w1, w.alloc (.cells #[.int .i64 0, .int .i64 0, .slice none 0 0, .int .i64 0, .int .i32 0, .int .i32 0] 28) = w1 := ⟨_, rfl⟩
  have hB : Below w.heap.size w w1 := by rw [← hw1]; exact (Below.refl _ _).alloc (Nat.le_refl _) _
  have KR : Blk w1 w.heap.size 28 [.int .i64 0, .int .i64 0, .slice none 0 0, .int .i64 0, .int .i32 0, .int .i32 0] := by rw [← hw1]; exact Blk.new w _ _
  have C1 := Lib.hid (CO.out w1 hB)
  have hz1 : w1.heap.size = w.heap.size + 1 := by rw [← hw1]; simp
  have HZ1 := Lib.hid hz1
  clear CO hz1
  go_enter Try.func18, Try.ntmps18
  go_wp2_with fail
  go_step3
  go_wp2_with fail
  clear hw1
  refine C1.out.mono ?_
  rintro e w2 ⟨va, vs, rfl, hoA, hoS, hA⟩
  obtain ⟨aA, cA, rfl, _, _⟩ := ownsRow_slice hoA
  obtain ⟨aS, cS, rfl, _, _⟩ := ownsRow_slice hoS
  have hw12 : w.heap.size + 1 ≤ w2.heap.size := by rw [← HZ1.out]; exact hA.size
  replace hoA := ownsRow_base hoA hB.size
  replace hoS := ownsRow_base hoS hB.size
  have hnA : ∀ j, (Value.slice aA n9 cA).ownBlock = some j → j < w2.heap.size := fun j h => (hoA.lt j h).2
  have hnS : ∀ j, (Value.slice aS n9 cS).ownBlock = some j → j < w2.heap.size := fun j h => (hoS.lt j h).2
  have HNA := Lib.hid hnA
  have HNS := Lib.hid hnS
  replace KR := KR.below hA KR.lt
  replace hB := hB.trans (hA.mono hB.size)
  obtain ⟨w4, hw4⟩ : ∃ w4, (w2.alloc (.cells #[.int .i64 W, .int .i64 H, .slice none 0 0, .int .i64 cell, .int .i32 q4, .int .i32 q5, .slice aA n9 cA, .slice aS n9 cS] 37)).alloc (.cells #[.int .i64 W, .int .i64 H, .slice none 0 0, .int .i64 cell, .int .i32 q4, .int .i32 q5] 28) = w4 := ⟨_, rfl⟩
  have hA4 : Below w2.heap.size w2 w4 := by rw [← hw4]; exact ((Below.refl _ _).alloc (Nat.le_refl _) _).alloc (by simp) _
  have KD : Blk w4 w2.heap.size 37 [.int .i64 W, .int .i64 H, .slice none 0 0, .int .i64 cell, .int .i32 q4, .int .i32 q5, .slice aA n9 cA, .slice aS n9 cS] := by rw [← hw4]; exact (Blk.new w2 _ _).alloc _
  have KC : Blk w4 (w2.heap.size + 1) 28 [.int .i64 W, .int .i64 H, .slice none 0 0, .int .i64 cell, .int .i32 q4, .int .i32 q5] := by
    rw [← hw4]
    have := Blk.new (w2.alloc (.cells #[.int .i64 W, .int .i64 H, .slice none 0 0, .int .i64 cell, .int .i32 q4, .int .i32 q5, .slice aA n9 cA, .slice aS n9 cS] 37)) 28 [.int .i64 W, .int .i64 H, .slice none 0 0, .int .i64 cell, .int .i32 q4, .int .i32 q5]
    rw [World.size_alloc] at this
    exact this
  replace KR := KR.below hA4 KR.lt
  replace hoA := ownsRow_below hoA hA4
  replace hoS := ownsRow_below hoS hA4
  replace hB := hB.trans (hA4.mono hB.size)
  have HW4 := Lib.hid hw4
  clear C1 hA hA4 hw4 hnA hnS
  go_upto_region 5 with fail
  rw [HW4.out]
  have k0 := KC.cell (i := 0) rfl
  have k1 := KC.cell (i := 1) rfl
  have k2 := KC.cell (i := 2) rfl
  have k3 := KC.cell (i := 3) rfl
  have k4 := KC.cell (i := 4) rfl
  have k5 := KC.cell (i := 5) rfl
  have kf0 := KC.free 0
  have kf1 := KC.free 1
  have kf2 := KC.free 2
  have kf3 := KC.free 3
  have kf4 := KC.free 4
  have kf5 := KC.free 5
  go_wp2_with (refine wpList_mk (t := 22) (e := 56) (z := .int .i16 0) (bytes := 2) Try.underlying22 (by kernel_rfl) rfl rfl _ _ rfl w4.heap.size m _ _ rfl rfl (by omega) (by unfold maxLen; omega) (Nat.le_refl _) ?_)
  intro w5 ho5 hg5
  have hA5 := grown_below hg5
  have hgC4 := KC.lt
  replace KC := KC.below hA5 KC.lt
  replace KD := KD.below hA5 KD.lt
  replace KR := KR.below hA5 KR.lt
  replace hoA := ownsRow_below hoA hA5
  replace hoS := ownsRow_below hoS hA5
  replace hB := hB.trans (hA5.mono hB.size)
  have hz4 : w2.heap.size ≤ w4.heap.size := by omega
  have hgz := (ho5.lt _ rfl).2
  obtain ⟨gz, hgze⟩ : ∃ g, g = w4.heap.size := ⟨_, rfl⟩
  obtain ⟨D1, hD1⟩ : ∃ g, g = w4.heap.size := ⟨_, rfl⟩
  have HGZ := Lib.hid hgze
  have HD1 := Lib.hid hD1
  clear hgze hD1
  have ht6 : Turned (fun k => k = w2.heap.size + 1) w5 (w5.setCell ⟨w2.heap.size + 1, 2, none⟩ (.slice (some ⟨w4.heap.size, 0, none⟩) m m)) := (Turned.refl (fun k => k = w2.heap.size + 1) w5).setCell (.inl rfl) _
  have K6 := KC.set 2 (.slice (some ⟨w4.heap.size, 0, none⟩) m m) (by simp)
  have kc2 := KC.cell (i := 2) rfl
  have kg2 := KC.free 2
  obtain ⟨w6, hw6⟩ : ∃ w6, w5.setCell ⟨w2.heap.size + 1, 2, none⟩ (.slice (some ⟨w4.heap.size, 0, none⟩) m m) = w6 := ⟨_, rfl⟩
  rw [hw6] at ht6 K6
  replace KD := KD.turned ht6 (by omega)
  replace KR := KR.turned ht6 (by omega)
  replace hoA := ht6.own hoA (fun k hk e => by have := HNA.out k hk; omega)
  replace hoS := ht6.own hoS (fun k hk e => by have := HNS.out k hk; omega)
  have hoz := ht6.own ho5 (fun k hk e => by
    have h1 : k = w4.heap.size := by simpa [Value.ownBlock] using hk.symm
    omega)
  replace hB := ht6.old hB hB.size (fun k hk e => by omega)
  have hz6 := ht6.size
  have b0 := K6.cell (i := 0) rfl
  have b1 := K6.cell (i := 1) rfl
  have D6 := Lib.hid (CP.out w6)
  clear CP KC ho5 hg5 hA5 ht6 k0 k1 k2 k3 k4 k5 kf0 kf1 kf2 kf3 kf4 kf5
  go_wp2_with fail
  go_step3
  go_wp2_with fail
  clear hw6
  refine D6.out.mono ?_
  rintro e w7 ⟨v7, rfl, hop, hA⟩
  obtain ⟨gp, cp, rfl, _, _, _, _⟩ := ownsRow_val hop hn1
  obtain ⟨B, hBe⟩ : ∃ B, B = w6.heap.size := ⟨_, rfl⟩
  have hI0 : GetI w w7 w.heap.size w2.heap.size (w2.heap.size + 1) gz gp B D1 m n9 cp [.int .i64 0, .int .i64 0, .slice none 0 0, .int .i64 0, .int .i32 0, .int .i32 0] [.int .i64 W, .int .i64 H, .slice none 0 0, .int .i64 cell, .int .i32 q4, .int .i32 q5, .slice aA n9 cA, .slice aS n9 cS] [.int .i64 W, .int .i64 H, .slice (some ⟨gz, 0, none⟩) m m, .int .i64 cell, .int .i32 q4, .int .i32 q5] (plcs W n9) (.slice aA n9 cA) (.slice aS n9 cS) As Ss (List.replicate m 0) := by
    refine ⟨KR.below hA KR.lt, KD.below hA KD.lt, ?_, ?_, by rw [hBe]; exact hop, ownsRow_below hoA hA, ownsRow_below hoS hA, hB.trans (hA.mono hB.size), ?_, fun j h => ?_, fun j h => ?_⟩
    · rw [HGZ.out]; exact K6.below hA K6.lt
    · rw [HGZ.out, HD1.out, show i16s (List.replicate m 0) = List.replicate m (.int .i16 0) by simp [i16s]]
      exact ownsRow_below hoz hA
    · rw [HGZ.out, HD1.out, hBe]; omega
    · have := HNA.out j h; rw [HD1.out]; omega
    · have := HNS.out j h; rw [HD1.out]; omega
  clear D6 KR KD K6 hoA hoS hoz hB hA hop b0 b1 kc2 kg2
  rw [← HGZ.out]
  clear HGZ HD1 hBe HW4 HNA HNS hz4 hgz hz6 hgC4 hw12 HZ1
  go_wp2_with fail
  go_loopw [5, 39] (fun c5 c wx => ∃ (i : Nat) (G : List Int), i ≤ n9 ∧ c = .int .i64 i ∧ c5 = .int .i64 0 ∧ Hid (P i G) ∧ Hid (G.length = m) ∧ GetI w wx w.heap.size w2.heap.size (w2.heap.size + 1) gz gp B D1 m n9 cp [.int .i64 0, .int .i64 0, .slice none 0 0, .int .i64 0, .int .i32 0, .int .i32 0] [.int .i64 W, .int .i64 H, .slice none 0 0, .int .i64 cell, .int .i32 q4, .int .i32 q5, .slice aA n9 cA, .slice aS n9 cS] [.int .i64 W, .int .i64 H, .slice (some ⟨gz, 0, none⟩) m m, .int .i64 cell, .int .i32 q4, .int .i32 q5] (plcs W n9) (.slice aA n9 cA) (.slice aS n9 cS) As Ss G) (fun _ c _ => n9 - (intOf c).toNat)
  case atStart => exact ⟨0, _, Nat.zero_le _, rfl, rfl, HP0, Lib.hid (by simp), hI0⟩
  case round =>
    clear hI0
    obtain ⟨i, G, hi, rfl, rfl, hP, hG, hI⟩ := hrel
    by_cases hlt : i < n9
    · have p0 := hI.op.cells (g := gp) rfl _ _ (plcs_at W n9 i hlt).1
      have p1 := hI.op.cells (g := gp) rfl _ _ (plcs_at W n9 i hlt).2
      rw [add_none, Nat.zero_add] at p0 p1
      have LY := fun gz D1 G zs az cz wx h1 h2 h3 h4 => CL.out i hlt gz D1 G zs az cz wx h1 h2 h3 h4
      obtain ⟨X, hX⟩ : ∃ X, X = i % cnt W := ⟨_, rfl⟩
      obtain ⟨Y, hY⟩ : ∃ Y, Y = i / cnt W := ⟨_, rfl⟩
      rw [← hX] at p0 LY
      rw [← hY] at p1 LY
      have LY := Lib.hid LY
      obtain ⟨w9, hw9⟩ : ∃ w9, wr.alloc (.cells #[.int .i64 X, .int .i64 Y] 62) = w9 := ⟨_, rfl⟩
      have hA9 : Below wr.heap.size wr w9 := by rw [← hw9]; exact (Below.refl _ _).alloc (Nat.le_refl _) _
      have KP : Blk w9 wr.heap.size 62 [.int .i64 X, .int .i64 Y] := by rw [← hw9]; exact Blk.new wr _ _
      have hgpz : gz < wr.heap.size := (hI.oz.lt _ rfl).2
      replace hI := hI.below hA9
      have d0 := hI.kD.cell (i := 0) rfl
      have d1 := hI.kD.cell (i := 1) rfl
      have d2 := hI.kD.cell (i := 2) rfl
      have d3 := hI.kD.cell (i := 3) rfl
      have d4 := hI.kD.cell (i := 4) rfl
      have d5 := hI.kD.cell (i := 5) rfl
      have d6 := hI.kD.cell (i := 6) rfl
      have d7 := hI.kD.cell (i := 7) rfl
      have D := Lib.hid (CT.out i hlt aA cA aS cS w9 (HS.out.below hI.bel) (Sl.of_own hI.oA) (Sl.of_own hI.oS))
      clear hX hY hA9
      go_wp2_with fail
      clear hw9
      refine D.out.mono ?_
      rintro e w10 ⟨zs, c, v, rfl, hR, ⟨az, nz, cz, rfl⟩, hz, hA⟩
      replace hI := hI.below hA
      replace KP := KP.below hA KP.lt
      have HR := Lib.hid hR
      have HZ := Lib.hid hz
      clear D hR hz hA p0 p1 d0 d1 d2 d3 d4 d5 d6 d7
      by_cases hc : c = 0
      · subst hc
        obtain ⟨hzl, hoz⟩ := HZ.out rfl
        obtain ⟨a', c', he, _, _⟩ := ownsRow_slice hoz
        cases he
        have D := Lib.hid (LY.out gz D1 G zs az cz w10 hG.out hzl hI.oz (Sl.of_own hoz))
        have hnx := HPn.out i G zs hlt hG.out hP.out HR.out hzl
        have HX1 := Lib.hid hnx.1
        have HX2 := Lib.hid hnx.2
        clear hzl hoz HZ HR hnx
        have b0 := hI.kC.cell (i := 0) rfl
        have b1 := hI.kC.cell (i := 1) rfl
        have b2 := hI.kC.cell (i := 2) rfl
        have q0 := KP.cell (i := 0) rfl
        have q1 := KP.cell (i := 1) rfl
        go_wp2_with fail
        refine D.out.mono ?_
        rintro e w11 ⟨rfl, ho, hT⟩
        replace hI := hI.lay hT ho
        clear D ho hT KP b0 b1 b2 q0 q1
        go_wp2_with fail
        go_roundw
        case rel => exact ⟨i + 1, _, by omega, by go_num, rfl, HX1, HX2, hI⟩
        case measure => simp [intOf]; omega
      · have hne : (c == 0) = false := by simpa using hc
        have b0 := hI.kC.cell (i := 0) rfl
        have b1 := hI.kC.cell (i := 1) rfl
        have b2 := hI.kC.cell (i := 2) rfl
        have b3 := hI.kC.cell (i := 3) rfl
        have b4 := hI.kC.cell (i := 4) rfl
        have b5 := hI.kC.cell (i := 5) rfl
        have bf0 := hI.kC.free 0
        have bf1 := hI.kC.free 1
        have bf2 := hI.kC.free 2
        have bf3 := hI.kC.free 3
        have bf4 := hI.kC.free 4
        have bf5 := hI.kC.free 5
        go_upto_region 16 with fail
        obtain ⟨w12, hw12⟩ : ∃ w12, ((((((w10.setCell ⟨w2.heap.size + 1, 0, none⟩ (.int .i64 0)).setCell ⟨w2.heap.size + 1, 1, none⟩ (.int .i64 0)).setCell ⟨w2.heap.size + 1, 2, none⟩ (.slice none 0 0)).setCell ⟨w2.heap.size + 1, 3, none⟩ (.int .i64 0)).setCell ⟨w2.heap.size + 1, 4, none⟩ (.int .i32 0)).setCell ⟨w2.heap.size + 1, 5, none⟩ (.int .i32 0)) = w12 := ⟨_, rfl⟩
        have K9 : Blk w12 (w2.heap.size + 1) 28 [.int .i64 0, .int .i64 0, .slice none 0 0, .int .i64 0, .int .i32 0, .int .i32 0] := by rw [← hw12]; exact blk_set6 hI.kC _ _ _ _ _ _
        have ht9 : Turned (fun k => k = w2.heap.size + 1) w10 w12 := by rw [← hw12]; exact turned_set6 w10 (w2.heap.size + 1) (.int .i64 0) (.int .i64 0) (.slice none 0 0) (.int .i64 0) (.int .i32 0) (.int .i32 0)
        have hle := hI.le
        have KR := hI.kR.turned ht9 (by omega)
        have hB12 := ht9.old hI.bel hI.bel.size (by rintro k hk rfl; omega)
        rw [hw12]
        clear hw12 b0 b1 b2 b3 b4 b5 bf0 bf1 bf2 bf3 bf4 bf5 hI KP ht9
        have b0 := K9.cell (i := 0) rfl
        have b1 := K9.cell (i := 1) rfl
        have b2 := K9.cell (i := 2) rfl
        have b3 := K9.cell (i := 3) rfl
        have b4 := K9.cell (i := 4) rfl
        have b5 := K9.cell (i := 5) rfl
        have z0 := KR.cell (i := 0) rfl
        have z1 := KR.cell (i := 1) rfl
        have z2 := KR.cell (i := 2) rfl
        have z3 := KR.cell (i := 3) rfl
        have z4 := KR.cell (i := 4) rfl
        have z5 := KR.cell (i := 5) rfl
        have zf0 := KR.free 0
        have zf1 := KR.free 1
        have zf2 := KR.free 2
        have zf3 := KR.free 3
        have zf4 := KR.free 4
        have zf5 := KR.free 5
        go_wp2_with fail
        try rw [Exit.noGoto_ret]
        refine bodyPost_ret (v := .tuple #[cv 0 0 (.slice none 0 0) 0 0 0, .int .i64 c]) (res_blk_tmp rfl rfl (blk_set6 KR _ _ _ _ _ _) Try.underlying28 rfl (by kernel_rfl) rfl) rfl ?_
        have ht := turned_set6 w12 w.heap.size (.int .i64 0) (.int .i64 0) (.slice none 0 0) (.int .i64 0) (.int .i32 0) (.int .i32 0)
        exact .inr ⟨i, c, zs, G, hlt, hc, hP.out, HR.out, rfl, ht.old hB12 hB12.size (by rintro k hk rfl; omega)⟩
    · obtain rfl : i = n9 := by omega
      have b0 := hI.kC.cell (i := 0) rfl
      have b1 := hI.kC.cell (i := 1) rfl
      have b2 := hI.kC.cell (i := 2) rfl
      have b3 := hI.kC.cell (i := 3) rfl
      have b4 := hI.kC.cell (i := 4) rfl
      have b5 := hI.kC.cell (i := 5) rfl
      have z0 := hI.kR.cell (i := 0) rfl
      have z1 := hI.kR.cell (i := 1) rfl
      have z2 := hI.kR.cell (i := 2) rfl
      have z3 := hI.kR.cell (i := 3) rfl
      have z4 := hI.kR.cell (i := 4) rfl
      have z5 := hI.kR.cell (i := 5) rfl
      have zf0 := hI.kR.free 0
      have zf1 := hI.kR.free 1
      have zf2 := hI.kR.free 2
      have zf3 := hI.kR.free 3
      have zf4 := hI.kR.free 4
      have zf5 := hI.kR.free 5
      go_wp2_with fail
      try rw [Exit.noGoto_ret]
      refine bodyPost_ret (v := .tuple #[cv W H (.slice (some ⟨gz, 0, none⟩) m m) cell q4 q5, .int .i64 0]) (res_blk_tmp rfl rfl (blk_set6 hI.kR _ _ _ _ _ _) Try.underlying28 rfl (by kernel_rfl) rfl) rfl ?_
      have ht := turned_set6 wr w.heap.size (.int .i64 W) (.int .i64 H) (.slice (some ⟨gz, 0, none⟩) m m) (.int .i64 cell) (.int .i32 q4) (.int .i32 q5)
      exact .inl ⟨G, _, hP.out, hG.out, rfl, ownsRow_base (ht.own hI.oz (fun k hk e => by have := (hI.oz.lt k hk).1; have := hI.le; omega)) hI.le.2.2.2.2.2.2.2.2, ht.old hI.bel hI.bel.size (by rintro k hk rfl; omega)⟩
end Go.Proofs.Ytdknnfineommoaa
