/-
  The law's maps; two maps held against each other.
-/
import Derived.Test.YtdknnfineommoaaChartW
import Derived.Test.YtdknnfineommoaaPackTile
set_option linter.unusedVariables false
set_option linter.unusedSimpArgs false
namespace Go.Proofs.Ytdknnfineommoaa
open Go Go.RowKit Go.Th Go.Th.Crc

/-- The law's field: the heights that are told, and then halves of them, again and again. -/
def fldAt (z : List Int) (i : Nat) : Int := if i < z.length then z.getD i 0 else (z.getD (i % z.length) 0).tdiv 2

set_option maxRecDepth 20000 in
set_option maxHeartbeats 3200000 in
theorem field9_any (p q n : Nat) (a : Option Addr) (cap : Nat) (z : List Int) (hp : p < 256) (hq : q < 256) (hz : z.length = n) (hn : n ≤ 2000) (h16 : ∀ u ∈ z, In16 u) (w : World) (hS : Sl w 1 (.slice a n cap) n (i16s z)) :
    Calls Try.prog 7 #[.int .u8 p, .int .u8 q, .slice a n cap] w fun e w' => ∃ (x y : Nat) (v : Value) (F : List Int), (x = 2 + p % 39 ∧ y = 2 + q % 39) ∧ (0 < n → F = (List.range (x * y)).map (fldAt z)) ∧ e = .returned (hv x y v) ∧ isF x y = true ∧ x ≤ 40 ∧ y ≤ 40 ∧ F.length = x * y ∧ (∀ u ∈ F, In16 u) ∧ w'.ownsRow w.heap.size 56 1 v (x * y) (i16s F) ∧ Below w.heap.size w w' := by
  obtain ⟨x, hx⟩ : ∃ x, x = 2 + p % 39 := ⟨_, rfl⟩
  obtain ⟨y, hy⟩ : ∃ y, y = 2 + q % 39 := ⟨_, rfl⟩
  have hx1 : 2 ≤ x ∧ x ≤ 40 := by omega
  have hy1 : 2 ≤ y ∧ y ≤ 40 := by omega
  have ex : (2 : Int) + (p : Int) % 39 = (x : Int) := by omega
  have ey : (2 : Int) + (q : Int) % 39 = (y : Int) := by omega
  have hle : x * y ≤ 40 * 40 := Nat.mul_le_mul hx1.2 hy1.2
  obtain ⟨m, hm⟩ : ∃ m, m = x * y := ⟨_, rfl⟩
  have hmul : (x : Int) * (y : Int) = (m : Int) := by rw [hm]; simp
  rw [← hm] at hle
  have HXY := Lib.hid (And.intro hx hy)
  have HM := Lib.hid hm
  have HX1 := Lib.hid hx1
  have HY1 := Lib.hid hy1
  have H16 := Lib.hid h16
  have HZ := Lib.hid hz
  have HS := Lib.hid hS
  have hmx := hS.max
  clear hx hy hm hx1 hy1 h16 hz hS
  go_enter Try.func7, Try.ntmps7
  go_wp2_with fail
  obtain ⟨w2, hw2⟩ : ∃ w2, (w.alloc (.cells #[.int .i64 0, .int .i64 0, .slice none 0 0] 25)).alloc (.cells #[.int .i64 x, .int .i64 y, .slice none 0 0] 25) = w2 := ⟨_, rfl⟩
  have hB2 : Below w.heap.size w w2 := by rw [← hw2]; exact ((Below.refl _ _).alloc (Nat.le_refl _) _).alloc (by simp) _
  have KA : Blk w2 w.heap.size 25 [.int .i64 0, .int .i64 0, .slice none 0 0] := by rw [← hw2]; exact (Blk.new w _ _).alloc _
  have K1 : Blk w2 (w.heap.size + 1) 25 [.int .i64 x, .int .i64 y, .slice none 0 0] := by
    rw [← hw2]
    have := Blk.new (w.alloc (.cells #[.int .i64 0, .int .i64 0, .slice none 0 0] 25)) 25 [.int .i64 x, .int .i64 y, .slice none 0 0]
    rw [World.size_alloc] at this
    exact this
  rw [hw2]
  clear hw2
  obtain ⟨D, hD⟩ : ∃ D, w2.heap.size = D := ⟨_, rfl⟩
  have hz2 := K1.lt
  have hz3 := hB2.size
  rw [hD] at hz2 hz3
  have hown : w2.ownsRow D 56 1 (.slice none 0 0) 0 (i16s []) := World.ownsRow_nil _ _ _ _
  have hDle : D ≤ w2.heap.size := by omega
  clear hD
  go_loopw [8] (fun c wx => ∃ (i : Nat) (v : Value) (l : List Int), i ≤ m ∧ c = .int .i64 i ∧ Hid (0 < n → l = (List.range i).map (fldAt z)) ∧ Hid (l.length = i) ∧ Hid (∀ u ∈ l, In16 u) ∧ wx.ownsRow D 56 1 v i (i16s l) ∧ Blk wx (w.heap.size + 1) 25 [.int .i64 x, .int .i64 y, v] ∧ Blk wx w.heap.size 25 [.int .i64 0, .int .i64 0, .slice none 0 0] ∧ Below w.heap.size w wx ∧ D ≤ wx.heap.size) (fun c _ => m - (intOf c).toNat)
  case atStart => exact ⟨0, _, [], Nat.zero_le _, rfl, Lib.hid (fun _ => rfl), Lib.hid rfl, Lib.hid (by intro u hu; cases hu), hown, K1, KA, hB2, hDle⟩
  case round =>
    clear hown K1 KA hB2 hDle
    obtain ⟨i, v, l, hi, rfl, hfl, hl, hl16, ho, K1, KA, hB, hDle⟩ := hrel
    have c0 := K1.cell (i := 0) rfl
    have c1 := K1.cell (i := 1) rfl
    have c2 := K1.cell (i := 2) rfl
    by_cases hlt : i < m
    · have fin : ∀ (u : Int) (w3 : World) (v2 : Value) (o : Obj), In16 u → (0 < n → u = fldAt z i) → w3.ownsRow D 56 1 v2 (i + 1) (i16s l ++ [.int .i16 u]) → (wr.alloc o).grownBy w3 v.ownBlock →
          w3.cell? ⟨w.heap.size + 1, 2, none⟩ = some v ∧ w3.frozen? ⟨w.heap.size + 1, 2, none⟩ = false ∧
          ∃ l2 : List Int, Hid (0 < n → l2 = (List.range (i + 1)).map (fldAt z)) ∧ Hid (l2.length = i + 1) ∧ Hid (∀ u ∈ l2, In16 u) ∧ (w3.setCell ⟨w.heap.size + 1, 2, none⟩ v2).ownsRow D 56 1 v2 (i + 1) (i16s l2) ∧ Blk (w3.setCell ⟨w.heap.size + 1, 2, none⟩ v2) (w.heap.size + 1) 25 [.int .i64 x, .int .i64 y, v2] ∧
          Blk (w3.setCell ⟨w.heap.size + 1, 2, none⟩ v2) w.heap.size 25 [.int .i64 0, .int .i64 0, .slice none 0 0] ∧ Below w.heap.size w (w3.setCell ⟨w.heap.size + 1, 2, none⟩ v2) ∧ D ≤ (w3.setCell ⟨w.heap.size + 1, 2, none⟩ v2).heap.size := by
        intro u w3 v2 o hu huf ho3 hg3
        have hA := app_below ho hDle hg3
        have K3 := K1.below hA hz2
        have KA3 := KA.below hA (by omega)
        have hB3 := hB.trans (hA.mono (by omega))
        refine ⟨K3.cell (i := 2) rfl, K3.free 2, l ++ [u], Lib.hid (fun h0 => by rw [List.range_succ, List.map_append, List.map_singleton, ← huf h0, ← hfl.out h0]), Lib.hid (by rw [List.length_append, hl.out]; rfl), Lib.hid ?_, ?_, K3.set 2 v2 (by simp), KA3.other _ _ (by simp), hB3.setCell (by simp) _, ?_⟩
        · intro t ht
          rcases List.mem_append.1 ht with ht | ht
          · exact hl16.out t ht
          · simp at ht; rw [ht]; exact hu
        · rw [i16s_snoc]
          refine ownsRow_setCell_other ho3 ?_ _
          intro e
          have := (ho3.lt _ e).1
          simp at this
          omega
        · have := hA.size; simp [World.setCell]; omega
      have FIN := Lib.hid fin
      clear fin
      by_cases hin : i < n
      · obtain ⟨b, o, rfl, hbl, hc⟩ := cell_i16D HS.out i (by rw [HZ.out]; exact hin)
        have hc' := (hB.cell (p := ⟨b, o + i, none⟩) hbl).trans hc
        have hu := getD_in16 H16.out i
        have huf : z.getD i 0 = fldAt z i := by unfold fldAt; rw [if_pos (by rw [HZ.out]; exact hin)]
        obtain ⟨u, huu⟩ : ∃ u, u = z.getD i 0 := ⟨_, rfl⟩
        rw [← huu] at huf
        have HUF := Lib.hid huf
        clear huf
        rw [← huu] at hc' hu
        clear hc huu
        go_wp2_with (at_builtin; refine wpList_app E16 rfl (.tmp 51) (.tmp 53) rfl D rfl (ho.alloc _) rfl (Sl.one _ _ _) (by intro u hu; simp at hu; subst hu; rfl) (by unfold maxLen; omega) (by omega) (by simp; omega) ?_)
        intro v2 w3 ho3 hg3 _
        obtain ⟨a2, cap2, rfl, _, _⟩ := ownsRow_slice ho3
        obtain ⟨d2, e2, l2, r0, r1, r2, r3, r4, r5, r6, r7⟩ := FIN.out u w3 _ _ hu (fun _ => HUF.out) ho3 hg3
        clear ho hg3 hB c0 c1 c2 K1 KA
        go_wp2_with fail
        go_roundw
        case rel => exact ⟨i + 1, _, l2, by omega, by go_num, r0, r1, r2, r3, r4, r5, r6, r7⟩
        case measure => simp [intOf]; omega
      · by_cases h0 : 0 < n
        · have hk : i % n < n := Nat.mod_lt _ h0
          obtain ⟨b, o, rfl, hbl, hc⟩ := cell_i16D HS.out (i % n) (by rw [HZ.out]; exact hk)
          have hc' := (hB.cell (p := ⟨b, o + i % n, none⟩) hbl).trans hc
          have hu := getD_in16 H16.out (i % n)
          obtain ⟨u, huu⟩ : ∃ u, u = z.getD (i % n) 0 := ⟨_, rfl⟩
          rw [← huu] at hc' hu
          have ht := tdiv_in16 hu
          obtain ⟨u1, u2⟩ := in16_def hu
          obtain ⟨s, hs⟩ : ∃ s, u.tdiv 2 = s := ⟨_, rfl⟩
          rw [hs] at ht
          have HSF : Hid (s = fldAt z i) := by show _ = _; unfold fldAt; rw [if_neg (by rw [HZ.out]; exact hin), HZ.out, ← huu, hs]
          have hsw : IntKind.i16.wrap s = s := by
            obtain ⟨s1, s2⟩ := in16_def ht
            simp [IntKind.wrap, IntKind.bits, IntKind.signed]; omega
          have hik : (i : Int) % (n : Int) = ((i % n : Nat) : Int) := by simp
          obtain ⟨k, hkk⟩ : ∃ k, k = i % n := ⟨_, rfl⟩
          rw [← hkk] at hc' hk hik
          clear hc huu hkk hu
          go_wp2_with (at_builtin; refine wpList_app E16 rfl (.tmp 51) (.tmp 53) rfl D rfl (ho.alloc _) rfl (Sl.one _ _ _) (by intro u hu; simp at hu; subst hu; rfl) (by unfold maxLen; omega) (by omega) (by simp; omega) ?_)
          intro v2 w3 ho3 hg3 _
          obtain ⟨a2, cap2, rfl, _, _⟩ := ownsRow_slice ho3
          obtain ⟨d2, e2, l2, r0, r1, r2, r3, r4, r5, r6, r7⟩ := FIN.out s w3 _ _ ht (fun _ => HSF.out) ho3 hg3
          clear ho hg3 hB c0 c1 c2 K1 KA
          go_wp2_with fail
          go_roundw
          case rel => exact ⟨i + 1, _, l2, by omega, by go_num, r0, r1, r2, r3, r4, r5, r6, r7⟩
          case measure => simp [intOf]; omega
        · have hn0 : ¬ (0 : Int) < (n : Int) := by omega
          go_wp2_with (at_builtin; refine wpList_app E16 rfl (.tmp 51) (.tmp 53) rfl D rfl (ho.alloc _) rfl (Sl.one _ _ _) (by intro u hu; simp at hu; subst hu; rfl) (by unfold maxLen; omega) (by omega) (by simp; omega) ?_)
          intro v2 w3 ho3 hg3 _
          obtain ⟨a2, cap2, rfl, _, _⟩ := ownsRow_slice ho3
          obtain ⟨d2, e2, l2, r0, r1, r2, r3, r4, r5, r6, r7⟩ := FIN.out _ w3 _ _ ⟨by omega, by omega⟩ (fun h => by omega) ho3 hg3
          clear ho hg3 hB c0 c1 c2 K1 KA
          go_wp2_with fail
          go_roundw
          case rel => exact ⟨i + 1, _, l2, by omega, by go_num, r0, r1, r2, r3, r4, r5, r6, r7⟩
          case measure => simp [intOf]; omega
    · obtain rfl : i = m := by omega
      obtain ⟨av, cv, rfl, _, _⟩ := ownsRow_slice ho
      have a0 := KA.cell (i := 0) rfl
      have a1 := KA.cell (i := 1) rfl
      have a2 := KA.cell (i := 2) rfl
      have b0 := KA.free 0
      have b1 := KA.free 1
      have b2 := KA.free 2
      have KB := ((KA.set 0 (.int .i64 x) (by simp)).set 1 (.int .i64 y) (by simp)).set 2 (.slice av i cv) (by simp)
      obtain ⟨q1, q2⟩ := HX1.out
      obtain ⟨q3, q4⟩ := HY1.out
      go_wp2_with fail
      refine bodyPost_ret (v := hv x y (.slice av i cv)) (res_blk rfl rfl KB Try.underlying25 rfl (by kernel_rfl)) rfl ?_
      refine ⟨x, y, _, l, HXY.out, fun h => by rw [← HM.out]; exact hfl.out h, rfl, isF_of (by omega), q2, q4, by rw [hl.out, HM.out], hl16.out, ?_, ?_⟩
      · rw [← HM.out]
        refine ownsRow_base ?_ (by omega : w.heap.size ≤ D)
        refine ownsRow_setCell_other (ownsRow_setCell_other (ownsRow_setCell_other ho ?_ _) ?_ _) ?_ _
        all_goals (intro e; have := (ho.lt _ e).1; simp at this; omega)
      · exact ((hB.setCell (Nat.le_refl _) _).setCell (Nat.le_refl _) _).setCell (Nat.le_refl _) _

set_option maxRecDepth 20000 in
set_option maxHeartbeats 3200000 in
theorem made9_any (p q n k c : Nat) (ox oy : Int) (a : Option Addr) (cap : Nat) (z : List Int) (hp : p < 256) (hq : q < 256) (hk : k < 65536) (hc : c = 1 + k % 1000) (hz : z.length = n) (hn : n ≤ 2000) (h16 : ∀ u ∈ z, In16 u) (w : World) (hS : Sl w 1 (.slice a n cap) n (i16s z)) :
    Calls Try.prog 17 #[.int .u8 p, .int .u8 q, .slice a n cap, .int .u16 k, .int .i32 ox, .int .i32 oy] w fun e w' => ∃ (x y : Nat) (v : Value) (F : List Int), e = .returned (cv x y v c ox oy) ∧ isF x y = true ∧ x ≤ 40 ∧ y ≤ 40 ∧ F.length = x * y ∧ (∀ u ∈ F, In16 u) ∧ w'.ownsRow w.heap.size 56 1 v (x * y) (i16s F) ∧ Below w.heap.size w w' := by
  obtain ⟨w1, hw1⟩ : ∃ w1, w.alloc (.cells #[.int .i64 0, .int .i64 0, .slice none 0 0, .int .i64 0, .int .i32 0, .int .i32 0] 28) = w1 := ⟨_, rfl⟩
  have hB1 : Below w.heap.size w w1 := by rw [← hw1]; exact (Below.refl _ _).alloc (Nat.le_refl _) _
  have KA : Blk w1 w.heap.size 28 [.int .i64 0, .int .i64 0, .slice none 0 0, .int .i64 0, .int .i32 0, .int .i32 0] := by rw [← hw1]; exact Blk.new w _ _
  have C1 := Lib.hid (field_any p q n a cap z hp hq hz hn h16 w1 (hS.below hB1))
  have hci : 1 + (k : Int) % 1000 = (c : Int) := by omega
  clear hp hq hz hn h16 hS hc
  go_enter Try.func17, Try.ntmps17
  go_wp2_with fail
  clear hw1
  refine C1.out.mono ?_
  rintro e w2 ⟨x, y, v, F, rfl, hF, hx, hy, hl, hF16, ho, hA⟩
  obtain ⟨av, cw, rfl, _, _⟩ := ownsRow_slice ho
  have hga : w.heap.size < w1.heap.size := KA.lt
  replace KA := KA.below hA KA.lt
  have hz1 := hB1.size
  have hB2 := hB1.trans (hA.mono hB1.size)
  clear C1 hA hB1
  have a0 := KA.cell (i := 0) rfl
  have a1 := KA.cell (i := 1) rfl
  have a2 := KA.cell (i := 2) rfl
  have a3 := KA.cell (i := 3) rfl
  have a4 := KA.cell (i := 4) rfl
  have a5 := KA.cell (i := 5) rfl
  have f0 := KA.free 0
  have f1 := KA.free 1
  have f2 := KA.free 2
  have f3 := KA.free 3
  have f4 := KA.free 4
  have f5 := KA.free 5
  have HF := Lib.hid hF
  have HL := Lib.hid hl
  have H16 := Lib.hid hF16
  have HO := Lib.hid ho
  clear hF hl hF16 ho
  go_wp2_with fail
  refine bodyPost_ret (v := cv x y (.slice av (x * y) cw) c ox oy) (res_blk rfl rfl (blk_set6 KA _ _ _ _ _ _) Try.underlying28 rfl (by kernel_rfl)) rfl ?_
  have ht := turned_set6 w2 w.heap.size (.int .i64 x) (.int .i64 y) (.slice av (x * y) cw) (.int .i64 c) (.int .i32 ox) (.int .i32 oy)
  exact ⟨x, y, _, F, rfl, HF.out, hx, hy, HL.out, H16.out, ownsRow_base (ht.own HO.out (by rintro j hj rfl; have := (HO.out.lt _ hj).1; omega)) hz1, ht.old hB2 hB2.size (by rintro j hj rfl; omega)⟩

set_option maxRecDepth 20000 in
set_option maxHeartbeats 3200000 in
theorem same9_any (W H n cell : Nat) (ox oy : Int) (a b : Option Addr) (c1 c2 : Nat) (z : List Int) (hz : z.length = n) (hn : n ≤ 1000000) (w : World) (hA : Sl w 1 (.slice a n c1) n (i16s z)) (hB : Sl w 1 (.slice b n c2) n (i16s z)) :
    Calls Try.prog 19 #[cv W H (.slice a n c1) cell ox oy, cv W H (.slice b n c2) cell ox oy] w fun e w' => e = .returned (.bool true) ∧ Below w.heap.size w w' := by
  obtain ⟨w1, hw1⟩ : ∃ w1, (w.alloc (.cells #[.int .i64 W, .int .i64 H, .slice a n c1, .int .i64 cell, .int .i32 ox, .int .i32 oy] 28)).alloc (.cells #[.int .i64 W, .int .i64 H, .slice b n c2, .int .i64 cell, .int .i32 ox, .int .i32 oy] 28) = w1 := ⟨_, rfl⟩
  have hB1 : Below w.heap.size w w1 := by rw [← hw1]; exact ((Below.refl _ _).alloc (Nat.le_refl _) _).alloc (by simp) _
  have K1 : Blk w1 w.heap.size 28 [.int .i64 W, .int .i64 H, .slice a n c1, .int .i64 cell, .int .i32 ox, .int .i32 oy] := by rw [← hw1]; exact (Blk.new w _ _).alloc _
  have K2 : Blk w1 (w.heap.size + 1) 28 [.int .i64 W, .int .i64 H, .slice b n c2, .int .i64 cell, .int .i32 ox, .int .i32 oy] := by
    rw [← hw1]
    have := Blk.new (w.alloc (.cells #[.int .i64 W, .int .i64 H, .slice a n c1, .int .i64 cell, .int .i32 ox, .int .i32 oy] 28)) 28 [.int .i64 W, .int .i64 H, .slice b n c2, .int .i64 cell, .int .i32 ox, .int .i32 oy]
    rw [World.size_alloc] at this
    exact this
  have C1 := Lib.hid (same16_any a b n c1 c2 z hz hn w1 (hA.below hB1) (hB.below hB1))
  have e1 : ((W : Int) == (W : Int)) = true := by simp
  have e2 : ((H : Int) == (H : Int)) = true := by simp
  have e3 : ((cell : Int) == (cell : Int)) = true := by simp
  have e4 : (ox == ox) = true := by simp
  have e5 : (oy == oy) = true := by simp
  have a0 := K1.cell (i := 0) rfl
  have a1 := K1.cell (i := 1) rfl
  have a2 := K1.cell (i := 2) rfl
  have a3 := K1.cell (i := 3) rfl
  have a4 := K1.cell (i := 4) rfl
  have a5 := K1.cell (i := 5) rfl
  have b0 := K2.cell (i := 0) rfl
  have b1 := K2.cell (i := 1) rfl
  have b2 := K2.cell (i := 2) rfl
  have b3 := K2.cell (i := 3) rfl
  have b4 := K2.cell (i := 4) rfl
  have b5 := K2.cell (i := 5) rfl
  clear hz hA hB K1 K2
  go_enter Try.func19, Try.ntmps19
  go_wp2_with fail
  clear hw1
  refine C1.out.mono ?_
  rintro e w2 ⟨rfl, hA⟩
  go_wp2_with fail
  go_ret
  exact ⟨rfl, hB1.trans (hA.mono hB1.size)⟩
end Go.Proofs.Ytdknnfineommoaa
