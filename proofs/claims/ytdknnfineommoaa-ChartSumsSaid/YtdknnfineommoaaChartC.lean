/-
  The header written; a tile's bytes; the places, row by row: the code's.
-/
import Derived.Test.YtdknnfineommoaaChartB
import Derived.Test.YtdknnfineommoaaChartT
import Derived.Test.YtdknnfineommoaaPackTile
set_option linter.unusedVariables false
set_option linter.unusedSimpArgs false
namespace Go.Th
open Go Go.RowKit
theorem Sl.two {w : World} (u v : Value) (t : TypeId) : Sl (w.alloc (.cells #[u, v] t)) 2 (.slice (some ⟨w.heap.size, 0, none⟩) 1 1) 1 [u, v] := by
  refine ⟨_, _, rfl, rfl, Nat.le_refl _, by unfold maxLen; omega, fun h => (by cases h), ?_⟩
  intro j x h
  match j, h with
  | 0, h =>
    simp at h; subst h
    exact ⟨_, _, rfl, by rw [World.cell?_alloc_at _ _ _ _ (by simp)]; rfl⟩
  | 1, h =>
    simp at h; subst h
    exact ⟨_, _, rfl, by rw [World.cell?_alloc_at _ _ _ _ (by simp)]; rfl⟩
end Go.Th
namespace Go.Proofs.Ytdknnfineommoaa
open Go Go.RowKit Go.Th Go.Th.Crc

/-- Numbers in bytes written behind others, with names for both. -/
theorem bput9_any (vx : Value) (bs gs : List Nat) (k n m x : Nat) (hk : bs.length = k) (hg : gs = bs ++ lowB x n) (hm : m = k + n) (hl : k ≤ 1000000000) (hx : x < 18446744073709551616) (hn : n ≤ 1000000) (w : World) (h : Sl w 1 vx k (u8s bs)) :
    Calls Try.prog 25 #[vx, .int .u64 x, .int .i64 n] w fun e w' => ∃ v, e = .returned v ∧ w'.ownsRow w.heap.size 5 1 v m (u8s gs) ∧ Below w.heap.size w w' := by
  subst hk hg hm
  exact bput_any vx bs x n w h (by omega) hx hn
theorem put9_len {bs gs : List Nat} {k n m x : Nat} (hk : bs.length = k) (hg : gs = bs ++ lowB x n) (hm : m = k + n) : gs.length = m := by subst hk hg hm; rw [List.length_append, lowB_length]
theorem u32_wrap (x : Int) : IntKind.u32.wrap x = (u32 x : Int) := by
  unfold u32
  simp [IntKind.wrap, IntKind.bits, IntKind.signed]
  omega
/-- A number of 32 bits with a sign. -/
def In32' (x : Int) : Prop := -2147483648 ≤ x ∧ x ≤ 2147483647
theorem u32_back {x : Int} (h : In32' x) : IntKind.i32.wrap (u32 x : Int) = x := by
  obtain ⟨h1, h2⟩ := h
  unfold u32
  simp [IntKind.wrap, IntKind.bits, IntKind.signed]
  omega

set_option maxRecDepth 20000 in
set_option maxHeartbeats 3200000 in
theorem header_any (W H cell : Nat) (ox oy : Int) (a : Option Addr) (n cap : Nat) (hW : W ≤ 256) (hH : H ≤ 256) (hc : cell ≤ 1000) (w : World) :
    Calls Try.prog 22 #[cv W H (.slice a n cap) cell ox oy] w fun e w' => ∃ v, e = .returned v ∧ w'.ownsRow w.heap.size 5 1 v 18 (u8s (head18 W H cell ox oy)) ∧ Below w.heap.size w w' := by
  obtain ⟨g1, h1⟩ : ∃ g, g = [] ++ lowB 1296978516 4 := ⟨_, rfl⟩
  obtain ⟨g2, h2⟩ : ∃ g, g = g1 ++ lowB W 2 := ⟨_, rfl⟩
  obtain ⟨g3, h3⟩ : ∃ g, g = g2 ++ lowB H 2 := ⟨_, rfl⟩
  obtain ⟨g4, h4⟩ : ∃ g, g = g3 ++ lowB cell 2 := ⟨_, rfl⟩
  obtain ⟨g5, h5⟩ : ∃ g, g = g4 ++ lowB (u32 ox) 4 := ⟨_, rfl⟩
  obtain ⟨g6, h6⟩ : ∃ g, g = g5 ++ lowB (u32 oy) 4 := ⟨_, rfl⟩
  have e6 : head18 W H cell ox oy = g6 := by
    unfold head18
    rw [h6, h5, h4, h3, h2, h1]
    simp only [List.nil_append, List.append_assoc]
  have l1 := put9_len (k := 0) rfl h1 (show 4 = 0 + 4 from rfl)
  have l2 := put9_len l1 h2 (show 6 = 4 + 2 from rfl)
  have l3 := put9_len l2 h3 (show 8 = 6 + 2 from rfl)
  have l4 := put9_len l3 h4 (show 10 = 8 + 2 from rfl)
  have l5 := put9_len l4 h5 (show 14 = 10 + 4 from rfl)
  have u1 := u32_lt ox
  have u2 := u32_lt oy
  have o1 := u32_wrap ox
  have o2 := u32_wrap oy
  obtain ⟨x1, hx1⟩ : ∃ x, x = u32 ox := ⟨_, rfl⟩
  obtain ⟨x2, hx2⟩ : ∃ x, x = u32 oy := ⟨_, rfl⟩
  rw [← hx1] at h5 u1 o1
  rw [← hx2] at h6 u2 o2
  rw [e6]
  have C1 := Lib.hid (fun wx => bput9_any (.slice none 0 0) [] g1 0 4 4 1296978516 rfl h1 rfl (by omega) (by omega) (by omega) wx (Sl.nil _ _))
  have C2 := Lib.hid (fun vx wx hs => bput9_any vx g1 g2 4 2 6 W l1 h2 rfl (by omega) (by omega) (by omega) wx hs)
  have C3 := Lib.hid (fun vx wx hs => bput9_any vx g2 g3 6 2 8 H l2 h3 rfl (by omega) (by omega) (by omega) wx hs)
  have C4 := Lib.hid (fun vx wx hs => bput9_any vx g3 g4 8 2 10 cell l3 h4 rfl (by omega) (by omega) (by omega) wx hs)
  have C5 := Lib.hid (fun vx wx hs => bput9_any vx g4 g5 10 4 14 x1 l4 h5 rfl (by omega) (by omega) (by omega) wx hs)
  have C6 := Lib.hid (fun vx wx hs => bput9_any vx g5 g6 14 4 18 x2 l5 h6 rfl (by omega) (by omega) (by omega) wx hs)
  have hB1 : Below w.heap.size w (w.alloc (.cells #[.int .i64 W, .int .i64 H, .slice a n cap, .int .i64 cell, .int .i32 ox, .int .i32 oy] 28)) := (Below.refl _ _).alloc (Nat.le_refl _) _
  have KC : Blk (w.alloc (.cells #[.int .i64 W, .int .i64 H, .slice a n cap, .int .i64 cell, .int .i32 ox, .int .i32 oy] 28)) w.heap.size 28 [.int .i64 W, .int .i64 H, .slice a n cap, .int .i64 cell, .int .i32 ox, .int .i32 oy] := Blk.new w _ _
  obtain ⟨w1, hw1⟩ : ∃ w1, w.alloc (.cells #[.int .i64 W, .int .i64 H, .slice a n cap, .int .i64 cell, .int .i32 ox, .int .i32 oy] 28) = w1 := ⟨_, rfl⟩
  rw [hw1] at hB1 KC
  clear h1 h2 h3 h4 h5 h6 l1 l2 l3 l4 l5 e6 hx1 hx2
  go_enter Try.func22, Try.ntmps22
  go_wp2_with fail
  clear hw1
  refine (C1.out _).mono ?_
  rintro e w2 ⟨v2, rfl, ho2, hA2⟩
  clear C1
  obtain ⟨a2, c2, rfl, _, _⟩ := ownsRow_slice ho2
  replace KC := KC.below hA2 KC.lt
  have hB2 := hB1.trans (hA2.mono hB1.size)
  have D2 := Lib.hid (C2.out _ w2 (Sl.of_own ho2))
  have c0 := KC.cell (i := 0) rfl
  clear hA2 ho2 C2 hB1
  go_wp2_with fail
  refine D2.out.mono ?_
  rintro e w3 ⟨v3, rfl, ho3, hA3⟩
  clear D2 c0
  obtain ⟨a3, c3, rfl, _, _⟩ := ownsRow_slice ho3
  replace KC := KC.below hA3 KC.lt
  have hB3 := hB2.trans (hA3.mono hB2.size)
  have D3 := Lib.hid (C3.out _ w3 (Sl.of_own ho3))
  have c0 := KC.cell (i := 1) rfl
  clear hA3 ho3 C3 hB2
  go_wp2_with fail
  refine D3.out.mono ?_
  rintro e w4 ⟨v4, rfl, ho4, hA4⟩
  clear D3 c0
  obtain ⟨a4, c4, rfl, _, _⟩ := ownsRow_slice ho4
  replace KC := KC.below hA4 KC.lt
  have hB4 := hB3.trans (hA4.mono hB3.size)
  have D4 := Lib.hid (C4.out _ w4 (Sl.of_own ho4))
  have c0 := KC.cell (i := 3) rfl
  clear hA4 ho4 C4 hB3
  go_wp2_with fail
  refine D4.out.mono ?_
  rintro e w5 ⟨v5, rfl, ho5, hA5⟩
  clear D4 c0
  obtain ⟨a5, c5, rfl, _, _⟩ := ownsRow_slice ho5
  replace KC := KC.below hA5 KC.lt
  have hB5 := hB4.trans (hA5.mono hB4.size)
  have D5 := Lib.hid (C5.out _ w5 (Sl.of_own ho5))
  have c0 := KC.cell (i := 4) rfl
  clear hA5 ho5 C5 hB4
  go_wp2_with fail
  refine D5.out.mono ?_
  rintro e w6 ⟨v6, rfl, ho6, hA6⟩
  clear D5 c0
  obtain ⟨a6, c6, rfl, _, _⟩ := ownsRow_slice ho6
  replace KC := KC.below hA6 KC.lt
  have hB6 := hB5.trans (hA6.mono hB5.size)
  have D6 := Lib.hid (C6.out _ w6 (Sl.of_own ho6))
  have c0 := KC.cell (i := 5) rfl
  clear hA6 ho6 C6 hB5
  go_wp2_with fail
  refine D6.out.mono ?_
  rintro e w7 ⟨v7, rfl, ho7, hA7⟩
  clear D6 c0
  have hB7 := hB6.trans (hA7.mono hB6.size)
  go_wp2_with fail
  go_ret
  exact ⟨_, rfl, ownsRow_base ho7 hB6.size, hB7⟩

set_option maxRecDepth 20000 in
set_option maxHeartbeats 3200000 in
theorem heights9_any (W H i n : Nat) (a : Option Addr) (cap : Nat) (F : List Int) (hF : isF W H = true) (hn : n = W * H) (hi : i < nT W H) (hl : F.length = n) (h16 : ∀ u ∈ F, In16 u) (w : World) (hS : Sl w 1 (.slice a n cap) n (i16s F)) :
    Calls Try.prog 24 #[hv W H (.slice a n cap), pv ((i % cnt W : Nat) : Int) ((i / cnt W : Nat) : Int)] w fun e w' => ∃ v k L, e = .returned v ∧ putB L = tileB F W H i ∧ L.length = k ∧ (∀ x ∈ L, x < 256) ∧ w'.ownsRow w.heap.size 5 1 v k (u8s L) ∧ Below w.heap.size w w' := by
  obtain ⟨hX, hY, hXY⟩ := tile_xy W H i hi
  have hLe : tileB F W H i = putB (pack (row (deltas (side W (i % cnt W)) (tileAt F W H i)))) := rfl
  have hAl := tileAt_length F W H i (by rw [hl, hn]) hi
  have hA16 : ∀ u ∈ tileAt F W H i, In16 u := fun u hu => h16 u (mem_tileTo hu)
  have hAe : tileAt F W H i = tileTo F W (16 * (i % cnt W)) (16 * (i / cnt W)) (side W (i % cnt W)) (side H (i / cnt W)) := rfl
  obtain ⟨X, hXe⟩ : ∃ X, X = i % cnt W := ⟨_, rfl⟩
  obtain ⟨Y, hYe⟩ : ∃ Y, Y = i / cnt W := ⟨_, rfl⟩
  rw [← hXe] at hX hXY hLe hAl hAe ⊢
  rw [← hYe] at hY hXY hAl hAe ⊢
  have p1 := (side_pos W X).2 hX
  have p2 := (side_pos H Y).2 hY
  have s1 := side_le W X
  have s2 := side_le H Y
  have C1 := fun wx => box_yes W H X Y hF hX hY wx
  have C2 := fun wx hs => cut_yes W H X Y n a cap F hF hn hX hY hl wx hs
  rw [← hAe] at C2
  rw [hLe]
  obtain ⟨sx, hsx⟩ : ∃ s, s = side W X := ⟨_, rfl⟩
  obtain ⟨sy, hsy⟩ : ∃ s, s = side H Y := ⟨_, rfl⟩
  obtain ⟨m, hm⟩ : ∃ m, m = sy * sx := ⟨_, rfl⟩
  rw [← hsx] at p1 s1 C1 C2 hAl ⊢
  rw [← hsy] at p2 s2 C1 C2 hAl
  rw [← hm] at C2 hAl
  obtain ⟨Z, hZ⟩ : ∃ Z, Z = tileAt F W H i := ⟨_, rfl⟩
  rw [← hZ] at C2 hAl hA16 ⊢
  have C3 := fun a' cap' wx hs => tput_any sx sy m a' cap' Z hAl (by rw [hm, Nat.mul_comm]) hA16 (isT_of (by omega)) wx hs
  obtain ⟨px, hpx⟩ : ∃ p, p = 16 * X := ⟨_, rfl⟩
  obtain ⟨py, hpy⟩ : ∃ p, p = 16 * Y := ⟨_, rfl⟩
  rw [← hpx, ← hpy] at C1
  obtain ⟨L, hL⟩ : ∃ L, L = pack (row (deltas sx Z)) := ⟨_, rfl⟩
  have hLlt : ∀ x ∈ L, x < 256 := by rw [hL]; exact pack_lt _
  rw [← hL] at C3 ⊢
  obtain ⟨k, hk⟩ : ∃ k, k = L.length := ⟨_, rfl⟩
  rw [← hk] at C3
  have C1 := Lib.hid C1
  have C2 := Lib.hid C2
  have C3 := Lib.hid C3
  have HS := Lib.hid hS
  have HK := Lib.hid hk
  have HLT := Lib.hid hLlt
  clear hF hn hX hY hl hS hXY hLe hAl hAe hA16 h16 hm hpx hpy hsx hsy hL hZ hXe hYe hi hk hLlt
  go_enter Try.func24, Try.ntmps24
  go_wp2_with fail
  obtain ⟨w2, hw2⟩ : ∃ w2, (w.alloc (.cells #[.int .i64 W, .int .i64 H, .slice a n cap] 25)).alloc (.cells #[.int .i64 X, .int .i64 Y] 62) = w2 := ⟨_, rfl⟩
  have hB2 : Below w.heap.size w w2 := by rw [← hw2]; exact ((Below.refl _ _).alloc (Nat.le_refl _) _).alloc (by simp) _
  have K1 : Blk w2 w.heap.size 25 [.int .i64 W, .int .i64 H, .slice a n cap] := by rw [← hw2]; exact (Blk.new w _ _).alloc _
  have K2 : Blk w2 (w.heap.size + 1) 62 [.int .i64 X, .int .i64 Y] := by
    rw [← hw2]
    have := Blk.new (w.alloc (.cells #[.int .i64 W, .int .i64 H, .slice a n cap] 25)) 62 [.int .i64 X, .int .i64 Y]
    rw [World.size_alloc] at this
    exact this
  rw [hw2]
  clear hw2
  refine (C1.out w2).mono ?_
  rintro e w3 ⟨rfl, hA3⟩
  clear C1
  have hB3 := hB2.trans (hA3.mono hB2.size)
  replace K1 := K1.below hA3 K1.lt
  replace K2 := K2.below hA3 K2.lt
  clear hB2 hA3
  have D2 := Lib.hid (C2.out w3 (HS.out.below hB3))
  have c0 := K1.cell (i := 0) rfl
  have c1 := K1.cell (i := 1) rfl
  have c2 := K1.cell (i := 2) rfl
  have d0 := K2.cell (i := 0) rfl
  have d1 := K2.cell (i := 1) rfl
  clear C2 K1 K2
  go_wp2_with fail
  refine D2.out.mono ?_
  rintro e w4 ⟨v4, rfl, ho4, hA4⟩
  clear D2 c0 c1 c2 d0 d1
  have hB4 := hB3.trans (hA4.mono hB3.size)
  obtain ⟨a4, cap4, rfl, _, _⟩ := ownsRow_slice ho4
  have D3 := Lib.hid (C3.out a4 cap4 w4 (Sl.of_own ho4))
  clear hB3 hA4 C3 ho4
  go_wp2_with fail
  refine D3.out.mono ?_
  rintro e w5 ⟨v5, rfl, ho5, hA5⟩
  clear D3
  have hB5 := hB4.trans (hA5.mono hB4.size)
  go_wp2_with fail
  go_ret
  exact ⟨_, k, L, rfl, rfl, HK.out.symm, HLT.out, ownsRow_base ho5 hB4.size, hB5⟩

/-! ### The places -/
theorem Eplc : ElemOf Try.prog 58 62 2 16 := ElemOf.mk' Try.underlying58 (z := pv 0 0) (by kernel_rfl) rfl (by decide)
def plcs (W n : Nat) : List Value := (List.range n).flatMap fun i => [.int .i64 ((i % cnt W : Nat) : Int), .int .i64 ((i / cnt W : Nat) : Int)]
theorem plcs_succ (W n : Nat) : plcs W (n + 1) = plcs W n ++ [.int .i64 ((n % cnt W : Nat) : Int), .int .i64 ((n / cnt W : Nat) : Int)] := by simp [plcs, List.range_succ]
theorem plcs_length (W n : Nat) : (plcs W n).length = n * 2 := by
  induction n with
  | zero => rfl
  | succ n ih => rw [plcs_succ, List.length_append, ih]; simp; omega
theorem plcs_at (W n i : Nat) (h : i < n) : (plcs W n)[i * 2]? = some (.int .i64 ((i % cnt W : Nat) : Int)) ∧ (plcs W n)[i * 2 + 1]? = some (.int .i64 ((i / cnt W : Nat) : Int)) := by
  induction n with
  | zero => omega
  | succ n ih =>
    rw [plcs_succ]
    have hl := plcs_length W n
    by_cases e : i = n
    · subst e
      rw [List.getElem?_append_right (by omega), List.getElem?_append_right (by omega), hl, Nat.sub_self, Nat.add_sub_cancel_left]
      exact ⟨rfl, rfl⟩
    · rw [List.getElem?_append_left (by omega), List.getElem?_append_left (by omega)]
      exact ih (by omega)

set_option maxRecDepth 20000 in
set_option maxHeartbeats 1600000 in
theorem places_any (W H : Nat) (hF : isF W H = true) (w : World) :
    Calls Try.prog 21 #[.int .i64 W, .int .i64 H] w fun e w' => ∃ v, e = .returned v ∧ w'.ownsRow w.heap.size 62 2 v (nT W H) (plcs W (nT W H)) ∧ Below w.heap.size w w' := by
  obtain ⟨h1, h2, h3, h4⟩ := isF_yes hF
  have l := nT_le (W := W) (H := H) (by omega) (by omega)
  have C1 := count9_any W H hF
  have C2 := fun i hi => place_any W i (by omega) (by omega) hi
  obtain ⟨n, hn⟩ : ∃ n, n = nT W H := ⟨_, rfl⟩
  rw [← hn] at C1 l ⊢
  have C1 := Lib.hid C1
  have C2 := Lib.hid C2
  clear hF hn
  go_enter Try.func21, Try.ntmps21
  go_wp2_with fail
  refine (C1.out w).mono ?_
  rintro e w1 ⟨rfl, hB1⟩
  clear C1
  go_wp2_with fail
  go_loopw [5, 10] (fun v c wx => ∃ i : Nat, i ≤ n ∧ c = .int .i64 i ∧ wx.ownsRow w.heap.size 62 2 v i (plcs W i) ∧ Below w.heap.size w wx) (fun _ c _ => n - (intOf c).toNat)
  case atStart => exact ⟨0, Nat.zero_le _, rfl, World.ownsRow_nil _ _ _ _, hB1⟩
  case round =>
    clear hB1
    obtain ⟨i, hi, rfl, ho, hB⟩ := hrel
    by_cases hlt : i < n
    · have D2 := Lib.hid (C2.out i (by omega) wr)
      have hs := plcs_succ W i
      obtain ⟨q1, hq1⟩ : ∃ q, q = i % cnt W := ⟨_, rfl⟩
      obtain ⟨q2, hq2⟩ : ∃ q, q = i / cnt W := ⟨_, rfl⟩
      rw [← hq1, ← hq2] at D2 hs
      have HSX := Lib.hid hs
      clear hq1 hq2 hs
      go_wp2_with fail
      refine D2.out.mono ?_
      rintro e w2 ⟨rfl, hA2⟩
      clear D2
      replace ho := ownsRow_below ho hA2
      have hB2 := hB.trans (hA2.mono hB.size)
      have hsz := hB2.size
      clear hB hA2
      go_wp2_with (at_builtin; refine wpList_app Eplc rfl (.tmp 13) (.tmp 17) rfl w.heap.size rfl (ho.alloc _) rfl (Sl.two _ _ _) (by intro u hu; simp at hu; rcases hu with rfl | rfl <;> rfl) (by unfold maxLen; omega) (by omega) (by simp; omega) ?_)
      intro v3 w3 ho3 hg3 _
      have hB3 := hB2.trans (app_below ho hsz hg3)
      rw [← HSX.out] at ho3
      clear ho hg3 hB2
      go_wp2_with fail
      go_roundw
      case rel => exact ⟨i + 1, by omega, by go_num, ho3, hB3⟩
      case measure => simp [intOf]; omega
    · obtain rfl : i = n := by omega
      go_wp2_with fail
      go_ret
      exact ⟨_, rfl, ho, hB⟩
end Go.Proofs.Ytdknnfineommoaa
