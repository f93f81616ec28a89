/-
  The law's words on a cache: maps that are told, a cache over them, heights of any columns and rows.
-/
import Derived.Test.YtiflbbpliioblaaCacheU
set_option linter.unusedVariables false
set_option linter.unusedSimpArgs false
namespace Go.Proofs.Ytiflbbpliioblaa
open Go Go.RowKit Go.Th Go.Th.Crc

theorem CacheI.base {w : World} {base base' g : Nat} {F : List Int} {W H cell : Nat} {ox oy : Int} {room : Nat} {L : List Nat} {m s : Nat} (J : CacheI w base g F W H cell ox oy room L m s) (h : base' ≤ base) : CacheI w base' g F W H cell ox oy room L m s := by
  obtain ⟨ab, cb, aA, cA, aS, cS, T, c, J⟩ := J
  exact ⟨ab, cb, aA, cA, aS, cS, T, c, J.ck, Nat.le_trans h J.le, ownsRow_base J.ob h, ownsRow_base J.oA h, ownsRow_base J.oS h, ⟨J.hand.names, fun p hp => ⟨(J.hand.own p hp).1, ownsRow_base (J.hand.own p hp).2 h⟩⟩, J.nd, J.cr, J.lo, J.hi⟩
theorem CacheI.blk {w w' : World} {base g : Nat} {F : List Int} {W H cell : Nat} {ox oy : Int} {room : Nat} {L : List Nat} {m s : Nat} (J : CacheI w base g F W H cell ox oy room L m s) (ht : Turned (fun k => k = g) w w') {b : Nat} {t : TypeId} {cs : List Value} (K : Blk w b t cs) (hne : t ≠ 67) : Blk w' b t cs := by
  obtain ⟨ab, cb, aA, cA, aS, cS, T, c, J⟩ := J
  refine K.turned ht ?_
  rintro rfl
  have h1 : w.heap[b]? = some (.cells cs.toArray t (0, 0)) := K
  have h2 := J.ck.blk
  unfold Blk at h2
  rw [h1] at h2
  simp at h2
  exact hne h2.2
theorem CacheI.own {w w' : World} {base g : Nat} {F : List Int} {W H cell : Nat} {ox oy : Int} {room : Nat} {L : List Nat} {m s : Nat} (J : CacheI w base g F W H cell ox oy room L m s) (ht : Turned (fun k => k = g) w w') {b : Nat} {e : TypeId} {size n : Nat} {v : Value} {xs : List Value} (ho : w.ownsRow b e size v n xs) (hne : 67 ≠ e) : w'.ownsRow b e size v n xs := by
  obtain ⟨ab, cb, aA, cA, aS, cS, T, c, J⟩ := J
  exact ht.own ho (own_ne J.ck.blk ho hne)

/-- Whether there is such a column and row. -/
def inF (W H : Nat) (x y : Int) : Prop := 0 ≤ x ∧ 0 ≤ y ∧ x < (W : Int) ∧ y < (H : Int)
instance (W H : Nat) (x y : Int) : Decidable (inF W H x y) := by unfold inF; exact inferInstance
/-- What is told of any column and row. -/
def told (F : List Int) (W H : Nat) (x y : Int) : Value := if inF W H x y then hgt (F.getD (y.toNat * W + x.toNat) 0) else .tuple #[.int .i16 0, .int .i64 9]
theorem told_pair (F : List Int) (W H : Nat) (x y : Int) : ∃ r c : Int, told F W H x y = .tuple #[.int .i16 r, .int .i64 c] := by
  unfold told hgt
  split
  · split
    · exact ⟨_, _, rfl⟩
    · exact ⟨_, _, rfl⟩
  · exact ⟨_, _, rfl⟩
/-- The tile of a column and a row. -/
def tileOf (W : Nat) (x y : Int) : Nat := y.toNat / 16 * cnt W + x.toNat / 16

theorem height_told (base g : Nat) (F : List Int) (W H cell : Nat) (ox oy : Int) (room : Nat) (L : List Nat) (m s : Nat) (x y : Int) (O : MapOk F W H cell ox oy) (hm : m ≤ 1000000) (hs : s ≤ 1000000) (w : World) (J : CacheI w base g F W H cell ox oy room L m s) :
    Calls Try.prog 10 #[.pointer (some ⟨g, 0, none⟩), .int .i64 x, .int .i64 y] w fun e w' => e = .returned (told F W H x y) ∧
      CacheI w' base g F W H cell ox oy room (if inF W H x y then useL room L (tileOf W x y) else L) (if inF W H x y ∧ tileOf W x y ∈ L then m + 1 else m) (if inF W H x y ∧ ¬ tileOf W x y ∈ L then s + 1 else s) ∧ Turned (fun k => k = g) w w' := by
  by_cases h : inF W H x y
  · obtain ⟨h1, h2, h3, h4⟩ := h
    obtain ⟨p, rfl⟩ := Int.eq_ofNat_of_zero_le h1
    obtain ⟨q, rfl⟩ := Int.eq_ofNat_of_zero_le h2
    have hin : inF W H (p : Int) (q : Int) := ⟨h1, h2, h3, h4⟩
    refine (height_in base g F W H cell ox oy room L m s p q O (by omega) (by omega) hm hs w J).mono ?_
    rintro e w' ⟨he, hJ, hT⟩
    have e1 : told F W H (p : Int) (q : Int) = hgt (F.getD (q * W + p) 0) := by unfold told; rw [if_pos hin]; rfl
    have e2 : tileOf W (p : Int) (q : Int) = q / 16 * cnt W + p / 16 := rfl
    rw [e1, e2, if_pos hin]
    refine ⟨he, ?_, hT⟩
    by_cases hmem : q / 16 * cnt W + p / 16 ∈ L
    · rw [if_pos hmem, if_pos hmem] at hJ
      rw [if_pos ⟨hin, hmem⟩, if_neg (fun h => h.2 hmem)]
      exact hJ
    · rw [if_neg hmem, if_neg hmem] at hJ
      rw [if_neg (fun h => hmem h.2), if_pos ⟨hin, hmem⟩]
      exact hJ
  · refine (height_off base g F W H cell ox oy room L m s x y h w J).mono ?_
    rintro e w' ⟨he, hB⟩
    have e1 : told F W H x y = .tuple #[.int .i16 0, .int .i64 9] := by unfold told; rw [if_neg h]
    rw [e1, if_neg h, if_neg (fun k => h k.1), if_neg (fun k => h k.1)]
    exact ⟨he, J.below hB, Turned.below hB⟩
theorem ref10_told (F : List Int) (W H n : Nat) (x y : Int) (hl : F.length = W * H) (hn : n = W * H) (hW : W ≤ 256) (hH : H ≤ 256) (a : Option Addr) (cap : Nat) (w : World) (hS : Sl w 1 (.slice a n cap) n (i16s F)) :
    Calls Try.prog 11 #[hv W H (.slice a n cap), .int .i64 x, .int .i64 y] w fun e w' => e = .returned (told F W H x y) ∧ Below w.heap.size w w' := by
  by_cases h : inF W H x y
  · obtain ⟨h1, h2, h3, h4⟩ := h
    obtain ⟨p, rfl⟩ := Int.eq_ofNat_of_zero_le h1
    obtain ⟨q, rfl⟩ := Int.eq_ofNat_of_zero_le h2
    have hin : inF W H (p : Int) (q : Int) := ⟨h1, h2, h3, h4⟩
    have e1 : told F W H (p : Int) (q : Int) = hgt (F.getD (q * W + p) 0) := by unfold told; rw [if_pos hin]; rfl
    rw [e1]
    exact ref10In_any F W H n p q hl hn (by omega) (by omega) hW hH a cap w hS
  · have e1 : told F W H x y = .tuple #[.int .i16 0, .int .i64 9] := by unfold told; rw [if_neg h]
    rw [e1]
    exact ref10Off_any W H x y a n cap h w

set_option maxRecDepth 20000 in
set_option maxHeartbeats 3200000 in
theorem made10_any (p q n k c : Nat) (ox oy : Int) (a : Option Addr) (cap : Nat) (z : List Int) (hp : p < 256) (hq : q < 256) (hk : k < 65536) (hc : c = 1 + k % 1000) (hz : z.length = n) (hn : n ≤ 2000) (h16 : ∀ u ∈ z, In16 u) (w : World) (hS : Sl w 1 (.slice a n cap) n (i16s z)) :
    Calls Try.prog 7 #[.int .u8 p, .int .u8 q, .slice a n cap, .int .u16 k, .int .i32 ox, .int .i32 oy] w fun e w' => ∃ (x y : Nat) (v : Value) (F : List Int), (x = 2 + p % 39 ∧ y = 2 + q % 39) ∧ (0 < n → F = (List.range (x * y)).map (fldAt z)) ∧ e = .returned (cv x y v c ox oy) ∧ isF x y = true ∧ x ≤ 40 ∧ y ≤ 40 ∧ F.length = x * y ∧ (∀ u ∈ F, In16 u) ∧ w'.ownsRow w.heap.size 34 1 v (x * y) (i16s F) ∧ Below w.heap.size w w' := by
  obtain ⟨w1, hw1⟩ : ∃ w1, w.alloc (.cells #[.int .i64 0, .int .i64 0, .slice none 0 0, .int .i64 0, .int .i32 0, .int .i32 0] 28) = w1 := ⟨_, rfl⟩
  have hB1 : Below w.heap.size w w1 := by rw [← hw1]; exact (Below.refl _ _).alloc (Nat.le_refl _) _
  have KA : Blk w1 w.heap.size 28 [.int .i64 0, .int .i64 0, .slice none 0 0, .int .i64 0, .int .i32 0, .int .i32 0] := by rw [← hw1]; exact Blk.new w _ _
  have C1 := Lib.hid (field9_any p q n a cap z hp hq hz hn h16 w1 (hS.below hB1))
  have hci : 1 + (k : Int) % 1000 = (c : Int) := by omega
  clear hp hq hz hn h16 hS hc
  go_enter Try.func7, Try.ntmps7
  go_wp2_with fail
  clear hw1
  refine C1.out.mono ?_
  rintro e w2 ⟨x, y, v, F, hxy, hfd, rfl, hF, hx, hy, hl, hF16, ho, hA⟩
  obtain ⟨av, cw, rfl, _, _⟩ := ownsRow_slice ho
  have hga : w.heap.size < w1.heap.size := KA.lt
  replace KA := KA.below hA KA.lt
  have hz1 := hB1.size
  have hB2 := hB1.trans (hA.mono hB1.size)
  clear C1 hA hB1
  have a0 := KA.cell (i := 0) rfl
  have a1 := KA.cell (i := 1) rfl
  have a2 := KA.cell (i := 2) rfl
  have a3 := KA.cell (i := 3) rfl
  have a4 := KA.cell (i := 4) rfl
  have a5 := KA.cell (i := 5) rfl
  have f0 := KA.free 0
  have f1 := KA.free 1
  have f2 := KA.free 2
  have f3 := KA.free 3
  have f4 := KA.free 4
  have f5 := KA.free 5
  have HF := Lib.hid hF
  have HL := Lib.hid hl
  have H16 := Lib.hid hF16
  have HO := Lib.hid ho
  have HXY := Lib.hid hxy
  have HFD := Lib.hid hfd
  clear hF hl hF16 ho hxy hfd
  go_wp2_with fail
  refine bodyPost_ret (v := cv x y (.slice av (x * y) cw) c ox oy) (res_blk rfl rfl (blk_set6 KA _ _ _ _ _ _) Try.underlying28 rfl (by kernel_rfl)) rfl ?_
  have ht := turned_set6 w2 w.heap.size (.int .i64 x) (.int .i64 y) (.slice av (x * y) cw) (.int .i64 c) (.int .i32 ox) (.int .i32 oy)
  exact ⟨x, y, _, F, HXY.out, HFD.out, rfl, HF.out, hx, hy, HL.out, H16.out, ownsRow_base (ht.own HO.out (by rintro j hj rfl; have := (HO.out.lt _ hj).1; omega)) hz1, ht.old hB2 hB2.size (by rintro j hj rfl; omega)⟩

theorem room_any (n : Nat) (hn : n < 256) : Ans 9 #[.int .u8 n] (.int .i64 (4 + n % 29 : Nat)) := by
  intro w
  have h1 : ((n : Int) % 29) = ((n % 29 : Nat) : Int) := by omega
  obtain ⟨k, hk⟩ : ∃ k, k = n % 29 := ⟨_, rfl⟩
  rw [← hk] at h1 ⊢
  have hk2 : k < 29 := by omega
  clear hk
  go_enter Try.func9, Try.ntmps9
  go_wp2_with fail
  go_ret
  exact ⟨ret_int (by omega), Below.refl _ _⟩

set_option maxRecDepth 20000 in
theorem open10_any (F : List Int) (W H cell : Nat) (ox oy : Int) (O : MapOk F W H cell ox oy) (room : Nat) (hr : 4 ≤ room) (hr2 : room ≤ 32) (n : Nat) (hn : n = W * H) (a : Option Addr) (cap : Nat) (w : World) (hS : Sl w 1 (.slice a n cap) n (i16s F)) :
    Calls Try.prog 8 #[cv W H (.slice a n cap) cell ox oy, .int .i64 room] w fun e w' => ∃ g, e = .returned (.pointer (some ⟨g, 0, none⟩)) ∧ CacheI w' w.heap.size g F W H cell ox oy room [] 0 0 ∧ Below w.heap.size w w' := by
  obtain ⟨w1, hw1⟩ : ∃ w1, w.alloc (.cells #[.int .i64 W, .int .i64 H, .slice a n cap, .int .i64 cell, .int .i32 ox, .int .i32 oy] 28) = w1 := ⟨_, rfl⟩
  have hB1 : Below w.heap.size w w1 := by rw [← hw1]; exact (Below.refl _ _).alloc (Nat.le_refl _) _
  have KC : Blk w1 w.heap.size 28 [.int .i64 W, .int .i64 H, .slice a n cap, .int .i64 cell, .int .i32 ox, .int .i32 oy] := by rw [← hw1]; exact Blk.new w _ _
  have C1 := put9_any W H cell n ox oy a cap F O.hF hn O.hc (by rw [O.hl, hn]) O.h16 w1 (hS.below hB1)
  have C2 := fun L hL a' cap' wx hs => new_map F W H cell ox oy O room hr hr2 L hL a' cap' wx hs
  obtain ⟨L, hL⟩ : ∃ L, L = (chartB F W H cell ox oy).length := ⟨_, rfl⟩
  rw [← hL] at C1
  replace C1 := Lib.hid C1
  replace C2 := Lib.hid (C2 L hL)
  have HW1 := Lib.hid hw1
  have hz1 := hB1.size
  clear hw1 hS hL hn
  go_enter Try.func8, Try.ntmps8
  go_upto_region 1 with fail
  rw [HW1.out]
  have c0 := KC.cell (i := 0) rfl
  have c1 := KC.cell (i := 1) rfl
  have c2 := KC.cell (i := 2) rfl
  have c3 := KC.cell (i := 3) rfl
  have c4 := KC.cell (i := 4) rfl
  have c5 := KC.cell (i := 5) rfl
  go_wp2_with fail
  refine C1.out.mono ?_
  rintro e w2 ⟨vb, rfl, hob, hA⟩
  obtain ⟨gb, cb, rfl, _, _⟩ := ownsRow_slice hob
  have hB2 := hB1.trans (hA.mono hB1.size)
  have D2 := Lib.hid (C2.out gb cb w2 (Sl.of_own hob))
  have HB2 := Lib.hid hB2
  clear C1 C2 hA hB1 hB2 hob c0 c1 c2 c3 c4 c5 KC HW1
  go_wp2_with fail
  refine D2.out.mono ?_
  rintro e w3 ⟨g, rfl, hJ, hA⟩
  have HJ := Lib.hid (hJ.base HB2.out.size)
  have HB3 := Lib.hid (HB2.out.trans (hA.mono HB2.out.size))
  clear D2 hJ hA
  go_wp2_with fail
  go_ret
  exact ⟨g, rfl, HJ.out, HB3.out⟩
end Go.Proofs.Ytiflbbpliioblaa
