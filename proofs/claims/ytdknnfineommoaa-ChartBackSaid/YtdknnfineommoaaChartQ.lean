/-
  A map as bytes: the reference's.
-/
import Derived.Test.YtdknnfineommoaaChartP
import Derived.Test.YtdknnfineommoaaChartR
import Derived.Test.YtdknnfineommoaaPackTile
set_option linter.unusedVariables false
set_option linter.unusedSimpArgs false
namespace Go.Proofs.Ytdknnfineommoaa
open Go Go.RowKit Go.Th Go.Th.Crc

theorem ref8Check_ok (W H n : Nat) (a : Option Addr) (cap : Nat) (hF : isF W H = true) (hn : n = W * H) : Ans 51 #[hv W H (.slice a n cap)] (.int .i64 0) := by
  intro w
  obtain ⟨h1, h2, h3, h4⟩ := isF_yes hF
  have hle : W * H ≤ 256 * 256 := Nat.mul_le_mul (by omega) (by omega)
  have hm : (W : Int) * (H : Int) = (n : Int) := by rw [hn]; simp
  rw [← hn] at hle
  have hnn : ((n : Int) != (n : Int)) = false := by simp
  clear hF hn
  go_enter Try.func51, Try.ntmps51
  go_wp2_with fail
  go_ret
  exact ⟨rfl, (Below.refl _ _).alloc (Nat.le_refl _) _⟩

theorem ref9Check_ok (W H n : Nat) (cell ox oy : Int) (a : Option Addr) (cap : Nat) (hF : isF W H = true) (hn : n = W * H) (hc : isC cell = true) : Ans 27 #[cv W H (.slice a n cap) cell ox oy] (.int .i64 0) := by
  intro w
  have C1 := Lib.hid (ref8Check_ok W H n a cap hF hn)
  obtain ⟨h1, h2⟩ := isC_yes hc
  clear hF hn hc
  obtain ⟨w1, hw1⟩ : ∃ w1, w.alloc (.cells #[.int .i64 W, .int .i64 H, .slice a n cap, .int .i64 cell, .int .i32 ox, .int .i32 oy] 28) = w1 := ⟨_, rfl⟩
  have hB1 : Below w.heap.size w w1 := by rw [← hw1]; exact (Below.refl _ _).alloc (Nat.le_refl _) _
  have KC : Blk w1 w.heap.size 28 [.int .i64 W, .int .i64 H, .slice a n cap, .int .i64 cell, .int .i32 ox, .int .i32 oy] := by rw [← hw1]; exact Blk.new w _ _
  have a0 := KC.cell (i := 0) rfl
  have a1 := KC.cell (i := 1) rfl
  have a2 := KC.cell (i := 2) rfl
  have a3 := KC.cell (i := 3) rfl
  have a4 := KC.cell (i := 4) rfl
  have a5 := KC.cell (i := 5) rfl
  go_enter Try.func27, Try.ntmps27
  go_wp2_with fail
  clear hw1
  refine (C1.out _).mono ?_
  rintro e w2 ⟨rfl, hA2⟩
  clear C1 a0 a1 a2 a3 a4 a5
  replace KC := KC.below hA2 KC.lt
  have c3 := KC.cell (i := 3) rfl
  have hB2 := hB1.trans (hA2.mono hB1.size)
  go_wp2_with fail
  go_ret
  exact ⟨rfl, hB2⟩
theorem ref9Check_bad (W H n : Nat) (cell ox oy : Int) (a : Option Addr) (cap : Nat) (hF : isF W H = true) (hn : n = W * H) (hc : isC cell = false) : Ans 27 #[cv W H (.slice a n cap) cell ox oy] (.int .i64 1) := by
  intro w
  have C1 := Lib.hid (ref8Check_ok W H n a cap hF hn)
  have hno : ¬ (1 ≤ cell ∧ cell ≤ 1000) := fun e => by rw [isC_of e] at hc; cases hc
  clear hF hn hc
  obtain ⟨w1, hw1⟩ : ∃ w1, w.alloc (.cells #[.int .i64 W, .int .i64 H, .slice a n cap, .int .i64 cell, .int .i32 ox, .int .i32 oy] 28) = w1 := ⟨_, rfl⟩
  have hB1 : Below w.heap.size w w1 := by rw [← hw1]; exact (Below.refl _ _).alloc (Nat.le_refl _) _
  have KC : Blk w1 w.heap.size 28 [.int .i64 W, .int .i64 H, .slice a n cap, .int .i64 cell, .int .i32 ox, .int .i32 oy] := by rw [← hw1]; exact Blk.new w _ _
  have a0 := KC.cell (i := 0) rfl
  have a1 := KC.cell (i := 1) rfl
  have a2 := KC.cell (i := 2) rfl
  have a3 := KC.cell (i := 3) rfl
  have a4 := KC.cell (i := 4) rfl
  have a5 := KC.cell (i := 5) rfl
  by_cases hlow : cell < 1
  · clear hno
    go_enter Try.func27, Try.ntmps27
    go_wp2_with fail
    clear hw1
    refine (C1.out _).mono ?_
    rintro e w2 ⟨rfl, hA2⟩
    clear C1 a0 a1 a2 a3 a4 a5
    replace KC := KC.below hA2 KC.lt
    have c3 := KC.cell (i := 3) rfl
    have hB2 := hB1.trans (hA2.mono hB1.size)
    go_wp2_with fail
    go_ret
    exact ⟨rfl, hB2⟩
  · have hhi : 1000 < cell := by omega
    clear hno
    go_enter Try.func27, Try.ntmps27
    go_wp2_with fail
    clear hw1
    refine (C1.out _).mono ?_
    rintro e w2 ⟨rfl, hA2⟩
    clear C1 a0 a1 a2 a3 a4 a5
    replace KC := KC.below hA2 KC.lt
    have c3 := KC.cell (i := 3) rfl
    have hB2 := hB1.trans (hA2.mono hB1.size)
    go_wp2_with fail
    go_ret
    exact ⟨rfl, hB2⟩
theorem ref9Put_bad (W H n : Nat) (cell ox oy : Int) (a : Option Addr) (cap : Nat) (hF : isF W H = true) (hn : n = W * H) (hc : isC cell = false) : Ans 9 #[cv W H (.slice a n cap) cell ox oy] (.tuple #[.slice none 0 0, .int .i64 1]) := by
  intro w
  have C1 := Lib.hid (ref9Check_bad W H n cell ox oy a cap hF hn hc)
  clear hF hn hc
  obtain ⟨w1, hw1⟩ : ∃ w1, w.alloc (.cells #[.int .i64 W, .int .i64 H, .slice a n cap, .int .i64 cell, .int .i32 ox, .int .i32 oy] 28) = w1 := ⟨_, rfl⟩
  have hB1 : Below w.heap.size w w1 := by rw [← hw1]; exact (Below.refl _ _).alloc (Nat.le_refl _) _
  have KC : Blk w1 w.heap.size 28 [.int .i64 W, .int .i64 H, .slice a n cap, .int .i64 cell, .int .i32 ox, .int .i32 oy] := by rw [← hw1]; exact Blk.new w _ _
  have a0 := KC.cell (i := 0) rfl
  have a1 := KC.cell (i := 1) rfl
  have a2 := KC.cell (i := 2) rfl
  have a3 := KC.cell (i := 3) rfl
  have a4 := KC.cell (i := 4) rfl
  have a5 := KC.cell (i := 5) rfl
  go_enter Try.func9, Try.ntmps9
  go_wp2_with fail
  clear hw1
  refine (C1.out _).mono ?_
  rintro e w2 ⟨rfl, hA2⟩
  clear C1
  go_wp2_with fail
  go_ret2
  exact ⟨rfl, hB1.trans (hA2.mono hB1.size)⟩

theorem u64_nat (x : Nat) (h : x < 18446744073709551616) : IntKind.u64.wrap (x : Int) = (x : Int) := by
  simp [IntKind.wrap, IntKind.bits, IntKind.signed]
  omega
theorem apart_next {w : World} {base k : Nat} {vo vh vh' : Value} {xs : List Value} (ne : ∀ j, vo.ownBlock = some j → vh.ownBlock = some j → False) (ho : w.ownsRow base 5 1 vo k xs) (hw : vh'.ownBlock = vh.ownBlock ∨ ∃ g, vh'.ownBlock = some g ∧ w.heap.size ≤ g) :
    ∀ j, vo.ownBlock = some j → vh'.ownBlock = some j → False := by
  intro j h1 h2
  rcases hw with e | ⟨g, e, hg⟩
  · exact ne j h1 (e.symm.trans h2)
  · rw [h2] at e; cases e; have := (ho.lt j h1).2; omega
/-- What the reference's tile is: cut, and in bytes. -/
structure RefTile (F : List Int) (W H n : Nat) (a : Option Addr) (cap x y : Nat) (Ti : List Nat) (sx sy k : Nat) (Z : List Int) (L : List Nat) : Prop where
  cut : ∀ wx, Sl wx 1 (.slice a n cap) n (i16s F) → Calls Try.prog 15 #[hv W H (.slice a n cap), .int .i64 x, .int .i64 y] wx fun e w' => ∃ v, e = .returned (.tuple #[v, .int .i64 sx, .int .i64 sy]) ∧ w'.ownsRow wx.heap.size 56 1 v k (i16s Z) ∧ Below wx.heap.size wx w'
  put : ∀ a' cap' wx, Sl wx 1 (.slice a' k cap') k (i16s Z) → Calls Try.prog 29 #[.int .i64 sx, .int .i64 sy, .slice a' k cap'] wx fun e w' => ∃ v, e = .returned (.tuple #[v, .int .i64 0]) ∧ w'.ownsRow wx.heap.size 5 1 v L.length (u8s L) ∧ Below wx.heap.size wx w'
  sum : putB L = Ti
  byte : ∀ u ∈ L, u < 256

theorem refTile_any (W H n i : Nat) (a : Option Addr) (cap : Nat) (F : List Int) (hF : isF W H = true) (hn : n = W * H) (hl : F.length = n) (h16 : ∀ u ∈ F, In16 u) (hi : i < nT W H) :
    ∃ sx sy k Z L, RefTile F W H n a cap (i % cnt W) (i / cnt W) (tileB F W H i) sx sy k Z L := by
  obtain ⟨h1, h2, h3, h4⟩ := isF_yes hF
  obtain ⟨hX, hY, hXY⟩ := tile_xy W H i hi
  have hAl := tileAt_length F W H i (by rw [hl, hn]) hi
  have hA16 : ∀ u ∈ tileAt F W H i, In16 u := fun u hu => h16 u (mem_tileTo hu)
  have p1 := (side_pos W _).2 hX
  have p2 := (side_pos H _).2 hY
  have s1 := side_le W (i % cnt W)
  have s2 := side_le H (i / cnt W)
  have l1 := cnt_le W
  have l2 := cnt_le H
  obtain ⟨e1, e2, e3⟩ := pick_tile F W H (i % cnt W) (i / cnt W) (by rw [hl, hn]) hX H (Nat.le_refl _)
  have bX : -1000 ≤ ((i % cnt W : Nat) : Int) ∧ ((i % cnt W : Nat) : Int) ≤ 1000 := by generalize i % cnt W = X at *; omega
  have bY : -1000 ≤ ((i / cnt W : Nat) : Int) ∧ ((i / cnt W : Nat) : Int) ≤ 1000 := by generalize i / cnt W = Y at *; omega
  refine ⟨side W (i % cnt W), side H (i / cnt W), side H (i / cnt W) * side W (i % cnt W), tileAt F W H i, pack (row (deltas (side W (i % cnt W)) (tileAt F W H i))), ⟨fun wx hs => ?_, fun a' cap' wx hs => ?_, rfl, pack_lt _⟩⟩
  · have C := ref8Cut_any W H n ((i % cnt W : Nat) : Int) ((i / cnt W : Nat) : Int) a cap F (inT ((i % cnt W : Nat) : Int) ((i / cnt W : Nat) : Int)) (by omega) (by omega) hn hl (fun r c hr hc => in_go _ _ bX bY r c hr hc) wx hs
    rw [e1, e2, e3, if_pos p2] at C
    rw [← hAl]
    exact C
  · exact ref8Put_any _ _ _ a' cap' _ hAl (Nat.mul_comm _ _) hA16 (isT_of (by omega)) wx hs

set_option maxRecDepth 20000 in
set_option maxHeartbeats 6400000 in
theorem ref9Put_go (W H cell n m9 hl nx ny : Nat) (ox oy : Int) (a : Option Addr) (cap : Nat) (F : List Int) (D Bd T : Nat → List Nat) (w : World) (hS : Sl w 1 (.slice a n cap) n (i16s F))
    (hW : 2 ≤ W ∧ W ≤ 256) (hH : 2 ≤ H ∧ H ≤ 256) (hc : cell ≤ 1000) (hm : m9 ≤ 256) (hhl : hl = 22 + 6 * m9) (hm1 : 0 < m9) (hnm : m9 = ny * nx) (hnx : nx ≤ 16) (hny : ny ≤ 16)
    (C1 : Hid (Ans 27 #[cv W H (.slice a n cap) cell ox oy] (.int .i64 0)))
    (CX : Hid (Pure 13 #[.int .i64 W] (.int .i64 nx))) (CY : Hid (Pure 13 #[.int .i64 H] (.int .i64 ny)))
    (CT : Hid (∀ x y, x < nx → y < ny → ∃ sx sy k Z L, RefTile F W H n a cap x y (T (y * nx + x)) sx sy k Z L))
    (H0 : Hid (D 0 = head18 W H cell ox oy))
    (HD : Hid (∀ i, i < m9 → D (i + 1) = (D i ++ lowB (hl + (Bd i).length) 4) ++ lowB (T i).length 2)) (HDL : Hid (∀ i, (D i).length = 18 + 6 * i)) (HDB : Hid (∀ i, ∀ x ∈ D i, x < 256))
    (HB : Hid (∀ i, Bd (i + 1) = Bd i ++ T i)) (HB0 : Hid (Bd 0 = [])) (HBL : Hid (∀ i, i ≤ m9 → (Bd i).length ≤ 1300 * i)) (HT : Hid (∀ i, i < m9 → 4 ≤ (T i).length ∧ (T i).length ≤ 1300)) :
    Calls Try.prog 9 #[cv W H (.slice a n cap) cell ox oy] w fun e w' => ∃ v, e = .returned (.tuple #[v, .int .i64 0]) ∧ w'.ownsRow w.heap.size 5 1 v (hl + (Bd m9).length) (u8s (putB (D m9) ++ Bd m9)) ∧ Below w.heap.size w w' := by
  obtain ⟨g1, h1⟩ : ∃ g, g = [] ++ lowB 1296978516 4 := ⟨_, rfl⟩
  obtain ⟨g2, h2⟩ : ∃ g, g = g1 ++ lowB W 2 := ⟨_, rfl⟩
  obtain ⟨g3, h3⟩ : ∃ g, g = g2 ++ lowB H 2 := ⟨_, rfl⟩
  obtain ⟨g4, h4⟩ : ∃ g, g = g3 ++ lowB cell 2 := ⟨_, rfl⟩
  obtain ⟨g5, h5⟩ : ∃ g, g = g4 ++ lowB (u32 ox) 4 := ⟨_, rfl⟩
  have h6 : D 0 = g5 ++ lowB (u32 oy) 4 := by
    rw [H0.out]
    unfold head18
    rw [h5, h4, h3, h2, h1]
    simp only [List.nil_append, List.append_assoc]
  have u1 := u32_lt ox
  have u2 := u32_lt oy
  have o1 := u32_wrap ox
  have o2 := u32_wrap oy
  obtain ⟨x1, hx1⟩ : ∃ x, x = u32 ox := ⟨_, rfl⟩
  obtain ⟨x2, hx2⟩ : ∃ x, x = u32 oy := ⟨_, rfl⟩
  rw [← hx1] at h5 u1 o1
  rw [← hx2] at h6 u2 o2
  have hmul : 6 * (nx : Int) * (ny : Int) = 6 * (m9 : Int) := by
    have : ((m9 : Nat) : Int) = (ny : Int) * (nx : Int) := by rw [hnm]; simp
    rw [this, Int.mul_assoc, Int.mul_comm (nx : Int)]
  have hle : ∀ y, y < ny → y * nx + nx ≤ m9 := fun y hy => by
    have := Nat.mul_le_mul_right nx (Nat.succ_le_of_lt hy)
    rw [hnm]; rwa [Nat.succ_mul] at this
  have hsu : ∀ y, (y + 1) * nx = y * nx + nx := fun y => Nat.succ_mul y nx
  have HHL := Lib.hid hhl
  have hhl2 : hl ≤ 2000 := by omega
  have hat : 18 + 6 * (m9 : Int) + 4 = (hl : Int) := by omega
  have e1 := u64_nat W (by omega)
  have e2 := u64_nat H (by omega)
  have e3 := u64_nat cell (by omega)
  have e4 := u64_nat x1 (by omega)
  have e5 := u64_nat x2 (by omega)
  have HLE := Lib.hid hle
  have HSU := Lib.hid hsu
  have HNM := Lib.hid hnm
  have HS := Lib.hid hS
  obtain ⟨w1, hw1⟩ : ∃ w1, w.alloc (.cells #[.int .i64 W, .int .i64 H, .slice a n cap, .int .i64 cell, .int .i32 ox, .int .i32 oy] 28) = w1 := ⟨_, rfl⟩
  have hB1 : Below w.heap.size w w1 := by rw [← hw1]; exact (Below.refl _ _).alloc (Nat.le_refl _) _
  have KC : Blk w1 w.heap.size 28 [.int .i64 W, .int .i64 H, .slice a n cap, .int .i64 cell, .int .i32 ox, .int .i32 oy] := by rw [← hw1]; exact Blk.new w _ _
  have a0 := KC.cell (i := 0) rfl
  have a1 := KC.cell (i := 1) rfl
  have a2 := KC.cell (i := 2) rfl
  have a3 := KC.cell (i := 3) rfl
  have a4 := KC.cell (i := 4) rfl
  have a5 := KC.cell (i := 5) rfl
  obtain ⟨B, hBB⟩ : ∃ B, B = w1.heap.size := ⟨_, rfl⟩
  have hgB : w.heap.size < B := by rw [hBB]; exact KC.lt
  have N1 := Lib.hid (fun wx hb ho => num9_any B (.slice none 0 0) 0 4 4 1296978516 [] g1 rfl h1 (by omega) (by omega) (by omega) wx hb ho)
  have N2 := Lib.hid (fun v wx hb ho => num9_any B v 4 2 6 W g1 g2 rfl h2 (by omega) (by omega) (by omega) wx hb ho)
  have N3 := Lib.hid (fun v wx hb ho => num9_any B v 6 2 8 H g2 g3 rfl h3 (by omega) (by omega) (by omega) wx hb ho)
  have N4 := Lib.hid (fun v wx hb ho => num9_any B v 8 2 10 cell g3 g4 rfl h4 (by omega) (by omega) (by omega) wx hb ho)
  have N5 := Lib.hid (fun v wx hb ho => num9_any B v 10 4 14 x1 g4 g5 rfl h5 (by omega) (by omega) (by omega) wx hb ho)
  have N6 := Lib.hid (fun v wx hb ho => num9_any B v 14 4 18 x2 g5 (D 0) rfl h6 (by omega) (by omega) (by omega) wx hb ho)
  clear hS hhl hle hsu hnm h1 h2 h3 h4 h5 h6 hx1 hx2
  go_enter Try.func9, Try.ntmps9
  go_wp2_with fail
  clear hw1
  refine (C1.out _).mono ?_
  rintro e w2 ⟨rfl, hA2⟩
  clear C1 a0 a1 a2 a3 a4 a5
  replace KC := KC.below hA2 KC.lt
  have hB2 := hB1.trans (hA2.mono hB1.size)
  have hI : PutI w w2 B B (.slice none 0 0) (.slice none 0 0) 0 0 [] [] := ⟨World.ownsRow_nil _ _ _ _, World.ownsRow_nil _ _ _ _, fun j h _ => by simp [Value.ownBlock] at h, hB2, ⟨by omega, by omega, by have := hA2.size; omega, by have := hA2.size; omega⟩⟩
  clear hA2 hB1 hB2 hBB
  have a0 := KC.cell (i := 0) rfl
  have a1 := KC.cell (i := 1) rfl
  go_wp2_with fail
  refine (CX.out _).mono ?_
  rintro e wx ⟨rfl, rfl⟩
  go_wp2_with fail
  refine (CY.out _).mono ?_
  rintro e wx ⟨rfl, rfl⟩
  clear a0 a1
  go_wp2_with fail
  refine (N1.out _ hI.le.2.2.2 hI.oh).mono ?_
  rintro e w9 ⟨v9, rfl, ho9, hT9, hw9⟩
  replace KC := KC.turned hT9 (fun hs => by have := (hI.oh.lt _ hs).1; omega)
  replace hI := hI.head' hT9 ho9 hw9
  obtain ⟨a9, c9, rfl, _, _⟩ := ownsRow_slice ho9
  clear N1 hT9 hw9 ho9
  have a0 := KC.cell (i := 0) rfl
  have a1 := KC.cell (i := 1) rfl
  have a2 := KC.cell (i := 2) rfl
  have a3 := KC.cell (i := 3) rfl
  have a4 := KC.cell (i := 4) rfl
  have a5 := KC.cell (i := 5) rfl
  go_wp2_with fail
  refine wp_region_held_drew (S := (fun w' : World => w'.cell? ⟨w.heap.size, 0, none⟩ = some (.int .i64 W) ∧ w'.cell? ⟨w.heap.size, 1, none⟩ = some (.int .i64 H) ∧ w'.cell? ⟨w.heap.size, 2, none⟩ = some (.slice a n cap) ∧ w'.cell? ⟨w.heap.size, 3, none⟩ = some (.int .i64 cell) ∧ w'.cell? ⟨w.heap.size, 4, none⟩ = some (.int .i32 ox) ∧ w'.cell? ⟨w.heap.size, 5, none⟩ = some (.int .i32 oy))) (by kernel_rfl) (⟨a0, a1, a2, a3, a4, a5⟩) (fun hHeld => ?_)
  refine wpAnyH_take (i := 0) (v := ?v1) rfl (by kernel_rfl) (by kernel_rfl) (by kernel_rfl) (fun _ _ _ h => h) (Or.inl ⟨by rfl, ?hy1⟩) hHeld ?rest1
  case hy1 => (intro w' hSw; (try dsimp only at hSw); go_simp; (try with_reducible rfl))
  try simp only [Act.put, List.setIfInBounds_toArray, List.set_cons_zero, List.set_cons_succ, List.getElem_toArray, List.getElem_cons_zero, List.getElem_cons_succ]
  refine wpAnyH_take (i := 1) (v := ?v2) rfl (by kernel_rfl) (by kernel_rfl) (by kernel_rfl) (fun _ _ _ h => h) (Or.inl ⟨by rfl, ?hy2⟩) hHeld ?rest2
  case hy2 => (intro w' hSw; (try dsimp only at hSw); go_simp; (try with_reducible rfl))
  try simp only [Act.put, List.setIfInBounds_toArray, List.set_cons_zero, List.set_cons_succ, List.getElem_toArray, List.getElem_cons_zero, List.getElem_cons_succ]
  refine wpAnyH_take (i := 2) (v := ?v3) rfl (by kernel_rfl) (by kernel_rfl) (by kernel_rfl) (fun _ _ _ h => h) (Or.inl ⟨by rfl, ?hy3⟩) hHeld ?rest3
  case hy3 => (intro w' hSw; (try dsimp only at hSw); go_simp; (try with_reducible rfl))
  try simp only [Act.put, List.setIfInBounds_toArray, List.set_cons_zero, List.set_cons_succ, List.getElem_toArray, List.getElem_cons_zero, List.getElem_cons_succ]
  refine wpAnyH_take (i := 3) (v := ?v4) rfl (by kernel_rfl) (by kernel_rfl) (by kernel_rfl) (fun _ _ _ h => h) (Or.inl ⟨by rfl, ?hy4⟩) hHeld ?rest4
  case hy4 => (intro w' hSw; (try dsimp only at hSw); go_simp; (try with_reducible rfl))
  try simp only [Act.put, List.setIfInBounds_toArray, List.set_cons_zero, List.set_cons_succ, List.getElem_toArray, List.getElem_cons_zero, List.getElem_cons_succ]
  refine wpAnyH_take (i := 4) (v := ?v5) rfl (by kernel_rfl) (by kernel_rfl) (by kernel_rfl) (fun _ _ _ h => h) (Or.inl ⟨by rfl, ?hy5⟩) hHeld ?rest5
  case hy5 => (intro w' hSw; (try dsimp only at hSw); go_simp; (try with_reducible rfl))
  try simp only [Act.put, List.setIfInBounds_toArray, List.set_cons_zero, List.set_cons_succ, List.getElem_toArray, List.getElem_cons_zero, List.getElem_cons_succ]
  refine wpAnyH_take (i := 6) (v := ?v6) rfl (by kernel_rfl) (by kernel_rfl) (by kernel_rfl) (fun _ _ _ h => h) (Or.inl ⟨by rfl, ?hy6⟩) hHeld ?rest6
  case hy6 => (intro w' hSw; (try dsimp only at hSw); go_simp; (try with_reducible rfl))
  try simp only [Act.put, List.setIfInBounds_toArray, List.set_cons_zero, List.set_cons_succ, List.getElem_toArray, List.getElem_cons_zero, List.getElem_cons_succ]
  refine wpAnyH_take (i := 7) (v := ?v7) rfl (by kernel_rfl) (by kernel_rfl) (by kernel_rfl) (fun _ _ _ h => h) (Or.inl ⟨by rfl, ?hy7⟩) hHeld ?rest7
  case hy7 => (intro w' hSw; (try dsimp only at hSw); go_simp; (try with_reducible rfl))
  try simp only [Act.put, List.setIfInBounds_toArray, List.set_cons_zero, List.set_cons_succ, List.getElem_toArray, List.getElem_cons_zero, List.getElem_cons_succ]
  refine wpAnyH_take (i := 8) (v := ?v8) rfl (by kernel_rfl) (by kernel_rfl) (by kernel_rfl) (fun _ _ _ h => h) (Or.inl ⟨by rfl, ?hy8⟩) hHeld ?rest8
  case hy8 => (intro w' hSw; (try dsimp only at hSw); go_simp; (try with_reducible rfl))
  try simp only [Act.put, List.setIfInBounds_toArray, List.set_cons_zero, List.set_cons_succ, List.getElem_toArray, List.getElem_cons_zero, List.getElem_cons_succ]
  refine wpAnyH_take (i := 9) (v := ?v9) rfl (by kernel_rfl) (by kernel_rfl) (by kernel_rfl) (fun _ _ _ h => h) (Or.inl ⟨by rfl, ?hy9⟩) hHeld ?rest9
  case hy9 => (intro w' hSw; (try dsimp only at hSw); go_simp; (try with_reducible rfl))
  try simp only [Act.put, List.setIfInBounds_toArray, List.set_cons_zero, List.set_cons_succ, List.getElem_toArray, List.getElem_cons_zero, List.getElem_cons_succ]
  refine wpAnyH_take (i := 11) (v := ?v10) rfl (by kernel_rfl) (by kernel_rfl) (by kernel_rfl) (fun _ _ _ h => h) (Or.inl ⟨by rfl, ?hy10⟩) hHeld ?rest10
  case hy10 => (intro w' hSw; (try dsimp only at hSw); go_simp; (try with_reducible rfl))
  try simp only [Act.put, List.setIfInBounds_toArray, List.set_cons_zero, List.set_cons_succ, List.getElem_toArray, List.getElem_cons_zero, List.getElem_cons_succ]
  refine wpAnyH_take (i := 12) (v := ?v11) rfl (by kernel_rfl) (by kernel_rfl) (by kernel_rfl) (fun _ _ _ h => h) (Or.inl ⟨by rfl, ?hy11⟩) hHeld ?rest11
  case hy11 => (intro w' hSw; (try dsimp only at hSw); go_simp; (try with_reducible rfl))
  try simp only [Act.put, List.setIfInBounds_toArray, List.set_cons_zero, List.set_cons_succ, List.getElem_toArray, List.getElem_cons_zero, List.getElem_cons_succ]
  refine wpAnyH_take (i := 13) (v := ?v12) rfl (by kernel_rfl) (by kernel_rfl) (by kernel_rfl) (fun _ _ _ h => h) (Or.inl ⟨by rfl, ?hy12⟩) hHeld ?rest12
  case hy12 => (intro w' hSw; (try dsimp only at hSw); go_simp; (try with_reducible rfl))
  try simp only [Act.put, List.setIfInBounds_toArray, List.set_cons_zero, List.set_cons_succ, List.getElem_toArray, List.getElem_cons_zero, List.getElem_cons_succ]
  refine wpAnyH_ready (rs := [5]) (by kernel_rfl) (by simp) ?_
  refine AllReadyH.cons rfl (fun K hK => ?_) AllReadyH.nil
  go_simp
  replace KC := KC.drew
  replace hI := hI.drew
  have NN := N2.out (.slice a9 4 c9) w9.drew hI.le.2.2.2 hI.oh
  refine NN.mono ?_
  rintro e w10 ⟨v9, rfl, ho9, hT9, hw9⟩
  replace KC := KC.turned hT9 (fun hs => by have := (hI.oh.lt _ hs).1; omega)
  replace hI := hI.head' hT9 ho9 hw9
  obtain ⟨a10, c10, rfl, _, _⟩ := ownsRow_slice ho9
  clear NN N2 hT9 hw9 ho9
  try go_wp2_with fail
  refine hK.out _ _ (⟨KC.cell (i := 0) rfl, KC.cell (i := 1) rfl, KC.cell (i := 2) rfl, KC.cell (i := 3) rfl, KC.cell (i := 4) rfl, KC.cell (i := 5) rfl⟩) (fun hHeld => ?_)
  clear hK K
  try simp only [Act.put, List.setIfInBounds_toArray, List.set_cons_zero, List.set_cons_succ, List.getElem_toArray, List.getElem_cons_zero, List.getElem_cons_succ]
  refine wpAnyH_ready (rs := [10]) (by kernel_rfl) (by simp) ?_
  refine AllReadyH.cons rfl (fun K hK => ?_) AllReadyH.nil
  go_simp
  have NN := N3.out (.slice a10 6 c10) w10 hI.le.2.2.2 hI.oh
  refine NN.mono ?_
  rintro e w11 ⟨v9, rfl, ho9, hT9, hw9⟩
  replace KC := KC.turned hT9 (fun hs => by have := (hI.oh.lt _ hs).1; omega)
  replace hI := hI.head' hT9 ho9 hw9
  obtain ⟨a11, c11, rfl, _, _⟩ := ownsRow_slice ho9
  clear NN N3 hT9 hw9 ho9
  try go_wp2_with fail
  refine hK.out _ _ (⟨KC.cell (i := 0) rfl, KC.cell (i := 1) rfl, KC.cell (i := 2) rfl, KC.cell (i := 3) rfl, KC.cell (i := 4) rfl, KC.cell (i := 5) rfl⟩) (fun hHeld => ?_)
  clear hK K
  try simp only [Act.put, List.setIfInBounds_toArray, List.set_cons_zero, List.set_cons_succ, List.getElem_toArray, List.getElem_cons_zero, List.getElem_cons_succ]
  refine wpAnyH_ready (rs := [14]) (by kernel_rfl) (by simp) ?_
  refine AllReadyH.cons rfl (fun K hK => ?_) AllReadyH.nil
  go_simp
  have NN := N4.out (.slice a11 8 c11) w11 hI.le.2.2.2 hI.oh
  refine NN.mono ?_
  rintro e w12 ⟨v9, rfl, ho9, hT9, hw9⟩
  replace KC := KC.turned hT9 (fun hs => by have := (hI.oh.lt _ hs).1; omega)
  replace hI := hI.head' hT9 ho9 hw9
  obtain ⟨a12, c12, rfl, _, _⟩ := ownsRow_slice ho9
  clear NN N4 hT9 hw9 ho9
  try go_wp2_with fail
  refine hK.out _ _ (⟨KC.cell (i := 0) rfl, KC.cell (i := 1) rfl, KC.cell (i := 2) rfl, KC.cell (i := 3) rfl, KC.cell (i := 4) rfl, KC.cell (i := 5) rfl⟩) (fun hHeld => ?_)
  clear hK K
  try simp only [Act.put, List.setIfInBounds_toArray, List.set_cons_zero, List.set_cons_succ, List.getElem_toArray, List.getElem_cons_zero, List.getElem_cons_succ]
  refine wpAnyH_take (i := 15) (v := ?v16) rfl (by kernel_rfl) (by kernel_rfl) (by kernel_rfl) (fun _ _ _ h => h) (Or.inl ⟨by rfl, ?hy16⟩) hHeld ?rest16
  case hy16 => (intro w' hSw; (try dsimp only at hSw); go_simp; (try with_reducible rfl))
  try simp only [Act.put, List.setIfInBounds_toArray, List.set_cons_zero, List.set_cons_succ, List.getElem_toArray, List.getElem_cons_zero, List.getElem_cons_succ]
  refine wpAnyH_done (by kernel_rfl) ?_ _
  clear a0 a1 a2 a3 a4 a5
  have a0 := KC.cell (i := 0) rfl
  have a1 := KC.cell (i := 1) rfl
  have a2 := KC.cell (i := 2) rfl
  have a3 := KC.cell (i := 3) rfl
  have a4 := KC.cell (i := 4) rfl
  have a5 := KC.cell (i := 5) rfl
  go_wp2_with fail
  refine wp_region_held_drew (S := (fun w' : World => w'.cell? ⟨w.heap.size, 0, none⟩ = some (.int .i64 W) ∧ w'.cell? ⟨w.heap.size, 1, none⟩ = some (.int .i64 H) ∧ w'.cell? ⟨w.heap.size, 2, none⟩ = some (.slice a n cap) ∧ w'.cell? ⟨w.heap.size, 3, none⟩ = some (.int .i64 cell) ∧ w'.cell? ⟨w.heap.size, 4, none⟩ = some (.int .i32 ox) ∧ w'.cell? ⟨w.heap.size, 5, none⟩ = some (.int .i32 oy))) (by kernel_rfl) (⟨a0, a1, a2, a3, a4, a5⟩) (fun hHeld => ?_)
  refine wpAnyH_take (i := 0) (v := ?v17) rfl (by kernel_rfl) (by kernel_rfl) (by kernel_rfl) (fun _ _ _ h => h) (Or.inl ⟨by rfl, ?hy17⟩) hHeld ?rest17
  case hy17 => (intro w' hSw; (try dsimp only at hSw); go_simp; (try with_reducible rfl))
  try simp only [Act.put, List.setIfInBounds_toArray, List.set_cons_zero, List.set_cons_succ, List.getElem_toArray, List.getElem_cons_zero, List.getElem_cons_succ]
  refine wpAnyH_take (i := 1) (v := ?v18) rfl (by kernel_rfl) (by kernel_rfl) (by kernel_rfl) (fun _ _ _ h => h) (Or.inl ⟨by rfl, ?hy18⟩) hHeld ?rest18
  case hy18 => (intro w' hSw; (try dsimp only at hSw); go_simp; (try with_reducible rfl))
  try simp only [Act.put, List.setIfInBounds_toArray, List.set_cons_zero, List.set_cons_succ, List.getElem_toArray, List.getElem_cons_zero, List.getElem_cons_succ]
  refine wpAnyH_take (i := 2) (v := ?v19) rfl (by kernel_rfl) (by kernel_rfl) (by kernel_rfl) (fun _ _ _ h => h) (Or.inl ⟨by rfl, ?hy19⟩) hHeld ?rest19
  case hy19 => (intro w' hSw; (try dsimp only at hSw); go_simp; (try with_reducible rfl))
  try simp only [Act.put, List.setIfInBounds_toArray, List.set_cons_zero, List.set_cons_succ, List.getElem_toArray, List.getElem_cons_zero, List.getElem_cons_succ]
  refine wpAnyH_take (i := 3) (v := ?v20) rfl (by kernel_rfl) (by kernel_rfl) (by kernel_rfl) (fun _ _ _ h => h) (Or.inl ⟨by rfl, ?hy20⟩) hHeld ?rest20
  case hy20 => (intro w' hSw; (try dsimp only at hSw); go_simp; (try with_reducible rfl))
  try simp only [Act.put, List.setIfInBounds_toArray, List.set_cons_zero, List.set_cons_succ, List.getElem_toArray, List.getElem_cons_zero, List.getElem_cons_succ]
  refine wpAnyH_take (i := 4) (v := ?v21) rfl (by kernel_rfl) (by kernel_rfl) (by kernel_rfl) (fun _ _ _ h => h) (Or.inl ⟨by rfl, ?hy21⟩) hHeld ?rest21
  case hy21 => (intro w' hSw; (try dsimp only at hSw); go_simp; (try with_reducible rfl))
  try simp only [Act.put, List.setIfInBounds_toArray, List.set_cons_zero, List.set_cons_succ, List.getElem_toArray, List.getElem_cons_zero, List.getElem_cons_succ]
  refine wpAnyH_take (i := 6) (v := ?v22) rfl (by kernel_rfl) (by kernel_rfl) (by kernel_rfl) (fun _ _ _ h => h) (Or.inl ⟨by rfl, ?hy22⟩) hHeld ?rest22
  case hy22 => (intro w' hSw; (try dsimp only at hSw); go_simp; (try with_reducible rfl))
  try simp only [Act.put, List.setIfInBounds_toArray, List.set_cons_zero, List.set_cons_succ, List.getElem_toArray, List.getElem_cons_zero, List.getElem_cons_succ]
  refine wpAnyH_take (i := 7) (v := ?v23) rfl (by kernel_rfl) (by kernel_rfl) (by kernel_rfl) (fun _ _ _ h => h) (Or.inl ⟨by rfl, ?hy23⟩) hHeld ?rest23
  case hy23 => (intro w' hSw; (try dsimp only at hSw); go_simp; (try with_reducible rfl))
  try simp only [Act.put, List.setIfInBounds_toArray, List.set_cons_zero, List.set_cons_succ, List.getElem_toArray, List.getElem_cons_zero, List.getElem_cons_succ]
  refine wpAnyH_take (i := 8) (v := ?v24) rfl (by kernel_rfl) (by kernel_rfl) (by kernel_rfl) (fun _ _ _ h => h) (Or.inl ⟨by rfl, ?hy24⟩) hHeld ?rest24
  case hy24 => (intro w' hSw; (try dsimp only at hSw); go_simp; (try with_reducible rfl))
  try simp only [Act.put, List.setIfInBounds_toArray, List.set_cons_zero, List.set_cons_succ, List.getElem_toArray, List.getElem_cons_zero, List.getElem_cons_succ]
  refine wpAnyH_take (i := 9) (v := ?v25) rfl (by kernel_rfl) (by kernel_rfl) (by kernel_rfl) (fun _ _ _ h => h) (Or.inl ⟨by rfl, ?hy25⟩) hHeld ?rest25
  case hy25 => (intro w' hSw; (try dsimp only at hSw); go_simp; (try with_reducible rfl))
  try simp only [Act.put, List.setIfInBounds_toArray, List.set_cons_zero, List.set_cons_succ, List.getElem_toArray, List.getElem_cons_zero, List.getElem_cons_succ]
  refine wpAnyH_ready (rs := [5]) (by kernel_rfl) (by simp) ?_
  refine AllReadyH.cons rfl (fun K hK => ?_) AllReadyH.nil
  go_simp
  replace KC := KC.drew
  replace hI := hI.drew
  have NN := N5.out (.slice a12 10 c12) w12.drew hI.le.2.2.2 hI.oh
  refine NN.mono ?_
  rintro e w13 ⟨v9, rfl, ho9, hT9, hw9⟩
  replace KC := KC.turned hT9 (fun hs => by have := (hI.oh.lt _ hs).1; omega)
  replace hI := hI.head' hT9 ho9 hw9
  obtain ⟨a13, c13, rfl, _, _⟩ := ownsRow_slice ho9
  clear NN N5 hT9 hw9 ho9
  try go_wp2_with fail
  refine hK.out _ _ (⟨KC.cell (i := 0) rfl, KC.cell (i := 1) rfl, KC.cell (i := 2) rfl, KC.cell (i := 3) rfl, KC.cell (i := 4) rfl, KC.cell (i := 5) rfl⟩) (fun hHeld => ?_)
  clear hK K
  try simp only [Act.put, List.setIfInBounds_toArray, List.set_cons_zero, List.set_cons_succ, List.getElem_toArray, List.getElem_cons_zero, List.getElem_cons_succ]
  refine wpAnyH_ready (rs := [10]) (by kernel_rfl) (by simp) ?_
  refine AllReadyH.cons rfl (fun K hK => ?_) AllReadyH.nil
  go_simp
  have NN := N6.out (.slice a13 14 c13) w13 hI.le.2.2.2 hI.oh
  refine NN.mono ?_
  rintro e w14 ⟨v9, rfl, ho9, hT9, hw9⟩
  replace KC := KC.turned hT9 (fun hs => by have := (hI.oh.lt _ hs).1; omega)
  replace hI := hI.head' hT9 ho9 hw9
  obtain ⟨a14, c14, rfl, _, _⟩ := ownsRow_slice ho9
  clear NN N6 hT9 hw9 ho9
  try go_wp2_with fail
  refine hK.out _ _ (⟨KC.cell (i := 0) rfl, KC.cell (i := 1) rfl, KC.cell (i := 2) rfl, KC.cell (i := 3) rfl, KC.cell (i := 4) rfl, KC.cell (i := 5) rfl⟩) (fun hHeld => ?_)
  clear hK K
  try simp only [Act.put, List.setIfInBounds_toArray, List.set_cons_zero, List.set_cons_succ, List.getElem_toArray, List.getElem_cons_zero, List.getElem_cons_succ]
  refine wpAnyH_take (i := 11) (v := ?v28) rfl (by kernel_rfl) (by kernel_rfl) (by kernel_rfl) (fun _ _ _ h => h) (Or.inl ⟨by rfl, ?hy28⟩) hHeld ?rest28
  case hy28 => (intro w' hSw; (try dsimp only at hSw); go_simp; (try with_reducible rfl))
  try simp only [Act.put, List.setIfInBounds_toArray, List.set_cons_zero, List.set_cons_succ, List.getElem_toArray, List.getElem_cons_zero, List.getElem_cons_succ]
  refine wpAnyH_done (by kernel_rfl) ?_ _
  clear a0 a1 a2 a3 a4 a5 e1 e2 e3 e4 e5 o1 o2 u1 u2 H0
  go_wp2_with fail
  go_loopw [7, 9, 10] (fun vh vb c wx => ∃ y m : Nat, y ≤ ny ∧ c = .int .i64 y ∧ Hid (m = (Bd (y * nx)).length) ∧ m ≤ 332800 ∧ PutI w wx B B vh vb (18 + 6 * (y * nx)) m (D (y * nx)) (Bd (y * nx)) ∧ Blk wx w.heap.size 28 [.int .i64 W, .int .i64 H, .slice a n cap, .int .i64 cell, .int .i32 ox, .int .i32 oy]) (fun _ _ c _ => ny - (intOf c).toNat)
  case atStart => exact ⟨0, 0, Nat.zero_le _, rfl, Lib.hid (by rw [Nat.zero_mul, HB0.out]; rfl), Nat.zero_le _, by rw [Nat.zero_mul, HB0.out]; exact hI, KC⟩
  case round =>
    clear hI KC
    obtain ⟨y, m, hy, rfl, hmm, hml, hI, K⟩ := hrel
    by_cases hlt : y < ny
    · have hle := HLE.out y hlt
      have hsu := HSU.out y
      have CTY := fun x hx => CT.out x y hx hlt
      obtain ⟨q, hq⟩ : ∃ q, q = y * nx := ⟨_, rfl⟩
      rw [← hq] at hle hsu hmm hI CTY
      have CTY := Lib.hid CTY
      have HSY := Lib.hid hsu
      clear hsu hq
      go_wp2_with fail
      go_loopw [7, 9, 11] (fun vh vb c wx => ∃ x m : Nat, x ≤ nx ∧ c = .int .i64 x ∧ Hid (m = (Bd (q + x)).length) ∧ m ≤ 332800 ∧ PutI w wx B B vh vb (18 + 6 * (q + x)) m (D (q + x)) (Bd (q + x)) ∧ Blk wx w.heap.size 28 [.int .i64 W, .int .i64 H, .slice a n cap, .int .i64 cell, .int .i32 ox, .int .i32 oy]) (fun _ _ c _ => nx - (intOf c).toNat)
      case atStart => exact ⟨0, m, Nat.zero_le _, rfl, hmm, hml, hI, K⟩
      case round =>
        clear hI K hmm hml m
        obtain ⟨x, m, hx, rfl, hmm, hml, hI, K⟩ := hrel
        by_cases hxt : x < nx
        · obtain ⟨sx, sy, k, Z, L, hR⟩ := CTY.out x hxt
          obtain ⟨i, hi⟩ : ∃ i, i = q + x := ⟨_, rfl⟩
          have hi9 : i < m9 := by omega
          rw [← hi] at hmm hI hR
          have HI := Lib.hid hi
          obtain ⟨l, hll⟩ : ∃ l, l = L.length := ⟨_, rfl⟩
          obtain ⟨t, ht⟩ : ∃ t, t = l + 4 := ⟨_, rfl⟩
          have htl : (T i).length = t := by rw [← hR.sum, putB_length, ← hll, ht]
          have hT := HT.out i hi9
          rw [htl] at hT
          have hbl := HBL.out i (by omega)
          rw [← hmm.out] at hbl
          have a0 := K.cell (i := 0) rfl
          have a1 := K.cell (i := 1) rfl
          have a2 := K.cell (i := 2) rfl
          have D1 := Lib.hid (hR.cut wr (HS.out.below hI.bel))
          have P1 := hR.put
          rw [← hll] at P1
          have P1 := Lib.hid P1
          have R1 := hR.sum
          have hLb := hR.byte
          have D3 := fun vx wx (hs : Sl wx 1 vx l (u8s L)) => refCrcPut_any vx L wx (by rw [← hll]; exact hs) (by rw [← hll]; omega) hLb
          rw [R1, ← hll, ← ht] at D3
          have D3 := Lib.hid D3
          have hd := HD.out i hi9
          rw [htl, ← hmm.out] at hd
          obtain ⟨p, hp⟩ : ∃ p, p = hl + m := ⟨_, rfl⟩
          have hpi : (hl : Int) + (m : Int) = (p : Int) := by omega
          have hp2 : p ≤ 400000 := by omega
          rw [← hp] at hd
          obtain ⟨d1, hd1⟩ : ∃ d, d = D i ++ lowB p 4 := ⟨_, rfl⟩
          rw [← hd1] at hd
          have N1 := Lib.hid (fun v wx hb ho => num9_any B v (18 + 6 * i) 4 (18 + 6 * i + 4) p (D i) d1 rfl hd1 (by omega) (by omega) (by omega) wx hb ho)
          have N2 := Lib.hid (fun v wx hb ho => num9_any B v (18 + 6 * i + 4) 2 (18 + 6 * (i + 1)) t d1 (D (i + 1)) (by omega) hd (by omega) (by omega) (by omega) wx hb ho)
          have HTL := Lib.hid htl
          clear hR hll ht htl R1 hLb hd hd1 hp hi
          go_wp2_with fail
          refine D1.out.mono ?_
          rintro e w20 ⟨v20, rfl, ho20, hA20⟩
          obtain ⟨a20, c20, rfl, _, _⟩ := ownsRow_slice ho20
          replace hI := hI.below hA20
          replace K := K.below hA20 K.lt
          have D2 := Lib.hid (P1.out a20 c20 w20 (Sl.of_own ho20))
          clear D1 P1 hA20 ho20 a0 a1 a2
          go_wp2_with fail
          refine D2.out.mono ?_
          rintro e w21 ⟨v21, rfl, ho21, hA21⟩
          obtain ⟨a21, c21, rfl, _, _⟩ := ownsRow_slice ho21
          replace hI := hI.below hA21
          replace K := K.below hA21 K.lt
          have D4 := Lib.hid (D3.out _ w21 (Sl.of_own ho21))
          obtain ⟨ah, ch, rfl, _, _⟩ := ownsRow_slice hI.oh
          obtain ⟨ab, cb, rfl, _, _⟩ := ownsRow_slice hI.ob
          clear D2 D3 hA21 ho21
          go_wp2_with fail
          refine D4.out.mono ?_
          rintro e w22 ⟨v22, rfl, ho22, hA22⟩
          have hne : ∀ j, v22.ownBlock = some j → (Value.slice ah (18 + 6 * i) ch).ownBlock = some j → False := fun j h1 h2 => by
            have := (ho22.lt j h1).1; have := (hI.oh.lt j h2).2; omega
          replace hI := hI.below hA22
          replace K := K.below hA22 K.lt
          clear D4 hA22
          obtain ⟨a22, c22, rfl, _, _⟩ := ownsRow_slice ho22
          have D5 := Lib.hid (N1.out (.slice ah (18 + 6 * i) ch) w22 hI.le.2.2.2 hI.oh)
          clear N1
          go_wp2_with fail
          refine D5.out.mono ?_
          rintro e w23 ⟨v23, rfl, ho23, hT23, hw23⟩
          have hne2 := apart_next hne ho22 hw23
          replace ho22 := hT23.own ho22 (fun j h1 h2 => hne j h1 h2)
          replace K := K.turned hT23 (fun hs => by have := (hI.oh.lt _ hs).1; omega)
          replace hI := hI.head' hT23 ho23 hw23
          obtain ⟨a23, c23, rfl, _, _⟩ := ownsRow_slice ho23
          have D6 := Lib.hid (N2.out (.slice a23 (18 + 6 * i + 4) c23) w23 hI.le.2.2.2 hI.oh)
          clear D5 N2 ho23 hT23 hw23 hne
          go_wp2_with fail
          refine D6.out.mono ?_
          rintro e w24 ⟨v24, rfl, ho24, hT24, hw24⟩
          replace ho22 := hT24.own ho22 (fun j h1 h2 => hne2 j h1 h2)
          replace K := K.turned hT24 (fun hs => by have := (hI.oh.lt _ hs).1; omega)
          replace hI := hI.head' hT24 ho24 hw24
          obtain ⟨a24, c24, rfl, _, _⟩ := ownsRow_slice ho24
          have hle2 := hI.le
          have HO8 := Lib.hid (Sl.of_own ho22)
          clear D6 ho24 hT24 hw24 hne2 ho22
          go_wp2_with (at_builtin; refine wpList_app Eu8 rfl (.tmp 102) (.tmp 103) rfl B rfl hI.ob rfl HO8.out (oneCell_u8s _) (by unfold maxLen; omega) (by omega) (by omega) ?_)
          intro v25 w25 ho25 hg25 hw25
          rw [show u8s (Bd i) ++ u8s (T i) = u8s (Bd (i + 1)) by rw [HB.out i]; simp [u8s]] at ho25
          have hT25 := grown_turned hg25
          have hI2 := hI.body hg25 ho25 hw25
          replace K := K.turned hT25 (fun hs => by have := (hI.ob.lt _ hs).1; omega)
          have hmm2 : Hid (m + t = (Bd (i + 1)).length) := by show _ = _; rw [HB.out i, List.length_append, HTL.out, hmm.out]
          obtain ⟨a25, c25, rfl, _, _⟩ := ownsRow_slice ho25
          clear hI ho25 hg25 hw25 hT25 HO8
          have hix : Hid (q + (x + 1) = i + 1) := by show _ = _; rw [HI.out, Nat.add_assoc]
          go_wp2_with fail
          go_roundw
          case rel => exact ⟨x + 1, m + t, by omega, by go_num, by rw [hix.out]; exact hmm2, by omega, by rw [hix.out]; exact hI2, K⟩
          case measure => simp [intOf]; omega
        · obtain rfl : x = nx := by omega
          rw [← HSY.out] at hI hmm
          go_wp2_with fail
          go_roundw
          case rel => exact ⟨y + 1, m, by omega, by go_num, hmm, hml, hI, K⟩
          case measure => simp [intOf]; omega
    · obtain rfl : y = ny := by omega
      rw [← HNM.out] at hI hmm
      obtain ⟨ah, ch, rfl, _, _⟩ := ownsRow_slice hI.oh
      obtain ⟨ab, cb, rfl, _, _⟩ := ownsRow_slice hI.ob
      have hDl := HDL.out m9
      have D6 := refCrcPut_any (.slice ah (18 + 6 * m9) ch) (D m9) wr (by rw [hDl]; exact Sl.of_own hI.oh) (by omega) (HDB.out m9)
      rw [hDl] at D6
      have D6 := Lib.hid D6
      have HDl := Lib.hid hDl
      clear K hDl
      go_wp2_with fail
      refine D6.out.mono ?_
      rintro e w6 ⟨v6, rfl, ho6, hA6⟩
      obtain ⟨a6, c6, rfl, _, _⟩ := ownsRow_slice ho6
      have hz := hI.bel.size
      have hz2 := hA6.size
      replace hI := hI.below hA6
      clear D6 hA6
      have HOB := Lib.hid (Sl.of_own hI.ob)
      go_wp2_with (at_builtin; refine wpList_app Eu8 rfl (.tmp 106) (.tmp 107) rfl wr.heap.size rfl ho6 rfl HOB.out (oneCell_u8s _) (by unfold maxLen; omega) (by omega) (by omega) ?_)
      intro v7 w7 ho7 hg7 _
      have hT7 := grown_turned hg7
      have hB7 := hT7.old hI.bel hI.bel.size (fun j hj hs => by have := (ho6.lt j hs).1; omega)
      obtain ⟨a7, c7, rfl, _, _⟩ := ownsRow_slice ho7
      clear hg7 hT7
      go_wp2_with fail
      go_ret2
      refine ⟨_, rfl, ?_, hB7⟩
      have e1 : u8s (putB (D m9) ++ Bd m9) = u8s (putB (D m9)) ++ u8s (Bd m9) := by simp [u8s]
      rw [e1, ← hmm.out, show hl + m = 18 + 6 * m9 + 4 + m by rw [HHL.out]; omega]
      exact ownsRow_base ho7 hz

theorem ref9Put_any (W H cell n : Nat) (ox oy : Int) (a : Option Addr) (cap : Nat) (F : List Int) (hF : isF W H = true) (hn : n = W * H) (hc : isC cell = true) (hl : F.length = n) (h16 : ∀ u ∈ F, In16 u) (w : World) (hS : Sl w 1 (.slice a n cap) n (i16s F)) :
    Calls Try.prog 9 #[cv W H (.slice a n cap) cell ox oy] w fun e w' => ∃ v, e = .returned (.tuple #[v, .int .i64 0]) ∧ w'.ownsRow w.heap.size 5 1 v (chartB F W H cell ox oy).length (u8s (chartB F W H cell ox oy)) ∧ Below w.heap.size w w' := by
  obtain ⟨h1, h2, h3, h4⟩ := isF_yes hF
  have hcc := isC_yes hc
  have hFl : F.length = W * H := by rw [hl, hn]
  have hm := nT_le (W := W) (H := H) (by omega) (by omega)
  have hm1 := nT_pos (W := W) (H := H) (by omega) (by omega)
  have hhl : headLen W H = 22 + 6 * nT W H := by unfold headLen; omega
  have l1 := cnt_le W
  have l2 := cnt_le H
  have l3 := cnt_ge W
  rw [chartB_length]
  refine ref9Put_go W H cell n (nT W H) (headLen W H) (cnt W) (cnt H) ox oy a cap F (dirTo F W H cell ox oy) (bodyTo F W H) (tileB F W H) w hS (by omega) (by omega) (by omega) hm hhl hm1 (Nat.mul_comm _ _) (by omega) (by omega)
    (Lib.hid (ref9Check_ok W H n cell ox oy a cap hF hn hc)) (Lib.hid (ref8Count_any W (by omega))) (Lib.hid (ref8Count_any H (by omega))) (Lib.hid ?_) (Lib.hid rfl)
    (Lib.hid (fun i _ => by rw [dirTo, List.append_assoc])) (Lib.hid (fun i => dirTo_length F W H cell ox oy i)) (Lib.hid (fun i => dirTo_lt F W H cell ox oy i))
    (Lib.hid (fun i => rfl)) (Lib.hid rfl) (Lib.hid (fun i hi => bodyTo_length F W H i hFl hi)) (Lib.hid (fun i hi => tileB_length F W H i hFl hi))
  intro x y hx hy
  have hlt : y * cnt W + x < nT W H := by
    have := Nat.mul_le_mul_right (cnt W) (Nat.succ_le_of_lt hy)
    rw [Nat.succ_mul, Nat.mul_comm (cnt H)] at this
    unfold nT; omega
  have := refTile_any W H n (y * cnt W + x) a cap F hF hn hl h16 hlt
  have e1 : (y * cnt W + x) % cnt W = x := by rw [Nat.mul_comm, Nat.mul_add_mod]; exact Nat.mod_eq_of_lt hx
  have e2 : (y * cnt W + x) / cnt W = y := by rw [Nat.mul_comm, Nat.mul_add_div (by omega), Nat.div_eq_of_lt hx]; rfl
  rwa [e1, e2] at this
end Go.Proofs.Ytdknnfineommoaa
