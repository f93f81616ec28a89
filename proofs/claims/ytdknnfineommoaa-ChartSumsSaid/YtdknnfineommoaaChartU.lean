/-
  Header and directory read: the code's Open.
-/
import Derived.Test.YtdknnfineommoaaChartO
import Derived.Test.YtdknnfineommoaaPackCrc
set_option linter.unusedVariables false
set_option linter.unusedSimpArgs false
namespace Go.Proofs.Ytdknnfineommoaa
open Go Go.RowKit Go.Th Go.Th.Crc

theorem directory_any (W H L : Nat) (cell ox oy : Int) (bs : List Nat) (a : Option Addr) (cap : Nat) (hL : L = bs.length) (hF : isF W H = true) (hh : headLen W H ≤ L) (hL2 : L ≤ 1000000000) (hb : ∀ x ∈ bs, x < 256) (w : World) (hS : Sl w 1 (.slice a L cap) L (u8s bs)) :
    Calls Try.prog 37 #[.slice a L cap, cv W H (.slice none 0 0) cell ox oy] w fun e w' =>
      ((∀ i, i < nT W H → rd bs (18 + 6 * i) 4 = offs bs W H i) ∧ offs bs W H (nT W H) = L ∧ ∃ va vs, e = .returned (.tuple #[dv W H (.slice none 0 0) cell ox oy va vs, .int .i64 0]) ∧ w'.ownsRow w.heap.size 3 1 va (nT W H) (ints ((List.range (nT W H)).map (offs bs W H))) ∧ w'.ownsRow w.heap.size 3 1 vs (nT W H) (ints ((List.range (nT W H)).map (fun i => rd bs (18 + 6 * i + 4) 2))) ∧ Below w.heap.size w w') ∨
      (¬ ((∀ i, i < nT W H → rd bs (18 + 6 * i) 4 = offs bs W H i) ∧ offs bs W H (nT W H) = L) ∧ ∃ c : Int, c ≠ 0 ∧ e = .returned (.tuple #[dv 0 0 (.slice none 0 0) 0 0 0 (.slice none 0 0) (.slice none 0 0), .int .i64 c]) ∧ Below w.heap.size w w') := by
  obtain ⟨h1, h2, h3, h4⟩ := isF_yes hF
  have hm := nT_le (W := W) (H := H) (by omega) (by omega)
  have hhl : headLen W H = 22 + 6 * nT W H := by unfold headLen; omega
  exact directory_go W H (nT W H) (headLen W H) L cell ox oy bs (offs bs W H) (fun i => rd bs (18 + 6 * i + 4) 2) a cap w hm hhl hh hL2 (Lib.hid (head_any W H hF)) (Lib.hid (count9_any W H hF))
    (Lib.hid (fun at_ size hs hy wx hB => num4_any (.slice a L cap) bs at_ size hs (by omega) hb (by omega) wx (by rw [← hL]; exact hS.below hB)))
    (Lib.hid (fun i => rfl)) (Lib.hid rfl) (Lib.hid (fun i => rfl)) (Lib.hid (fun i => rd_lt2 bs _ hb)) (Lib.hid (fun i => rd_lt4 bs _ 4 hb (by decide)))

/-- What Open answers of any bytes. -/
def Opened (w0 : World) (bs : List Nat) (e : Ending) (w' : World) : Prop :=
  (∃ (W H cell : Nat) (va vs : Value), Opens bs W H cell ∧ e = .returned (.tuple #[dv W H (.slice none 0 0) cell (IntKind.i32.wrap (rd bs 10 4 : Nat)) (IntKind.i32.wrap (rd bs 14 4 : Nat)) va vs, .int .i64 0]) ∧
    w'.ownsRow w0.heap.size 3 1 va (nT W H) (ints ((List.range (nT W H)).map (offs bs W H))) ∧ w'.ownsRow w0.heap.size 3 1 vs (nT W H) (ints ((List.range (nT W H)).map (fun i => rd bs (18 + 6 * i + 4) 2))) ∧ Below w0.heap.size w0 w') ∨
  ((∀ W H cell, ¬ Opens bs W H cell) ∧ ∃ c : Int, c ≠ 0 ∧ (18 ≤ bs.length ∧ rd bs 0 4 = 1296978516 ∧ isF (rd bs 4 2 : Nat) (rd bs 6 2 : Nat) = false → c = 2) ∧
    e = .returned (.tuple #[dv 0 0 (.slice none 0 0) 0 0 0 (.slice none 0 0) (.slice none 0 0), .int .i64 c]) ∧ Below w0.heap.size w0 w')

set_option maxRecDepth 20000 in
set_option maxHeartbeats 6400000 in
theorem open9_any (L : Nat) (bs : List Nat) (a : Option Addr) (cap : Nat) (hL : L = bs.length) (hL2 : L ≤ 1000000000) (hb : ∀ x ∈ bs, x < 256) (w : World) (hS : Sl w 1 (.slice a L cap) L (u8s bs)) :
    Calls Try.prog 12 #[.slice a L cap] w (Opened w bs) := by
  have KR : Blk (w.alloc (.cells #[.int .i64 0, .int .i64 0, .slice none 0 0, .int .i64 0, .int .i32 0, .int .i32 0, .slice none 0 0, .slice none 0 0] 37)) w.heap.size 37 [.int .i64 0, .int .i64 0, .slice none 0 0, .int .i64 0, .int .i32 0, .int .i32 0, .slice none 0 0, .slice none 0 0] := Blk.new w _ _
  have hB : Below w.heap.size w (w.alloc (.cells #[.int .i64 0, .int .i64 0, .slice none 0 0, .int .i64 0, .int .i32 0, .int .i32 0, .slice none 0 0, .slice none 0 0] 37)) := (Below.refl _ _).alloc (Nat.le_refl _) _
  obtain ⟨w1, hw1⟩ : ∃ w1, w.alloc (.cells #[.int .i64 0, .int .i64 0, .slice none 0 0, .int .i64 0, .int .i32 0, .int .i32 0, .slice none 0 0, .slice none 0 0] 37) = w1 := ⟨_, rfl⟩
  rw [hw1] at KR hB
  obtain ⟨gR, hgR⟩ : ∃ g, w.heap.size = g := ⟨_, rfl⟩
  rw [hgR] at KR
  by_cases h18 : L < 18
  · have hno : ∀ W H cell, ¬ Opens bs W H cell := fun W H cell h => by have := h.big; omega
    have hsp : 18 ≤ bs.length ∧ rd bs 0 4 = 1296978516 ∧ isF (rd bs 4 2 : Nat) (rd bs 6 2 : Nat) = false → (5 : Int) = 2 := fun h => by omega
    have HNO := Lib.hid hno
    have HSP := Lib.hid hsp
    have h18i : (L : Int) < 18 := by omega
    clear hno hsp hL hb hS h18
    have z0 := KR.cell (i := 0) rfl
    have z1 := KR.cell (i := 1) rfl
    have z2 := KR.cell (i := 2) rfl
    have z3 := KR.cell (i := 3) rfl
    have z4 := KR.cell (i := 4) rfl
    have z5 := KR.cell (i := 5) rfl
    have z6 := KR.cell (i := 6) rfl
    have z7 := KR.cell (i := 7) rfl
    have zf0 := KR.free 0
    have zf1 := KR.free 1
    have zf2 := KR.free 2
    have zf3 := KR.free 3
    have zf4 := KR.free 4
    have zf5 := KR.free 5
    have zf6 := KR.free 6
    have zf7 := KR.free 7
    go_enter Try.func12, Try.ntmps12
    go_wp2_with fail
    refine bodyPost_ret (v := .tuple #[dv 0 0 (.slice none 0 0) 0 0 0 (.slice none 0 0) (.slice none 0 0), .int .i64 5]) (res_blk_tmp rfl rfl (blk_set8 KR _ _ _ _ _ _ _ _) Try.underlying37 rfl (by kernel_rfl) rfl) rfl ?_
    have ht := turned_set8 w1 gR (.int .i64 0) (.int .i64 0) (.slice none 0 0) (.int .i64 0) (.int .i32 0) (.int .i32 0) (.slice none 0 0) (.slice none 0 0)
    exact .inr ⟨HNO.out, 5, by decide, HSP.out, rfl, ht.old hB hB.size (by rintro k hk rfl; omega)⟩
  have h18i : ¬ ((L : Int) < 18) := by omega
  have C1 := fun wx (hs : Sl wx 1 (.slice a L cap) L (u8s bs)) => chartOf_any (.slice a L cap) bs (by omega) hb (by omega) wx (by rw [← hL]; exact hs)
  have C2 := fun wx (hs : Sl wx 1 (.slice a L cap) L (u8s bs)) => num4_any (.slice a L cap) bs 0 4 (by omega) (by omega) hb (by omega) wx (by rw [← hL]; exact hs)
  have CD := fun (W H : Nat) (cell ox oy : Int) hF hh wx hs => directory_any W H L cell ox oy bs a cap hL hF hh hL2 hb wx hs
  have CY := fun (a' : Option Addr) (n cap' : Nat) (hn : n ≤ L) (h4 : 4 ≤ n) (hok : okB (bs.take n) = true) wx (hs : Sl wx 1 (.slice a' n cap') n (u8s (bs.take n))) =>
    crcGet_yes (.slice a' n cap') (bs.take n) wx (by rw [List.length_take, Nat.min_eq_left (by omega)]; exact hs) (by rw [List.length_take]; omega) (mem_take hb n) (by rw [List.length_take]; omega) hok
  have CX := fun (a' : Option Addr) (n cap' : Nat) (hn : n ≤ L) (h4 : 4 ≤ n) (hok : okB (bs.take n) = false) wx (hs : Sl wx 1 (.slice a' n cap') n (u8s (bs.take n))) =>
    crcGet_no (.slice a' n cap') (bs.take n) wx (by rw [List.length_take, Nat.min_eq_left (by omega)]; exact hs) (by rw [List.length_take]; omega) (mem_take hb n) (by rw [List.length_take]; omega) hok
  have OP := fun W H cell (h : Opens bs W H cell) => h
  have r0 := rd_lt4 bs 0 4 hb (by decide)
  have r1 := rd_lt2 bs 4 hb
  have r2 := rd_lt2 bs 6 hb
  have r3 := rd_lt2 bs 8 hb
  obtain ⟨n0, hn0⟩ : ∃ r, r = rd bs 0 4 := ⟨_, rfl⟩
  obtain ⟨n1, hn1⟩ : ∃ r, r = rd bs 4 2 := ⟨_, rfl⟩
  obtain ⟨n2, hn2⟩ : ∃ r, r = rd bs 6 2 := ⟨_, rfl⟩
  obtain ⟨n3, hn3⟩ : ∃ r, r = rd bs 8 2 := ⟨_, rfl⟩
  obtain ⟨q4, hq4⟩ : ∃ r, r = IntKind.i32.wrap (rd bs 10 4 : Nat) := ⟨_, rfl⟩
  obtain ⟨q5, hq5⟩ : ∃ r, r = IntKind.i32.wrap (rd bs 14 4 : Nat) := ⟨_, rfl⟩
  rw [← hn0] at C2 r0
  rw [← hn1, ← hn2, ← hn3, ← hq4, ← hq5] at C1
  rw [← hn1] at r1
  rw [← hn2] at r2
  rw [← hn3] at r3
  unfold Opened
  rw [← hn0, ← hn1, ← hn2, ← hq4, ← hq5]
  have HN0 := Lib.hid hn0
  have HN1 := Lib.hid hn1
  have HN2 := Lib.hid hn2
  have HN3 := Lib.hid hn3
  have CF := isField9_any n1 n2
  have CC := isCell_go n3
  have HH := Lib.hid (fun hF => head_any n1 n2 hF)
  have HL := Lib.hid hL
  have HS := Lib.hid hS
  have HBB := Lib.hid hb
  have C1 := Lib.hid (C1 w1 (hS.below hB))
  have C2 := Lib.hid C2
  have CD := Lib.hid CD
  have CY := Lib.hid CY
  have CX := Lib.hid CX
  have CF := Lib.hid CF
  have CC := Lib.hid CC
  have hmx := hS.max
  clear hL hS hb hn0 hn1 hn2 hn3 hq4 hq5 h18 OP
  go_enter Try.func12, Try.ntmps12
  go_wp2_with fail
  clear hw1
  refine C1.out.mono ?_
  rintro e w2 ⟨rfl, hA⟩
  clear C1
  replace KR := KR.below hA KR.lt
  replace hB := hB.trans (hA.mono hB.size)
  clear hA
  obtain ⟨w3, hw3⟩ : ∃ w3, w2.alloc (.cells #[.int .i64 n1, .int .i64 n2, .slice none 0 0, .int .i64 n3, .int .i32 q4, .int .i32 q5] 28) = w3 := ⟨_, rfl⟩
  have hA : Below w2.heap.size w2 w3 := by rw [← hw3]; exact (Below.refl _ _).alloc (Nat.le_refl _) _
  have KC : Blk w3 w2.heap.size 28 [.int .i64 n1, .int .i64 n2, .slice none 0 0, .int .i64 n3, .int .i32 q4, .int .i32 q5] := by rw [← hw3]; exact Blk.new w2 _ _
  replace KR := KR.below hA KR.lt
  replace hB := hB.trans (hA.mono hB.size)
  clear hA
  have D2 := Lib.hid (C2.out w3 (HS.out.below hB))
  clear C2
  go_wp2_with fail
  clear hw3
  refine D2.out.mono ?_
  rintro e wx ⟨rfl, rfl⟩
  clear D2
  by_cases hmag : n0 = 1296978516
  rotate_left
  · have hne : ((n0 : Int) != 1296978516) = true := by simp; omega
    have hno : ∀ W H cell, ¬ Opens bs W H cell := fun W H cell h => hmag (by rw [HN0.out]; exact h.magic)
    have hsp : 18 ≤ bs.length ∧ n0 = 1296978516 ∧ isF n1 n2 = false → (3 : Int) = 2 := fun h => absurd h.2.1 hmag
    have HNO := Lib.hid hno
    have HSP := Lib.hid hsp
    clear hno hsp hmag
    have z0 := KR.cell (i := 0) rfl
    have z1 := KR.cell (i := 1) rfl
    have z2 := KR.cell (i := 2) rfl
    have z3 := KR.cell (i := 3) rfl
    have z4 := KR.cell (i := 4) rfl
    have z5 := KR.cell (i := 5) rfl
    have z6 := KR.cell (i := 6) rfl
    have z7 := KR.cell (i := 7) rfl
    have zf0 := KR.free 0
    have zf1 := KR.free 1
    have zf2 := KR.free 2
    have zf3 := KR.free 3
    have zf4 := KR.free 4
    have zf5 := KR.free 5
    have zf6 := KR.free 6
    have zf7 := KR.free 7
    go_wp2_with fail
    refine bodyPost_ret (v := .tuple #[dv 0 0 (.slice none 0 0) 0 0 0 (.slice none 0 0) (.slice none 0 0), .int .i64 3]) (res_blk_tmp rfl rfl (blk_set8 KR _ _ _ _ _ _ _ _) Try.underlying37 rfl (by kernel_rfl) rfl) rfl ?_
    have ht := turned_set8 w3 gR (.int .i64 0) (.int .i64 0) (.slice none 0 0) (.int .i64 0) (.int .i32 0) (.int .i32 0) (.slice none 0 0) (.slice none 0 0)
    exact .inr ⟨HNO.out, 3, by decide, HSP.out, rfl, ht.old hB hB.size (by rintro k hk rfl; omega)⟩
  have hne : ((n0 : Int) != 1296978516) = false := by simp; omega
  have HMAG := Lib.hid hmag
  clear hmag
  have a0 := KC.cell (i := 0) rfl
  have a1 := KC.cell (i := 1) rfl
  go_wp2_with fail
  refine (CF.out _).mono ?_
  rintro e w4 ⟨rfl, hA⟩
  replace KC := KC.below hA KC.lt
  clear CF a0 a1
  replace KR := KR.below hA KR.lt
  replace hB := hB.trans (hA.mono hB.size)
  clear hA
  have a3 := KC.cell (i := 3) rfl
  by_cases hF : isF n1 n2 = true
  rotate_left
  · have hF' : isF n1 n2 = false := by simpa using hF
    have hno : ∀ W H cell, ¬ Opens bs W H cell := fun W H cell h => hF (by rw [HN1.out, HN2.out, h.w, h.h]; exact isF_of (by have := h.wr; have := h.hr; omega))
    have HNO := Lib.hid hno
    clear hno hF
    rw [hF']
    clear hF'
    have z0 := KR.cell (i := 0) rfl
    have z1 := KR.cell (i := 1) rfl
    have z2 := KR.cell (i := 2) rfl
    have z3 := KR.cell (i := 3) rfl
    have z4 := KR.cell (i := 4) rfl
    have z5 := KR.cell (i := 5) rfl
    have z6 := KR.cell (i := 6) rfl
    have z7 := KR.cell (i := 7) rfl
    have zf0 := KR.free 0
    have zf1 := KR.free 1
    have zf2 := KR.free 2
    have zf3 := KR.free 3
    have zf4 := KR.free 4
    have zf5 := KR.free 5
    have zf6 := KR.free 6
    have zf7 := KR.free 7
    go_wp2_with fail
    refine bodyPost_ret (v := .tuple #[dv 0 0 (.slice none 0 0) 0 0 0 (.slice none 0 0) (.slice none 0 0), .int .i64 2]) (res_blk_tmp rfl rfl (blk_set8 KR _ _ _ _ _ _ _ _) Try.underlying37 rfl (by kernel_rfl) rfl) rfl ?_
    have ht := turned_set8 w4 gR (.int .i64 0) (.int .i64 0) (.slice none 0 0) (.int .i64 0) (.int .i32 0) (.int .i32 0) (.slice none 0 0) (.slice none 0 0)
    exact .inr ⟨HNO.out, 2, by decide, fun _ => rfl, rfl, ht.old hB hB.size (by rintro k hk rfl; omega)⟩
  rw [hF]
  have HF := Lib.hid hF
  clear hF
  by_cases hC : isC n3 = true
  rotate_left
  · have hC' : isC n3 = false := by simpa using hC
    have hno : ∀ W H cell, ¬ Opens bs W H cell := fun W H cell h => hC (by rw [HN3.out, h.c]; exact isC_of (by have := h.cr; omega))
    have HNO := Lib.hid hno
    rw [hC'] at CC
    clear hno hC hC'
    have z0 := KR.cell (i := 0) rfl
    have z1 := KR.cell (i := 1) rfl
    have z2 := KR.cell (i := 2) rfl
    have z3 := KR.cell (i := 3) rfl
    have z4 := KR.cell (i := 4) rfl
    have z5 := KR.cell (i := 5) rfl
    have z6 := KR.cell (i := 6) rfl
    have z7 := KR.cell (i := 7) rfl
    have zf0 := KR.free 0
    have zf1 := KR.free 1
    have zf2 := KR.free 2
    have zf3 := KR.free 3
    have zf4 := KR.free 4
    have zf5 := KR.free 5
    have zf6 := KR.free 6
    have zf7 := KR.free 7
    go_wp2_with fail
    refine (CC.out _).mono ?_
    rintro e wx ⟨rfl, rfl⟩
    clear CC
    have z0 := KR.cell (i := 0) rfl
    have z1 := KR.cell (i := 1) rfl
    have z2 := KR.cell (i := 2) rfl
    have z3 := KR.cell (i := 3) rfl
    have z4 := KR.cell (i := 4) rfl
    have z5 := KR.cell (i := 5) rfl
    have z6 := KR.cell (i := 6) rfl
    have z7 := KR.cell (i := 7) rfl
    have zf0 := KR.free 0
    have zf1 := KR.free 1
    have zf2 := KR.free 2
    have zf3 := KR.free 3
    have zf4 := KR.free 4
    have zf5 := KR.free 5
    have zf6 := KR.free 6
    have zf7 := KR.free 7
    go_wp2_with fail
    refine bodyPost_ret (v := .tuple #[dv 0 0 (.slice none 0 0) 0 0 0 (.slice none 0 0) (.slice none 0 0), .int .i64 2]) (res_blk_tmp rfl rfl (blk_set8 KR _ _ _ _ _ _ _ _) Try.underlying37 rfl (by kernel_rfl) rfl) rfl ?_
    have ht := turned_set8 w4 gR (.int .i64 0) (.int .i64 0) (.slice none 0 0) (.int .i64 0) (.int .i32 0) (.int .i32 0) (.slice none 0 0) (.slice none 0 0)
    exact .inr ⟨HNO.out, 2, by decide, fun _ => rfl, rfl, ht.old hB hB.size (by rintro k hk rfl; omega)⟩
  rw [hC] at CC
  have HC := Lib.hid hC
  clear hC
  go_wp2_with fail
  refine (CC.out _).mono ?_
  rintro e wx ⟨rfl, rfl⟩
  clear CC a3
  have a0 := KC.cell (i := 0) rfl
  have a1 := KC.cell (i := 1) rfl
  have CH := Lib.hid (HH.out HF.out)
  clear HH
  go_wp2_with fail
  refine (CH.out _).mono ?_
  rintro e w5 ⟨rfl, hA⟩
  replace KC := KC.below hA KC.lt
  clear CH a0 a1
  replace KR := KR.below hA KR.lt
  replace hB := hB.trans (hA.mono hB.size)
  clear hA
  obtain ⟨hl, hhl⟩ : ∃ hl, hl = headLen n1 n2 := ⟨_, rfl⟩
  rw [← hhl]
  have HHL := Lib.hid hhl
  have hl4 : 4 ≤ hl := by rw [hhl]; unfold headLen; omega
  clear hhl
  have hsp : ∀ c : Int, 18 ≤ bs.length ∧ n0 = 1296978516 ∧ isF n1 n2 = false → c = 2 := fun c h => by rw [HF.out] at h; cases h.2.2
  have HSP := Lib.hid hsp
  clear hsp
  by_cases hll : L < hl
  · have hlli : (L : Int) < (hl : Int) := by omega
    have hno : ∀ W H cell, ¬ Opens bs W H cell := fun W H cell h => by
      have e1 := h.head
      rw [← h.w, ← h.h, ← HN1.out, ← HN2.out, ← HHL.out, ← HL.out] at e1
      omega
    have HNO := Lib.hid hno
    clear hno
    have z0 := KR.cell (i := 0) rfl
    have z1 := KR.cell (i := 1) rfl
    have z2 := KR.cell (i := 2) rfl
    have z3 := KR.cell (i := 3) rfl
    have z4 := KR.cell (i := 4) rfl
    have z5 := KR.cell (i := 5) rfl
    have z6 := KR.cell (i := 6) rfl
    have z7 := KR.cell (i := 7) rfl
    have zf0 := KR.free 0
    have zf1 := KR.free 1
    have zf2 := KR.free 2
    have zf3 := KR.free 3
    have zf4 := KR.free 4
    have zf5 := KR.free 5
    have zf6 := KR.free 6
    have zf7 := KR.free 7
    go_wp2_with fail
    refine bodyPost_ret (v := .tuple #[dv 0 0 (.slice none 0 0) 0 0 0 (.slice none 0 0) (.slice none 0 0), .int .i64 5]) (res_blk_tmp rfl rfl (blk_set8 KR _ _ _ _ _ _ _ _) Try.underlying37 rfl (by kernel_rfl) rfl) rfl ?_
    have ht := turned_set8 w5 gR (.int .i64 0) (.int .i64 0) (.slice none 0 0) (.int .i64 0) (.int .i32 0) (.int .i32 0) (.slice none 0 0) (.slice none 0 0)
    exact .inr ⟨HNO.out, 5, by decide, HSP.out _, rfl, ht.old hB hB.size (by rintro k hk rfl; omega)⟩
  have hlli : ¬ ((L : Int) < (hl : Int)) := by omega
  have hcut := Sl.cut_to (P := Try.prog) Eu8 (HS.out.below hB) hl (by omega)
  obtain ⟨hc1, hc2⟩ := hcut
  have et : u8s (bs.take hl) = (u8s bs).take hl := by simp [u8s]
  rw [← et] at hc2
  have HC2 := Lib.hid hc2
  clear hc2 et
  by_cases hok : okB (bs.take hl) = true
  rotate_left
  · have hok' : okB (bs.take hl) = false := by simpa using hok
    have hno : ∀ W H cell, ¬ Opens bs W H cell := fun W H cell h => by
      have e1 := h.sum
      rw [← h.w, ← h.h, ← HN1.out, ← HN2.out, ← HHL.out] at e1
      exact hok e1
    have HNO := Lib.hid hno
    have D := Lib.hid (CX.out a hl cap (by omega) hl4 hok' w5 HC2.out)
    clear hno hok hok' CX CY
    go_wp2_with fail
    refine D.out.mono ?_
    rintro e w6 ⟨rfl, hA⟩
    clear D
    replace KR := KR.below hA KR.lt
    replace hB := hB.trans (hA.mono hB.size)
    clear hA
    have z0 := KR.cell (i := 0) rfl
    have z1 := KR.cell (i := 1) rfl
    have z2 := KR.cell (i := 2) rfl
    have z3 := KR.cell (i := 3) rfl
    have z4 := KR.cell (i := 4) rfl
    have z5 := KR.cell (i := 5) rfl
    have z6 := KR.cell (i := 6) rfl
    have z7 := KR.cell (i := 7) rfl
    have zf0 := KR.free 0
    have zf1 := KR.free 1
    have zf2 := KR.free 2
    have zf3 := KR.free 3
    have zf4 := KR.free 4
    have zf5 := KR.free 5
    have zf6 := KR.free 6
    have zf7 := KR.free 7
    go_wp2_with fail
    refine bodyPost_ret (v := .tuple #[dv 0 0 (.slice none 0 0) 0 0 0 (.slice none 0 0) (.slice none 0 0), .int .i64 4]) (res_blk_tmp rfl rfl (blk_set8 KR _ _ _ _ _ _ _ _) Try.underlying37 rfl (by kernel_rfl) rfl) rfl ?_
    have ht := turned_set8 w6 gR (.int .i64 0) (.int .i64 0) (.slice none 0 0) (.int .i64 0) (.int .i32 0) (.int .i32 0) (.slice none 0 0) (.slice none 0 0)
    exact .inr ⟨HNO.out, 4, by decide, HSP.out _, rfl, ht.old hB hB.size (by rintro k hk rfl; omega)⟩
  have D := Lib.hid (CY.out a hl cap (by omega) hl4 hok w5 HC2.out)
  have HOK := Lib.hid hok
  clear hok CX CY
  go_wp2_with fail
  refine D.out.mono ?_
  rintro e w6 ⟨v6, rfl, ho6, hA⟩
  obtain ⟨a6, c6, rfl, _, _⟩ := ownsRow_slice ho6
  replace KC := KC.below hA KC.lt
  clear D ho6 hc1
  replace KR := KR.below hA KR.lt
  replace hB := hB.trans (hA.mono hB.size)
  clear hA
  have a0 := KC.cell (i := 0) rfl
  have a1 := KC.cell (i := 1) rfl
  have a2 := KC.cell (i := 2) rfl
  have a3 := KC.cell (i := 3) rfl
  have a4 := KC.cell (i := 4) rfl
  have a5 := KC.cell (i := 5) rfl
  have hhle : hl ≤ L := by omega
  have hz6 : w.heap.size ≤ w6.heap.size := hB.size
  have hgl6 : gR < w6.heap.size := KR.lt
  have D := Lib.hid (CD.out n1 n2 n3 q4 q5 HF.out (by rw [← HHL.out]; exact hhle) w6 (HS.out.below hB))
  clear CD
  go_wp2_with fail
  refine D.out.mono ?_
  rintro e w7 (⟨hd1, hd2, va, vs, rfl, hoA, hoS, hA⟩ | ⟨hno', c, hc0, rfl, hA⟩)
  · clear D a0 a1 a2 a3 a4 a5
    replace KR := KR.below hA KR.lt
    replace hB := hB.trans (hA.mono hB.size)
    clear hA
    obtain ⟨aA, cA, rfl, _, _⟩ := ownsRow_slice hoA
    obtain ⟨aS, cS, rfl, _, _⟩ := ownsRow_slice hoS
    have HD1 := Lib.hid hd1
    have HD2 := Lib.hid hd2
    have HOA := Lib.hid hoA
    have HOS := Lib.hid hoS
    clear hd1 hd2 hoA hoS
    have z0 := KR.cell (i := 0) rfl
    have z1 := KR.cell (i := 1) rfl
    have z2 := KR.cell (i := 2) rfl
    have z3 := KR.cell (i := 3) rfl
    have z4 := KR.cell (i := 4) rfl
    have z5 := KR.cell (i := 5) rfl
    have z6 := KR.cell (i := 6) rfl
    have z7 := KR.cell (i := 7) rfl
    have zf0 := KR.free 0
    have zf1 := KR.free 1
    have zf2 := KR.free 2
    have zf3 := KR.free 3
    have zf4 := KR.free 4
    have zf5 := KR.free 5
    have zf6 := KR.free 6
    have zf7 := KR.free 7
    go_wp2_with fail
    refine bodyPost_ret (v := .tuple #[dv n1 n2 (.slice none 0 0) n3 q4 q5 (.slice aA (nT n1 n2) cA) (.slice aS (nT n1 n2) cS), .int .i64 0]) (res_blk_tmp rfl rfl (blk_set8 KR _ _ _ _ _ _ _ _) Try.underlying37 rfl (by kernel_rfl) rfl) rfl ?_
    have ht := turned_set8 w7 gR (.int .i64 n1) (.int .i64 n2) (.slice none 0 0) (.int .i64 n3) (.int .i32 q4) (.int .i32 q5) (.slice aA (nT n1 n2) cA) (.slice aS (nT n1 n2) cS)
    have hgl : gR < w6.heap.size := hgl6
    refine .inl ⟨n1, n2, n3, _, _, ?_, rfl, ownsRow_base (ht.own HOA.out (by rintro k hk rfl; have := (HOA.out.lt _ hk).1; omega)) hz6, ownsRow_base (ht.own HOS.out (by rintro k hk rfl; have := (HOS.out.lt _ hk).1; omega)) hz6, ht.old hB hB.size (by rintro k hk rfl; omega)⟩
    have i1 := isF_yes HF.out
    have i2 := isC_yes HC.out
    exact ⟨by rw [← HL.out]; omega, by rw [← HN0.out]; exact HMAG.out, HN1.out.symm, HN2.out.symm, HN3.out.symm, by omega, by omega, by omega, by rw [← HHL.out, ← HL.out]; exact hhle, by rw [← HHL.out]; exact HOK.out, HD1.out, by rw [HD2.out, HL.out]⟩
  · clear D a0 a1 a2 a3 a4 a5
    have hno : ∀ W H cell, ¬ Opens bs W H cell := fun W H cell h => by
      have e1 := h.dir
      have e2 := h.last
      rw [← h.w, ← h.h, ← HN1.out, ← HN2.out] at e1 e2
      exact hno' ⟨e1, by rw [e2, HL.out]⟩
    have HNO := Lib.hid hno
    clear hno hno'
    replace KR := KR.below hA KR.lt
    replace hB := hB.trans (hA.mono hB.size)
    clear hA
    have z0 := KR.cell (i := 0) rfl
    have z1 := KR.cell (i := 1) rfl
    have z2 := KR.cell (i := 2) rfl
    have z3 := KR.cell (i := 3) rfl
    have z4 := KR.cell (i := 4) rfl
    have z5 := KR.cell (i := 5) rfl
    have z6 := KR.cell (i := 6) rfl
    have z7 := KR.cell (i := 7) rfl
    have zf0 := KR.free 0
    have zf1 := KR.free 1
    have zf2 := KR.free 2
    have zf3 := KR.free 3
    have zf4 := KR.free 4
    have zf5 := KR.free 5
    have zf6 := KR.free 6
    have zf7 := KR.free 7
    go_wp2_with fail
    refine bodyPost_ret (v := .tuple #[dv 0 0 (.slice none 0 0) 0 0 0 (.slice none 0 0) (.slice none 0 0), .int .i64 c]) (res_blk_tmp rfl rfl (blk_set8 KR _ _ _ _ _ _ _ _) Try.underlying37 rfl (by kernel_rfl) rfl) rfl ?_
    have ht := turned_set8 w7 gR (.int .i64 0) (.int .i64 0) (.slice none 0 0) (.int .i64 0) (.int .i32 0) (.int .i32 0) (.slice none 0 0) (.slice none 0 0)
    exact .inr ⟨HNO.out, c, hc0, HSP.out _, rfl, ht.old hB hB.size (by rintro k hk rfl; omega)⟩
end Go.Proofs.Ytdknnfineommoaa
