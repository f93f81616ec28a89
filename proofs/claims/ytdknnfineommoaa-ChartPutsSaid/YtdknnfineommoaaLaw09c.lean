/-
  ChartPuts: the walk.
-/
import Derived.Test.YtdknnfineommoaaLaw09b
import Derived.Test.YtdknnfineommoaaPackTile
set_option linter.unusedVariables false
set_option linter.unusedSimpArgs false
namespace Go.Proofs.Ytdknnfineommoaa
open Go Go.RowKit Go.Th Go.Th.Crc

theorem chartPuts_big (p q : Nat) (cell ox oy : Int) (a : Option Addr) (n cap : Nat) (w : World) (hbig : 2000 < n) (hn : n ≤ 9223372036854775807) :
    Calls Try.prog 3 #[.int .u8 p, .int .u8 q, .slice a n cap, .int .i64 cell, .int .i32 ox, .int .i32 oy] w fun e w' => e = .returned (.bool true) ∧ Below w.heap.size w w' := by
  have hb' : (2000 : Int) < (n : Int) := by omega
  go_enter Try.func3, Try.ntmps3
  go_wp2_with fail
  refine (works9_any w).mono ?_
  rintro e w1 ⟨rfl, hB⟩
  go_wp2_with fail
  go_ret
  exact ⟨rfl, hB⟩

set_option maxRecDepth 20000 in
set_option maxHeartbeats 3200000 in
theorem chartPuts_bad (p q : Nat) (cell ox oy : Int) (a : Option Addr) (n cap : Nat) (z : List Int) (hp : p < 256) (hq : q < 256) (hc : isC cell = false) (hz : z.length = n) (h16 : ∀ u ∈ z, In16 u) (hn : n ≤ 2000) (w : World) (hS : Sl w 1 (.slice a n cap) n (i16s z)) :
    Calls Try.prog 3 #[.int .u8 p, .int .u8 q, .slice a n cap, .int .i64 cell, .int .i32 ox, .int .i32 oy] w fun e w' => e = .returned (.bool true) ∧ Below w.heap.size w w' := by
  have hb' : ¬ ((2000 : Int) < (n : Int)) := by omega
  have C1 := Lib.hid (field_any p q n a cap z hp hq hz hn h16 w hS)
  have HC := Lib.hid hc
  clear hz h16 hS hp hq hc
  go_enter Try.func3, Try.ntmps3
  go_wp2_with fail
  refine C1.out.mono ?_
  rintro e w2 ⟨x, y, v, F, rfl, hF, hx, hy, hl, h16, hof, hA⟩
  obtain ⟨av, cw, rfl, _, _⟩ := ownsRow_slice hof
  have hB := hA
  obtain ⟨m, hm⟩ : ∃ m, m = x * y := ⟨_, rfl⟩
  rw [← hm] at hof ⊢
  obtain ⟨w3, hw3⟩ : ∃ w3, w2.alloc (.cells #[.int .i64 x, .int .i64 y, .slice av m cw, .int .i64 cell, .int .i32 ox, .int .i32 oy] 28) = w3 := ⟨_, rfl⟩
  have hA3 : Below w2.heap.size w2 w3 := by rw [← hw3]; exact (Below.refl _ _).alloc (Nat.le_refl _) _
  have KC : Blk w3 w2.heap.size 28 [.int .i64 x, .int .i64 y, .slice av m cw, .int .i64 cell, .int .i32 ox, .int .i32 oy] := by rw [← hw3]; exact Blk.new w2 _ _
  replace hB := hB.trans (hA3.mono hB.size)
  have P1 := Lib.hid (put9_bad x y m cell ox oy av cw hF hm HC.out)
  have P2 := Lib.hid (ref9Put_bad x y m cell ox oy av cw hF hm HC.out)
  have P3 := Lib.hid (check9_bad x y m cell ox oy av cw hF hm HC.out)
  have HW3 := Lib.hid hw3
  clear C1 hA hA3 hF hl h16 hm hw3 hof HC
  go_upto_region 4 with fail
  rw [HW3.out]
  have c0 := KC.cell (i := 0) rfl
  have c1 := KC.cell (i := 1) rfl
  have c2 := KC.cell (i := 2) rfl
  have c3 := KC.cell (i := 3) rfl
  have c4 := KC.cell (i := 4) rfl
  have c5 := KC.cell (i := 5) rfl
  go_wp2_with fail
  refine (P1.out _).mono ?_
  rintro e w4 ⟨rfl, hA⟩
  replace KC := KC.below hA KC.lt
  replace hB := hB.trans (hA.mono hB.size)
  clear P1 hA c0 c1 c2 c3 c4 c5 HW3
  have c0 := KC.cell (i := 0) rfl
  have c1 := KC.cell (i := 1) rfl
  have c2 := KC.cell (i := 2) rfl
  have c3 := KC.cell (i := 3) rfl
  have c4 := KC.cell (i := 4) rfl
  have c5 := KC.cell (i := 5) rfl
  go_wp2_with fail
  refine (P2.out _).mono ?_
  rintro e w5 ⟨rfl, hA⟩
  replace KC := KC.below hA KC.lt
  replace hB := hB.trans (hA.mono hB.size)
  clear P2 hA c0 c1 c2 c3 c4 c5
  have c0 := KC.cell (i := 0) rfl
  have c1 := KC.cell (i := 1) rfl
  have c2 := KC.cell (i := 2) rfl
  have c3 := KC.cell (i := 3) rfl
  have c4 := KC.cell (i := 4) rfl
  have c5 := KC.cell (i := 5) rfl
  have P4 := Lib.hid (same_any (.slice none 0 0) (.slice none 0 0) [] [] w5 (Sl.nil _ _) (Sl.nil _ _) rfl)
  go_wp2_with fail
  refine P4.out.mono ?_
  rintro e wx ⟨rfl, rfl⟩
  clear P4
  go_wp2_with fail
  refine (P3.out _).mono ?_
  rintro e w6 ⟨rfl, hA⟩
  replace hB := hB.trans (hA.mono hB.size)
  clear P3 hA c0 c1 c2 c3 c4 c5 KC
  go_wp2_with fail
  refine (works9_any w6).mono ?_
  rintro e w7 ⟨rfl, hA⟩
  go_wp2_with fail
  go_ret
  exact ⟨rfl, hB.trans (hA.mono hB.size)⟩

/-- A tile, cut by the reference. -/
theorem refCut9 (W H n i : Nat) (a : Option Addr) (cap : Nat) (F : List Int) (hF : isF W H = true) (hn : n = W * H) (hl : F.length = n) (hi : i < nT W H) (wx : World) (hs : Sl wx 1 (.slice a n cap) n (i16s F)) :
    Calls Try.prog 15 #[hv W H (.slice a n cap), .int .i64 (i % cnt W : Nat), .int .i64 (i / cnt W : Nat)] wx fun e w' => ∃ (v : Value) (sx sy : Nat), e = .returned (.tuple #[v, .int .i64 sx, .int .i64 sy]) ∧ w'.ownsRow wx.heap.size 56 1 v (side W (i % cnt W) * side H (i / cnt W)) (i16s (tileAt F W H i)) ∧ Below wx.heap.size wx w' := by
  obtain ⟨h1, h2, h3, h4⟩ := isF_yes hF
  obtain ⟨hX, hY, hXY⟩ := tile_xy W H i hi
  have hAl := tileAt_length F W H i (by rw [hl, hn]) hi
  have p2 := (side_pos H _).2 hY
  have l1 := cnt_le W
  have l2 := cnt_le H
  obtain ⟨e1, e2, e3⟩ := pick_tile F W H (i % cnt W) (i / cnt W) (by rw [hl, hn]) hX H (Nat.le_refl _)
  have bX : -1000 ≤ ((i % cnt W : Nat) : Int) ∧ ((i % cnt W : Nat) : Int) ≤ 1000 := by generalize i % cnt W = X at *; omega
  have bY : -1000 ≤ ((i / cnt W : Nat) : Int) ∧ ((i / cnt W : Nat) : Int) ≤ 1000 := by generalize i / cnt W = Y at *; omega
  have C := ref8Cut_any W H n ((i % cnt W : Nat) : Int) ((i / cnt W : Nat) : Int) a cap F (inT ((i % cnt W : Nat) : Int) ((i / cnt W : Nat) : Int)) (by omega) (by omega) hn hl (fun r c hr hc => in_go _ _ bX bY r c hr hc) wx hs
  rw [e1, e2, e3, if_pos p2] at C
  refine C.mono ?_
  rintro e w' ⟨v, he, ho, hB⟩
  refine ⟨v, _, _, he, ?_, hB⟩
  rw [show side W (i % cnt W) * side H (i / cnt W) = (tileAt F W H i).length by rw [hAl, Nat.mul_comm]]
  exact ho

/-- What the law's loop keeps. -/
structure PutsI (w W : World) (gC g6 : Nat) (cs ds : List Value) (vf vb va vs : Value) (m L n9 : Nat) (F : List Int) (bs As Ss : List Nat) : Prop where
  kc : Blk W gC 28 cs
  kd : Blk W g6 37 ds
  of_ : W.ownsRow w.heap.size 56 1 vf m (i16s F)
  ob : W.ownsRow w.heap.size 5 1 vb L (u8s bs)
  oA : W.ownsRow w.heap.size 3 1 va n9 (ints As)
  oS : W.ownsRow w.heap.size 3 1 vs n9 (ints Ss)
  bel : Below w.heap.size w W
theorem PutsI.below {w W W' : World} {gC g6 : Nat} {cs ds : List Value} {vf vb va vs : Value} {m L n9 : Nat} {F : List Int} {bs As Ss : List Nat} (h : PutsI w W gC g6 cs ds vf vb va vs m L n9 F bs As Ss) (hb : Below W.heap.size W W') : PutsI w W' gC g6 cs ds vf vb va vs m L n9 F bs As Ss :=
  ⟨h.kc.below hb h.kc.lt, h.kd.below hb h.kd.lt, ownsRow_below h.of_ hb, ownsRow_below h.ob hb, ownsRow_below h.oA hb, ownsRow_below h.oS hb, h.bel.trans (hb.mono h.bel.size)⟩
theorem PutsI.drew {w W : World} {gC g6 : Nat} {cs ds : List Value} {vf vb va vs : Value} {m L n9 : Nat} {F : List Int} {bs As Ss : List Nat} (h : PutsI w W gC g6 cs ds vf vb va vs m L n9 F bs As Ss) : PutsI w W.drew gC g6 cs ds vf vb va vs m L n9 F bs As Ss :=
  ⟨h.kc, h.kd, h.of_, h.ob, h.oA, h.oS, h.bel.drew⟩

set_option maxRecDepth 20000 in
set_option maxHeartbeats 6400000 in
theorem chartPuts_go (p q c : Nat) (ox oy : Int) (a : Option Addr) (n cap : Nat) (z : List Int) (hp : p < 256) (hq : q < 256) (hc : isC c = true) (h1 : In32' ox) (h2 : In32' oy) (hz : z.length = n) (h16 : ∀ u ∈ z, In16 u) (hn : n ≤ 2000) (w : World) (hS : Sl w 1 (.slice a n cap) n (i16s z)) :
    Calls Try.prog 3 #[.int .u8 p, .int .u8 q, .slice a n cap, .int .i64 c, .int .i32 ox, .int .i32 oy] w fun e w' => e = .returned (.bool true) ∧ Below w.heap.size w w' := by
  have hb' : ¬ ((2000 : Int) < (n : Int)) := by omega
  have C1 := Lib.hid (field_any p q n a cap z hp hq hz hn h16 w hS)
  have HC := Lib.hid hc
  have H1 := Lib.hid h1
  have H2 := Lib.hid h2
  clear hz h16 hS hp hq hc h1 h2
  go_enter Try.func3, Try.ntmps3
  go_wp2_with fail
  refine C1.out.mono ?_
  rintro e w2 ⟨x, y, v, F, rfl, hF, hx, hy, hl, h16, hof, hA⟩
  obtain ⟨av, cw, rfl, _, _⟩ := ownsRow_slice hof
  have hB := hA
  have hf := isF_yes hF
  have hLs := chartB_short F x y c ox oy hl (by omega) (by omega)
  have hmle : x * y ≤ 40 * 40 := Nat.mul_le_mul hx hy
  have hO := opens_chart (ox := ox) (oy := oy) (F := F) (W := x) (H := y) (cell := c) hl (by omega) (by omega) (by have := isC_yes HC.out; omega)
  have hhead : rd (chartB F x y c ox oy) 10 4 = u32 ox ∧ rd (chartB F x y c ox oy) 14 4 = u32 oy := by
    obtain ⟨r, hr⟩ := chartB_more F x y c ox oy 0 (Nat.zero_le _)
    obtain ⟨_, _, _, _, r5, r6⟩ := rd_head (ox := ox) (oy := oy) (W := x) (H := y) (cell := c) (by omega) (by omega) (by have := isC_yes HC.out; omega) hr
    exact ⟨r5, r6⟩
  have hblt := chartB_lt F x y c ox oy
  have htb : ∀ i, i < nT x y → tb (chartB F x y c ox oy) x y i = tileB F x y i := fun i hi => tb_chart hl (by omega) (by omega) i hi
  have hn9 := nT_le (W := x) (H := y) (by omega) (by omega)
  have hnx := cnt_le x
  have hny := cnt_le y
  have hnx1 := cnt_ge x
  have P1 := put9_any x y c (x * y) ox oy av cw F hF rfl HC.out hl h16
  have P2 := ref9Put_any x y c (x * y) ox oy av cw F hF rfl HC.out hl h16
  have P3 := check9_ok x y (x * y) c ox oy av cw hF rfl HC.out
  have PO := fun (gb : Option Addr) cb wx hs => open9_yes (chartB F x y c ox oy) x y c (chartB F x y c ox oy).length hO rfl (by omega) hblt gb cb wx hs
  have PT := fun i (hi : i < nT x y) (gb : Option Addr) cb aA cA aS cS wx h1 h2 h3 => tile9_any (chartB F x y c ox oy) x y c (chartB F x y c ox oy).length hO rfl (by omega) hblt i (side x (i % cnt x) * side y (i / cnt x)) hi c ox oy (fun zs c => c = 0 ∧ zs = tileAt F x y i)
    (fun _ a' cap' k wx hk hs => by rw [htb i hi] at hk hs; exact tget_tile F x y i hF hl h16 hi a' cap' k wx hk hs) gb cb aA cA aS cS wx h1 h2 h3
  have PK : ∀ i, i < nT x y → okB (tb (chartB F x y c ox oy) x y i) = true := fun i hi => by rw [htb i hi]; exact okB_putB _
  have PR := fun i (hi : i < nT x y) wx hs => refCut9 x y (x * y) i av cw F hF rfl hl hi wx hs
  have PL : ∀ i, i < nT x y → (tileAt F x y i).length = side x (i % cnt x) * side y (i / cnt x) := fun i hi => by rw [tileAt_length F x y i hl hi, Nat.mul_comm]
  have PS : ∀ i, side x (i % cnt x) * side y (i / cnt x) ≤ 256 := fun i => Nat.mul_le_mul (side_le _ _) (side_le _ _)
  have PP := fun i (hi : i < nT x y) => tile_xy x y i hi
  have hmul : ((cnt x : Nat) : Int) * ((cnt y : Nat) : Int) = ((nT x y : Nat) : Int) := by unfold nT; simp
  have CX := ref8Count_any x (by omega)
  have CY := ref8Count_any y (by omega)
  clear hO htb hblt
  obtain ⟨BS, hBS⟩ : ∃ B, B = chartB F x y c ox oy := ⟨_, rfl⟩
  obtain ⟨L, hL⟩ : ∃ L, L = BS.length := ⟨_, rfl⟩
  obtain ⟨m, hm⟩ : ∃ m, m = x * y := ⟨_, rfl⟩
  obtain ⟨n9, hn9e⟩ : ∃ m, m = nT x y := ⟨_, rfl⟩
  rw [← hBS] at hhead PK
  rw [← hBS, ← hL] at P1 P2 PO PT hLs
  rw [hhead.1, hhead.2, u32_back H1.out, u32_back H2.out] at PO
  rw [← hm] at P1 P2 P3 PR hof hmle ⊢
  rw [← hn9e] at PO PT PK PR PL PP hmul hn9
  obtain ⟨nx, hnxe⟩ : ∃ m, m = cnt x := ⟨_, rfl⟩
  rw [← hnxe] at PT PR PL PS PP hmul CX hnx hnx1
  obtain ⟨ny, hnye⟩ : ∃ m, m = cnt y := ⟨_, rfl⟩
  rw [← hnye] at hmul CY hny
  obtain ⟨As, hAs⟩ : ∃ A, A = (List.range n9).map (offs BS x y) := ⟨_, rfl⟩
  obtain ⟨Ss, hSs⟩ : ∃ A, A = (List.range n9).map (fun i => rd BS (18 + 6 * i + 4) 2) := ⟨_, rfl⟩
  rw [← hAs, ← hSs] at PO PT
  replace P1 := Lib.hid P1
  replace P2 := Lib.hid P2
  replace P3 := Lib.hid P3
  replace PO := Lib.hid PO
  replace PT := Lib.hid PT
  replace PK := Lib.hid PK
  replace PR := Lib.hid PR
  replace PL := Lib.hid PL
  replace PS := Lib.hid PS
  replace PP := Lib.hid PP
  replace CX := Lib.hid CX
  replace CY := Lib.hid CY
  have HL := Lib.hid hL
  have HLM := Lib.hid (show F.length = m by rw [hl, hm])
  clear C1 hF hl h16 hBS hL hm hn9e hnxe hnye hhead hAs hSs HC H1 H2 hf
  obtain ⟨w3, hw3⟩ : ∃ w3, w2.alloc (.cells #[.int .i64 x, .int .i64 y, .slice av m cw, .int .i64 c, .int .i32 ox, .int .i32 oy] 28) = w3 := ⟨_, rfl⟩
  have hA3 : Below w2.heap.size w2 w3 := by rw [← hw3]; exact (Below.refl _ _).alloc (Nat.le_refl _) _
  have KC : Blk w3 w2.heap.size 28 [.int .i64 x, .int .i64 y, .slice av m cw, .int .i64 c, .int .i32 ox, .int .i32 oy] := by rw [← hw3]; exact Blk.new w2 _ _
  replace hof := ownsRow_below hof hA3
  replace hB := hB.trans (hA3.mono hB.size)
  obtain ⟨gC, hgC⟩ : ∃ g, w2.heap.size = g := ⟨_, rfl⟩
  rw [hgC] at KC
  have HW3 := Lib.hid hw3
  have HGC := Lib.hid hgC
  clear hA hA3 hw3 hgC
  go_upto_region 4 with fail
  rw [HW3.out, HGC.out]
  have c0 := KC.cell (i := 0) rfl
  have c1 := KC.cell (i := 1) rfl
  have c2 := KC.cell (i := 2) rfl
  have c3 := KC.cell (i := 3) rfl
  have c4 := KC.cell (i := 4) rfl
  have c5 := KC.cell (i := 5) rfl
  have D := Lib.hid (P1.out w3 (Sl.of_own hof))
  have hz3 := hB.size
  clear P1 HW3 HGC
  go_wp2_with fail
  refine D.out.mono ?_
  rintro e w4 ⟨vb, rfl, hob, hA⟩
  obtain ⟨ab, cb, rfl, _, _⟩ := ownsRow_slice hob
  replace hob := ownsRow_base hob hz3
  replace KC := KC.below hA KC.lt
  replace hof := ownsRow_below hof hA
  replace hB := hB.trans (hA.mono hB.size)
  clear D hA c0 c1 c2 c3 c4 c5
  have c0 := KC.cell (i := 0) rfl
  have c1 := KC.cell (i := 1) rfl
  have c2 := KC.cell (i := 2) rfl
  have c3 := KC.cell (i := 3) rfl
  have c4 := KC.cell (i := 4) rfl
  have c5 := KC.cell (i := 5) rfl
  have D := Lib.hid (P2.out w4 (Sl.of_own hof))
  clear P2
  go_wp2_with fail
  refine D.out.mono ?_
  rintro e w5 ⟨vd, rfl, hod, hA⟩
  obtain ⟨ad, cd, rfl, _, _⟩ := ownsRow_slice hod
  replace KC := KC.below hA KC.lt
  replace hof := ownsRow_below hof hA
  replace hob := ownsRow_below hob hA
  replace hB := hB.trans (hA.mono hB.size)
  clear D hA c0 c1 c2 c3 c4 c5
  have c0 := KC.cell (i := 0) rfl
  have c1 := KC.cell (i := 1) rfl
  have c2 := KC.cell (i := 2) rfl
  have c3 := KC.cell (i := 3) rfl
  have c4 := KC.cell (i := 4) rfl
  have c5 := KC.cell (i := 5) rfl
  have D := Lib.hid (same_any (.slice ab L cb) (.slice ad L cd) BS BS w5 (by rw [← HL.out]; exact Sl.of_own hob) (by rw [← HL.out]; exact Sl.of_own hod) rfl)
  clear hod
  go_wp2_with fail
  refine D.out.mono ?_
  rintro e wx ⟨rfl, rfl⟩
  clear D
  go_wp2_with fail
  refine (P3.out _).mono ?_
  rintro e w6 ⟨rfl, hA⟩
  replace KC := KC.below hA KC.lt
  replace hof := ownsRow_below hof hA
  replace hob := ownsRow_below hob hA
  replace hB := hB.trans (hA.mono hB.size)
  clear P3 hA c0 c1 c2 c3 c4 c5
  have D := Lib.hid (PO.out ab cb w6 (Sl.of_own hob))
  have hz6 := hB.size
  clear PO
  go_wp2_with fail
  refine D.out.mono ?_
  rintro e w7 ⟨va, vs, rfl, hoA, hoS, hA⟩
  obtain ⟨aA, cA, rfl, _, _⟩ := ownsRow_slice hoA
  obtain ⟨aS, cS, rfl, _, _⟩ := ownsRow_slice hoS
  replace hoA := ownsRow_base hoA hz6
  replace hoS := ownsRow_base hoS hz6
  obtain ⟨w8, hw8⟩ : ∃ w8, w7.alloc (.cells #[.int .i64 x, .int .i64 y, .slice none 0 0, .int .i64 c, .int .i32 ox, .int .i32 oy, .slice aA n9 cA, .slice aS n9 cS] 37) = w8 := ⟨_, rfl⟩
  have hA8 : Below w7.heap.size w7 w8 := by rw [← hw8]; exact (Below.refl _ _).alloc (Nat.le_refl _) _
  have KD : Blk w8 w7.heap.size 37 [.int .i64 x, .int .i64 y, .slice none 0 0, .int .i64 c, .int .i32 ox, .int .i32 oy, .slice aA n9 cA, .slice aS n9 cS] := by rw [← hw8]; exact Blk.new w7 _ _
  obtain ⟨g6, hg6⟩ : ∃ g, w7.heap.size = g := ⟨_, rfl⟩
  rw [hg6] at KD
  have hI : PutsI w w8 gC g6 [.int .i64 x, .int .i64 y, .slice av m cw, .int .i64 c, .int .i32 ox, .int .i32 oy] [.int .i64 x, .int .i64 y, .slice none 0 0, .int .i64 c, .int .i32 ox, .int .i32 oy, .slice aA n9 cA, .slice aS n9 cS] (.slice av m cw) (.slice ab L cb) (.slice aA n9 cA) (.slice aS n9 cS) m L n9 F BS As Ss :=
    ⟨(KC.below hA KC.lt).below hA8 (Nat.lt_of_lt_of_le KC.lt hA.size), KD, ownsRow_below (ownsRow_below hof hA) hA8, ownsRow_below (ownsRow_below hob hA) hA8, ownsRow_below hoA hA8, ownsRow_below hoS hA8, (hB.trans (hA.mono hB.size)).trans (hA8.mono (hB.trans (hA.mono hB.size)).size)⟩
  have HW8 := Lib.hid hw8
  have HG6 := Lib.hid hg6
  clear D hA hA8 hw8 hg6 KC KD hof hob hoA hoS hB hz3 hz6
  have hw3 := i64_nat n9 (by omega)
  have hw5 : IntKind.i64.wrap ((nx : Int) * (ny : Int)) = (n9 : Int) := by rw [hmul]; exact hw3
  have hnn : ((n9 : Int) != (n9 : Int)) = false := by simp
  go_upto_region 11 with fail
  rw [HW8.out, HG6.out]
  clear HW8 HG6
  have KC := hI.kc
  have KD := hI.kd
  have c0 := KC.cell (i := 0) rfl
  have c1 := KC.cell (i := 1) rfl
  have d3 := KD.cell (i := 3) rfl
  have d4 := KD.cell (i := 4) rfl
  have d5 := KD.cell (i := 5) rfl
  have d6 := KD.cell (i := 6) rfl
  have d7 := KD.cell (i := 7) rfl
  refine wp_region_held_drew (S := (fun w' : World => w'.cell? ⟨gC, 0, none⟩ = some (.int .i64 x) ∧ w'.cell? ⟨gC, 1, none⟩ = some (.int .i64 y) ∧ w'.cell? ⟨g6, 3, none⟩ = some (.int .i64 c) ∧ w'.cell? ⟨g6, 4, none⟩ = some (.int .i32 ox) ∧ w'.cell? ⟨g6, 5, none⟩ = some (.int .i32 oy) ∧ w'.cell? ⟨g6, 6, none⟩ = some (.slice aA n9 cA) ∧ w'.cell? ⟨g6, 7, none⟩ = some (.slice aS n9 cS))) (by kernel_rfl) (⟨c0, c1, d3, d4, d5, d6, d7⟩) (fun hHeld => ?_)
  refine wpAnyH_take (i := 0) (v := ?v1) rfl (by kernel_rfl) (by kernel_rfl) (by kernel_rfl) (fun _ _ _ h => h) (Or.inl ⟨by rfl, ?hy1⟩) hHeld ?rest1
  case hy1 => (intro w' hSw; (try dsimp only at hSw); go_simp; (try with_reducible rfl))
  try simp only [Act.put, List.setIfInBounds_toArray, List.set_cons_zero, List.set_cons_succ, List.getElem_toArray, List.getElem_cons_zero, List.getElem_cons_succ]
  refine wpAnyH_take (i := 1) (v := ?v2) rfl (by kernel_rfl) (by kernel_rfl) (by kernel_rfl) (fun _ _ _ h => h) (Or.inl ⟨by rfl, ?hy2⟩) hHeld ?rest2
  case hy2 => (intro w' hSw; (try dsimp only at hSw); go_simp; (try with_reducible rfl))
  try simp only [Act.put, List.setIfInBounds_toArray, List.set_cons_zero, List.set_cons_succ, List.getElem_toArray, List.getElem_cons_zero, List.getElem_cons_succ]
  refine wpAnyH_take (i := 2) (v := ?v3) rfl (by kernel_rfl) (by kernel_rfl) (by kernel_rfl) (fun _ _ _ h => h) (Or.inl ⟨by rfl, ?hy3⟩) hHeld ?rest3
  case hy3 => (intro w' hSw; (try dsimp only at hSw); go_simp; (try with_reducible rfl))
  try simp only [Act.put, List.setIfInBounds_toArray, List.set_cons_zero, List.set_cons_succ, List.getElem_toArray, List.getElem_cons_zero, List.getElem_cons_succ]
  refine wpAnyH_take (i := 3) (v := ?v4) rfl (by kernel_rfl) (by kernel_rfl) (by kernel_rfl) (fun _ _ _ h => h) (Or.inl ⟨by rfl, ?hy4⟩) hHeld ?rest4
  case hy4 => (intro w' hSw; (try dsimp only at hSw); go_simp; (try with_reducible rfl))
  try simp only [Act.put, List.setIfInBounds_toArray, List.set_cons_zero, List.set_cons_succ, List.getElem_toArray, List.getElem_cons_zero, List.getElem_cons_succ]
  refine wpAnyH_take (i := 4) (v := ?v5) rfl (by kernel_rfl) (by kernel_rfl) (by kernel_rfl) (fun _ _ _ h => h) (Or.inl ⟨by rfl, ?hy5⟩) hHeld ?rest5
  case hy5 => (intro w' hSw; (try dsimp only at hSw); go_simp; (try with_reducible rfl))
  try simp only [Act.put, List.setIfInBounds_toArray, List.set_cons_zero, List.set_cons_succ, List.getElem_toArray, List.getElem_cons_zero, List.getElem_cons_succ]
  refine wpAnyH_take (i := 5) (v := ?v6) rfl (by kernel_rfl) (by kernel_rfl) (by kernel_rfl) (fun _ _ _ h => h) (Or.inl ⟨by rfl, ?hy6⟩) hHeld ?rest6
  case hy6 => (intro w' hSw; (try dsimp only at hSw); go_simp; (try with_reducible rfl))
  try simp only [Act.put, List.setIfInBounds_toArray, List.set_cons_zero, List.set_cons_succ, List.getElem_toArray, List.getElem_cons_zero, List.getElem_cons_succ]
  refine wpAnyH_take (i := 6) (v := ?v7) rfl (by kernel_rfl) (by kernel_rfl) (by kernel_rfl) (fun _ _ _ h => h) (Or.inl ⟨by rfl, ?hy7⟩) hHeld ?rest7
  case hy7 => (intro w' hSw; (try dsimp only at hSw); go_simp; (try with_reducible rfl))
  try simp only [Act.put, List.setIfInBounds_toArray, List.set_cons_zero, List.set_cons_succ, List.getElem_toArray, List.getElem_cons_zero, List.getElem_cons_succ]
  refine wpAnyH_take (i := 7) (v := ?v8) rfl (by kernel_rfl) (by kernel_rfl) (by kernel_rfl) (fun _ _ _ h => h) (Or.inl ⟨by rfl, ?hy8⟩) hHeld ?rest8
  case hy8 => (intro w' hSw; (try dsimp only at hSw); go_simp; (try with_reducible rfl))
  try simp only [Act.put, List.setIfInBounds_toArray, List.set_cons_zero, List.set_cons_succ, List.getElem_toArray, List.getElem_cons_zero, List.getElem_cons_succ]
  refine wpAnyH_take (i := 8) (v := ?v9) rfl (by kernel_rfl) (by kernel_rfl) (by kernel_rfl) (fun _ _ _ h => h) (Or.inl ⟨by rfl, ?hy9⟩) hHeld ?rest9
  case hy9 => (intro w' hSw; (try dsimp only at hSw); go_simp; (try with_reducible rfl))
  try simp only [Act.put, List.setIfInBounds_toArray, List.set_cons_zero, List.set_cons_succ, List.getElem_toArray, List.getElem_cons_zero, List.getElem_cons_succ]
  refine wpAnyH_take (i := 10) (v := ?v10) rfl (by kernel_rfl) (by kernel_rfl) (by kernel_rfl) (fun _ _ _ h => h) (Or.inl ⟨by rfl, ?hy10⟩) hHeld ?rest10
  case hy10 => (intro w' hSw; (try dsimp only at hSw); go_simp; (try with_reducible rfl))
  try simp only [Act.put, List.setIfInBounds_toArray, List.set_cons_zero, List.set_cons_succ, List.getElem_toArray, List.getElem_cons_zero, List.getElem_cons_succ]
  refine wpAnyH_take (i := 11) (v := ?v11) rfl (by kernel_rfl) (by kernel_rfl) (by kernel_rfl) (fun _ _ _ h => h) (Or.inl ⟨by rfl, ?hy11⟩) hHeld ?rest11
  case hy11 => (intro w' hSw; (try dsimp only at hSw); go_simp; (try with_reducible rfl))
  try simp only [Act.put, List.setIfInBounds_toArray, List.set_cons_zero, List.set_cons_succ, List.getElem_toArray, List.getElem_cons_zero, List.getElem_cons_succ]
  refine wpAnyH_take (i := 12) (v := ?v12) rfl (by kernel_rfl) (by kernel_rfl) (by kernel_rfl) (fun _ _ _ h => h) (Or.inl ⟨by rfl, ?hy12⟩) hHeld ?rest12
  case hy12 => (intro w' hSw; (try dsimp only at hSw); go_simp; (try with_reducible rfl))
  try simp only [Act.put, List.setIfInBounds_toArray, List.set_cons_zero, List.set_cons_succ, List.getElem_toArray, List.getElem_cons_zero, List.getElem_cons_succ]
  refine wpAnyH_ready (rs := [9]) (by kernel_rfl) (by simp) ?_
  refine AllReadyH.cons rfl (fun K hK => ?_) AllReadyH.nil
  go_simp
  refine (CX.out _).mono ?_
  rintro e wx ⟨rfl, rfl⟩
  try go_wp2_with fail
  refine hK.out _ _ (⟨KC.drew.cell (i := 0) rfl, KC.drew.cell (i := 1) rfl, KD.drew.cell (i := 3) rfl, KD.drew.cell (i := 4) rfl, KD.drew.cell (i := 5) rfl, KD.drew.cell (i := 6) rfl, KD.drew.cell (i := 7) rfl⟩) (fun hHeld => ?_)
  clear hK K
  try simp only [Act.put, List.setIfInBounds_toArray, List.set_cons_zero, List.set_cons_succ, List.getElem_toArray, List.getElem_cons_zero, List.getElem_cons_succ]
  refine wpAnyH_ready (rs := [13]) (by kernel_rfl) (by simp) ?_
  refine AllReadyH.cons rfl (fun K hK => ?_) AllReadyH.nil
  go_simp
  refine (CY.out _).mono ?_
  rintro e wx ⟨rfl, rfl⟩
  try go_wp2_with fail
  refine hK.out _ _ (⟨KC.drew.cell (i := 0) rfl, KC.drew.cell (i := 1) rfl, KD.drew.cell (i := 3) rfl, KD.drew.cell (i := 4) rfl, KD.drew.cell (i := 5) rfl, KD.drew.cell (i := 6) rfl, KD.drew.cell (i := 7) rfl⟩) (fun hHeld => ?_)
  clear hK K
  try simp only [Act.put, List.setIfInBounds_toArray, List.set_cons_zero, List.set_cons_succ, List.getElem_toArray, List.getElem_cons_zero, List.getElem_cons_succ]
  refine wpAnyH_take (i := 14) (v := ?v15) rfl (by kernel_rfl) (by kernel_rfl) (by kernel_rfl) (fun _ _ _ h => h) (Or.inl ⟨by rfl, ?hy15⟩) hHeld ?rest15
  case hy15 => (intro w' hSw; (try dsimp only at hSw); go_simp; (try with_reducible rfl))
  try simp only [Act.put, List.setIfInBounds_toArray, List.set_cons_zero, List.set_cons_succ, List.getElem_toArray, List.getElem_cons_zero, List.getElem_cons_succ]
  refine wpAnyH_take (i := 15) (v := ?v16) rfl (by kernel_rfl) (by kernel_rfl) (by kernel_rfl) (fun _ _ _ h => h) (Or.inl ⟨by rfl, ?hy16⟩) hHeld ?rest16
  case hy16 => (intro w' hSw; (try dsimp only at hSw); go_simp; (try with_reducible rfl))
  try simp only [Act.put, List.setIfInBounds_toArray, List.set_cons_zero, List.set_cons_succ, List.getElem_toArray, List.getElem_cons_zero, List.getElem_cons_succ]
  refine wpAnyH_take (i := 16) (v := ?v17) rfl (by kernel_rfl) (by kernel_rfl) (by kernel_rfl) (fun _ _ _ h => h) (Or.inl ⟨by rfl, ?hy17⟩) hHeld ?rest17
  case hy17 => (intro w' hSw; (try dsimp only at hSw); go_simp; (try with_reducible rfl))
  try simp only [Act.put, List.setIfInBounds_toArray, List.set_cons_zero, List.set_cons_succ, List.getElem_toArray, List.getElem_cons_zero, List.getElem_cons_succ]
  refine wpAnyH_take (i := 17) (v := ?v18) rfl (by kernel_rfl) (by kernel_rfl) (by kernel_rfl) (fun _ _ _ h => h) (Or.inl ⟨by rfl, ?hy18⟩) hHeld ?rest18
  case hy18 => (intro w' hSw; (try dsimp only at hSw); go_simp; (try with_reducible rfl))
  try simp only [Act.put, List.setIfInBounds_toArray, List.set_cons_zero, List.set_cons_succ, List.getElem_toArray, List.getElem_cons_zero, List.getElem_cons_succ]
  refine wpAnyH_take (i := 18) (v := ?v19) rfl (by kernel_rfl) (by kernel_rfl) (by kernel_rfl) (fun _ _ _ h => h) (Or.inl ⟨by rfl, ?hy19⟩) hHeld ?rest19
  case hy19 => (intro w' hSw; (try dsimp only at hSw); go_simp; (try with_reducible rfl))
  try simp only [Act.put, List.setIfInBounds_toArray, List.set_cons_zero, List.set_cons_succ, List.getElem_toArray, List.getElem_cons_zero, List.getElem_cons_succ]
  refine wpAnyH_take (i := 19) (v := ?v20) rfl (by kernel_rfl) (by kernel_rfl) (by kernel_rfl) (fun _ _ _ h => h) (Or.inl ⟨by rfl, ?hy20⟩) hHeld ?rest20
  case hy20 => (intro w' hSw; (try dsimp only at hSw); go_simp; (try with_reducible rfl))
  try simp only [Act.put, List.setIfInBounds_toArray, List.set_cons_zero, List.set_cons_succ, List.getElem_toArray, List.getElem_cons_zero, List.getElem_cons_succ]
  refine wpAnyH_take (i := 20) (v := ?v21) rfl (by kernel_rfl) (by kernel_rfl) (by kernel_rfl) (fun _ _ _ h => h) (Or.inl ⟨by rfl, ?hy21⟩) hHeld ?rest21
  case hy21 => (intro w' hSw; (try dsimp only at hSw); go_simp; (try with_reducible rfl))
  try simp only [Act.put, List.setIfInBounds_toArray, List.set_cons_zero, List.set_cons_succ, List.getElem_toArray, List.getElem_cons_zero, List.getElem_cons_succ]
  refine wpAnyH_take (i := 21) (v := ?v22) rfl (by kernel_rfl) (by kernel_rfl) (by kernel_rfl) (fun _ _ _ h => h) (Or.inl ⟨by rfl, ?hy22⟩) hHeld ?rest22
  case hy22 => (intro w' hSw; (try dsimp only at hSw); go_simp; (try with_reducible rfl))
  try simp only [Act.put, List.setIfInBounds_toArray, List.set_cons_zero, List.set_cons_succ, List.getElem_toArray, List.getElem_cons_zero, List.getElem_cons_succ]
  refine wpAnyH_take (i := 22) (v := ?v23) rfl (by kernel_rfl) (by kernel_rfl) (by kernel_rfl) (fun _ _ _ h => h) (Or.inl ⟨by rfl, ?hy23⟩) hHeld ?rest23
  case hy23 => (intro w' hSw; (try dsimp only at hSw); go_simp; (try with_reducible rfl))
  try simp only [Act.put, List.setIfInBounds_toArray, List.set_cons_zero, List.set_cons_succ, List.getElem_toArray, List.getElem_cons_zero, List.getElem_cons_succ]
  refine wpAnyH_take (i := 23) (v := ?v24) rfl (by kernel_rfl) (by kernel_rfl) (by kernel_rfl) (fun _ _ _ h => h) (Or.inl ⟨by rfl, ?hy24⟩) hHeld ?rest24
  case hy24 => (intro w' hSw; (try dsimp only at hSw); go_simp; (try with_reducible rfl))
  try simp only [Act.put, List.setIfInBounds_toArray, List.set_cons_zero, List.set_cons_succ, List.getElem_toArray, List.getElem_cons_zero, List.getElem_cons_succ]
  refine wpAnyH_take (i := 24) (v := ?v25) rfl (by kernel_rfl) (by kernel_rfl) (by kernel_rfl) (fun _ _ _ h => h) (Or.inl ⟨by rfl, ?hy25⟩) hHeld ?rest25
  case hy25 => (intro w' hSw; (try dsimp only at hSw); go_simp; (try with_reducible rfl))
  try simp only [Act.put, List.setIfInBounds_toArray, List.set_cons_zero, List.set_cons_succ, List.getElem_toArray, List.getElem_cons_zero, List.getElem_cons_succ]
  refine wpAnyH_take (i := 25) (v := ?v26) rfl (by kernel_rfl) (by kernel_rfl) (by kernel_rfl) (fun _ _ _ h => h) (Or.inl ⟨by rfl, ?hy26⟩) hHeld ?rest26
  case hy26 => (intro w' hSw; (try dsimp only at hSw); go_simp; (try with_reducible rfl))
  try simp only [Act.put, List.setIfInBounds_toArray, List.set_cons_zero, List.set_cons_succ, List.getElem_toArray, List.getElem_cons_zero, List.getElem_cons_succ]
  refine wpAnyH_take (i := 26) (v := ?v27) rfl (by kernel_rfl) (by kernel_rfl) (by kernel_rfl) (fun _ _ _ h => h) (Or.inl ⟨by rfl, ?hy27⟩) hHeld ?rest27
  case hy27 => (intro w' hSw; (try dsimp only at hSw); go_simp; (try with_reducible rfl))
  try simp only [Act.put, List.setIfInBounds_toArray, List.set_cons_zero, List.set_cons_succ, List.getElem_toArray, List.getElem_cons_zero, List.getElem_cons_succ]
  refine wpAnyH_take (i := 27) (v := ?v28) rfl (by kernel_rfl) (by kernel_rfl) (by kernel_rfl) (fun _ _ _ h => h) (Or.inl ⟨by rfl, ?hy28⟩) hHeld ?rest28
  case hy28 => (intro w' hSw; (try dsimp only at hSw); go_simp; (try with_reducible rfl))
  try simp only [Act.put, List.setIfInBounds_toArray, List.set_cons_zero, List.set_cons_succ, List.getElem_toArray, List.getElem_cons_zero, List.getElem_cons_succ]
  refine wpAnyH_take (i := 28) (v := ?v29) rfl (by kernel_rfl) (by kernel_rfl) (by kernel_rfl) (fun _ _ _ h => h) (Or.inl ⟨by rfl, ?hy29⟩) hHeld ?rest29
  case hy29 => (intro w' hSw; (try dsimp only at hSw); go_simp; (try with_reducible rfl))
  try simp only [Act.put, List.setIfInBounds_toArray, List.set_cons_zero, List.set_cons_succ, List.getElem_toArray, List.getElem_cons_zero, List.getElem_cons_succ]
  refine wpAnyH_take (i := 29) (v := ?v30) rfl (by kernel_rfl) (by kernel_rfl) (by kernel_rfl) (fun _ _ _ h => h) (Or.inl ⟨by rfl, ?hy30⟩) hHeld ?rest30
  case hy30 => (intro w' hSw; (try dsimp only at hSw); go_simp; (try with_reducible rfl))
  try simp only [Act.put, List.setIfInBounds_toArray, List.set_cons_zero, List.set_cons_succ, List.getElem_toArray, List.getElem_cons_zero, List.getElem_cons_succ]
  refine wpAnyH_take (i := 30) (v := ?v31) rfl (by kernel_rfl) (by kernel_rfl) (by kernel_rfl) (fun _ _ _ h => h) (Or.inl ⟨by rfl, ?hy31⟩) hHeld ?rest31
  case hy31 => (intro w' hSw; (try dsimp only at hSw); go_simp; (try with_reducible rfl))
  try simp only [Act.put, List.setIfInBounds_toArray, List.set_cons_zero, List.set_cons_succ, List.getElem_toArray, List.getElem_cons_zero, List.getElem_cons_succ]
  refine wpAnyH_take (i := 31) (v := ?v32) rfl (by kernel_rfl) (by kernel_rfl) (by kernel_rfl) (fun _ _ _ h => h) (Or.inl ⟨by rfl, ?hy32⟩) hHeld ?rest32
  case hy32 => (intro w' hSw; (try dsimp only at hSw); go_simp; (try with_reducible rfl))
  try simp only [Act.put, List.setIfInBounds_toArray, List.set_cons_zero, List.set_cons_succ, List.getElem_toArray, List.getElem_cons_zero, List.getElem_cons_succ]
  refine wpAnyH_take (i := 32) (v := ?v33) rfl (by kernel_rfl) (by kernel_rfl) (by kernel_rfl) (fun _ _ _ h => h) (Or.inl ⟨by rfl, ?hy33⟩) hHeld ?rest33
  case hy33 => (intro w' hSw; (try dsimp only at hSw); go_simp; (try with_reducible rfl))
  try simp only [Act.put, List.setIfInBounds_toArray, List.set_cons_zero, List.set_cons_succ, List.getElem_toArray, List.getElem_cons_zero, List.getElem_cons_succ]
  refine wpAnyH_take (i := 33) (v := ?v34) rfl (by kernel_rfl) (by kernel_rfl) (by kernel_rfl) (fun _ _ _ h => h) (Or.inl ⟨by rfl, ?hy34⟩) hHeld ?rest34
  case hy34 => (intro w' hSw; (try dsimp only at hSw); go_simp; (try with_reducible rfl))
  try simp only [Act.put, List.setIfInBounds_toArray, List.set_cons_zero, List.set_cons_succ, List.getElem_toArray, List.getElem_cons_zero, List.getElem_cons_succ]
  refine wpAnyH_take (i := 34) (v := ?v35) rfl (by kernel_rfl) (by kernel_rfl) (by kernel_rfl) (fun _ _ _ h => h) (Or.inl ⟨by rfl, ?hy35⟩) hHeld ?rest35
  case hy35 => (intro w' hSw; (try dsimp only at hSw); go_simp; (try with_reducible rfl))
  try simp only [Act.put, List.setIfInBounds_toArray, List.set_cons_zero, List.set_cons_succ, List.getElem_toArray, List.getElem_cons_zero, List.getElem_cons_succ]
  refine wpAnyH_take (i := 35) (v := ?v36) rfl (by kernel_rfl) (by kernel_rfl) (by kernel_rfl) (fun _ _ _ h => h) (Or.inl ⟨by rfl, ?hy36⟩) hHeld ?rest36
  case hy36 => (intro w' hSw; (try dsimp only at hSw); go_simp; (try with_reducible rfl))
  try simp only [Act.put, List.setIfInBounds_toArray, List.set_cons_zero, List.set_cons_succ, List.getElem_toArray, List.getElem_cons_zero, List.getElem_cons_succ]
  refine wpAnyH_take (i := 36) (v := ?v37) rfl (by kernel_rfl) (by kernel_rfl) (by kernel_rfl) (fun _ _ _ h => h) (Or.inl ⟨by rfl, ?hy37⟩) hHeld ?rest37
  case hy37 => (intro w' hSw; (try dsimp only at hSw); go_simp; (try with_reducible rfl))
  try simp only [Act.put, List.setIfInBounds_toArray, List.set_cons_zero, List.set_cons_succ, List.getElem_toArray, List.getElem_cons_zero, List.getElem_cons_succ]
  refine wpAnyH_take (i := 37) (v := ?v38) rfl (by kernel_rfl) (by kernel_rfl) (by kernel_rfl) (fun _ _ _ h => h) (Or.inl ⟨by rfl, ?hy38⟩) hHeld ?rest38
  case hy38 => (intro w' hSw; (try dsimp only at hSw); go_simp; (try with_reducible rfl))
  try simp only [Act.put, List.setIfInBounds_toArray, List.set_cons_zero, List.set_cons_succ, List.getElem_toArray, List.getElem_cons_zero, List.getElem_cons_succ]
  refine wpAnyH_take (i := 38) (v := ?v39) rfl (by kernel_rfl) (by kernel_rfl) (by kernel_rfl) (fun _ _ _ h => h) (Or.inl ⟨by rfl, ?hy39⟩) hHeld ?rest39
  case hy39 => (intro w' hSw; (try dsimp only at hSw); go_simp; (try with_reducible rfl))
  try simp only [Act.put, List.setIfInBounds_toArray, List.set_cons_zero, List.set_cons_succ, List.getElem_toArray, List.getElem_cons_zero, List.getElem_cons_succ]
  refine wpAnyH_take (i := 39) (v := ?v40) rfl (by kernel_rfl) (by kernel_rfl) (by kernel_rfl) (fun _ _ _ h => h) (Or.inl ⟨by rfl, ?hy40⟩) hHeld ?rest40
  case hy40 => (intro w' hSw; (try dsimp only at hSw); go_simp; (try with_reducible rfl))
  try simp only [Act.put, List.setIfInBounds_toArray, List.set_cons_zero, List.set_cons_succ, List.getElem_toArray, List.getElem_cons_zero, List.getElem_cons_succ]
  refine wpAnyH_take (i := 40) (v := ?v41) rfl (by kernel_rfl) (by kernel_rfl) (by kernel_rfl) (fun _ _ _ h => h) (Or.inl ⟨by rfl, ?hy41⟩) hHeld ?rest41
  case hy41 => (intro w' hSw; (try dsimp only at hSw); go_simp; (try with_reducible rfl))
  try simp only [Act.put, List.setIfInBounds_toArray, List.set_cons_zero, List.set_cons_succ, List.getElem_toArray, List.getElem_cons_zero, List.getElem_cons_succ]
  refine wpAnyH_take (i := 41) (v := ?v42) rfl (by kernel_rfl) (by kernel_rfl) (by kernel_rfl) (fun _ _ _ h => h) (Or.inl ⟨by rfl, ?hy42⟩) hHeld ?rest42
  case hy42 => (intro w' hSw; (try dsimp only at hSw); go_simp; (try with_reducible rfl))
  try simp only [Act.put, List.setIfInBounds_toArray, List.set_cons_zero, List.set_cons_succ, List.getElem_toArray, List.getElem_cons_zero, List.getElem_cons_succ]
  refine wpAnyH_take (i := 42) (v := ?v43) rfl (by kernel_rfl) (by kernel_rfl) (by kernel_rfl) (fun _ _ _ h => h) (Or.inl ⟨by rfl, ?hy43⟩) hHeld ?rest43
  case hy43 => (intro w' hSw; (try dsimp only at hSw); go_simp; (try with_reducible rfl))
  try simp only [Act.put, List.setIfInBounds_toArray, List.set_cons_zero, List.set_cons_succ, List.getElem_toArray, List.getElem_cons_zero, List.getElem_cons_succ]
  refine wpAnyH_take (i := 43) (v := ?v44) rfl (by kernel_rfl) (by kernel_rfl) (by kernel_rfl) (fun _ _ _ h => h) (Or.inl ⟨by rfl, ?hy44⟩) hHeld ?rest44
  case hy44 => (intro w' hSw; (try dsimp only at hSw); go_simp; (try with_reducible rfl))
  try simp only [Act.put, List.setIfInBounds_toArray, List.set_cons_zero, List.set_cons_succ, List.getElem_toArray, List.getElem_cons_zero, List.getElem_cons_succ]
  refine wpAnyH_take (i := 44) (v := ?v45) rfl (by kernel_rfl) (by kernel_rfl) (by kernel_rfl) (fun _ _ _ h => h) (Or.inl ⟨by rfl, ?hy45⟩) hHeld ?rest45
  case hy45 => (intro w' hSw; (try dsimp only at hSw); go_simp; (try with_reducible rfl))
  try simp only [Act.put, List.setIfInBounds_toArray, List.set_cons_zero, List.set_cons_succ, List.getElem_toArray, List.getElem_cons_zero, List.getElem_cons_succ]
  refine wpAnyH_take (i := 45) (v := ?v46) rfl (by kernel_rfl) (by kernel_rfl) (by kernel_rfl) (fun _ _ _ h => h) (Or.inl ⟨by rfl, ?hy46⟩) hHeld ?rest46
  case hy46 => (intro w' hSw; (try dsimp only at hSw); go_simp; (try with_reducible rfl))
  try simp only [Act.put, List.setIfInBounds_toArray, List.set_cons_zero, List.set_cons_succ, List.getElem_toArray, List.getElem_cons_zero, List.getElem_cons_succ]
  refine wpAnyH_take (i := 46) (v := ?v47) rfl (by kernel_rfl) (by kernel_rfl) (by kernel_rfl) (fun _ _ _ h => h) (Or.inl ⟨by rfl, ?hy47⟩) hHeld ?rest47
  case hy47 => (intro w' hSw; (try dsimp only at hSw); go_simp; (try with_reducible rfl))
  try simp only [Act.put, List.setIfInBounds_toArray, List.set_cons_zero, List.set_cons_succ, List.getElem_toArray, List.getElem_cons_zero, List.getElem_cons_succ]
  refine wpAnyH_done (by kernel_rfl) ?_ _
  replace hI := hI.drew
  clear KC KD c0 c1 d3 d4 d5 d6 d7
  have c0 := hI.kc.cell (i := 0) rfl
  go_wp2_with fail
  refine (CX.out _).mono ?_
  rintro e wx ⟨rfl, rfl⟩
  clear c0
  go_wp2_with fail
  go_loopw [21] (fun k wx => ∃ i : Nat, i ≤ n9 ∧ k = .int .i64 i ∧ PutsI w wx gC g6 [.int .i64 x, .int .i64 y, .slice av m cw, .int .i64 c, .int .i32 ox, .int .i32 oy] [.int .i64 x, .int .i64 y, .slice none 0 0, .int .i64 c, .int .i32 ox, .int .i32 oy, .slice aA n9 cA, .slice aS n9 cS] (.slice av m cw) (.slice ab L cb) (.slice aA n9 cA) (.slice aS n9 cS) m L n9 F BS As Ss) (fun k _ => n9 - (intOf k).toNat)
  case atStart => exact ⟨0, Nat.zero_le _, rfl, hI⟩
  case round =>
    clear hI
    obtain ⟨i, hi, rfl, hI⟩ := hrel
    have d6 := hI.kd.cell (i := 6) rfl
    by_cases hlt : i < n9
    · obtain ⟨hX, hY, hXY⟩ := PP.out i hlt
      have DT := PT.out i hlt ab cb aA cA aS cS wr (Sl.of_own hI.ob) (Sl.of_own hI.oA) (Sl.of_own hI.oS)
      have hok := PK.out i hlt
      rw [hok] at DT
      have RC := PR.out i hlt
      obtain ⟨Z, hZ⟩ : ∃ Z, Z = tileAt F x y i := ⟨_, rfl⟩
      obtain ⟨k, hk⟩ : ∃ k, k = side x (i % nx) * side y (i / nx) := ⟨_, rfl⟩
      have hln := PL.out i hlt
      have hks := PS.out i
      rw [← hZ, ← hk] at hln
      rw [← hZ, ← hk] at DT RC
      rw [← hk] at hks
      have e1 : (i : Int).tmod (nx : Int) = ((i % nx : Nat) : Int) := rfl
      have e2 : (i : Int).tdiv (nx : Int) = ((i / nx : Nat) : Int) := rfl
      have hne : ¬ nx = 0 := by omega
      obtain ⟨X, hXe⟩ : ∃ X, X = i % nx := ⟨_, rfl⟩
      obtain ⟨Y, hYe⟩ : ∃ Y, Y = i / nx := ⟨_, rfl⟩
      rw [← hXe] at RC e1 hX
      rw [← hYe] at RC e2 hY
      have e3 := i64_nat X (by omega)
      have e4 := i64_nat Y (by have := cnt_le y; omega)
      replace DT := Lib.hid DT
      replace RC := Lib.hid RC
      have HLN := Lib.hid hln
      clear hZ hk hok hXe hYe hXY hln
      have d0 := hI.kd.cell (i := 0) rfl
      have d1 := hI.kd.cell (i := 1) rfl
      have d2 := hI.kd.cell (i := 2) rfl
      have d3 := hI.kd.cell (i := 3) rfl
      have d4 := hI.kd.cell (i := 4) rfl
      have d5 := hI.kd.cell (i := 5) rfl
      have d7 := hI.kd.cell (i := 7) rfl
      go_wp2_with fail
      refine DT.out.mono ?_
      rintro e w9 ⟨zs, cc, v9, rfl, hR, ⟨a9, n9', c9, rfl⟩, hz, hA⟩
      obtain ⟨rfl, rfl⟩ : cc = 0 ∧ zs = Z := by
        rcases hR with ⟨h, _⟩ | ⟨_, h1, h2⟩
        · cases h
        · exact ⟨h1, h2⟩
      obtain ⟨_, ho9⟩ := hz rfl
      obtain ⟨a', c', he, _, _⟩ := ownsRow_slice ho9
      cases he
      replace hI := hI.below hA
      clear DT hR hz hA d0 d1 d2 d3 d4 d5 d6 d7
      replace ho9 := ownsRow_below ho9 ((Below.refl w9.heap.size w9).drew)
      have D := Lib.hid (RC.out w9.drew (Sl.of_own hI.drew.of_))
      clear RC
      have c0 := hI.kc.cell (i := 0) rfl
      have c1 := hI.kc.cell (i := 1) rfl
      have c2 := hI.kc.cell (i := 2) rfl
      go_wp2_with fail
      refine wp_region_held_drew (S := (fun w' : World => w'.cell? ⟨gC, 0, none⟩ = some (.int .i64 x) ∧ w'.cell? ⟨gC, 1, none⟩ = some (.int .i64 y) ∧ w'.cell? ⟨gC, 2, none⟩ = some (.slice av m cw))) (by kernel_rfl) (⟨c0, c1, c2⟩) (fun hHeld => ?_)
      refine wpAnyH_take (i := 0) (v := ?v48) rfl (by kernel_rfl) (by kernel_rfl) (by kernel_rfl) (fun _ _ _ h => h) (Or.inl ⟨by rfl, ?hy48⟩) hHeld ?rest48
      case hy48 => (intro w' hSw; (try dsimp only at hSw); go_simp; (try with_reducible rfl))
      try simp only [Act.put, List.setIfInBounds_toArray, List.set_cons_zero, List.set_cons_succ, List.getElem_toArray, List.getElem_cons_zero, List.getElem_cons_succ]
      refine wpAnyH_take (i := 1) (v := ?v49) rfl (by kernel_rfl) (by kernel_rfl) (by kernel_rfl) (fun _ _ _ h => h) (Or.inl ⟨by rfl, ?hy49⟩) hHeld ?rest49
      case hy49 => (intro w' hSw; (try dsimp only at hSw); go_simp; (try with_reducible rfl))
      try simp only [Act.put, List.setIfInBounds_toArray, List.set_cons_zero, List.set_cons_succ, List.getElem_toArray, List.getElem_cons_zero, List.getElem_cons_succ]
      refine wpAnyH_take (i := 2) (v := ?v50) rfl (by kernel_rfl) (by kernel_rfl) (by kernel_rfl) (fun _ _ _ h => h) (Or.inl ⟨by rfl, ?hy50⟩) hHeld ?rest50
      case hy50 => (intro w' hSw; (try dsimp only at hSw); go_simp; (try with_reducible rfl))
      try simp only [Act.put, List.setIfInBounds_toArray, List.set_cons_zero, List.set_cons_succ, List.getElem_toArray, List.getElem_cons_zero, List.getElem_cons_succ]
      refine wpAnyH_take (i := 3) (v := ?v51) rfl (by kernel_rfl) (by kernel_rfl) (by kernel_rfl) (fun _ _ _ h => h) (Or.inl ⟨by rfl, ?hy51⟩) hHeld ?rest51
      case hy51 => (intro w' hSw; (try dsimp only at hSw); go_simp; (try with_reducible rfl))
      try simp only [Act.put, List.setIfInBounds_toArray, List.set_cons_zero, List.set_cons_succ, List.getElem_toArray, List.getElem_cons_zero, List.getElem_cons_succ]
      refine wpAnyH_take (i := 4) (v := ?v52) rfl (by kernel_rfl) (by kernel_rfl) (by kernel_rfl) (fun _ _ _ h => h) (Or.inl ⟨by rfl, ?hy52⟩) hHeld ?rest52
      case hy52 => (intro w' hSw; (try dsimp only at hSw); go_simp; (try with_reducible rfl))
      try simp only [Act.put, List.setIfInBounds_toArray, List.set_cons_zero, List.set_cons_succ, List.getElem_toArray, List.getElem_cons_zero, List.getElem_cons_succ]
      refine wpAnyH_take (i := 5) (v := ?v53) rfl (by kernel_rfl) (by kernel_rfl) (by kernel_rfl) (fun _ _ _ h => h) (Or.inl ⟨by rfl, ?hy53⟩) hHeld ?rest53
      case hy53 => (intro w' hSw; (try dsimp only at hSw); go_simp; (try with_reducible rfl))
      try simp only [Act.put, List.setIfInBounds_toArray, List.set_cons_zero, List.set_cons_succ, List.getElem_toArray, List.getElem_cons_zero, List.getElem_cons_succ]
      refine wpAnyH_take (i := 6) (v := ?v54) rfl (by kernel_rfl) (by kernel_rfl) (by kernel_rfl) (fun _ _ _ h => h) (Or.inl ⟨by rfl, ?hy54⟩) hHeld ?rest54
      case hy54 => (intro w' hSw; (try dsimp only at hSw); go_simp; (try with_reducible rfl))
      try simp only [Act.put, List.setIfInBounds_toArray, List.set_cons_zero, List.set_cons_succ, List.getElem_toArray, List.getElem_cons_zero, List.getElem_cons_succ]
      refine wpAnyH_take (i := 7) (v := ?v55) rfl (by kernel_rfl) (by kernel_rfl) (by kernel_rfl) (fun _ _ _ h => h) (Or.inl ⟨by rfl, ?hy55⟩) hHeld ?rest55
      case hy55 => (intro w' hSw; (try dsimp only at hSw); go_simp; (try with_reducible rfl))
      try simp only [Act.put, List.setIfInBounds_toArray, List.set_cons_zero, List.set_cons_succ, List.getElem_toArray, List.getElem_cons_zero, List.getElem_cons_succ]
      refine wpAnyH_ready (rs := [8]) (by kernel_rfl) (by simp) ?_
      refine AllReadyH.cons rfl (fun K hK => ?_) AllReadyH.nil
      go_simp
      refine D.out.mono ?_
      rintro e w10 ⟨v10, sx, sy, rfl, ho10, hA⟩
      obtain ⟨a10, c10, rfl, _, _⟩ := ownsRow_slice ho10
      have hI10 := hI.drew.below hA
      replace ho9 := ownsRow_below ho9 hA
      clear D hA
      try go_wp2_with fail
      refine hK.out _ _ (⟨hI10.kc.cell (i := 0) rfl, hI10.kc.cell (i := 1) rfl, hI10.kc.cell (i := 2) rfl⟩) (fun hHeld => ?_)
      clear hK K
      try simp only [Act.put, List.setIfInBounds_toArray, List.set_cons_zero, List.set_cons_succ, List.getElem_toArray, List.getElem_cons_zero, List.getElem_cons_succ]
      refine wpAnyH_take (i := 9) (v := ?v57) rfl (by kernel_rfl) (by kernel_rfl) (by kernel_rfl) (fun _ _ _ h => h) (Or.inl ⟨by rfl, ?hy57⟩) hHeld ?rest57
      case hy57 => (intro w' hSw; (try dsimp only at hSw); go_simp; (try with_reducible rfl))
      try simp only [Act.put, List.setIfInBounds_toArray, List.set_cons_zero, List.set_cons_succ, List.getElem_toArray, List.getElem_cons_zero, List.getElem_cons_succ]
      refine wpAnyH_take (i := 10) (v := ?v58) rfl (by kernel_rfl) (by kernel_rfl) (by kernel_rfl) (fun _ _ _ h => h) (Or.inl ⟨by rfl, ?hy58⟩) hHeld ?rest58
      case hy58 => (intro w' hSw; (try dsimp only at hSw); go_simp; (try with_reducible rfl))
      try simp only [Act.put, List.setIfInBounds_toArray, List.set_cons_zero, List.set_cons_succ, List.getElem_toArray, List.getElem_cons_zero, List.getElem_cons_succ]
      refine wpAnyH_take (i := 11) (v := ?v59) rfl (by kernel_rfl) (by kernel_rfl) (by kernel_rfl) (fun _ _ _ h => h) (Or.inl ⟨by rfl, ?hy59⟩) hHeld ?rest59
      case hy59 => (intro w' hSw; (try dsimp only at hSw); go_simp; (try with_reducible rfl))
      try simp only [Act.put, List.setIfInBounds_toArray, List.set_cons_zero, List.set_cons_succ, List.getElem_toArray, List.getElem_cons_zero, List.getElem_cons_succ]
      refine wpAnyH_take (i := 12) (v := ?v60) rfl (by kernel_rfl) (by kernel_rfl) (by kernel_rfl) (fun _ _ _ h => h) (Or.inl ⟨by rfl, ?hy60⟩) hHeld ?rest60
      case hy60 => (intro w' hSw; (try dsimp only at hSw); go_simp; (try with_reducible rfl))
      try simp only [Act.put, List.setIfInBounds_toArray, List.set_cons_zero, List.set_cons_succ, List.getElem_toArray, List.getElem_cons_zero, List.getElem_cons_succ]
      refine wpAnyH_take (i := 13) (v := ?v61) rfl (by kernel_rfl) (by kernel_rfl) (by kernel_rfl) (fun _ _ _ h => h) (Or.inl ⟨by rfl, ?hy61⟩) hHeld ?rest61
      case hy61 => (intro w' hSw; (try dsimp only at hSw); go_simp; (try with_reducible rfl))
      try simp only [Act.put, List.setIfInBounds_toArray, List.set_cons_zero, List.set_cons_succ, List.getElem_toArray, List.getElem_cons_zero, List.getElem_cons_succ]
      refine wpAnyH_take (i := 14) (v := ?v62) rfl (by kernel_rfl) (by kernel_rfl) (by kernel_rfl) (fun _ _ _ h => h) (Or.inl ⟨by rfl, ?hy62⟩) hHeld ?rest62
      case hy62 => (intro w' hSw; (try dsimp only at hSw); go_simp; (try with_reducible rfl))
      try simp only [Act.put, List.setIfInBounds_toArray, List.set_cons_zero, List.set_cons_succ, List.getElem_toArray, List.getElem_cons_zero, List.getElem_cons_succ]
      refine wpAnyH_take (i := 15) (v := ?v63) rfl (by kernel_rfl) (by kernel_rfl) (by kernel_rfl) (fun _ _ _ h => h) (Or.inl ⟨by rfl, ?hy63⟩) hHeld ?rest63
      case hy63 => (intro w' hSw; (try dsimp only at hSw); go_simp; (try with_reducible rfl))
      try simp only [Act.put, List.setIfInBounds_toArray, List.set_cons_zero, List.set_cons_succ, List.getElem_toArray, List.getElem_cons_zero, List.getElem_cons_succ]
      refine wpAnyH_done (by kernel_rfl) ?_ _
      clear c0 c1 c2 hI
      have D := Lib.hid (same16_any a9 a10 k c9 c10 zs HLN.out (by omega) w10 (Sl.of_own ho9) (Sl.of_own ho10))
      clear ho9 ho10
      go_wp2_with fail
      refine D.out.mono ?_
      rintro e w11 ⟨rfl, hA⟩
      replace hI10 := hI10.below hA
      clear D hA
      go_wp2_with fail
      go_roundw
      case rel => exact ⟨i + 1, by omega, by go_num, hI10⟩
      case measure => simp [intOf]; omega
    · obtain rfl : i = n9 := by omega
      have hB := hI.bel
      clear hI
      go_wp2_with fail
      refine (works9_any wr).mono ?_
      rintro e w9 ⟨rfl, hA⟩
      go_wp2_with fail
      go_ret
      exact ⟨rfl, hB.trans (hA.mono hB.size)⟩

theorem chartPuts_any (p q : Nat) (cell ox oy : Int) (a : Option Addr) (n cap : Nat) (z : List Int) (hp : p < 256) (hq : q < 256) (h1 : In32' ox) (h2 : In32' oy) (hz : z.length = n) (h16 : ∀ u ∈ z, In16 u) (w : World) (hS : Sl w 1 (.slice a n cap) n (i16s z)) :
    Calls Try.prog 3 #[.int .u8 p, .int .u8 q, .slice a n cap, .int .i64 cell, .int .i32 ox, .int .i32 oy] w fun e w' => e = .returned (.bool true) ∧ Below w.heap.size w w' := by
  have hmx := hS.max
  by_cases hbig : 2000 < n
  · exact chartPuts_big p q cell ox oy a n cap w hbig (by omega)
  · cases hc : isC cell
    · exact chartPuts_bad p q cell ox oy a n cap z hp hq hc hz h16 (by omega) w hS
    · obtain ⟨c1, c2⟩ := isC_yes hc
      obtain ⟨c, rfl⟩ := Int.eq_ofNat_of_zero_le (show 0 ≤ cell by omega)
      exact chartPuts_go p q c ox oy a n cap z hp hq hc h1 h2 hz h16 (by omega) w hS
end Go.Proofs.Ytdknnfineommoaa
