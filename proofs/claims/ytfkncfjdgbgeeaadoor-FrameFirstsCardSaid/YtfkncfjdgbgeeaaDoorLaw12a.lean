/-
  The law's example, walked.
-/
import Derived.Test.YtfkncfjdgbgeeaaDoorFrameX
import Derived.Deep.RegionHeld3
import Derived.Deep.Cut
set_option linter.unusedVariables false
set_option linter.unusedSimpArgs false
namespace Go.Proofs.YtfkncfjdgbgeeaaDoor
open Go Go.RowKit Go.Shelf Go.Th Go.Th.Crc

theorem with_tmps {P : Program} {c : Code} {Q : Exit → Act → World → Prop} {t : Array Value} {d : _} {W : World} (h : ∀ A : Array Value, A = t → Code.wp P c Q { tmps := A, defers := d } W) : Code.wp P c Q { tmps := t, defers := d } W := h t rfl

/-- No way out by a panic. -/
def noPanic (Q : Exit → Act → World → Prop) : Exit → Act → World → Prop
  | .panic _, _, _ => False
  | e, a, w => Q e a w
theorem wp_noPanic {P : Program} {c : Code} {Q : Exit → Act → World → Prop} {a : Act} {w : World} (h : c.wp P (noPanic Q) a w) : c.wp P Q a w :=
  Code.wp_mono (hq := fun e a w hq => by cases e <;> first | exact hq | exact hq.elim) h

def sameF (f g : Fr) : Bool := decide (f.k = g.k) && decide (f.s = g.s) && decide (f.t = g.t) && decide (f.a = g.a) && decide (f.b = g.b) && decide (f.c = g.c)
theorem sameF_eq {f g : Fr} (h : sameF f g = true) : f = g := by
  obtain ⟨k, s, t, a, b, c⟩ := f
  obtain ⟨k', s', t', a', b', c'⟩ := g
  simp [sameF] at h
  obtain ⟨⟨⟨⟨⟨rfl, rfl⟩, rfl⟩, rfl⟩, rfl⟩, rfl⟩ := h
  rfl
theorem sameF_self (f : Fr) : sameF f f = true := by simp [sameF]
/-- Two frames that are not the same part first somewhere. -/
theorem sameF_no {f g : Fr} (h : sameF f g = false) :
    f.k ≠ g.k ∨ (f.k = g.k ∧ f.s ≠ g.s) ∨ (f.k = g.k ∧ f.s = g.s ∧ f.t ≠ g.t) ∨ (f.k = g.k ∧ f.s = g.s ∧ f.t = g.t ∧ f.a ≠ g.a) ∨ (f.k = g.k ∧ f.s = g.s ∧ f.t = g.t ∧ f.a = g.a ∧ f.b ≠ g.b) ∨ (f.k = g.k ∧ f.s = g.s ∧ f.t = g.t ∧ f.a = g.a ∧ f.b = g.b ∧ f.c ≠ g.c) := by
  by_cases h1 : f.k = g.k
  · by_cases h2 : f.s = g.s
    · by_cases h3 : f.t = g.t
      · by_cases h4 : f.a = g.a
        · by_cases h5 : f.b = g.b
          · by_cases h6 : f.c = g.c
            · simp [sameF, h1, h2, h3, h4, h5, h6] at h
            · exact .inr (.inr (.inr (.inr (.inr ⟨h1, h2, h3, h4, h5, h6⟩))))
          · exact .inr (.inr (.inr (.inr (.inl ⟨h1, h2, h3, h4, h5⟩))))
        · exact .inr (.inr (.inr (.inl ⟨h1, h2, h3, h4⟩)))
      · exact .inr (.inr (.inl ⟨h1, h2, h3⟩))
    · exact .inr (.inl ⟨h1, h2⟩)
  · exact .inl h1

theorem own_lit3 {w : World} {e : TypeId} (cs : List Nat) (base n : Nat) (hn : n = cs.length) (hb : base ≤ w.heap.size) (hm : n ≤ maxLen) : (w.alloc (.cells (u8s cs).toArray e)).ownsRow base e 1 (.slice (some ⟨w.heap.size, 0, none⟩) n n) n (u8s cs) := by
  subst hn
  exact ⟨by simp [u8s], .inr ⟨w.heap.size, _, _, rfl, hb, heap_alloc_new w _, Nat.le_refl _, hm, by simp [u8s], by rw [List.take_of_length_le (by simp [u8s])]⟩⟩
/-- Where the example's frame was seen last. -/
def atOf (l : List (Nat × Fr)) : Nat := l.foldl (fun n x => if sameF x.2 f0 then x.1 else n) 0
theorem atOf_snoc (l : List (Nat × Fr)) (x : Nat × Fr) : atOf (l ++ [x]) = if sameF x.2 f0 then x.1 else atOf l := by simp [atOf]
theorem atOf_all : atOf [(3, f0)] = 3 := by decide

theorem func_some (B : Nat) (wx : World) : (binOp .eql 43 (.func (.func 32) #[] #[.pointer (some ⟨B, 0, none⟩)]) .nilFunc).run Tryd.prog wx = .ok (.bool false) wx := by
  first | rfl | kernel_rfl | simp [binOp, Op.equal, Op.equalIn]
/-- Between two rounds of the example's loop. -/
structure SeenI (w W0 : World) (gt : Nat) (pre : List (Nat × Fr)) (W : World) : Prop where
  kept : KeptF (fun j => j < W0.heap.size ∧ j ≠ gt) W0 W
  at_ : Blk W gt 3 [.int .i64 (atOf pre : Nat)]
  below : Below w.heap.size w W
  size : W0.heap.size ≤ W.heap.size

theorem blk_grown {W W' : World} {row : Option Nat} {g : Nat} {t : TypeId} {cs : List Value} (h : Blk W g t cs) (hg : W.grownBy W' row) (hr : ∀ r, row = some r → ∃ o : Obj, W.heap[r]? = some o ∧ o.isCells = false) : Blk W' g t cs :=
  (grownBy_keeps_cells hg hr h rfl).trans h
theorem seenI_from {w W0 : World} {gt : Nat} (hw : w.heap.size ≤ W0.heap.size) : OwnFrom W0.heap.size (fun pre W => SeenI w W0 gt pre W) := by
  intro s X Y row hs hg hr
  refine ⟨fun k hk => (hg.block k (by have := hs.size; omega) (fun e => by have := (hr k e.symm).1; omega)).trans (hs.kept k hk), blk_grown hs.at_ hg (fun r e => (hr r e).2), hs.below.grown hg (Nat.le_trans hw hs.size) (fun k e => Nat.le_trans hw (hr k e).1), Nat.le_trans hs.size hg.size⟩

attribute [local go_sem] Oper.semAt_some
set_option maxRecDepth 100000 in
set_option maxHeartbeats 8000000 in
theorem works12_any (w : World) (C : Cts w) : Calls Tryd.prog 12 #[] w fun e w' => e = .returned (.bool true) ∧ Below w.heap.size w w' := by
  refine (callsIn_wide (n := 10)).1 ?_
  refine callsIn_of_wp_marks Tryd.func12 rfl trivial ?_ rfl
  simp only [Tryd.ntmps12, List.size_toArray, List.length_cons, List.length_nil, Nat.reduceAdd, Nat.reduceSub, Array.replicate_succ, Array.replicate_zero, List.push_toArray, List.append_toArray, List.nil_append, List.cons_append]
  refine wpIn_wide.2 ?_
  -- the frame
  obtain ⟨w1, hw1⟩ : ∃ w1, w.alloc (.cells #[.int .i64 2, .int .u16 7, .int .u32 9, .int .i32 (-5), .int .i32 3, .int .i32 0] 25) = w1 := ⟨_, rfl⟩
  have hB1 : Below w.heap.size w w1 := by rw [← hw1]; exact (Below.refl _ _).alloc (Nat.le_refl _) _
  have K1 : Blk w1 w.heap.size 25 (fcs 2 7 9 (-5) 3 0) := by rw [← hw1]; exact Blk.new w _ _
  have C1 := C.below hB1
  have HW1 := Lib.hid hw1
  clear hw1
  go_upto_region 2 with fail
  rw [HW1.out]
  clear HW1
  have c0 := K1.cell (i := 0) rfl
  have c1 := K1.cell (i := 1) rfl
  have c2 := K1.cell (i := 2) rfl
  have c3 := K1.cell (i := 3) rfl
  have c4 := K1.cell (i := 4) rfl
  have c5 := K1.cell (i := 5) rfl
  have P1 := Lib.hid (put_1 w1 C1)
  go_wp2_with fail
  refine P1.out.mono ?_
  rintro e w2 ⟨v2, rfl, ho2, hB2⟩
  clear P1 c0 c1 c2 c3 c4 c5
  obtain ⟨a2, cap2, rfl, _, _⟩ := ownsRow_slice ho2
  have C2 := C1.below hB2
  have K12 := K1.below hB2 K1.lt
  have hBw2 := hB1.trans (hB2.mono hB1.size)
  have P2 := Lib.hid (first_1 _ w2 C2 (Sl.of_own ho2))
  clear hB1 hB2 C1 K1
  go_wp2_with fail
  refine P2.out.mono ?_
  rintro e w3 ⟨rfl, hB3⟩
  clear P2
  have ho3 := ownsRow_below ho2 hB3
  have C3 := C2.below hB3
  have K13 := K12.below hB3 K12.lt
  have hBw3 := hBw2.trans (hB3.mono hBw2.size)
  obtain ⟨w4, hw4⟩ : ∃ w4, w3.alloc (.cells #[.int .i64 2, .int .u16 7, .int .u32 9, .int .i32 (-5), .int .i32 3, .int .i32 0] 25) = w4 := ⟨_, rfl⟩
  have hB4 : Below w3.heap.size w3 w4 := by rw [← hw4]; exact (Below.refl _ _).alloc (Nat.le_refl _) _
  have K24 : Blk w4 w3.heap.size 25 (fcs 2 7 9 (-5) 3 0) := by rw [← hw4]; exact Blk.new w3 _ _
  have K14 := K13.below hB4 K13.lt
  have C4 := C3.below hB4
  have ho4 := ownsRow_below ho3 hB4
  have hBw4 := hBw3.trans (hB4.mono hBw3.size)
  have P3 := Lib.hid (put_2 w4 C4)
  have HW4 := Lib.hid hw4
  clear hw4 hB3 hB4 ho2 ho3 C2 C3 K12 K13 hBw2 hBw3
  go_upto_region 4 with fail
  rw [HW4.out]
  clear HW4
  go_wp2_with fail
  refine P3.out.mono ?_
  rintro e w5 ⟨rfl, hB5⟩
  clear P3
  have K15 := K14.below hB5 K14.lt
  have K25 := K24.below hB5 K24.lt
  have C5 := C4.below hB5
  have ho5 := ownsRow_below ho4 hB5
  have hBw5 := hBw4.trans (hB5.mono hBw4.size)
  have P4 := Lib.hid (put_3 w5 C5)
  clear hB5 ho4 C4 K14 K24 hBw4
  go_wp2_with fail
  refine P4.out.mono ?_
  rintro e w6 ⟨rfl, hB6⟩
  clear P4
  have K16 := K15.below hB6 K15.lt
  have K26 := K25.below hB6 K25.lt
  have C6 := C5.below hB6
  have ho6 := ownsRow_below ho5 hB6
  have hBw6 := hBw5.trans (hB6.mono hBw5.size)
  clear hB6 ho5 C5 K15 K25 hBw5
  -- all frames among others
  obtain ⟨w7, hw7⟩ : ∃ w7, w6.alloc (.cells #[.int .u8 1, .int .u8 126, .int .u8 9] 5) = w7 := ⟨_, rfl⟩
  have hB7 : Below w6.heap.size w6 w7 := by rw [← hw7]; exact (Below.refl _ _).alloc (Nat.le_refl _) _
  have ol7 : w7.ownsRow w6.heap.size 5 1 (.slice (some ⟨w6.heap.size, 0, none⟩) 3 3) 3 (u8s [1, 126, 9]) := by rw [← hw7]; exact own_lit3 (w := w6) [1, 126, 9] _ 3 rfl (Nat.le_refl _) (by decide)
  have ho7 := ownsRow_below ho6 hB7
  have s7 := Sl.of_own ho7
  have HW7 := Lib.hid hw7
  clear hw7
  go_upto_region 8 with fail
  go_wp2_with (first | (at_builtin; rw [HW7.out]; refine wpList_app Eu8 rfl (.tmp 43) (.tmp 44) rfl w6.heap.size rfl ol7 rfl s7 (oneCell_u8s _) (by decide) (by decide) hB7.size ?_))
  intro v8 w8 ho8' hg8 _
  have hB8 : Below w6.heap.size w6 w8 := hB7.grown hg8 hB7.size (fun q hq => (ol7.lt q hq).1)
  rw [show u8s [1, 126, 9] ++ u8s eb = u8s (1 :: 126 :: 9 :: eb) by simp [u8s]] at ho8'
  have K18 := K16.below hB8 K16.lt
  have K28 := K26.below hB8 K26.lt
  have C8 := C6.below hB8
  have ho8 := ownsRow_below ho6 hB8
  have hBw8 := hBw6.trans (hB8.mono hBw6.size)
  obtain ⟨a8, cap8, rfl, _, _⟩ := ownsRow_slice ho8'
  have P5 := Lib.hid (all_any a8 23 cap8 (1 :: 126 :: 9 :: eb) (by simp [eb_length]) (by decide) w8 (Sl.of_own ho8'))
  clear HW7 hB7 hB8 ol7 ho7 s7 hg8 ho8' ho6 K16 K26 C6 hBw6
  go_wp2_with fail
  refine P5.out.mono ?_
  rintro e w9 ⟨Bx, a9, cap9, rfl, hbx9, s9, hbx, ha9, hB9⟩
  clear P5
  have hfn := func_some Bx
  have K19 := K18.below hB9 K18.lt
  have K29 := K28.below hB9 K28.lt
  have C9 := C8.below hB9
  have ho9 := ownsRow_below ho8 hB9
  have hBw9 := hBw8.trans (hB9.mono hBw8.size)
  have hbxl := World.block_lt_of_cell? w9 _ hbx9
  obtain ⟨W0, hW0⟩ : ∃ W0, w9.alloc (.cells #[.int .i64 0] 3) = W0 := ⟨_, rfl⟩
  have hB0 : Below w9.heap.size w9 W0 := by rw [← hW0]; exact (Below.refl _ _).alloc (Nat.le_refl _) _
  have KA : Blk W0 w9.heap.size 3 [.int .i64 0] := by rw [← hW0]; exact Blk.new w9 _ _
  have K10 := K19.below hB0 K19.lt
  have K20 := K29.below hB0 K29.lt
  have C0 := C9.below hB0
  have ho0 := ownsRow_below ho9 hB0
  have hBw0 := hBw9.trans (hB0.mono hBw9.size)
  have hbx0 := (hB0.cell (p := ⟨Bx, 0, none⟩) hbxl).trans hbx9
  have s0 := s9.below hB0
  have hs0 : W0.heap.size = w9.heap.size + 1 := by rw [← hW0]; simp
  have ho0b := fun q hq => ho9.lt q hq
  have HA9 := Lib.hid ha9
  have HO0B := Lib.hid ho0b
  have HW0 := Lib.hid hW0
  have HS0 := Lib.hid hs0
  have h1lt := K19.lt
  have h2lt := K29.lt
  have hBw9s := hBw9.size
  have C8lt := C9.lt
  clear hW0 hs0 ha9 ho0b hB9 hB0 K18 K28 C8 ho8 hBw8 K19 K29 C9 ho9 hBw9 hbx9 s9
  go_upto_region 12 with fail
  rw [HW0.out]
  clear HW0
  go_wp2_with fail
  refine with_tmps (fun A hA => ?_)
  have hlen : (1 :: 126 :: 9 :: eb).length = 23 := by simp [eb_length]
  have h01 := C8lt
  refine (wpIn_wide (n := 10)).1 ?_
  refine wpIn_rangeFunc_ownH rfl (by omega) (gf := 32) (lb := #[.pointer (some ⟨Bx, 0, none⟩)]) (by rw [hA]; rfl) trivial (enters_of Tryd.func32 (by kernel_rfl) rfl)
    (all_stops Bx a9 cap9 (1 :: 126 :: 9 :: eb) (by rw [hlen]; decide) (by
      intro x hx
      rcases List.mem_cons.1 hx with rfl | hx
      · decide
      rcases List.mem_cons.1 hx with rfl | hx
      · decide
      rcases List.mem_cons.1 hx with rfl | hx
      · decide
      exact eb_lt x hx) (fun j => j < W0.heap.size ∧ j ≠ w9.heap.size) (fun p hp => by have := HA9.out p hp; have := HS0.out; exact ⟨by omega, by omega⟩) ⟨C0.lt, by omega⟩ ⟨by have := HS0.out; omega, by omega⟩
      W0 (fun k hk => hk.1) C0 (by rw [hlen]; exact hbx0) (by rw [hlen]; exact s0)) (fun h k => h.trans k) (keptF_b (fun k hk => hk.1)) (Below.refl _ _) (fun _ => rfl)
    (fun pre W => SeenI w W0 w9.heap.size pre W) (fun _ _ _ => False) (seenI_from hBw0.size) (fun _ _ _ _ _ hs _ _ => hs)
    ⟨KeptF.refl _ _, KA, hBw0, Nat.le_refl _⟩
    (fun x a' W => ∃ B, W0.heap.size ≤ B ∧ Blk W B 25 (fc x.2) ∧ a' = { tmps := (((A.setIfInBounds 50 (.int .i64 (x.1 : Nat))).setIfInBounds 51 (fv x.2)).setIfInBounds 13 (.int .i64 (x.1 : Nat))).setIfInBounds 14 (.pointer (some ⟨B, 0, none⟩)), defers := [] })
    (fun x a' u X Y row hs hg hr => by
      obtain ⟨B, h1, h2, h3⟩ := hs
      exact ⟨B, h1, blk_grown h2 hg (fun r e => (hr r e).2), h3⟩) ?assign ?body ?done ?stop
  case assign =>
    rintro l pre x W K HI hK
    subst hA
    have hsz := HI.size
    gi_wp2
    exact hK _ _ ((KeepsOthers.alloc _ _).from _) (fun k hk => Below.heap_alloc W _ k (by omega)) ⟨fun k hk => (Below.heap_alloc W _ k (by omega)).trans (HI.kept k hk), HI.at_.alloc _, HI.below.alloc HI.below.size _, by simp; omega⟩ ⟨W.heap.size, hsz, Blk.new W _ _, rfl⟩
  case body =>
    rintro l pre x a' W hl hr HI ⟨B, hB, KX, rfl⟩ hlt
    subst hA
    obtain ⟨xk, F⟩ := x
    dsimp only at KX ⊢
    have hsz := HI.size
    have hs0 := HS0.out
    have KF : Blk W w.heap.size 25 (fcs 2 7 9 (-5) 3 0) := K10.of_block (HI.kept _ ⟨by omega, by omega⟩)
    have d0 := KF.cell (i := 0) rfl
    have d1 := KF.cell (i := 1) rfl
    have d2 := KF.cell (i := 2) rfl
    have d3 := KF.cell (i := 3) rfl
    have d4 := KF.cell (i := 4) rfl
    have d5 := KF.cell (i := 5) rfl
    have e0 := KX.cell (i := 0) rfl
    have e1 := KX.cell (i := 1) rfl
    have e2 := KX.cell (i := 2) rfl
    have e3 := KX.cell (i := 3) rfl
    have e4 := KX.cell (i := 4) rfl
    have e5 := KX.cell (i := 5) rfl
    have HIH := Lib.hid HI
    have HKX := Lib.hid KX
    clear hB hl hr hlt hbx0 s0 K10 K20 ho0 KF hs0 hsz hbx h01 hbxl h1lt h2lt KA C0 hBw0 HI KX
    cases hsame : sameF F f0
    · have HR : Hid (SeenI w W0 w9.heap.size (pre ++ [(xk, F)]) W) := Lib.hid ⟨HIH.out.kept, by rw [atOf_snoc, hsame]; exact HIH.out.at_, HIH.out.below, HIH.out.size⟩
      rcases sameF_no hsame with h0 | ⟨h0, h1⟩ | ⟨h0, h1, h2⟩ | ⟨h0, h1, h2, h3⟩ | ⟨h0, h1, h2, h3, h4⟩ | ⟨h0, h1, h2, h3, h4, h5⟩
      · replace h0 : F.k ≠ 2 := h0
        have q0 : ((F.k : Int) == 2) = false := by simp; omega
        clear hsame HIH HKX
        gi_wp2
        exact ⟨KeepsFrom.refl _ _, KeptF.refl _ _, HR.out⟩
      · replace h0 : F.k = 2 := h0
        rw [h0] at e0
        replace h1 : F.s ≠ 7 := h1
        have q1 : ((F.s : Int) == 7) = false := by simp; omega
        clear hsame HIH HKX
        gi_wp2
        exact ⟨KeepsFrom.refl _ _, KeptF.refl _ _, HR.out⟩
      · replace h0 : F.k = 2 := h0
        rw [h0] at e0
        replace h1 : F.s = 7 := h1
        rw [h1] at e1
        replace h2 : F.t ≠ 9 := h2
        have q2 : ((F.t : Int) == 9) = false := by simp; omega
        clear hsame HIH HKX
        gi_wp2
        exact ⟨KeepsFrom.refl _ _, KeptF.refl _ _, HR.out⟩
      · replace h0 : F.k = 2 := h0
        rw [h0] at e0
        replace h1 : F.s = 7 := h1
        rw [h1] at e1
        replace h2 : F.t = 9 := h2
        rw [h2] at e2
        replace h3 : F.a ≠ -5 := h3
        have q3 : ((F.a : Int) == -5) = false := by simp; omega
        clear hsame HIH HKX
        gi_wp2
        exact ⟨KeepsFrom.refl _ _, KeptF.refl _ _, HR.out⟩
      · replace h0 : F.k = 2 := h0
        rw [h0] at e0
        replace h1 : F.s = 7 := h1
        rw [h1] at e1
        replace h2 : F.t = 9 := h2
        rw [h2] at e2
        replace h3 : F.a = -5 := h3
        rw [h3] at e3
        replace h4 : F.b ≠ 3 := h4
        have q4 : ((F.b : Int) == 3) = false := by simp; omega
        clear hsame HIH HKX
        gi_wp2
        exact ⟨KeepsFrom.refl _ _, KeptF.refl _ _, HR.out⟩
      · replace h0 : F.k = 2 := h0
        rw [h0] at e0
        replace h1 : F.s = 7 := h1
        rw [h1] at e1
        replace h2 : F.t = 9 := h2
        rw [h2] at e2
        replace h3 : F.a = -5 := h3
        rw [h3] at e3
        replace h4 : F.b = 3 := h4
        rw [h4] at e4
        replace h5 : F.c ≠ 0 := h5
        have q5 : ((F.c : Int) == 0) = false := by simp; omega
        clear hsame HIH HKX
        gi_wp2
        exact ⟨KeepsFrom.refl _ _, KeptF.refl _ _, HR.out⟩
    · obtain rfl := sameF_eq hsame
      replace e0 : W.cell? ⟨B, 0, none⟩ = some (.int .i64 2) := e0
      replace e1 : W.cell? ⟨B, 1, none⟩ = some (.int .u16 7) := e1
      replace e2 : W.cell? ⟨B, 2, none⟩ = some (.int .u32 9) := e2
      replace e3 : W.cell? ⟨B, 3, none⟩ = some (.int .i32 (-5)) := e3
      replace e4 : W.cell? ⟨B, 4, none⟩ = some (.int .i32 3) := e4
      replace e5 : W.cell? ⟨B, 5, none⟩ = some (.int .i32 0) := e5
      have u0 := HIH.out.at_.cell (i := 0) rfl
      have z0 := HIH.out.at_.free 0
      have hset := HIH.out.at_.set 0 (.int .i64 (xk : Nat)) (by simp)
      have HR : Hid (SeenI w W0 w9.heap.size (pre ++ [(xk, f0)]) (W.setCell ⟨w9.heap.size, 0, none⟩ (.int .i64 (xk : Nat)))) := Lib.hid ⟨fun k hk => (Below.heap_setCell _ _ _ _ (by simpa using hk.2)).trans (HIH.out.kept k hk), by rw [atOf_snoc, hsame]; exact hset, HIH.out.below.setCell (p := ⟨w9.heap.size, 0, none⟩) hBw9s _, by have := HIH.out.size; simpa [World.setCell] using this⟩
      clear hsame HKX hset HIH
      gi_wp2
      exact ⟨(KeepsOthers.setCell _ _ _).from _, fun k hk => Below.heap_setCell _ _ _ _ (by simpa using hk.2), HR.out⟩
  case done =>
    rintro D ys W hD hys HI hK
    subst hA
    rw [eb_found] at hys
    subst hys
    have hs0 := HS0.out
    have k1 : Blk W w.heap.size 25 (fcs 2 7 9 (-5) 3 0) := K10.of_block (HI.kept _ ⟨by omega, by omega⟩)
    have k2 : Blk W w3.heap.size 25 (fcs 2 7 9 (-5) 3 0) := K20.of_block (HI.kept _ ⟨by omega, by omega⟩)
    have k3 : Blk W w9.heap.size 3 [.int .i64 3] := HI.at_
    have ha2 : ∀ p, a2 = some p → p.block < w9.heap.size := by
      rintro p rfl
      rcases ho0.2 with ⟨e, _⟩ | ⟨gx, cx, cur, e, hgx, hh, _⟩
      · cases e
      · cases e; exact (HO0B.out gx rfl).2
    have sb : Sl W 1 (.slice a2 20 cap2) 20 (u8s eb) := sl_keptF (Sl.of_own ho0) HI.kept (fun p hp => by have := ha2 p hp; exact ⟨by omega, by omega⟩)
    have CW : Cts W := C0.keptF HI.kept ⟨C0.lt, by omega⟩
    have hBW := HI.below
    have hDl := lt_of_block hK
    have hwD : w.heap.size ≤ D := by omega
    have HA2 := Lib.hid ha2
    have h9W := k3.lt
    clear hbx0 s0 K10 K20 ho0 HA9 HO0B hbx hbxl hBw0 KA C0 h01 HI HS0 ha2 hs0 hD hBw9s hfn h1lt h2lt
    -- fed in two pieces
    obtain ⟨W2, hW2⟩ : ∃ W2, W.alloc (.cells #[.slice none 0 0, .int .i64 0] 46) = W2 := ⟨_, rfl⟩
    have hB2 : Below W.heap.size W W2 := by rw [← hW2]; exact (Below.refl _ _).alloc (Nat.le_refl _) _
    have KG : Blk W2 W.heap.size 46 [.slice none 0 0, .int .i64 0] := by rw [← hW2]; exact Blk.new W _ _
    obtain ⟨W3, hW3⟩ : ∃ W3, W2.alloc (.cells #[.int .u8 5] 5) = W3 := ⟨_, rfl⟩
    have hB3 : Below W2.heap.size W2 W3 := by rw [← hW3]; exact (Below.refl _ _).alloc (Nat.le_refl _) _
    have ol3 : W3.ownsRow W2.heap.size 5 1 (.slice (some ⟨W2.heap.size, 0, none⟩) 1 1) 1 (u8s [5]) := by rw [← hW3]; exact own_lit3 (w := W2) [5] _ 1 rfl (Nat.le_refl _) (by decide)
    have hB23 := hB2.trans (hB3.mono hB2.size)
    have sb3 := sb.below hB23
    obtain ⟨cut1, s1⟩ := sb3.cut_to Eu8 10 (by decide)
    replace cut1 : ∀ wx, (Instr.slice 26 (.slice a2 20 cap2) none (some (.int .i64 10)) none).run Tryd.prog wx = .ok (.slice a2 10 cap2) wx := cut1
    rw [show (u8s eb).take 10 = u8s (eb.take 10) by simp [u8s]] at s1
    have HW2 := Lib.hid hW2
    have HW3 := Lib.hid hW3
    have hg2 : W2.heap.size = W.heap.size + 1 := by rw [← hW2]; simp
    have HG2 := Lib.hid hg2
    clear hW2 hW3 hg2
    go_upto_region 18 with fail
    rw [HW2.out]
    clear HW2
    go_wp2_with (first | (at_builtin; rw [HW3.out]; refine wpList_app Eu8 rfl (.tmp 57) (.tmp 59) rfl W2.heap.size rfl ol3 rfl s1 (oneCell_u8s _) (by decide) (by decide) hB3.size ?_))
    intro v4 W4 ho4 hg4 _
    have hB4 : Below W2.heap.size W2 W4 := hB3.grown hg4 hB3.size (fun q hq => (ol3.lt q hq).1)
    rw [show u8s [5] ++ u8s (eb.take 10) = u8s (5 :: eb.take 10) by simp [u8s]] at ho4
    have hB24 := hB2.trans (hB4.mono hB2.size)
    have KG4 := KG.below hB4 KG.lt
    have C4' := CW.below hB24
    obtain ⟨a4, cap4, rfl, _, _⟩ := ownsRow_slice ho4
    have P6 := Lib.hid (push_1 W.heap.size (by have := CW.lt; omega) _ W4 C4' KG4 (Sl.of_own ho4))
    have sb4 := sb.below hB24
    clear HW3 hB3 ol3 hB23 sb3 cut1 s1 hg4 hB4 KG ho4
    go_wp2_with fail
    refine P6.out.mono ?_
    rintro e W5 ⟨v5, wv5, rfl, ol5, KG5, ow5, T5⟩
    clear P6
    have sb5 : Sl W5 1 (.slice a2 20 cap2) 20 (u8s eb) := sb4.turned T5 (fun p hp e => by have := HA2.out p hp; omega)
    have C5' := C4'.turned T5 (fun e => by have := CW.lt; omega)
    obtain ⟨a5, cap5, rfl, _, _⟩ := ownsRow_slice ol5
    obtain ⟨ax, cx, cut2, s2, _⟩ := sb5.cut_from Eu8 10 (by decide)
    replace cut2 : ∀ wx, (Instr.slice 26 (.slice a2 20 cap2) (some (.int .i64 10)) none none).run Tryd.prog wx = .ok (.slice ax 10 cx) wx := cut2
    replace s2 : Sl W5 1 (.slice ax 10 cx) 10 (u8s (eb.drop 10)) := by rw [show u8s (eb.drop 10) = (u8s eb).drop 10 by simp [u8s]]; exact s2
    have P7 := Lib.hid (push_2 W.heap.size (by have := CW.lt; omega) wv5 _ W5 C5' KG5 (Sl.of_own ow5) s2)
    clear sb5 s2 KG5 ow5 ol5
    go_wp2_with fail
    refine P7.out.mono ?_
    rintro e W6 ⟨v6, wv6, rfl, ol6, KG6, ow6, T6⟩
    clear P7 cut2
    have T56 : Turned (fun j => j = W.heap.size) W4 W6 := T5.trans T6 (fun _ _ e => e)
    have hs4 := hB24.size
    have f1 := (k1.below hB24 k1.lt).turned T56 (fun e => by have := k1.lt; omega)
    have f2 := (k2.below hB24 k2.lt).turned T56 (fun e => by have := k2.lt; omega)
    have f3 := (k3.below hB24 k3.lt).turned T56 (fun e => by omega)
    have C6' := C5'.turned T6 (fun e => by have := CW.lt; omega)
    have hD6 : W6.heap[D]? = some (.deferred (some [])) := (T56.block D (Nat.lt_of_lt_of_le hDl hs4) (by omega)).trans ((hB24.block D hDl).trans hK)
    have hB6 : Below w.heap.size w W6 := T56.old (hBW.trans (hB24.mono hBW.size)) (Nat.le_trans hBW.size hs4) (fun j hj e => by have := hBW.size; omega)
    obtain ⟨g6, cap6, rfl, _, hg6l, _, _⟩ := ownsRow_val ol6 (by decide)
    have m0 : W6.cell? ⟨g6, 0, none⟩ = some (.int .i64 2) := by have := ol6.cells (g := g6) rfl 0 _ rfl; rwa [add_none] at this
    have m1 : W6.cell? ⟨g6, 1, none⟩ = some (.int .u16 7) := by have := ol6.cells (g := g6) rfl 1 _ rfl; rwa [add_none] at this
    have m2 : W6.cell? ⟨g6, 2, none⟩ = some (.int .u32 9) := by have := ol6.cells (g := g6) rfl 2 _ rfl; rwa [add_none] at this
    have m3 : W6.cell? ⟨g6, 3, none⟩ = some (.int .i32 (-5)) := by have := ol6.cells (g := g6) rfl 3 _ rfl; rwa [add_none] at this
    have m4 : W6.cell? ⟨g6, 4, none⟩ = some (.int .i32 3) := by have := ol6.cells (g := g6) rfl 4 _ rfl; rwa [add_none] at this
    have m5 : W6.cell? ⟨g6, 5, none⟩ = some (.int .i32 0) := by have := ol6.cells (g := g6) rfl 5 _ rfl; rwa [add_none] at this
    obtain ⟨aw, cw, rfl, _, _⟩ := ownsRow_slice ow6
    have d0 := f1.cell (i := 0) rfl
    have d1 := f1.cell (i := 1) rfl
    have d2 := f1.cell (i := 2) rfl
    have d3 := f1.cell (i := 3) rfl
    have d4 := f1.cell (i := 4) rfl
    have d5 := f1.cell (i := 5) rfl
    have e0 := f2.cell (i := 0) rfl
    have e1 := f2.cell (i := 1) rfl
    have e2 := f2.cell (i := 2) rfl
    have e3 := f2.cell (i := 3) rfl
    have e4 := f2.cell (i := 4) rfl
    have e5 := f2.cell (i := 5) rfl
    have q0 := f3.cell (i := 0) rfl
    have L1 := Lib.hid (lost_any W.heap.size _ 1 W6.drew KG6)
    have L2 := Lib.hid (waits_any W.heap.size aw 0 cw 1 W6.drew KG6)
    have L3 := Lib.hid (numbers_any 9 W6.drew C6')
    have L4 := Lib.hid (size_any 1 W6.drew C6')
    rw [show fcnt 9 = -1 by decide] at L3
    rw [show fsize 1 = 24 by decide] at L4
    clear f1 f2 f3 k1 k2 k3 sb sb4 CW hBW hB2 hB24 C4' KG4 T5 T6 T56 C5' C6' ol6 ow6 KG6 hK HA2 h9W hs4 HG2
    go_upto_region 20 with fail
    refine wp_noPanic ?_
    refine wp_region_held_drew (S := (fun w' : World => (w'.cell? ⟨w.heap.size, 0, none⟩ = some (.int .i64 2) ∧ w'.cell? ⟨w.heap.size, 1, none⟩ = some (.int .u16 7) ∧ w'.cell? ⟨w.heap.size, 2, none⟩ = some (.int .u32 9) ∧ w'.cell? ⟨w.heap.size, 3, none⟩ = some (.int .i32 (-5)) ∧ w'.cell? ⟨w.heap.size, 4, none⟩ = some (.int .i32 3) ∧ w'.cell? ⟨w.heap.size, 5, none⟩ = some (.int .i32 0)) ∧ (w'.cell? ⟨w3.heap.size, 0, none⟩ = some (.int .i64 2) ∧ w'.cell? ⟨w3.heap.size, 1, none⟩ = some (.int .u16 7) ∧ w'.cell? ⟨w3.heap.size, 2, none⟩ = some (.int .u32 9) ∧ w'.cell? ⟨w3.heap.size, 3, none⟩ = some (.int .i32 (-5)) ∧ w'.cell? ⟨w3.heap.size, 4, none⟩ = some (.int .i32 3) ∧ w'.cell? ⟨w3.heap.size, 5, none⟩ = some (.int .i32 0)) ∧ (w'.cell? ⟨g6, 0, none⟩ = some (.int .i64 2) ∧ w'.cell? ⟨g6, 1, none⟩ = some (.int .u16 7) ∧ w'.cell? ⟨g6, 2, none⟩ = some (.int .u32 9) ∧ w'.cell? ⟨g6, 3, none⟩ = some (.int .i32 (-5)) ∧ w'.cell? ⟨g6, 4, none⟩ = some (.int .i32 3) ∧ w'.cell? ⟨g6, 5, none⟩ = some (.int .i32 0)) ∧ w'.cell? ⟨w9.heap.size, 0, none⟩ = some (.int .i64 3))) (by kernel_rfl) (⟨⟨d0, d1, d2, d3, d4, d5⟩, ⟨e0, e1, e2, e3, e4, e5⟩, ⟨m0, m1, m2, m3, m4, m5⟩, q0⟩) (fun hHeld => ?_)
    refine wpAnyH_take (i := 0) (v := ?v1) rfl (by kernel_rfl) (by kernel_rfl) (by kernel_rfl) (fun _ _ _ h => h) (Or.inl ⟨by rfl, ?hy1⟩) hHeld ?rest1
    case hy1 => (intro w' hSw; (try dsimp only at hSw); go_simp; (try with_reducible rfl))
    try simp only [Act.put, List.setIfInBounds_toArray, List.set_cons_zero, List.set_cons_succ, List.getElem_toArray, List.getElem_cons_zero, List.getElem_cons_succ]
    refine wpAnyH_take (i := 1) (v := ?v2) rfl (by kernel_rfl) (by kernel_rfl) (by kernel_rfl) (fun _ _ _ h => h) (Or.inl ⟨by rfl, ?hy2⟩) hHeld ?rest2
    case hy2 => (intro w' hSw; (try dsimp only at hSw); go_simp; (try with_reducible rfl))
    try simp only [Act.put, List.setIfInBounds_toArray, List.set_cons_zero, List.set_cons_succ, List.getElem_toArray, List.getElem_cons_zero, List.getElem_cons_succ]
    refine wpAnyH_take (i := 2) (v := ?v3) rfl (by kernel_rfl) (by kernel_rfl) (by kernel_rfl) (fun _ _ _ h => h) (Or.inl ⟨by rfl, ?hy3⟩) hHeld ?rest3
    case hy3 => (intro w' hSw; (try dsimp only at hSw); go_simp; (try with_reducible rfl))
    try simp only [Act.put, List.setIfInBounds_toArray, List.set_cons_zero, List.set_cons_succ, List.getElem_toArray, List.getElem_cons_zero, List.getElem_cons_succ]
    refine wpAnyH_take (i := 3) (v := ?v4) rfl (by kernel_rfl) (by kernel_rfl) (by kernel_rfl) (fun _ _ _ h => h) (Or.inl ⟨by rfl, ?hy4⟩) hHeld ?rest4
    case hy4 => (intro w' hSw; (try dsimp only at hSw); go_simp; (try with_reducible rfl))
    try simp only [Act.put, List.setIfInBounds_toArray, List.set_cons_zero, List.set_cons_succ, List.getElem_toArray, List.getElem_cons_zero, List.getElem_cons_succ]
    refine wpAnyH_take (i := 4) (v := ?v5) rfl (by kernel_rfl) (by kernel_rfl) (by kernel_rfl) (fun _ _ _ h => h) (Or.inl ⟨by rfl, ?hy5⟩) hHeld ?rest5
    case hy5 => (intro w' hSw; (try dsimp only at hSw); go_simp; (try with_reducible rfl))
    try simp only [Act.put, List.setIfInBounds_toArray, List.set_cons_zero, List.set_cons_succ, List.getElem_toArray, List.getElem_cons_zero, List.getElem_cons_succ]
    refine wpAnyH_take (i := 5) (v := ?v6) rfl (by kernel_rfl) (by kernel_rfl) (by kernel_rfl) (fun _ _ _ h => h) (Or.inl ⟨by rfl, ?hy6⟩) hHeld ?rest6
    case hy6 => (intro w' hSw; (try dsimp only at hSw); go_simp; (try with_reducible rfl))
    try simp only [Act.put, List.setIfInBounds_toArray, List.set_cons_zero, List.set_cons_succ, List.getElem_toArray, List.getElem_cons_zero, List.getElem_cons_succ]
    refine wpAnyH_take (i := 6) (v := ?v7) rfl (by kernel_rfl) (by kernel_rfl) (by kernel_rfl) (fun _ _ _ h => h) (Or.inl ⟨by rfl, ?hy7⟩) hHeld ?rest7
    case hy7 => (intro w' hSw; (try dsimp only at hSw); go_simp; (try with_reducible rfl))
    try simp only [Act.put, List.setIfInBounds_toArray, List.set_cons_zero, List.set_cons_succ, List.getElem_toArray, List.getElem_cons_zero, List.getElem_cons_succ]
    refine wpAnyH_take (i := 7) (v := ?v8) rfl (by kernel_rfl) (by kernel_rfl) (by kernel_rfl) (fun _ _ _ h => h) (Or.inl ⟨by rfl, ?hy8⟩) hHeld ?rest8
    case hy8 => (intro w' hSw; (try dsimp only at hSw); go_simp; (try with_reducible rfl))
    try simp only [Act.put, List.setIfInBounds_toArray, List.set_cons_zero, List.set_cons_succ, List.getElem_toArray, List.getElem_cons_zero, List.getElem_cons_succ]
    refine wpAnyH_take (i := 8) (v := ?v9) rfl (by kernel_rfl) (by kernel_rfl) (by kernel_rfl) (fun _ _ _ h => h) (Or.inl ⟨by rfl, ?hy9⟩) hHeld ?rest9
    case hy9 => (intro w' hSw; (try dsimp only at hSw); go_simp; (try with_reducible rfl))
    try simp only [Act.put, List.setIfInBounds_toArray, List.set_cons_zero, List.set_cons_succ, List.getElem_toArray, List.getElem_cons_zero, List.getElem_cons_succ]
    refine wpAnyH_take (i := 9) (v := ?v10) rfl (by kernel_rfl) (by kernel_rfl) (by kernel_rfl) (fun _ _ _ h => h) (Or.inl ⟨by rfl, ?hy10⟩) hHeld ?rest10
    case hy10 => (intro w' hSw; (try dsimp only at hSw); go_simp; (try with_reducible rfl))
    try simp only [Act.put, List.setIfInBounds_toArray, List.set_cons_zero, List.set_cons_succ, List.getElem_toArray, List.getElem_cons_zero, List.getElem_cons_succ]
    refine wpAnyH_take (i := 10) (v := ?v11) rfl (by kernel_rfl) (by kernel_rfl) (by kernel_rfl) (fun _ _ _ h => h) (Or.inl ⟨by rfl, ?hy11⟩) hHeld ?rest11
    case hy11 => (intro w' hSw; (try dsimp only at hSw); go_simp; (try with_reducible rfl))
    try simp only [Act.put, List.setIfInBounds_toArray, List.set_cons_zero, List.set_cons_succ, List.getElem_toArray, List.getElem_cons_zero, List.getElem_cons_succ]
    refine wpAnyH_take (i := 11) (v := ?v12) rfl (by kernel_rfl) (by kernel_rfl) (by kernel_rfl) (fun _ _ _ h => h) (Or.inl ⟨by rfl, ?hy12⟩) hHeld ?rest12
    case hy12 => (intro w' hSw; (try dsimp only at hSw); go_simp; (try with_reducible rfl))
    try simp only [Act.put, List.setIfInBounds_toArray, List.set_cons_zero, List.set_cons_succ, List.getElem_toArray, List.getElem_cons_zero, List.getElem_cons_succ]
    refine wpAnyH_take (i := 12) (v := ?v13) rfl (by kernel_rfl) (by kernel_rfl) (by kernel_rfl) (fun _ _ _ h => h) (Or.inl ⟨by rfl, ?hy13⟩) hHeld ?rest13
    case hy13 => (intro w' hSw; (try dsimp only at hSw); go_simp; (try with_reducible rfl))
    try simp only [Act.put, List.setIfInBounds_toArray, List.set_cons_zero, List.set_cons_succ, List.getElem_toArray, List.getElem_cons_zero, List.getElem_cons_succ]
    refine wpAnyH_take (i := 13) (v := ?v14) rfl (by kernel_rfl) (by kernel_rfl) (by kernel_rfl) (fun _ _ _ h => h) (Or.inl ⟨by rfl, ?hy14⟩) hHeld ?rest14
    case hy14 => (intro w' hSw; (try dsimp only at hSw); go_simp; (try with_reducible rfl))
    try simp only [Act.put, List.setIfInBounds_toArray, List.set_cons_zero, List.set_cons_succ, List.getElem_toArray, List.getElem_cons_zero, List.getElem_cons_succ]
    refine wpAnyH_take (i := 14) (v := ?v15) rfl (by kernel_rfl) (by kernel_rfl) (by kernel_rfl) (fun _ _ _ h => h) (Or.inl ⟨by rfl, ?hy15⟩) hHeld ?rest15
    case hy15 => (intro w' hSw; (try dsimp only at hSw); go_simp; (try with_reducible rfl))
    try simp only [Act.put, List.setIfInBounds_toArray, List.set_cons_zero, List.set_cons_succ, List.getElem_toArray, List.getElem_cons_zero, List.getElem_cons_succ]
    refine wpAnyH_take (i := 15) (v := ?v16) rfl (by kernel_rfl) (by kernel_rfl) (by kernel_rfl) (fun _ _ _ h => h) (Or.inl ⟨by rfl, ?hy16⟩) hHeld ?rest16
    case hy16 => (intro w' hSw; (try dsimp only at hSw); go_simp; (try with_reducible rfl))
    try simp only [Act.put, List.setIfInBounds_toArray, List.set_cons_zero, List.set_cons_succ, List.getElem_toArray, List.getElem_cons_zero, List.getElem_cons_succ]
    refine wpAnyH_take (i := 16) (v := ?v17) rfl (by kernel_rfl) (by kernel_rfl) (by kernel_rfl) (fun _ _ _ h => h) (Or.inl ⟨by rfl, ?hy17⟩) hHeld ?rest17
    case hy17 => (intro w' hSw; (try dsimp only at hSw); go_simp; (try with_reducible rfl))
    try simp only [Act.put, List.setIfInBounds_toArray, List.set_cons_zero, List.set_cons_succ, List.getElem_toArray, List.getElem_cons_zero, List.getElem_cons_succ]
    refine wpAnyH_take (i := 17) (v := ?v18) rfl (by kernel_rfl) (by kernel_rfl) (by kernel_rfl) (fun _ _ _ h => h) (Or.inl ⟨by rfl, ?hy18⟩) hHeld ?rest18
    case hy18 => (intro w' hSw; (try dsimp only at hSw); go_simp; (try with_reducible rfl))
    try simp only [Act.put, List.setIfInBounds_toArray, List.set_cons_zero, List.set_cons_succ, List.getElem_toArray, List.getElem_cons_zero, List.getElem_cons_succ]
    refine wpAnyH_take (i := 18) (v := ?v19) rfl (by kernel_rfl) (by kernel_rfl) (by kernel_rfl) (fun _ _ _ h => h) (Or.inl ⟨by rfl, ?hy19⟩) hHeld ?rest19
    case hy19 => (intro w' hSw; (try dsimp only at hSw); go_simp; (try with_reducible rfl))
    try simp only [Act.put, List.setIfInBounds_toArray, List.set_cons_zero, List.set_cons_succ, List.getElem_toArray, List.getElem_cons_zero, List.getElem_cons_succ]
    refine wpAnyH_take (i := 19) (v := ?v20) rfl (by kernel_rfl) (by kernel_rfl) (by kernel_rfl) (fun _ _ _ h => h) (Or.inl ⟨by rfl, ?hy20⟩) hHeld ?rest20
    case hy20 => (intro w' hSw; (try dsimp only at hSw); go_simp; (try with_reducible rfl))
    try simp only [Act.put, List.setIfInBounds_toArray, List.set_cons_zero, List.set_cons_succ, List.getElem_toArray, List.getElem_cons_zero, List.getElem_cons_succ]
    refine wpAnyH_take (i := 20) (v := ?v21) rfl (by kernel_rfl) (by kernel_rfl) (by kernel_rfl) (fun _ _ _ h => h) (Or.inl ⟨by rfl, ?hy21⟩) hHeld ?rest21
    case hy21 => (intro w' hSw; (try dsimp only at hSw); go_simp; (try with_reducible rfl))
    try simp only [Act.put, List.setIfInBounds_toArray, List.set_cons_zero, List.set_cons_succ, List.getElem_toArray, List.getElem_cons_zero, List.getElem_cons_succ]
    refine wpAnyH_take (i := 21) (v := ?v22) rfl (by kernel_rfl) (by kernel_rfl) (by kernel_rfl) (fun _ _ _ h => h) (Or.inl ⟨by rfl, ?hy22⟩) hHeld ?rest22
    case hy22 => (intro w' hSw; (try dsimp only at hSw); go_simp; (try with_reducible rfl))
    try simp only [Act.put, List.setIfInBounds_toArray, List.set_cons_zero, List.set_cons_succ, List.getElem_toArray, List.getElem_cons_zero, List.getElem_cons_succ]
    refine wpAnyH_take (i := 22) (v := ?v23) rfl (by kernel_rfl) (by kernel_rfl) (by kernel_rfl) (fun _ _ _ h => h) (Or.inl ⟨by rfl, ?hy23⟩) hHeld ?rest23
    case hy23 => (intro w' hSw; (try dsimp only at hSw); go_simp; (try with_reducible rfl))
    try simp only [Act.put, List.setIfInBounds_toArray, List.set_cons_zero, List.set_cons_succ, List.getElem_toArray, List.getElem_cons_zero, List.getElem_cons_succ]
    refine wpAnyH_take (i := 23) (v := ?v24) rfl (by kernel_rfl) (by kernel_rfl) (by kernel_rfl) (fun _ _ _ h => h) (Or.inl ⟨by rfl, ?hy24⟩) hHeld ?rest24
    case hy24 => (intro w' hSw; (try dsimp only at hSw); go_simp; (try with_reducible rfl))
    try simp only [Act.put, List.setIfInBounds_toArray, List.set_cons_zero, List.set_cons_succ, List.getElem_toArray, List.getElem_cons_zero, List.getElem_cons_succ]
    refine wpAnyH_take (i := 24) (v := ?v25) rfl (by kernel_rfl) (by kernel_rfl) (by kernel_rfl) (fun _ _ _ h => h) (Or.inl ⟨by rfl, ?hy25⟩) hHeld ?rest25
    case hy25 => (intro w' hSw; (try dsimp only at hSw); go_simp; (try with_reducible rfl))
    try simp only [Act.put, List.setIfInBounds_toArray, List.set_cons_zero, List.set_cons_succ, List.getElem_toArray, List.getElem_cons_zero, List.getElem_cons_succ]
    refine wpAnyH_take (i := 25) (v := ?v26) rfl (by kernel_rfl) (by kernel_rfl) (by kernel_rfl) (fun _ _ _ h => h) (Or.inl ⟨by rfl, ?hy26⟩) hHeld ?rest26
    case hy26 => (intro w' hSw; (try dsimp only at hSw); go_simp; (try with_reducible rfl))
    try simp only [Act.put, List.setIfInBounds_toArray, List.set_cons_zero, List.set_cons_succ, List.getElem_toArray, List.getElem_cons_zero, List.getElem_cons_succ]
    refine wpAnyH_take (i := 26) (v := ?v27) rfl (by kernel_rfl) (by kernel_rfl) (by kernel_rfl) (fun _ _ _ h => h) (Or.inl ⟨by rfl, ?hy27⟩) hHeld ?rest27
    case hy27 => (intro w' hSw; (try dsimp only at hSw); go_simp; (try with_reducible rfl))
    try simp only [Act.put, List.setIfInBounds_toArray, List.set_cons_zero, List.set_cons_succ, List.getElem_toArray, List.getElem_cons_zero, List.getElem_cons_succ]
    refine wpAnyH_take (i := 27) (v := ?v28) rfl (by kernel_rfl) (by kernel_rfl) (by kernel_rfl) (fun _ _ _ h => h) (Or.inl ⟨by rfl, ?hy28⟩) hHeld ?rest28
    case hy28 => (intro w' hSw; (try dsimp only at hSw); go_simp; (try with_reducible rfl))
    try simp only [Act.put, List.setIfInBounds_toArray, List.set_cons_zero, List.set_cons_succ, List.getElem_toArray, List.getElem_cons_zero, List.getElem_cons_succ]
    refine wpAnyH_take (i := 28) (v := ?v29) rfl (by kernel_rfl) (by kernel_rfl) (by kernel_rfl) (fun _ _ _ h => h) (Or.inl ⟨by rfl, ?hy29⟩) hHeld ?rest29
    case hy29 => (intro w' hSw; (try dsimp only at hSw); go_simp; (try with_reducible rfl))
    try simp only [Act.put, List.setIfInBounds_toArray, List.set_cons_zero, List.set_cons_succ, List.getElem_toArray, List.getElem_cons_zero, List.getElem_cons_succ]
    refine wpAnyH_take (i := 29) (v := ?v30) rfl (by kernel_rfl) (by kernel_rfl) (by kernel_rfl) (fun _ _ _ h => h) (Or.inl ⟨by rfl, ?hy30⟩) hHeld ?rest30
    case hy30 => (intro w' hSw; (try dsimp only at hSw); go_simp; (try with_reducible rfl))
    try simp only [Act.put, List.setIfInBounds_toArray, List.set_cons_zero, List.set_cons_succ, List.getElem_toArray, List.getElem_cons_zero, List.getElem_cons_succ]
    refine wpAnyH_take (i := 30) (v := ?v31) rfl (by kernel_rfl) (by kernel_rfl) (by kernel_rfl) (fun _ _ _ h => h) (Or.inl ⟨by rfl, ?hy31⟩) hHeld ?rest31
    case hy31 => (intro w' hSw; (try dsimp only at hSw); go_simp; (try with_reducible rfl))
    try simp only [Act.put, List.setIfInBounds_toArray, List.set_cons_zero, List.set_cons_succ, List.getElem_toArray, List.getElem_cons_zero, List.getElem_cons_succ]
    refine wpAnyH_take (i := 31) (v := ?v32) rfl (by kernel_rfl) (by kernel_rfl) (by kernel_rfl) (fun _ _ _ h => h) (Or.inl ⟨by rfl, ?hy32⟩) hHeld ?rest32
    case hy32 => (intro w' hSw; (try dsimp only at hSw); go_simp; (try with_reducible rfl))
    try simp only [Act.put, List.setIfInBounds_toArray, List.set_cons_zero, List.set_cons_succ, List.getElem_toArray, List.getElem_cons_zero, List.getElem_cons_succ]
    refine wpAnyH_take (i := 32) (v := ?v33) rfl (by kernel_rfl) (by kernel_rfl) (by kernel_rfl) (fun _ _ _ h => h) (Or.inl ⟨by rfl, ?hy33⟩) hHeld ?rest33
    case hy33 => (intro w' hSw; (try dsimp only at hSw); go_simp; (try with_reducible rfl))
    try simp only [Act.put, List.setIfInBounds_toArray, List.set_cons_zero, List.set_cons_succ, List.getElem_toArray, List.getElem_cons_zero, List.getElem_cons_succ]
    refine wpAnyH_take (i := 33) (v := ?v34) rfl (by kernel_rfl) (by kernel_rfl) (by kernel_rfl) (fun _ _ _ h => h) (Or.inl ⟨by rfl, ?hy34⟩) hHeld ?rest34
    case hy34 => (intro w' hSw; (try dsimp only at hSw); go_simp; (try with_reducible rfl))
    try simp only [Act.put, List.setIfInBounds_toArray, List.set_cons_zero, List.set_cons_succ, List.getElem_toArray, List.getElem_cons_zero, List.getElem_cons_succ]
    refine wpAnyH_take (i := 34) (v := ?v35) rfl (by kernel_rfl) (by kernel_rfl) (by kernel_rfl) (fun _ _ _ h => h) (Or.inl ⟨by rfl, ?hy35⟩) hHeld ?rest35
    case hy35 => (intro w' hSw; (try dsimp only at hSw); go_simp; (try with_reducible rfl))
    try simp only [Act.put, List.setIfInBounds_toArray, List.set_cons_zero, List.set_cons_succ, List.getElem_toArray, List.getElem_cons_zero, List.getElem_cons_succ]
    refine wpAnyH_take (i := 35) (v := ?v36) rfl (by kernel_rfl) (by kernel_rfl) (by kernel_rfl) (fun _ _ _ h => h) (Or.inl ⟨by rfl, ?hy36⟩) hHeld ?rest36
    case hy36 => (intro w' hSw; (try dsimp only at hSw); go_simp; (try with_reducible rfl))
    try simp only [Act.put, List.setIfInBounds_toArray, List.set_cons_zero, List.set_cons_succ, List.getElem_toArray, List.getElem_cons_zero, List.getElem_cons_succ]
    refine wpAnyH_take (i := 36) (v := ?v37) rfl (by kernel_rfl) (by kernel_rfl) (by kernel_rfl) (fun _ _ _ h => h) (Or.inl ⟨by rfl, ?hy37⟩) hHeld ?rest37
    case hy37 => (intro w' hSw; (try dsimp only at hSw); go_simp; (try with_reducible rfl))
    try simp only [Act.put, List.setIfInBounds_toArray, List.set_cons_zero, List.set_cons_succ, List.getElem_toArray, List.getElem_cons_zero, List.getElem_cons_succ]
    refine wpAnyH_take (i := 37) (v := ?v38) rfl (by kernel_rfl) (by kernel_rfl) (by kernel_rfl) (fun _ _ _ h => h) (Or.inl ⟨by rfl, ?hy38⟩) hHeld ?rest38
    case hy38 => (intro w' hSw; (try dsimp only at hSw); go_simp; (try with_reducible rfl))
    try simp only [Act.put, List.setIfInBounds_toArray, List.set_cons_zero, List.set_cons_succ, List.getElem_toArray, List.getElem_cons_zero, List.getElem_cons_succ]
    refine wpAnyH_take (i := 38) (v := ?v39) rfl (by kernel_rfl) (by kernel_rfl) (by kernel_rfl) (fun _ _ _ h => h) (Or.inl ⟨by rfl, ?hy39⟩) hHeld ?rest39
    case hy39 => (intro w' hSw; (try dsimp only at hSw); go_simp; (try with_reducible rfl))
    try simp only [Act.put, List.setIfInBounds_toArray, List.set_cons_zero, List.set_cons_succ, List.getElem_toArray, List.getElem_cons_zero, List.getElem_cons_succ]
    refine wpAnyH_take (i := 39) (v := ?v40) rfl (by kernel_rfl) (by kernel_rfl) (by kernel_rfl) (fun _ _ _ h => h) (Or.inl ⟨by rfl, ?hy40⟩) hHeld ?rest40
    case hy40 => (intro w' hSw; (try dsimp only at hSw); go_simp; (try with_reducible rfl))
    try simp only [Act.put, List.setIfInBounds_toArray, List.set_cons_zero, List.set_cons_succ, List.getElem_toArray, List.getElem_cons_zero, List.getElem_cons_succ]
    refine wpAnyH_take (i := 40) (v := ?v41) rfl (by kernel_rfl) (by kernel_rfl) (by kernel_rfl) (fun _ _ _ h => h) (Or.inl ⟨by rfl, ?hy41⟩) hHeld ?rest41
    case hy41 => (intro w' hSw; (try dsimp only at hSw); go_simp; (try with_reducible rfl))
    try simp only [Act.put, List.setIfInBounds_toArray, List.set_cons_zero, List.set_cons_succ, List.getElem_toArray, List.getElem_cons_zero, List.getElem_cons_succ]
    refine wpAnyH_take (i := 41) (v := ?v42) rfl (by kernel_rfl) (by kernel_rfl) (by kernel_rfl) (fun _ _ _ h => h) (Or.inl ⟨by rfl, ?hy42⟩) hHeld ?rest42
    case hy42 => (intro w' hSw; (try dsimp only at hSw); go_simp; (try with_reducible rfl))
    try simp only [Act.put, List.setIfInBounds_toArray, List.set_cons_zero, List.set_cons_succ, List.getElem_toArray, List.getElem_cons_zero, List.getElem_cons_succ]
    refine wpAnyH_take (i := 42) (v := ?v43) rfl (by kernel_rfl) (by kernel_rfl) (by kernel_rfl) (fun _ _ _ h => h) (Or.inl ⟨by rfl, ?hy43⟩) hHeld ?rest43
    case hy43 => (intro w' hSw; (try dsimp only at hSw); go_simp; (try with_reducible rfl))
    try simp only [Act.put, List.setIfInBounds_toArray, List.set_cons_zero, List.set_cons_succ, List.getElem_toArray, List.getElem_cons_zero, List.getElem_cons_succ]
    refine wpAnyH_take (i := 43) (v := ?v44) rfl (by kernel_rfl) (by kernel_rfl) (by kernel_rfl) (fun _ _ _ h => h) (Or.inl ⟨by rfl, ?hy44⟩) hHeld ?rest44
    case hy44 => (intro w' hSw; (try dsimp only at hSw); go_simp; (try with_reducible rfl))
    try simp only [Act.put, List.setIfInBounds_toArray, List.set_cons_zero, List.set_cons_succ, List.getElem_toArray, List.getElem_cons_zero, List.getElem_cons_succ]
    refine wpAnyH_take (i := 44) (v := ?v45) rfl (by kernel_rfl) (by kernel_rfl) (by kernel_rfl) (fun _ _ _ h => h) (Or.inl ⟨by rfl, ?hy45⟩) hHeld ?rest45
    case hy45 => (intro w' hSw; (try dsimp only at hSw); go_simp; (try with_reducible rfl))
    try simp only [Act.put, List.setIfInBounds_toArray, List.set_cons_zero, List.set_cons_succ, List.getElem_toArray, List.getElem_cons_zero, List.getElem_cons_succ]
    refine wpAnyH_ready (rs := [45]) (by kernel_rfl) (by simp) ?_
    refine AllReadyH.cons rfl (fun K hK => ?_) AllReadyH.nil
    go_simp
    refine L1.out.mono ?_
    rintro e wx ⟨rfl, rfl⟩
    clear L1
    try go_wp2_with fail
    refine hK.out _ _ (⟨⟨d0, d1, d2, d3, d4, d5⟩, ⟨e0, e1, e2, e3, e4, e5⟩, ⟨m0, m1, m2, m3, m4, m5⟩, q0⟩) (fun hHeld => ?_)
    clear hK K
    try simp only [Act.put, List.setIfInBounds_toArray, List.set_cons_zero, List.set_cons_succ, List.getElem_toArray, List.getElem_cons_zero, List.getElem_cons_succ]
    refine wpAnyH_take (i := 46) (v := ?v47) rfl (by kernel_rfl) (by kernel_rfl) (by kernel_rfl) (fun _ _ _ h => h) (Or.inl ⟨by rfl, ?hy47⟩) hHeld ?rest47
    case hy47 => (intro w' hSw; (try dsimp only at hSw); go_simp; (try with_reducible rfl))
    try simp only [Act.put, List.setIfInBounds_toArray, List.set_cons_zero, List.set_cons_succ, List.getElem_toArray, List.getElem_cons_zero, List.getElem_cons_succ]
    refine wpAnyH_take (i := 47) (v := ?v48) rfl (by kernel_rfl) (by kernel_rfl) (by kernel_rfl) (fun _ _ _ h => h) (Or.inl ⟨by rfl, ?hy48⟩) hHeld ?rest48
    case hy48 => (intro w' hSw; (try dsimp only at hSw); go_simp; (try with_reducible rfl))
    try simp only [Act.put, List.setIfInBounds_toArray, List.set_cons_zero, List.set_cons_succ, List.getElem_toArray, List.getElem_cons_zero, List.getElem_cons_succ]
    refine wpAnyH_take (i := 48) (v := ?v49) rfl (by kernel_rfl) (by kernel_rfl) (by kernel_rfl) (fun _ _ _ h => h) (Or.inl ⟨by rfl, ?hy49⟩) hHeld ?rest49
    case hy49 => (intro w' hSw; (try dsimp only at hSw); go_simp; (try with_reducible rfl))
    try simp only [Act.put, List.setIfInBounds_toArray, List.set_cons_zero, List.set_cons_succ, List.getElem_toArray, List.getElem_cons_zero, List.getElem_cons_succ]
    refine wpAnyH_ready (rs := [49]) (by kernel_rfl) (by simp) ?_
    refine AllReadyH.cons rfl (fun K hK => ?_) AllReadyH.nil
    go_simp
    refine L2.out.mono ?_
    rintro e wx ⟨rfl, rfl⟩
    clear L2
    try go_wp2_with fail
    refine hK.out _ _ (⟨⟨d0, d1, d2, d3, d4, d5⟩, ⟨e0, e1, e2, e3, e4, e5⟩, ⟨m0, m1, m2, m3, m4, m5⟩, q0⟩) (fun hHeld => ?_)
    clear hK K
    try simp only [Act.put, List.setIfInBounds_toArray, List.set_cons_zero, List.set_cons_succ, List.getElem_toArray, List.getElem_cons_zero, List.getElem_cons_succ]
    refine wpAnyH_take (i := 50) (v := ?v51) rfl (by kernel_rfl) (by kernel_rfl) (by kernel_rfl) (fun _ _ _ h => h) (Or.inl ⟨by rfl, ?hy51⟩) hHeld ?rest51
    case hy51 => (intro w' hSw; (try dsimp only at hSw); go_simp; (try with_reducible rfl))
    try simp only [Act.put, List.setIfInBounds_toArray, List.set_cons_zero, List.set_cons_succ, List.getElem_toArray, List.getElem_cons_zero, List.getElem_cons_succ]
    refine wpAnyH_take (i := 51) (v := ?v52) rfl (by kernel_rfl) (by kernel_rfl) (by kernel_rfl) (fun _ _ _ h => h) (Or.inl ⟨by rfl, ?hy52⟩) hHeld ?rest52
    case hy52 => (intro w' hSw; (try dsimp only at hSw); go_simp; (try with_reducible rfl))
    try simp only [Act.put, List.setIfInBounds_toArray, List.set_cons_zero, List.set_cons_succ, List.getElem_toArray, List.getElem_cons_zero, List.getElem_cons_succ]
    refine wpAnyH_take (i := 52) (v := ?v53) rfl (by kernel_rfl) (by kernel_rfl) (by kernel_rfl) (fun _ _ _ h => h) (Or.inl ⟨by rfl, ?hy53⟩) hHeld ?rest53
    case hy53 => (intro w' hSw; (try dsimp only at hSw); go_simp; (try with_reducible rfl))
    try simp only [Act.put, List.setIfInBounds_toArray, List.set_cons_zero, List.set_cons_succ, List.getElem_toArray, List.getElem_cons_zero, List.getElem_cons_succ]
    refine wpAnyH_ready (rs := [53]) (by kernel_rfl) (by simp) ?_
    refine AllReadyH.cons rfl (fun K hK => ?_) AllReadyH.nil
    go_simp
    refine L3.out.mono ?_
    rintro e wx ⟨rfl, rfl⟩
    clear L3
    try go_wp2_with fail
    refine hK.out _ _ (⟨⟨d0, d1, d2, d3, d4, d5⟩, ⟨e0, e1, e2, e3, e4, e5⟩, ⟨m0, m1, m2, m3, m4, m5⟩, q0⟩) (fun hHeld => ?_)
    clear hK K
    try simp only [Act.put, List.setIfInBounds_toArray, List.set_cons_zero, List.set_cons_succ, List.getElem_toArray, List.getElem_cons_zero, List.getElem_cons_succ]
    refine wpAnyH_take (i := 54) (v := ?v55) rfl (by kernel_rfl) (by kernel_rfl) (by kernel_rfl) (fun _ _ _ h => h) (Or.inl ⟨by rfl, ?hy55⟩) hHeld ?rest55
    case hy55 => (intro w' hSw; (try dsimp only at hSw); go_simp; (try with_reducible rfl))
    try simp only [Act.put, List.setIfInBounds_toArray, List.set_cons_zero, List.set_cons_succ, List.getElem_toArray, List.getElem_cons_zero, List.getElem_cons_succ]
    refine wpAnyH_take (i := 55) (v := ?v56) rfl (by kernel_rfl) (by kernel_rfl) (by kernel_rfl) (fun _ _ _ h => h) (Or.inl ⟨by rfl, ?hy56⟩) hHeld ?rest56
    case hy56 => (intro w' hSw; (try dsimp only at hSw); go_simp; (try with_reducible rfl))
    try simp only [Act.put, List.setIfInBounds_toArray, List.set_cons_zero, List.set_cons_succ, List.getElem_toArray, List.getElem_cons_zero, List.getElem_cons_succ]
    refine wpAnyH_take (i := 56) (v := ?v57) rfl (by kernel_rfl) (by kernel_rfl) (by kernel_rfl) (fun _ _ _ h => h) (Or.inl ⟨by rfl, ?hy57⟩) hHeld ?rest57
    case hy57 => (intro w' hSw; (try dsimp only at hSw); go_simp; (try with_reducible rfl))
    try simp only [Act.put, List.setIfInBounds_toArray, List.set_cons_zero, List.set_cons_succ, List.getElem_toArray, List.getElem_cons_zero, List.getElem_cons_succ]
    refine wpAnyH_ready (rs := [57]) (by kernel_rfl) (by simp) ?_
    refine AllReadyH.cons rfl (fun K hK => ?_) AllReadyH.nil
    go_simp
    refine L4.out.mono ?_
    rintro e wx ⟨rfl, rfl⟩
    clear L4
    try go_wp2_with fail
    refine hK.out _ _ (⟨⟨d0, d1, d2, d3, d4, d5⟩, ⟨e0, e1, e2, e3, e4, e5⟩, ⟨m0, m1, m2, m3, m4, m5⟩, q0⟩) (fun hHeld => ?_)
    clear hK K
    try simp only [Act.put, List.setIfInBounds_toArray, List.set_cons_zero, List.set_cons_succ, List.getElem_toArray, List.getElem_cons_zero, List.getElem_cons_succ]
    refine wpAnyH_take (i := 58) (v := ?v59) rfl (by kernel_rfl) (by kernel_rfl) (by kernel_rfl) (fun _ _ _ h => h) (Or.inl ⟨by rfl, ?hy59⟩) hHeld ?rest59
    case hy59 => (intro w' hSw; (try dsimp only at hSw); go_simp; (try with_reducible rfl))
    try simp only [Act.put, List.setIfInBounds_toArray, List.set_cons_zero, List.set_cons_succ, List.getElem_toArray, List.getElem_cons_zero, List.getElem_cons_succ]
    refine wpAnyH_take (i := 59) (v := ?v60) rfl (by kernel_rfl) (by kernel_rfl) (by kernel_rfl) (fun _ _ _ h => h) (Or.inl ⟨by rfl, ?hy60⟩) hHeld ?rest60
    case hy60 => (intro w' hSw; (try dsimp only at hSw); go_simp; (try with_reducible rfl))
    try simp only [Act.put, List.setIfInBounds_toArray, List.set_cons_zero, List.set_cons_succ, List.getElem_toArray, List.getElem_cons_zero, List.getElem_cons_succ]
    refine wpAnyH_take (i := 60) (v := ?v61) rfl (by kernel_rfl) (by kernel_rfl) (by kernel_rfl) (fun _ _ _ h => h) (Or.inl ⟨by rfl, ?hy61⟩) hHeld ?rest61
    case hy61 => (intro w' hSw; (try dsimp only at hSw); go_simp; (try with_reducible rfl))
    try simp only [Act.put, List.setIfInBounds_toArray, List.set_cons_zero, List.set_cons_succ, List.getElem_toArray, List.getElem_cons_zero, List.getElem_cons_succ]
    refine wpAnyH_done (by kernel_rfl) ?_ _
    simp only [noPanic]
    go_wp2_with fail
    refine ⟨by simp, .inl ⟨_, _, rfl, run_takeDeferred (w := W6.drew) hD6, ?_⟩⟩
    exact ⟨_, results_tmp rfl _ _ _, rfl, hB6.drew.trans (belowK_b (w := w) (Nat.le_refl _) W6.drew D _ _ (by omega) hD6 rfl rfl)⟩
  case stop =>
    rintro D c pre W _ _ h _
    exact h.elim
end Go.Proofs.YtfkncfjdgbgeeaaDoor
