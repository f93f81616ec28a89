/-
  CacheKeeps: the walk.
-/
import Derived.Test.YtiflbbpliioblaaLaw10b
set_option linter.unusedVariables false
set_option linter.unusedSimpArgs false
namespace Go.Proofs.Ytiflbbpliioblaa
open Go Go.RowKit Go.Th Go.Th.Crc

theorem told_in (F : List Int) (W H : Nat) (x y : Int) (h : inF W H x y) : ∃ r c : Int, told F W H x y = .tuple #[.int .i16 r, .int .i64 c] ∧ c ≠ 9 := by
  unfold told hgt
  rw [if_pos h]
  split
  · exact ⟨_, _, rfl, by decide⟩
  · exact ⟨_, _, rfl, by decide⟩
theorem told_out (F : List Int) (W H : Nat) (x y : Int) (h : ¬ inF W H x y) : told F W H x y = .tuple #[.int .i16 0, .int .i64 9] := by
  unfold told; rw [if_neg h]

theorem CacheI.keepR {w w' : World} {base g : Nat} {F : List Int} {W H cell : Nat} {ox oy : Int} {room : Nat} {L : List Nat} {m s : Nat} (J : CacheI w base g F W H cell ox oy room L m s) {b : Nat} {t : TypeId} {cs : List Value} (ht : Turned (fun k => k = b) w w') (K : Blk w b t cs)
    (hne : t ≠ 67 ∧ t ≠ 5 ∧ t ≠ 3 ∧ t ≠ 34) : CacheI w' base g F W H cell ox oy room L m s := by
  obtain ⟨ab, cb, aA, cA, aS, cS, T, c, J⟩ := J
  have hg : g ≠ b := by
    rintro rfl
    have h1 := J.ck.blk
    have h2 := K
    unfold Blk at h1 h2
    rw [h1] at h2
    simp at h2
    exact hne.1 h2.2.symm
  exact ⟨ab, cb, aA, cA, aS, cS, T, c, J.ck.turned ht hg, J.le, ht.own J.ob (own_ne K J.ob hne.2.1), ht.own J.oA (own_ne K J.oA hne.2.2.1), ht.own J.oS (own_ne K J.oS hne.2.2.1),
    J.hand.turned ht (fun p hp k hk => own_ne K (J.hand.own p hp).2 hne.2.2.2 k hk), J.nd, J.cr, J.lo, J.hi⟩

/-- What the law keeps besides the cache: the field, and the reference's cache. -/
structure KeepR (w W : World) (g gC gR B6 B7 : Nat) (F : List Int) (x y rm : Nat) (av : Option Addr) (m cw : Nat) (aL : Option Addr) (cL : Nat) (L : List Nat) (mt ms : Nat) : Prop where
  KC : Blk W gC 28 [.int .i64 x, .int .i64 y, .slice av m cw, .int .i64 2, .int .i32 0, .int .i32 0]
  KR : Blk W gR 44 [.int .i64 rm, .slice aL L.length cL, .int .i64 mt, .int .i64 ms]
  ho : W.ownsRow B6 34 1 (.slice av m cw) m (i16s F)
  sL : Sl W 1 (.slice aL L.length cL) L.length (ints L)
  nL : ∀ q, aL = some q → B7 ≤ q.block
  bel : Below w.heap.size w W
  le : w.heap.size ≤ g ∧ g < B7 ∧ gR < B7 ∧ w.heap.size ≤ gR ∧ B7 ≤ W.heap.size
section
variable {w W W' : World} {g gC gR B6 B7 : Nat} {F : List Int} {x y rm : Nat} {av : Option Addr} {m cw : Nat} {aL aL' : Option Addr} {cL cL' : Nat} {L L' : List Nat} {mt ms mt' ms' : Nat}
theorem KeepR.below (h : KeepR w W g gC gR B6 B7 F x y rm av m cw aL cL L mt ms) (hb : Below W.heap.size W W') : KeepR w W' g gC gR B6 B7 F x y rm av m cw aL cL L mt ms :=
  ⟨h.KC.below hb h.KC.lt, h.KR.below hb h.KR.lt, ownsRow_below h.ho hb, h.sL.below hb, h.nL, h.bel.trans (hb.mono h.bel.size), by have := h.le; have := hb.size; omega⟩
theorem KeepR.drewN (h : KeepR w W g gC gR B6 B7 F x y rm av m cw aL cL L mt ms) (n : Nat) : KeepR w (W.drewN n) g gC gR B6 B7 F x y rm av m cw aL cL L mt ms :=
  h.below (below_dN (Below.refl _ _) n)
theorem KeepR.drew (h : KeepR w W g gC gR B6 B7 F x y rm av m cw aL cL L mt ms) : KeepR w W.drew g gC gR B6 B7 F x y rm av m cw aL cL L mt ms :=
  h.below (Below.refl _ _).drew
theorem KeepR.height (h : KeepR w W g gC gR B6 B7 F x y rm av m cw aL cL L mt ms) {base : Nat} {cell room : Nat} {ox oy : Int} {L1 : List Nat} {m1 s1 W1 H1 : Nat} {F1 : List Int} (J : CacheI W base g F1 W1 H1 cell ox oy room L1 m1 s1) (ht : Turned (fun k => k = g) W W') : KeepR w W' g gC gR B6 B7 F x y rm av m cw aL cL L mt ms :=
  ⟨J.blk ht h.KC (by decide), J.blk ht h.KR (by decide), J.own ht h.ho (by decide), h.sL.turned ht (fun q hq e => by have := h.nL q hq; have := h.le; omega), h.nL, ht.old h.bel h.bel.size (by rintro k hk rfl; have := h.le; omega), by have := h.le; have := ht.size; omega⟩
theorem KeepR.store (h : KeepR w W g gC gR B6 B7 F x y rm av m cw aL cL L mt ms) (hs : Sl W 1 (.slice aL' L'.length cL') L'.length (ints L')) (hn : ∀ q, aL' = some q → B7 ≤ q.block) :
    KeepR w (set4 W gR (.int .i64 rm) (.slice aL' L'.length cL') (.int .i64 (mt' : Nat)) (.int .i64 (ms' : Nat))) g gC gR B6 B7 F x y rm av m cw aL' cL' L' mt' ms' := by
  have ht := turned_set4 W gR (.int .i64 rm) (.slice aL' L'.length cL') (.int .i64 (mt' : Nat)) (.int .i64 (ms' : Nat))
  have hKC : gC ≠ gR := by
    rintro rfl
    have h1 := h.KC
    have h2 := h.KR
    unfold Blk at h1 h2
    rw [h1] at h2
    simp at h2
  exact ⟨h.KC.turned ht hKC, blk_set4 h.KR _ _ _ _, ht.own h.ho (own_ne h.KR h.ho (by decide)), hs.turned ht (fun q hq e => by have := hn q hq; have := h.le; omega), hn, ht.old h.bel h.bel.size (by rintro k hk rfl; have := h.le; omega), by have := h.le; have := ht.size; omega⟩
end

theorem cacheKeeps_big (p q r : Nat) (al : Option Addr) (nl cl : Nat) (w : World) (hbig : 200 < nl) (hnl : nl ≤ 9223372036854775807) :
    Calls Try.prog 4 #[.int .u8 p, .int .u8 q, .int .u8 r, .slice al nl cl] w fun e w' => e = .returned (.bool true) ∧ Below w.heap.size w w' := by
  have hb2 : (200 : Int) < (nl : Int) := by omega
  go_enter Try.func4, Try.ntmps4
  go_wp2_with fail
  refine (works10_any w).mono ?_
  rintro e w1 ⟨rfl, hB⟩
  go_wp2_with fail
  go_ret
  exact ⟨rfl, hB⟩

set_option maxRecDepth 20000 in
set_option maxHeartbeats 6400000 in
theorem cacheKeeps_go (p q r : Nat) (al : Option Addr) (nl cl : Nat) (l : List (Int × Int)) (hp : p < 256) (hq : q < 256) (hr : r < 256) (hl : l.length = nl) (hnl : nl ≤ 200) (w : World) (hSl : Sl w 2 (.slice al nl cl) nl (ats l)) :
    Calls Try.prog 4 #[.int .u8 p, .int .u8 q, .int .u8 r, .slice al nl cl] w fun e w' => e = .returned (.bool true) ∧ Below w.heap.size w w' := by
  have hb2 : ¬ ((200 : Int) < (nl : Int)) := by omega
  obtain ⟨w1, hw1⟩ : ∃ w1, w.alloc (.cells #[.int .i16 1, .int .i16 2] 34) = w1 := ⟨_, rfl⟩
  have hS1 : Sl w1 1 (.slice (some ⟨w.heap.size, 0, none⟩) 2 2) 2 (i16s [1, 2]) := by rw [← hw1]; exact Sl.i16 [1, 2] 34 2 rfl (by decide)
  have hB1 : Below w.heap.size w w1 := by rw [← hw1]; exact (Below.refl _ _).alloc (Nat.le_refl _) _
  have C1 := Lib.hid (made9_any p q 2 1 2 0 0 (some ⟨w.heap.size, 0, none⟩) 2 [1, 2] hp hq (by omega) (by omega) rfl (by omega) (by intro u hu; simp at hu; rcases hu with rfl | rfl <;> (constructor <;> decide)) w1 hS1)
  have CR := Lib.hid (room_any r hr)
  obtain ⟨rm, hrm⟩ : ∃ rm, rm = 4 + r % 29 := ⟨_, rfl⟩
  rw [← hrm] at CR
  have hrm1 : 4 ≤ rm := by omega
  have hrm2 : rm ≤ 32 := by omega
  have HSL := Lib.hid hSl
  have HL := Lib.hid hl
  clear hS1 hp hq hr hrm hSl hl
  go_enter Try.func4, Try.ntmps4
  go_wp2_with fail
  clear hw1
  refine C1.out.mono ?_
  rintro e w2 ⟨x, y, v, F, rfl, hF, hx, hy, hfl, hf16, hof, hA⟩
  obtain ⟨av, cw, rfl, _, _⟩ := ownsRow_slice hof
  have hB := hB1.trans (hA.mono hB1.size)
  have hO : MapOk F x y 2 0 0 := ⟨hF, by decide, hfl, hf16, ⟨by decide, by decide⟩, ⟨by decide, by decide⟩⟩
  have HO := Lib.hid hO
  obtain ⟨w3, hw3⟩ : ∃ w3, w2.alloc (.cells #[.int .i64 x, .int .i64 y, .slice av (x * y) cw, .int .i64 2, .int .i32 0, .int .i32 0] 28) = w3 := ⟨_, rfl⟩
  have hA3 : Below w2.heap.size w2 w3 := by rw [← hw3]; exact (Below.refl _ _).alloc (Nat.le_refl _) _
  have KC : Blk w3 w2.heap.size 28 [.int .i64 x, .int .i64 y, .slice av (x * y) cw, .int .i64 2, .int .i32 0, .int .i32 0] := by rw [← hw3]; exact Blk.new w2 _ _
  replace hof := ownsRow_below hof hA3
  replace hB := hB.trans (hA3.mono hB.size)
  obtain ⟨gC, hgC⟩ : ∃ g, w2.heap.size = g := ⟨_, rfl⟩
  have HGC := Lib.hid hgC
  rw [hgC] at KC
  obtain ⟨m, hm⟩ : ∃ m, m = x * y := ⟨_, rfl⟩
  have hmle : x * y ≤ 40 * 40 := Nat.mul_le_mul hx hy
  have C2 := fun wx hs => open10_any F x y 2 0 0 hO rm hrm1 hrm2 (x * y) rfl av cw wx hs
  have C4 := fun u v wx hs => ref10_told F x y (x * y) u v hfl rfl (by omega) (by omega) av cw wx hs
  rw [← hm] at C2 C4 hof KC hw3 hmle ⊢
  replace C2 := Lib.hid C2
  replace C4 := Lib.hid C4
  have HW3 := Lib.hid hw3
  clear C1 hA hA3 hF hfl hf16 hm hw3 hO hgC hB1
  go_upto_region 4 with fail
  rw [HW3.out, HGC.out]
  clear HW3
  have c0 := KC.cell (i := 0) rfl
  have c1 := KC.cell (i := 1) rfl
  have c2 := KC.cell (i := 2) rfl
  have c3 := KC.cell (i := 3) rfl
  have c4 := KC.cell (i := 4) rfl
  have c5 := KC.cell (i := 5) rfl
  refine wp_region_held_drew (S := (fun w' : World => w'.cell? ⟨gC, 0, none⟩ = some (.int .i64 x) ∧ w'.cell? ⟨gC, 1, none⟩ = some (.int .i64 y) ∧ w'.cell? ⟨gC, 2, none⟩ = some (.slice av m cw) ∧ w'.cell? ⟨gC, 3, none⟩ = some (.int .i64 2) ∧ w'.cell? ⟨gC, 4, none⟩ = some (.int .i32 0) ∧ w'.cell? ⟨gC, 5, none⟩ = some (.int .i32 0))) (by kernel_rfl) (⟨c0, c1, c2, c3, c4, c5⟩) (fun hHeld => ?_)
  refine wpAnyH_take (i := 0) (v := ?v1) rfl (by kernel_rfl) (by kernel_rfl) (by kernel_rfl) (fun _ _ _ h => h) (Or.inl ⟨by rfl, ?hy1⟩) hHeld ?rest1
  case hy1 => (intro w' hSw; (try dsimp only at hSw); go_simp; (try with_reducible rfl))
  try simp only [Act.put, List.setIfInBounds_toArray, List.set_cons_zero, List.set_cons_succ, List.getElem_toArray, List.getElem_cons_zero, List.getElem_cons_succ]
  refine wpAnyH_take (i := 1) (v := ?v2) rfl (by kernel_rfl) (by kernel_rfl) (by kernel_rfl) (fun _ _ _ h => h) (Or.inl ⟨by rfl, ?hy2⟩) hHeld ?rest2
  case hy2 => (intro w' hSw; (try dsimp only at hSw); go_simp; (try with_reducible rfl))
  try simp only [Act.put, List.setIfInBounds_toArray, List.set_cons_zero, List.set_cons_succ, List.getElem_toArray, List.getElem_cons_zero, List.getElem_cons_succ]
  refine wpAnyH_ready (rs := [2]) (by kernel_rfl) (by simp) ?_
  refine AllReadyH.cons rfl (fun K hK => ?_) AllReadyH.nil
  go_simp
  refine (CR.out _).mono ?_
  rintro e w4 ⟨rfl, hA⟩
  replace KC := KC.drew.below hA KC.lt
  replace hof := ownsRow_below (w := w3.drew) hof hA
  replace hB := hB.drew.trans (hA.mono hB.size)
  clear hA
  try go_wp2_with fail
  refine hK.out _ _ (⟨KC.cell (i := 0) rfl, KC.cell (i := 1) rfl, KC.cell (i := 2) rfl, KC.cell (i := 3) rfl, KC.cell (i := 4) rfl, KC.cell (i := 5) rfl⟩) (fun hHeld => ?_)
  clear hK K
  try simp only [Act.put, List.setIfInBounds_toArray, List.set_cons_zero, List.set_cons_succ, List.getElem_toArray, List.getElem_cons_zero, List.getElem_cons_succ]
  refine wpAnyH_ready (rs := [3]) (by kernel_rfl) (by simp) ?_
  refine AllReadyH.cons rfl (fun K hK => ?_) AllReadyH.nil
  go_simp
  refine (C2.out w4 (Sl.of_own hof)).mono ?_
  rintro e w5 ⟨g, rfl, J, hA⟩
  have HGW := Lib.hid (Nat.le_trans hB.size J.le)
  replace KC := KC.below hA KC.lt
  replace hof := ownsRow_below hof hA
  replace hB := hB.trans (hA.mono hB.size)
  clear C2 hA
  try go_wp2_with fail
  refine hK.out _ _ (⟨KC.cell (i := 0) rfl, KC.cell (i := 1) rfl, KC.cell (i := 2) rfl, KC.cell (i := 3) rfl, KC.cell (i := 4) rfl, KC.cell (i := 5) rfl⟩) (fun hHeld => ?_)
  clear hK K
  try simp only [Act.put, List.setIfInBounds_toArray, List.set_cons_zero, List.set_cons_succ, List.getElem_toArray, List.getElem_cons_zero, List.getElem_cons_succ]
  refine wpAnyH_take (i := 4) (v := ?v5) rfl (by kernel_rfl) (by kernel_rfl) (by kernel_rfl) (fun _ _ _ h => h) (Or.inl ⟨by rfl, ?hy5⟩) hHeld ?rest5
  case hy5 => (intro w' hSw; (try dsimp only at hSw); go_simp; (try with_reducible rfl))
  try simp only [Act.put, List.setIfInBounds_toArray, List.set_cons_zero, List.set_cons_succ, List.getElem_toArray, List.getElem_cons_zero, List.getElem_cons_succ]
  refine wpAnyH_done (by kernel_rfl) ?_ _
  clear c0 c1 c2 c3 c4 c5
  obtain ⟨B5, hB5⟩ : ∃ B5, w4.heap.size = B5 := ⟨_, rfl⟩
  rw [hB5] at J
  clear hB5
  obtain ⟨B6, hB6⟩ : ∃ B6, w1.heap.size = B6 := ⟨_, rfl⟩
  rw [hB6] at hof
  clear hB6
  have HJ := Lib.hid J
  clear J
  go_wp2_with fail
  refine (CR.out _).mono ?_
  rintro e w6 ⟨rfl, hA⟩
  have J6 := HJ.out.below hA
  replace KC := KC.below hA KC.lt
  replace hof := ownsRow_below hof hA
  replace hB := hB.trans (hA.mono hB.size)
  obtain ⟨w7, hw7⟩ : ∃ w7, w6.alloc (.cells #[.int .i64 rm, .slice none 0 0, .int .i64 0, .int .i64 0] 44) = w7 := ⟨_, rfl⟩
  have hA7 : Below w6.heap.size w6 w7 := by rw [← hw7]; exact (Below.refl _ _).alloc (Nat.le_refl _) _
  have KR : Blk w7 w6.heap.size 44 [.int .i64 rm, .slice none 0 0, .int .i64 0, .int .i64 0] := by rw [← hw7]; exact Blk.new w6 _ _
  have hlt6 := J6.lt
  have J7 := J6.below hA7
  have hR : KeepR w w7 g gC w6.heap.size B6 w7.heap.size F x y rm av m cw none 0 [] 0 0 :=
    ⟨KC.below hA7 KC.lt, KR, ownsRow_below hof hA7, Sl.nil _ _, fun q hq => (by cases hq), hB.trans (hA7.mono hB.size), by have := HGW.out; have := hB.size; have := KR.lt; have := hA7.size; omega⟩
  obtain ⟨gR, hgR⟩ : ∃ gR, w6.heap.size = gR := ⟨_, rfl⟩
  obtain ⟨B7, hB7⟩ : ∃ B7, w7.heap.size = B7 := ⟨_, rfl⟩
  rw [hgR, hB7] at hR
  have HGR := Lib.hid hgR
  have HJ7 := Lib.hid J7
  have HR := Lib.hid hR
  have HW7 := Lib.hid hw7
  have hmx := HSL.out.max
  clear HJ CR KC hof hB hA hA7 hw7 KR hlt6 J6 J7 hR hgR hB7 HGC
  go_upto_region 8 with fail
  rw [HW7.out, HGR.out]
  clear HW7 HGR
  -- LOOP
  go_wp2_with fail
  go_loopw [12] (fun q wx => ∃ (i : Nat) (L : List Nat) (mt ms : Nat) (aL : Option Addr) (cL : Nat), i ≤ nl ∧ q = .int .i64 i ∧ mt ≤ i ∧ ms ≤ i ∧ CacheI wx B5 g F x y 2 0 0 rm L mt ms ∧ KeepR w wx g gC gR B6 B7 F x y rm av m cw aL cL L mt ms) (fun q _ => nl - (intOf q).toNat)
  case atStart => exact ⟨0, [], 0, 0, none, 0, Nat.zero_le _, rfl, Nat.le_refl _, Nat.le_refl _, HJ7.out, HR.out⟩
  case round =>
    clear HJ7 HR
    obtain ⟨i, L, mt, ms, aL, cL, hi, rfl, hmt, hms, J, R⟩ := hrel
    by_cases hlt : i < nl
    · obtain ⟨u, v, huv⟩ : ∃ u v, l[i]? = some (u, v) := ⟨_, _, List.getElem?_eq_getElem (by rw [HL.out]; exact hlt)⟩
      obtain ⟨b, o, rfl, hb0, _, _⟩ := cell_ats HSL.out i u v huv
      obtain ⟨b', o', he, hb, hcu, hcv⟩ := cell_ats (HSL.out.below R.bel) i u v huv
      cases he
      have D1 := height_told _ g F x y 2 0 0 rm L mt ms u v HO.out (by omega) (by omega) wr.drew J.drew
      have D2 := C4.out u v
      have hgw := HGW.out
      have hle := J.len
      clear huv
      by_cases hin : inF x y u v
      · obtain ⟨t1, t2, ht, ht9⟩ := told_in F x y u v hin
        simp only [hin, true_and, if_true] at D1
        rw [ht] at D1 D2
        obtain ⟨h1, h2, h3, h4⟩ := hin
        obtain ⟨u', rfl⟩ := Int.eq_ofNat_of_zero_le h1
        obtain ⟨v', rfl⟩ := Int.eq_ofNat_of_zero_le h2
        obtain ⟨n, hn⟩ : ∃ n, n = tileOf x (u' : Int) (v' : Int) := ⟨_, rfl⟩
        rw [← hn] at D1
        obtain ⟨L', hL'⟩ : ∃ L', L' = useL rm L n := ⟨_, rfl⟩
        obtain ⟨M, hM⟩ : ∃ M, M = if n ∈ L then mt + 1 else mt := ⟨_, rfl⟩
        obtain ⟨S, hS⟩ : ∃ S, S = if n ∈ L then ms else ms + 1 := ⟨_, rfl⟩
        have hSn : (if ¬ n ∈ L then ms + 1 else ms) = S := by rw [hS]; by_cases e : n ∈ L <;> simp [e]
        rw [← hL', ← hM, hSn] at D1
        have hcw : cnt x ≤ 16 := by unfold cnt; omega
        have hq : v' / 16 * cnt x ≤ 40 * 16 := Nat.mul_le_mul (by omega) hcw
        have D3 := ref10Tile_any x y u' v' (cnt x) (v' / 16 * cnt x) n (.slice av m cw) ⟨_, _, _, rfl⟩ (by omega) (by omega) (by omega) (by simp) (by omega) hn (Lib.hid (fun wx => ((ref8Count_any x (by omega)) wx).mono (fun e w' ⟨a, b⟩ => ⟨a, by rw [← b]; exact Below.refl _ _⟩)))
        have D4 := fun wx hs => refUse_go rm L.length n mt ms L aL cL rfl hle (by omega) (by omega) (by omega) (by omega) M S (Lib.hid hM) (Lib.hid hS) wx hs
        rw [← hL'] at D4
        have HMS : Hid (M ≤ i + 1 ∧ S ≤ i + 1) := Lib.hid ⟨by rw [hM]; split <;> omega, by rw [hS]; split <;> omega⟩
        replace D1 := Lib.hid D1
        replace D2 := Lib.hid D2
        replace D3 := Lib.hid D3
        replace D4 := Lib.hid D4
        have hb9 : (t2 != 9) = true := by simpa using ht9
        have HJ := Lib.hid J
        have HR0 := Lib.hid R
        clear J R ht ht9 h1 h2 h3 h4 hn hL' hM hS hSn hq hcw hmt hms
        go_wp2_with fail
        refine wp_region_held_drew (S := (fun w' : World => w'.cell? ⟨b, o + i * 2, none⟩ = some (.int .i64 u') ∧ w'.cell? ⟨b, o + i * 2 + 1, none⟩ = some (.int .i64 v'))) (by kernel_rfl) (⟨hcu, hcv⟩) (fun hHeld => ?_)
        refine wpAnyH_take (i := 0) (v := ?v6) rfl (by kernel_rfl) (by kernel_rfl) (by kernel_rfl) (fun _ _ _ h => h) (Or.inl ⟨by rfl, ?hy6⟩) hHeld ?rest6
        case hy6 => (intro w' hSw; (try dsimp only at hSw); go_simp; (try with_reducible rfl))
        try simp only [Act.put, List.setIfInBounds_toArray, List.set_cons_zero, List.set_cons_succ, List.getElem_toArray, List.getElem_cons_zero, List.getElem_cons_succ]
        refine wpAnyH_take (i := 1) (v := ?v7) rfl (by kernel_rfl) (by kernel_rfl) (by kernel_rfl) (fun _ _ _ h => h) (Or.inl ⟨by rfl, ?hy7⟩) hHeld ?rest7
        case hy7 => (intro w' hSw; (try dsimp only at hSw); go_simp; (try with_reducible rfl))
        try simp only [Act.put, List.setIfInBounds_toArray, List.set_cons_zero, List.set_cons_succ, List.getElem_toArray, List.getElem_cons_zero, List.getElem_cons_succ]
        refine wpAnyH_take (i := 2) (v := ?v8) rfl (by kernel_rfl) (by kernel_rfl) (by kernel_rfl) (fun _ _ _ h => h) (Or.inl ⟨by rfl, ?hy8⟩) hHeld ?rest8
        case hy8 => (intro w' hSw; (try dsimp only at hSw); go_simp; (try with_reducible rfl))
        try simp only [Act.put, List.setIfInBounds_toArray, List.set_cons_zero, List.set_cons_succ, List.getElem_toArray, List.getElem_cons_zero, List.getElem_cons_succ]
        refine wpAnyH_take (i := 3) (v := ?v9) rfl (by kernel_rfl) (by kernel_rfl) (by kernel_rfl) (fun _ _ _ h => h) (Or.inl ⟨by rfl, ?hy9⟩) hHeld ?rest9
        case hy9 => (intro w' hSw; (try dsimp only at hSw); go_simp; (try with_reducible rfl))
        try simp only [Act.put, List.setIfInBounds_toArray, List.set_cons_zero, List.set_cons_succ, List.getElem_toArray, List.getElem_cons_zero, List.getElem_cons_succ]
        refine wpAnyH_take (i := 4) (v := ?v10) rfl (by kernel_rfl) (by kernel_rfl) (by kernel_rfl) (fun _ _ _ h => h) (Or.inl ⟨by rfl, ?hy10⟩) hHeld ?rest10
        case hy10 => (intro w' hSw; (try dsimp only at hSw); go_simp; (try with_reducible rfl))
        try simp only [Act.put, List.setIfInBounds_toArray, List.set_cons_zero, List.set_cons_succ, List.getElem_toArray, List.getElem_cons_zero, List.getElem_cons_succ]
        refine wpAnyH_take (i := 5) (v := ?v11) rfl (by kernel_rfl) (by kernel_rfl) (by kernel_rfl) (fun _ _ _ h => h) (Or.inl ⟨by rfl, ?hy11⟩) hHeld ?rest11
        case hy11 => (intro w' hSw; (try dsimp only at hSw); go_simp; (try with_reducible rfl))
        try simp only [Act.put, List.setIfInBounds_toArray, List.set_cons_zero, List.set_cons_succ, List.getElem_toArray, List.getElem_cons_zero, List.getElem_cons_succ]
        refine wpAnyH_take (i := 6) (v := ?v12) rfl (by kernel_rfl) (by kernel_rfl) (by kernel_rfl) (fun _ _ _ h => h) (Or.inl ⟨by rfl, ?hy12⟩) hHeld ?rest12
        case hy12 => (intro w' hSw; (try dsimp only at hSw); go_simp; (try with_reducible rfl))
        try simp only [Act.put, List.setIfInBounds_toArray, List.set_cons_zero, List.set_cons_succ, List.getElem_toArray, List.getElem_cons_zero, List.getElem_cons_succ]
        refine wpAnyH_take (i := 7) (v := ?v13) rfl (by kernel_rfl) (by kernel_rfl) (by kernel_rfl) (fun _ _ _ h => h) (Or.inl ⟨by rfl, ?hy13⟩) hHeld ?rest13
        case hy13 => (intro w' hSw; (try dsimp only at hSw); go_simp; (try with_reducible rfl))
        try simp only [Act.put, List.setIfInBounds_toArray, List.set_cons_zero, List.set_cons_succ, List.getElem_toArray, List.getElem_cons_zero, List.getElem_cons_succ]
        refine wpAnyH_take (i := 8) (v := ?v14) rfl (by kernel_rfl) (by kernel_rfl) (by kernel_rfl) (fun _ _ _ h => h) (Or.inl ⟨by rfl, ?hy14⟩) hHeld ?rest14
        case hy14 => (intro w' hSw; (try dsimp only at hSw); go_simp; (try with_reducible rfl))
        try simp only [Act.put, List.setIfInBounds_toArray, List.set_cons_zero, List.set_cons_succ, List.getElem_toArray, List.getElem_cons_zero, List.getElem_cons_succ]
        refine wpAnyH_take (i := 9) (v := ?v15) rfl (by kernel_rfl) (by kernel_rfl) (by kernel_rfl) (fun _ _ _ h => h) (Or.inl ⟨by rfl, ?hy15⟩) hHeld ?rest15
        case hy15 => (intro w' hSw; (try dsimp only at hSw); go_simp; (try with_reducible rfl))
        try simp only [Act.put, List.setIfInBounds_toArray, List.set_cons_zero, List.set_cons_succ, List.getElem_toArray, List.getElem_cons_zero, List.getElem_cons_succ]
        refine wpAnyH_take (i := 10) (v := ?v16) rfl (by kernel_rfl) (by kernel_rfl) (by kernel_rfl) (fun _ _ _ h => h) (Or.inl ⟨by rfl, ?hy16⟩) hHeld ?rest16
        case hy16 => (intro w' hSw; (try dsimp only at hSw); go_simp; (try with_reducible rfl))
        try simp only [Act.put, List.setIfInBounds_toArray, List.set_cons_zero, List.set_cons_succ, List.getElem_toArray, List.getElem_cons_zero, List.getElem_cons_succ]
        refine wpAnyH_ready (rs := [11]) (by kernel_rfl) (by simp) ?_
        refine AllReadyH.cons rfl (fun K hK => ?_) AllReadyH.nil
        go_simp
        refine D1.out.mono ?_
        rintro e w6 ⟨rfl, J6, hT⟩
        have hcu6 := (hT.cell (p := ⟨b, o + i * 2, none⟩) hb (fun e => by have e' : b = g := e; omega)).trans hcu
        have hcv6 := (hT.cell (p := ⟨b, o + i * 2 + 1, none⟩) hb (fun e => by have e' : b = g := e; omega)).trans hcv
        have hb6 : b < w6.heap.size := Nat.lt_of_lt_of_le hb hT.size
        have R6 := HR0.out.drew.height HJ.out.drew hT
        clear D1
        try go_wp2_with fail
        refine hK.out _ _ (⟨hcu6, hcv6⟩) (fun hHeld => ?_)
        clear hK K
        try simp only [Act.put, List.setIfInBounds_toArray, List.set_cons_zero, List.set_cons_succ, List.getElem_toArray, List.getElem_cons_zero, List.getElem_cons_succ]
        refine wpAnyH_done (by kernel_rfl) ?_ _
        have HJ6 := Lib.hid J6
        have c0 := R6.KC.cell (i := 0) rfl
        have c1 := R6.KC.cell (i := 1) rfl
        have c2 := R6.KC.cell (i := 2) rfl
        have hgC6 := R6.KC.lt
        replace D2 := Lib.hid (D2.out w6.drew (Sl.of_own (w := w6.drew) R6.ho))
        have HR6 := Lib.hid R6
        clear J6 hT hcu hcv R6 HR0 HJ
        go_wp2_with fail
        refine wp_region_held_drew (S := (fun w' : World => w'.cell? ⟨gC, 0, none⟩ = some (.int .i64 x) ∧ w'.cell? ⟨gC, 1, none⟩ = some (.int .i64 y) ∧ w'.cell? ⟨gC, 2, none⟩ = some (.slice av m cw) ∧ w'.cell? ⟨b, o + i * 2, none⟩ = some (.int .i64 u') ∧ w'.cell? ⟨b, o + i * 2 + 1, none⟩ = some (.int .i64 v'))) (by kernel_rfl) (⟨c0, c1, c2, hcu6, hcv6⟩) (fun hHeld => ?_)
        refine wpAnyH_take (i := 0) (v := ?v18) rfl (by kernel_rfl) (by kernel_rfl) (by kernel_rfl) (fun _ _ _ h => h) (Or.inl ⟨by rfl, ?hy18⟩) hHeld ?rest18
        case hy18 => (intro w' hSw; (try dsimp only at hSw); go_simp; (try with_reducible rfl))
        try simp only [Act.put, List.setIfInBounds_toArray, List.set_cons_zero, List.set_cons_succ, List.getElem_toArray, List.getElem_cons_zero, List.getElem_cons_succ]
        refine wpAnyH_take (i := 1) (v := ?v19) rfl (by kernel_rfl) (by kernel_rfl) (by kernel_rfl) (fun _ _ _ h => h) (Or.inl ⟨by rfl, ?hy19⟩) hHeld ?rest19
        case hy19 => (intro w' hSw; (try dsimp only at hSw); go_simp; (try with_reducible rfl))
        try simp only [Act.put, List.setIfInBounds_toArray, List.set_cons_zero, List.set_cons_succ, List.getElem_toArray, List.getElem_cons_zero, List.getElem_cons_succ]
        refine wpAnyH_take (i := 2) (v := ?v20) rfl (by kernel_rfl) (by kernel_rfl) (by kernel_rfl) (fun _ _ _ h => h) (Or.inl ⟨by rfl, ?hy20⟩) hHeld ?rest20
        case hy20 => (intro w' hSw; (try dsimp only at hSw); go_simp; (try with_reducible rfl))
        try simp only [Act.put, List.setIfInBounds_toArray, List.set_cons_zero, List.set_cons_succ, List.getElem_toArray, List.getElem_cons_zero, List.getElem_cons_succ]
        refine wpAnyH_take (i := 3) (v := ?v21) rfl (by kernel_rfl) (by kernel_rfl) (by kernel_rfl) (fun _ _ _ h => h) (Or.inl ⟨by rfl, ?hy21⟩) hHeld ?rest21
        case hy21 => (intro w' hSw; (try dsimp only at hSw); go_simp; (try with_reducible rfl))
        try simp only [Act.put, List.setIfInBounds_toArray, List.set_cons_zero, List.set_cons_succ, List.getElem_toArray, List.getElem_cons_zero, List.getElem_cons_succ]
        refine wpAnyH_take (i := 4) (v := ?v22) rfl (by kernel_rfl) (by kernel_rfl) (by kernel_rfl) (fun _ _ _ h => h) (Or.inl ⟨by rfl, ?hy22⟩) hHeld ?rest22
        case hy22 => (intro w' hSw; (try dsimp only at hSw); go_simp; (try with_reducible rfl))
        try simp only [Act.put, List.setIfInBounds_toArray, List.set_cons_zero, List.set_cons_succ, List.getElem_toArray, List.getElem_cons_zero, List.getElem_cons_succ]
        refine wpAnyH_take (i := 5) (v := ?v23) rfl (by kernel_rfl) (by kernel_rfl) (by kernel_rfl) (fun _ _ _ h => h) (Or.inl ⟨by rfl, ?hy23⟩) hHeld ?rest23
        case hy23 => (intro w' hSw; (try dsimp only at hSw); go_simp; (try with_reducible rfl))
        try simp only [Act.put, List.setIfInBounds_toArray, List.set_cons_zero, List.set_cons_succ, List.getElem_toArray, List.getElem_cons_zero, List.getElem_cons_succ]
        refine wpAnyH_take (i := 6) (v := ?v24) rfl (by kernel_rfl) (by kernel_rfl) (by kernel_rfl) (fun _ _ _ h => h) (Or.inl ⟨by rfl, ?hy24⟩) hHeld ?rest24
        case hy24 => (intro w' hSw; (try dsimp only at hSw); go_simp; (try with_reducible rfl))
        try simp only [Act.put, List.setIfInBounds_toArray, List.set_cons_zero, List.set_cons_succ, List.getElem_toArray, List.getElem_cons_zero, List.getElem_cons_succ]
        refine wpAnyH_take (i := 7) (v := ?v25) rfl (by kernel_rfl) (by kernel_rfl) (by kernel_rfl) (fun _ _ _ h => h) (Or.inl ⟨by rfl, ?hy25⟩) hHeld ?rest25
        case hy25 => (intro w' hSw; (try dsimp only at hSw); go_simp; (try with_reducible rfl))
        try simp only [Act.put, List.setIfInBounds_toArray, List.set_cons_zero, List.set_cons_succ, List.getElem_toArray, List.getElem_cons_zero, List.getElem_cons_succ]
        refine wpAnyH_take (i := 8) (v := ?v26) rfl (by kernel_rfl) (by kernel_rfl) (by kernel_rfl) (fun _ _ _ h => h) (Or.inl ⟨by rfl, ?hy26⟩) hHeld ?rest26
        case hy26 => (intro w' hSw; (try dsimp only at hSw); go_simp; (try with_reducible rfl))
        try simp only [Act.put, List.setIfInBounds_toArray, List.set_cons_zero, List.set_cons_succ, List.getElem_toArray, List.getElem_cons_zero, List.getElem_cons_succ]
        refine wpAnyH_take (i := 9) (v := ?v27) rfl (by kernel_rfl) (by kernel_rfl) (by kernel_rfl) (fun _ _ _ h => h) (Or.inl ⟨by rfl, ?hy27⟩) hHeld ?rest27
        case hy27 => (intro w' hSw; (try dsimp only at hSw); go_simp; (try with_reducible rfl))
        try simp only [Act.put, List.setIfInBounds_toArray, List.set_cons_zero, List.set_cons_succ, List.getElem_toArray, List.getElem_cons_zero, List.getElem_cons_succ]
        refine wpAnyH_take (i := 10) (v := ?v28) rfl (by kernel_rfl) (by kernel_rfl) (by kernel_rfl) (fun _ _ _ h => h) (Or.inl ⟨by rfl, ?hy28⟩) hHeld ?rest28
        case hy28 => (intro w' hSw; (try dsimp only at hSw); go_simp; (try with_reducible rfl))
        try simp only [Act.put, List.setIfInBounds_toArray, List.set_cons_zero, List.set_cons_succ, List.getElem_toArray, List.getElem_cons_zero, List.getElem_cons_succ]
        refine wpAnyH_take (i := 11) (v := ?v29) rfl (by kernel_rfl) (by kernel_rfl) (by kernel_rfl) (fun _ _ _ h => h) (Or.inl ⟨by rfl, ?hy29⟩) hHeld ?rest29
        case hy29 => (intro w' hSw; (try dsimp only at hSw); go_simp; (try with_reducible rfl))
        try simp only [Act.put, List.setIfInBounds_toArray, List.set_cons_zero, List.set_cons_succ, List.getElem_toArray, List.getElem_cons_zero, List.getElem_cons_succ]
        refine wpAnyH_ready (rs := [12]) (by kernel_rfl) (by simp) ?_
        refine AllReadyH.cons rfl (fun K hK => ?_) AllReadyH.nil
        go_simp
        refine D2.out.mono ?_
        rintro e w7 ⟨rfl, hA⟩
        clear D2
        try go_wp2_with fail
        refine hK.out _ _ (⟨(hA.cell (p := ⟨gC, 0, none⟩) hgC6).trans c0, (hA.cell (p := ⟨gC, 1, none⟩) hgC6).trans c1, (hA.cell (p := ⟨gC, 2, none⟩) hgC6).trans c2, (hA.cell (p := ⟨b, o + i * 2, none⟩) hb6).trans hcu6, (hA.cell (p := ⟨b, o + i * 2 + 1, none⟩) hb6).trans hcv6⟩) (fun hHeld => ?_)
        clear hK K
        try simp only [Act.put, List.setIfInBounds_toArray, List.set_cons_zero, List.set_cons_succ, List.getElem_toArray, List.getElem_cons_zero, List.getElem_cons_succ]
        refine wpAnyH_take (i := 13) (v := ?v31) rfl (by kernel_rfl) (by kernel_rfl) (by kernel_rfl) (fun _ _ _ h => h) (Or.inl ⟨by rfl, ?hy31⟩) hHeld ?rest31
        case hy31 => (intro w' hSw; (try dsimp only at hSw); go_simp; (try with_reducible rfl))
        try simp only [Act.put, List.setIfInBounds_toArray, List.set_cons_zero, List.set_cons_succ, List.getElem_toArray, List.getElem_cons_zero, List.getElem_cons_succ]
        refine wpAnyH_take (i := 14) (v := ?v32) rfl (by kernel_rfl) (by kernel_rfl) (by kernel_rfl) (fun _ _ _ h => h) (Or.inl ⟨by rfl, ?hy32⟩) hHeld ?rest32
        case hy32 => (intro w' hSw; (try dsimp only at hSw); go_simp; (try with_reducible rfl))
        try simp only [Act.put, List.setIfInBounds_toArray, List.set_cons_zero, List.set_cons_succ, List.getElem_toArray, List.getElem_cons_zero, List.getElem_cons_succ]
        refine wpAnyH_take (i := 15) (v := ?v33) rfl (by kernel_rfl) (by kernel_rfl) (by kernel_rfl) (fun _ _ _ h => h) (Or.inl ⟨by rfl, ?hy33⟩) hHeld ?rest33
        case hy33 => (intro w' hSw; (try dsimp only at hSw); go_simp; (try with_reducible rfl))
        try simp only [Act.put, List.setIfInBounds_toArray, List.set_cons_zero, List.set_cons_succ, List.getElem_toArray, List.getElem_cons_zero, List.getElem_cons_succ]
        refine wpAnyH_take (i := 16) (v := ?v34) rfl (by kernel_rfl) (by kernel_rfl) (by kernel_rfl) (fun _ _ _ h => h) (Or.inl ⟨by rfl, ?hy34⟩) hHeld ?rest34
        case hy34 => (intro w' hSw; (try dsimp only at hSw); go_simp; (try with_reducible rfl))
        try simp only [Act.put, List.setIfInBounds_toArray, List.set_cons_zero, List.set_cons_succ, List.getElem_toArray, List.getElem_cons_zero, List.getElem_cons_succ]
        refine wpAnyH_take (i := 17) (v := ?v35) rfl (by kernel_rfl) (by kernel_rfl) (by kernel_rfl) (fun _ _ _ h => h) (Or.inl ⟨by rfl, ?hy35⟩) hHeld ?rest35
        case hy35 => (intro w' hSw; (try dsimp only at hSw); go_simp; (try with_reducible rfl))
        try simp only [Act.put, List.setIfInBounds_toArray, List.set_cons_zero, List.set_cons_succ, List.getElem_toArray, List.getElem_cons_zero, List.getElem_cons_succ]
        refine wpAnyH_done (by kernel_rfl) ?_ _
        have J7 := HJ6.out.drew.below hA
        have R7 := HR6.out.drew.below hA
        have hcu7 := (hA.cell (p := ⟨b, o + i * 2, none⟩) hb6).trans hcu6
        have hcv7 := (hA.cell (p := ⟨b, o + i * 2 + 1, none⟩) hb6).trans hcv6
        have hb7 : b < w7.heap.size := Nat.lt_of_lt_of_le hb6 hA.size
        clear c0 c1 c2 hcu6 hcv6 hA HJ6 HR6 hgC6 hb6
        have c0 := R7.KC.cell (i := 0) rfl
        have c1 := R7.KC.cell (i := 1) rfl
        have c2 := R7.KC.cell (i := 2) rfl
        have r0 := R7.KR.cell (i := 0) rfl
        have r1 := R7.KR.cell (i := 1) rfl
        have r2 := R7.KR.cell (i := 2) rfl
        have r3 := R7.KR.cell (i := 3) rfl
        have HJ7 := Lib.hid J7
        have HR7 := Lib.hid R7
        have hgC7 := R7.KC.lt
        have hgR7 := R7.KR.lt
        clear J7 R7
        go_wp2_with fail
        refine wp_region_N_drew (S := (fun w' : World => w'.cell? ⟨gR, 0, none⟩ = some (.int .i64 rm) ∧ w'.cell? ⟨gR, 1, none⟩ = some (.slice aL L.length cL) ∧ w'.cell? ⟨gR, 2, none⟩ = some (.int .i64 mt) ∧ w'.cell? ⟨gR, 3, none⟩ = some (.int .i64 ms) ∧ w'.cell? ⟨gC, 0, none⟩ = some (.int .i64 x) ∧ w'.cell? ⟨gC, 1, none⟩ = some (.int .i64 y) ∧ w'.cell? ⟨gC, 2, none⟩ = some (.slice av m cw) ∧ w'.cell? ⟨b, o + i * 2, none⟩ = some (.int .i64 u') ∧ w'.cell? ⟨b, o + i * 2 + 1, none⟩ = some (.int .i64 v'))) 15 (by kernel_rfl) ?_
        have hHeld : (fun w' : World => w'.cell? ⟨gR, 0, none⟩ = some (.int .i64 rm) ∧ w'.cell? ⟨gR, 1, none⟩ = some (.slice aL L.length cL) ∧ w'.cell? ⟨gR, 2, none⟩ = some (.int .i64 mt) ∧ w'.cell? ⟨gR, 3, none⟩ = some (.int .i64 ms) ∧ w'.cell? ⟨gC, 0, none⟩ = some (.int .i64 x) ∧ w'.cell? ⟨gC, 1, none⟩ = some (.int .i64 y) ∧ w'.cell? ⟨gC, 2, none⟩ = some (.slice av m cw) ∧ w'.cell? ⟨b, o + i * 2, none⟩ = some (.int .i64 u') ∧ w'.cell? ⟨b, o + i * 2 + 1, none⟩ = some (.int .i64 v')) w7.drew := ⟨r0, r1, r2, r3, c0, c1, c2, hcu7, hcv7⟩
        refine wpAnyN_take (i := 0) (v := ?v36) rfl (by kernel_rfl) (by kernel_rfl) (by kernel_rfl) (fun _ _ _ h => h) rfl (by kernel_rfl) (by kernel_rfl) (Or.inl ⟨by rfl, ?hy36⟩) hHeld ?rest36
        case hy36 => (intro w' hSw; (try dsimp only at hSw); go_simp; (try with_reducible rfl))
        try simp only [Act.put, List.setIfInBounds_toArray, List.set_cons_zero, List.set_cons_succ, List.getElem_toArray, List.getElem_cons_zero, List.getElem_cons_succ]
        refine wpAnyN_takeY (i := 1) (v := ?v37) rfl (by kernel_rfl) (by kernel_rfl) (by kernel_rfl) (fun _ _ _ h => h) rfl (Or.inl ⟨by rfl, ?hy37⟩) (fun _ => hHeld) ?rest37
        case hy37 => (intro w' _; go_simp; (try with_reducible rfl))
        try simp only [Act.put, List.setIfInBounds_toArray, List.set_cons_zero, List.set_cons_succ, List.getElem_toArray, List.getElem_cons_zero, List.getElem_cons_succ]
        refine wpAnyN_take (i := 2) (v := ?v38) rfl (by kernel_rfl) (by kernel_rfl) (by kernel_rfl) (fun _ _ _ h => h) rfl (by kernel_rfl) (by kernel_rfl) (Or.inl ⟨by rfl, ?hy38⟩) hHeld ?rest38
        case hy38 => (intro w' hSw; (try dsimp only at hSw); go_simp; (try with_reducible rfl))
        try simp only [Act.put, List.setIfInBounds_toArray, List.set_cons_zero, List.set_cons_succ, List.getElem_toArray, List.getElem_cons_zero, List.getElem_cons_succ]
        refine wpAnyN_takeY (i := 3) (v := ?v39) rfl (by kernel_rfl) (by kernel_rfl) (by kernel_rfl) (fun _ _ _ h => h) rfl (Or.inl ⟨by rfl, ?hy39⟩) (fun _ => hHeld) ?rest39
        case hy39 => (intro w' _; go_simp; (try with_reducible rfl))
        try simp only [Act.put, List.setIfInBounds_toArray, List.set_cons_zero, List.set_cons_succ, List.getElem_toArray, List.getElem_cons_zero, List.getElem_cons_succ]
        refine wpAnyN_takeY (i := 4) (v := ?v40) rfl (by kernel_rfl) (by kernel_rfl) (by kernel_rfl) (fun _ _ _ h => h) rfl (Or.inl ⟨by rfl, ?hy40⟩) (fun _ => hHeld) ?rest40
        case hy40 => (intro w' _; go_simp; (try with_reducible rfl))
        try simp only [Act.put, List.setIfInBounds_toArray, List.set_cons_zero, List.set_cons_succ, List.getElem_toArray, List.getElem_cons_zero, List.getElem_cons_succ]
        refine wpAnyN_takeY (i := 5) (v := ?v41) rfl (by kernel_rfl) (by kernel_rfl) (by kernel_rfl) (fun _ _ _ h => h) rfl (Or.inl ⟨by rfl, ?hy41⟩) (fun _ => hHeld) ?rest41
        case hy41 => (intro w' _; go_simp; (try with_reducible rfl))
        try simp only [Act.put, List.setIfInBounds_toArray, List.set_cons_zero, List.set_cons_succ, List.getElem_toArray, List.getElem_cons_zero, List.getElem_cons_succ]
        refine wpAnyN_takeY (i := 6) (v := ?v42) rfl (by kernel_rfl) (by kernel_rfl) (by kernel_rfl) (fun _ _ _ h => h) rfl (Or.inl ⟨by rfl, ?hy42⟩) (fun _ => hHeld) ?rest42
        case hy42 => (intro w' _; go_simp; (try with_reducible rfl))
        try simp only [Act.put, List.setIfInBounds_toArray, List.set_cons_zero, List.set_cons_succ, List.getElem_toArray, List.getElem_cons_zero, List.getElem_cons_succ]
        refine wpAnyN_take (i := 7) (v := ?v43) rfl (by kernel_rfl) (by kernel_rfl) (by kernel_rfl) (fun _ _ _ h => h) rfl (by kernel_rfl) (by kernel_rfl) (Or.inl ⟨by rfl, ?hy43⟩) hHeld ?rest43
        case hy43 => (intro w' hSw; (try dsimp only at hSw); go_simp; (try with_reducible rfl))
        try simp only [Act.put, List.setIfInBounds_toArray, List.set_cons_zero, List.set_cons_succ, List.getElem_toArray, List.getElem_cons_zero, List.getElem_cons_succ]
        refine wpAnyN_takeY (i := 8) (v := ?v44) rfl (by kernel_rfl) (by kernel_rfl) (by kernel_rfl) (fun _ _ _ h => h) rfl (Or.inl ⟨by rfl, ?hy44⟩) (fun _ => hHeld) ?rest44
        case hy44 => (intro w' _; go_simp; (try with_reducible rfl))
        try simp only [Act.put, List.setIfInBounds_toArray, List.set_cons_zero, List.set_cons_succ, List.getElem_toArray, List.getElem_cons_zero, List.getElem_cons_succ]
        refine wpAnyN_takeY (i := 9) (v := ?v45) rfl (by kernel_rfl) (by kernel_rfl) (by kernel_rfl) (fun _ _ _ h => h) rfl (Or.inl ⟨by rfl, ?hy45⟩) (fun _ => hHeld) ?rest45
        case hy45 => (intro w' _; go_simp; (try with_reducible rfl))
        try simp only [Act.put, List.setIfInBounds_toArray, List.set_cons_zero, List.set_cons_succ, List.getElem_toArray, List.getElem_cons_zero, List.getElem_cons_succ]
        refine wpAnyN_takeY (i := 10) (v := ?v46) rfl (by kernel_rfl) (by kernel_rfl) (by kernel_rfl) (fun _ _ _ h => h) rfl (Or.inl ⟨by rfl, ?hy46⟩) (fun _ => hHeld) ?rest46
        case hy46 => (intro w' _; go_simp; (try with_reducible rfl))
        try simp only [Act.put, List.setIfInBounds_toArray, List.set_cons_zero, List.set_cons_succ, List.getElem_toArray, List.getElem_cons_zero, List.getElem_cons_succ]
        refine wpAnyN_takeY (i := 11) (v := ?v47) rfl (by kernel_rfl) (by kernel_rfl) (by kernel_rfl) (fun _ _ _ h => h) rfl (Or.inl ⟨by rfl, ?hy47⟩) (fun _ => hHeld) ?rest47
        case hy47 => (intro w' _; go_simp; (try with_reducible rfl))
        try simp only [Act.put, List.setIfInBounds_toArray, List.set_cons_zero, List.set_cons_succ, List.getElem_toArray, List.getElem_cons_zero, List.getElem_cons_succ]
        refine wpAnyN_take (i := 12) (v := ?v48) rfl (by kernel_rfl) (by kernel_rfl) (by kernel_rfl) (fun _ _ _ h => h) rfl (by kernel_rfl) (by kernel_rfl) (Or.inl ⟨by rfl, ?hy48⟩) hHeld ?rest48
        case hy48 => (intro w' hSw; (try dsimp only at hSw); go_simp; (try with_reducible rfl))
        try simp only [Act.put, List.setIfInBounds_toArray, List.set_cons_zero, List.set_cons_succ, List.getElem_toArray, List.getElem_cons_zero, List.getElem_cons_succ]
        refine wpAnyN_ready (rs := [13]) (by kernel_rfl) (by simp) ?_
        refine AllReadyN.cons rfl (fun K hK => ?_) AllReadyN.nil
        go_simp
        refine (D3.out _).mono ?_
        rintro e w8 ⟨rfl, hA⟩
        have J8 := HJ7.out.drew.below hA
        have R8 := HR7.out.drew.below hA
        have hb8 : b < w8.heap.size := Nat.lt_of_lt_of_le hb7 hA.size
        have hcu8 := (hA.cell (p := ⟨b, o + i * 2, none⟩) hb7).trans hcu7
        have hcv8 := (hA.cell (p := ⟨b, o + i * 2 + 1, none⟩) hb7).trans hcv7
        clear D3
        try go_wp2_with fail
        replace hHeld : (fun w' : World => w'.cell? ⟨gR, 0, none⟩ = some (.int .i64 rm) ∧ w'.cell? ⟨gR, 1, none⟩ = some (.slice aL L.length cL) ∧ w'.cell? ⟨gR, 2, none⟩ = some (.int .i64 mt) ∧ w'.cell? ⟨gR, 3, none⟩ = some (.int .i64 ms) ∧ w'.cell? ⟨gC, 0, none⟩ = some (.int .i64 x) ∧ w'.cell? ⟨gC, 1, none⟩ = some (.int .i64 y) ∧ w'.cell? ⟨gC, 2, none⟩ = some (.slice av m cw) ∧ w'.cell? ⟨b, o + i * 2, none⟩ = some (.int .i64 u') ∧ w'.cell? ⟨b, o + i * 2 + 1, none⟩ = some (.int .i64 v')) _ := ⟨(hA.cell (p := ⟨gR, 0, none⟩) hgR7).trans r0, (hA.cell (p := ⟨gR, 1, none⟩) hgR7).trans r1, (hA.cell (p := ⟨gR, 2, none⟩) hgR7).trans r2, (hA.cell (p := ⟨gR, 3, none⟩) hgR7).trans r3, (hA.cell (p := ⟨gC, 0, none⟩) hgC7).trans c0, (hA.cell (p := ⟨gC, 1, none⟩) hgC7).trans c1, (hA.cell (p := ⟨gC, 2, none⟩) hgC7).trans c2, (hA.cell (p := ⟨b, o + i * 2, none⟩) hb7).trans hcu7, (hA.cell (p := ⟨b, o + i * 2 + 1, none⟩) hb7).trans hcv7⟩
        refine hK.out _ _ (fun _ => hHeld) ?_
        clear hK K
        try simp only [Act.put, List.setIfInBounds_toArray, List.set_cons_zero, List.set_cons_succ, List.getElem_toArray, List.getElem_cons_zero, List.getElem_cons_succ]
        refine wpAnyN_ready (rs := [14]) (by kernel_rfl) (by simp) ?_
        refine AllReadyN.cons rfl (fun K hK => ?_) AllReadyN.nil
        go_simp
        refine (D4.out w8 R8.sL).mono ?_
        rintro e w9 ⟨aN, kN, cN, rfl, rfl, hsN, hnN, hA9⟩
        have J9 := J8.below hA9
        have R9 := R8.below hA9
        have hnB : ∀ q, aN = some q → B7 ≤ q.block := fun q hq => by have := hnN q hq; have := R8.le; omega
        have s0 := R9.KR.cell (i := 0) rfl
        have s1 := R9.KR.cell (i := 1) rfl
        have s2 := R9.KR.cell (i := 2) rfl
        have s3 := R9.KR.cell (i := 3) rfl
        have f0 := R9.KR.free 0
        have f1 := R9.KR.free 1
        have f2 := R9.KR.free 2
        have f3 := R9.KR.free 3
        clear D4
        try go_wp2_with fail
        replace hHeld : (fun w' : World => w'.cell? ⟨gR, 0, none⟩ = some (.int .i64 rm) ∧ w'.cell? ⟨gR, 1, none⟩ = some (.slice aL L.length cL) ∧ w'.cell? ⟨gR, 2, none⟩ = some (.int .i64 mt) ∧ w'.cell? ⟨gR, 3, none⟩ = some (.int .i64 ms) ∧ w'.cell? ⟨gC, 0, none⟩ = some (.int .i64 x) ∧ w'.cell? ⟨gC, 1, none⟩ = some (.int .i64 y) ∧ w'.cell? ⟨gC, 2, none⟩ = some (.slice av m cw) ∧ w'.cell? ⟨b, o + i * 2, none⟩ = some (.int .i64 u') ∧ w'.cell? ⟨b, o + i * 2 + 1, none⟩ = some (.int .i64 v')) _ := ⟨R9.KR.cell (i := 0) rfl, R9.KR.cell (i := 1) rfl, R9.KR.cell (i := 2) rfl, R9.KR.cell (i := 3) rfl, R9.KC.cell (i := 0) rfl, R9.KC.cell (i := 1) rfl, R9.KC.cell (i := 2) rfl, (hA9.cell (p := ⟨b, o + i * 2, none⟩) hb8).trans hcu8, (hA9.cell (p := ⟨b, o + i * 2 + 1, none⟩) hb8).trans hcv8⟩
        refine hK.out _ _ (fun _ => hHeld) ?_
        clear hK K
        try simp only [Act.put, List.setIfInBounds_toArray, List.set_cons_zero, List.set_cons_succ, List.getElem_toArray, List.getElem_cons_zero, List.getElem_cons_succ]
        refine wpAnyN_ready (rs := [15]) (by kernel_rfl) (by simp) ?_
        refine AllReadyN.cons rfl (fun K hK => ?_) AllReadyN.nil
        go_simp
        try go_wp2_with fail
        refine hK.out _ _ (fun h => by have h' : (true : Bool) = false := h; cases h') ?_
        clear hK K
        try simp only [Act.put, List.setIfInBounds_toArray, List.set_cons_zero, List.set_cons_succ, List.getElem_toArray, List.getElem_cons_zero, List.getElem_cons_succ]
        refine wpAnyN_done (by kernel_rfl) ?_ _
        have hgR9 : B5 ≤ g ∧ g ≠ gR := ⟨J9.le, by rintro rfl; obtain ⟨ab, cb, aA, cA, aS, cS, T, c, Jx⟩ := J9; have h1 := Jx.ck.blk; have h2 := R9.KR; unfold Blk at h1 h2; rw [h1] at h2; simp at h2⟩
        have R8' := R9.store (mt' := M) (ms' := S) hsN hnB
        have J8' : CacheI (set4 w9 gR (.int .i64 rm) (.slice aN L'.length cN) (.int .i64 (M : Nat)) (.int .i64 (S : Nat))) B5 g F x y 2 0 0 rm L' M S := by
          refine J9.keepR (turned_set4 _ _ _ _ _ _) R9.KR (by decide)
        obtain ⟨w12, hw12⟩ : ∃ w12, set4 w9 gR (.int .i64 rm) (.slice aN L'.length cN) (.int .i64 (M : Nat)) (.int .i64 (S : Nat)) = w12 := ⟨_, rfl⟩
        rw [hw12] at R8' J8'
        have J8 := J8'
        have R8 := R8'
        rw [show (((w9.setCell ⟨gR, 0, none⟩ (.int .i64 rm)).setCell ⟨gR, 1, none⟩ (.slice aN L'.length cN)).setCell ⟨gR, 2, none⟩ (.int .i64 M)).setCell ⟨gR, 3, none⟩ (.int .i64 S) = w12 from hw12]
        clear J8' R8' hw12 c0 c1 c2 r0 r1 r2 r3 s0 s1 s2 s3 f0 f1 f2 f3 J9 R9 hA hA9 hsN hnN hnB hgR9 hcu7 hcv7 hcu8 hcv8 HJ7 HR7 hb8 hb7 hgC7 hgR7 hb9
        have hlen := J8.len
        have D5 := Lib.hid (met10_any _ g F x y 2 0 0 rm L' M S w12 J8)
        have HJ8 := Lib.hid J8
        have HR8 := Lib.hid R8
        clear J8 R8
        go_wp2_with fail
        refine D5.out.mono ?_
        rintro e w9 ⟨rfl, q9, rfl⟩
        have J9 := HJ8.out.drewN q9
        have R9 := HR8.out.drewN q9
        clear D5 HJ8 HR8
        have D6 := Lib.hid (held_any _ g F x y 2 0 0 rm L' M S _ J9)
        have HJ9 := Lib.hid J9
        have HR9 := Lib.hid R9
        clear J9 R9
        go_wp2_with fail
        refine D6.out.mono ?_
        rintro e w10 ⟨v10, rfl, hok, hA⟩
        obtain ⟨ak, ck, rfl, hck1, hck2⟩ := ownsRow_slice hok
        have J10 := HJ9.out.below hA
        have R10 := HR9.out.below hA
        have r0 := R10.KR.cell (i := 0) rfl
        have r1 := R10.KR.cell (i := 1) rfl
        have r2 := R10.KR.cell (i := 2) rfl
        have r3 := R10.KR.cell (i := 3) rfl
        have e1 : ((M : Int) == (M : Int)) = true := by simp
        have e2 : ((S : Int) == (S : Int)) = true := by simp
        obtain ⟨len, hlenE⟩ : ∃ len, len = L'.length := ⟨_, rfl⟩
        have e3 : ((len : Int) == (len : Int)) = true := by simp
        have e4 : ¬ ((rm : Int) < (len : Int)) := by omega
        rw [← hlenE] at r1 hok hck1
        unfold maxLen at hck2
        obtain ⟨B9, hB9⟩ : ∃ B9, (World.drewN w12 q9).heap.size = B9 := ⟨_, rfl⟩
        rw [hB9] at hok
        have HLE := Lib.hid hlenE
        have HJ10 := Lib.hid J10
        have HR10 := Lib.hid R10
        have HOK := Lib.hid hok
        rw [← hlenE]
        clear D6 HJ9 HR9 hA J10 R10 hlenE hok hlen hB9
        go_wp2_with fail
        clear r0 r1 r2 r3
        go_loopw [18] (fun q2 wx => ∃ j : Nat, j ≤ len ∧ q2 = .int .i64 j ∧ KeepR w wx g gC gR B6 B7 F x y rm av m cw aN cN L' M S ∧ CacheI wx B5 g F x y 2 0 0 rm L' M S ∧ wx.ownsRow B9 3 1 (.slice ak len ck) len (ints L')) (fun q2 _ => len - (intOf q2).toNat)
        case atStart => exact ⟨0, Nat.zero_le _, rfl, HR10.out, HJ10.out, HOK.out⟩
        case round =>
          clear HR10 HJ10 HOK
          obtain ⟨j, hj, rfl, R11, J11, hok⟩ := hrel
          by_cases hjl : j < len
          · have hjL : j < L'.length := by rw [← HLE.out]; exact hjl
            obtain ⟨bk, ok, rfl, _, hck⟩ := cell_ints (n := len) (cap := ck) (Sl.of_own hok) j hjL
            have hsL := R11.sL
            rw [← HLE.out] at hsL
            have hmL := hsL.max
            obtain ⟨bl, ol, hbl, _, hcl⟩ := cell_ints hsL j hjL
            have r1 := R11.KR.cell (i := 1) rfl
            rw [← HLE.out, hbl] at r1
            obtain ⟨zz, hzz⟩ : ∃ zz, zz = L'[j] := ⟨_, rfl⟩
            rw [← hzz] at hck hcl
            have e5 : ((zz : Int) == (zz : Int)) = true := by simp
            have HR11 := Lib.hid R11
            have HJ11 := Lib.hid J11
            have HOK := Lib.hid hok
            clear R11 J11 hok hsL hzz hbl hjL
            go_wp2_with fail
            go_quiet (fail)
            go_wp2_with fail
            go_roundw
            case rel => exact ⟨j + 1, by omega, by go_num, HR11.out.drewN _, HJ11.out.drewN _, by exact HOK.out⟩
            case measure => simp [intOf]; omega
          · obtain rfl : j = len := by omega
            go_wp2_with fail
            go_roundw
            case rel => exact ⟨i + 1, L', M, S, aN, cN, by omega, by go_num, HMS.out.1, HMS.out.2, J11, R11⟩
            case measure => simp [intOf]; omega
      · have ht := told_out F x y u v hin
        simp only [hin, false_and, if_false] at D1
        rw [ht] at D1 D2
        have HMS : Hid (mt ≤ i + 1 ∧ ms ≤ i + 1) := Lib.hid ⟨by omega, by omega⟩
        replace D1 := Lib.hid D1
        replace D2 := Lib.hid D2
        have HJ := Lib.hid J
        have HR0 := Lib.hid R
        clear J R ht hmt hms hin
        go_wp2_with fail
        refine wp_region_held_drew (S := (fun w' : World => w'.cell? ⟨b, o + i * 2, none⟩ = some (.int .i64 u) ∧ w'.cell? ⟨b, o + i * 2 + 1, none⟩ = some (.int .i64 v))) (by kernel_rfl) (⟨hcu, hcv⟩) (fun hHeld => ?_)
        refine wpAnyH_take (i := 0) (v := ?v52) rfl (by kernel_rfl) (by kernel_rfl) (by kernel_rfl) (fun _ _ _ h => h) (Or.inl ⟨by rfl, ?hy52⟩) hHeld ?rest52
        case hy52 => (intro w' hSw; (try dsimp only at hSw); go_simp; (try with_reducible rfl))
        try simp only [Act.put, List.setIfInBounds_toArray, List.set_cons_zero, List.set_cons_succ, List.getElem_toArray, List.getElem_cons_zero, List.getElem_cons_succ]
        refine wpAnyH_take (i := 1) (v := ?v53) rfl (by kernel_rfl) (by kernel_rfl) (by kernel_rfl) (fun _ _ _ h => h) (Or.inl ⟨by rfl, ?hy53⟩) hHeld ?rest53
        case hy53 => (intro w' hSw; (try dsimp only at hSw); go_simp; (try with_reducible rfl))
        try simp only [Act.put, List.setIfInBounds_toArray, List.set_cons_zero, List.set_cons_succ, List.getElem_toArray, List.getElem_cons_zero, List.getElem_cons_succ]
        refine wpAnyH_take (i := 2) (v := ?v54) rfl (by kernel_rfl) (by kernel_rfl) (by kernel_rfl) (fun _ _ _ h => h) (Or.inl ⟨by rfl, ?hy54⟩) hHeld ?rest54
        case hy54 => (intro w' hSw; (try dsimp only at hSw); go_simp; (try with_reducible rfl))
        try simp only [Act.put, List.setIfInBounds_toArray, List.set_cons_zero, List.set_cons_succ, List.getElem_toArray, List.getElem_cons_zero, List.getElem_cons_succ]
        refine wpAnyH_take (i := 3) (v := ?v55) rfl (by kernel_rfl) (by kernel_rfl) (by kernel_rfl) (fun _ _ _ h => h) (Or.inl ⟨by rfl, ?hy55⟩) hHeld ?rest55
        case hy55 => (intro w' hSw; (try dsimp only at hSw); go_simp; (try with_reducible rfl))
        try simp only [Act.put, List.setIfInBounds_toArray, List.set_cons_zero, List.set_cons_succ, List.getElem_toArray, List.getElem_cons_zero, List.getElem_cons_succ]
        refine wpAnyH_take (i := 4) (v := ?v56) rfl (by kernel_rfl) (by kernel_rfl) (by kernel_rfl) (fun _ _ _ h => h) (Or.inl ⟨by rfl, ?hy56⟩) hHeld ?rest56
        case hy56 => (intro w' hSw; (try dsimp only at hSw); go_simp; (try with_reducible rfl))
        try simp only [Act.put, List.setIfInBounds_toArray, List.set_cons_zero, List.set_cons_succ, List.getElem_toArray, List.getElem_cons_zero, List.getElem_cons_succ]
        refine wpAnyH_take (i := 5) (v := ?v57) rfl (by kernel_rfl) (by kernel_rfl) (by kernel_rfl) (fun _ _ _ h => h) (Or.inl ⟨by rfl, ?hy57⟩) hHeld ?rest57
        case hy57 => (intro w' hSw; (try dsimp only at hSw); go_simp; (try with_reducible rfl))
        try simp only [Act.put, List.setIfInBounds_toArray, List.set_cons_zero, List.set_cons_succ, List.getElem_toArray, List.getElem_cons_zero, List.getElem_cons_succ]
        refine wpAnyH_take (i := 6) (v := ?v58) rfl (by kernel_rfl) (by kernel_rfl) (by kernel_rfl) (fun _ _ _ h => h) (Or.inl ⟨by rfl, ?hy58⟩) hHeld ?rest58
        case hy58 => (intro w' hSw; (try dsimp only at hSw); go_simp; (try with_reducible rfl))
        try simp only [Act.put, List.setIfInBounds_toArray, List.set_cons_zero, List.set_cons_succ, List.getElem_toArray, List.getElem_cons_zero, List.getElem_cons_succ]
        refine wpAnyH_take (i := 7) (v := ?v59) rfl (by kernel_rfl) (by kernel_rfl) (by kernel_rfl) (fun _ _ _ h => h) (Or.inl ⟨by rfl, ?hy59⟩) hHeld ?rest59
        case hy59 => (intro w' hSw; (try dsimp only at hSw); go_simp; (try with_reducible rfl))
        try simp only [Act.put, List.setIfInBounds_toArray, List.set_cons_zero, List.set_cons_succ, List.getElem_toArray, List.getElem_cons_zero, List.getElem_cons_succ]
        refine wpAnyH_take (i := 8) (v := ?v60) rfl (by kernel_rfl) (by kernel_rfl) (by kernel_rfl) (fun _ _ _ h => h) (Or.inl ⟨by rfl, ?hy60⟩) hHeld ?rest60
        case hy60 => (intro w' hSw; (try dsimp only at hSw); go_simp; (try with_reducible rfl))
        try simp only [Act.put, List.setIfInBounds_toArray, List.set_cons_zero, List.set_cons_succ, List.getElem_toArray, List.getElem_cons_zero, List.getElem_cons_succ]
        refine wpAnyH_take (i := 9) (v := ?v61) rfl (by kernel_rfl) (by kernel_rfl) (by kernel_rfl) (fun _ _ _ h => h) (Or.inl ⟨by rfl, ?hy61⟩) hHeld ?rest61
        case hy61 => (intro w' hSw; (try dsimp only at hSw); go_simp; (try with_reducible rfl))
        try simp only [Act.put, List.setIfInBounds_toArray, List.set_cons_zero, List.set_cons_succ, List.getElem_toArray, List.getElem_cons_zero, List.getElem_cons_succ]
        refine wpAnyH_take (i := 10) (v := ?v62) rfl (by kernel_rfl) (by kernel_rfl) (by kernel_rfl) (fun _ _ _ h => h) (Or.inl ⟨by rfl, ?hy62⟩) hHeld ?rest62
        case hy62 => (intro w' hSw; (try dsimp only at hSw); go_simp; (try with_reducible rfl))
        try simp only [Act.put, List.setIfInBounds_toArray, List.set_cons_zero, List.set_cons_succ, List.getElem_toArray, List.getElem_cons_zero, List.getElem_cons_succ]
        refine wpAnyH_ready (rs := [11]) (by kernel_rfl) (by simp) ?_
        refine AllReadyH.cons rfl (fun K hK => ?_) AllReadyH.nil
        go_simp
        refine D1.out.mono ?_
        rintro e w6 ⟨rfl, J6, hT⟩
        have hcu6 := (hT.cell (p := ⟨b, o + i * 2, none⟩) hb (fun e => by have e' : b = g := e; omega)).trans hcu
        have hcv6 := (hT.cell (p := ⟨b, o + i * 2 + 1, none⟩) hb (fun e => by have e' : b = g := e; omega)).trans hcv
        have hb6 : b < w6.heap.size := Nat.lt_of_lt_of_le hb hT.size
        have R6 := HR0.out.drew.height HJ.out.drew hT
        clear D1
        try go_wp2_with fail
        refine hK.out _ _ (⟨hcu6, hcv6⟩) (fun hHeld => ?_)
        clear hK K
        try simp only [Act.put, List.setIfInBounds_toArray, List.set_cons_zero, List.set_cons_succ, List.getElem_toArray, List.getElem_cons_zero, List.getElem_cons_succ]
        refine wpAnyH_done (by kernel_rfl) ?_ _
        have HJ6 := Lib.hid J6
        have c0 := R6.KC.cell (i := 0) rfl
        have c1 := R6.KC.cell (i := 1) rfl
        have c2 := R6.KC.cell (i := 2) rfl
        have hgC6 := R6.KC.lt
        replace D2 := Lib.hid (D2.out w6.drew (Sl.of_own (w := w6.drew) R6.ho))
        have HR6 := Lib.hid R6
        clear J6 hT hcu hcv R6 HR0 HJ
        go_wp2_with fail
        refine wp_region_held_drew (S := (fun w' : World => w'.cell? ⟨gC, 0, none⟩ = some (.int .i64 x) ∧ w'.cell? ⟨gC, 1, none⟩ = some (.int .i64 y) ∧ w'.cell? ⟨gC, 2, none⟩ = some (.slice av m cw) ∧ w'.cell? ⟨b, o + i * 2, none⟩ = some (.int .i64 u) ∧ w'.cell? ⟨b, o + i * 2 + 1, none⟩ = some (.int .i64 v))) (by kernel_rfl) (⟨c0, c1, c2, hcu6, hcv6⟩) (fun hHeld => ?_)
        refine wpAnyH_take (i := 0) (v := ?v64) rfl (by kernel_rfl) (by kernel_rfl) (by kernel_rfl) (fun _ _ _ h => h) (Or.inl ⟨by rfl, ?hy64⟩) hHeld ?rest64
        case hy64 => (intro w' hSw; (try dsimp only at hSw); go_simp; (try with_reducible rfl))
        try simp only [Act.put, List.setIfInBounds_toArray, List.set_cons_zero, List.set_cons_succ, List.getElem_toArray, List.getElem_cons_zero, List.getElem_cons_succ]
        refine wpAnyH_take (i := 1) (v := ?v65) rfl (by kernel_rfl) (by kernel_rfl) (by kernel_rfl) (fun _ _ _ h => h) (Or.inl ⟨by rfl, ?hy65⟩) hHeld ?rest65
        case hy65 => (intro w' hSw; (try dsimp only at hSw); go_simp; (try with_reducible rfl))
        try simp only [Act.put, List.setIfInBounds_toArray, List.set_cons_zero, List.set_cons_succ, List.getElem_toArray, List.getElem_cons_zero, List.getElem_cons_succ]
        refine wpAnyH_take (i := 2) (v := ?v66) rfl (by kernel_rfl) (by kernel_rfl) (by kernel_rfl) (fun _ _ _ h => h) (Or.inl ⟨by rfl, ?hy66⟩) hHeld ?rest66
        case hy66 => (intro w' hSw; (try dsimp only at hSw); go_simp; (try with_reducible rfl))
        try simp only [Act.put, List.setIfInBounds_toArray, List.set_cons_zero, List.set_cons_succ, List.getElem_toArray, List.getElem_cons_zero, List.getElem_cons_succ]
        refine wpAnyH_take (i := 3) (v := ?v67) rfl (by kernel_rfl) (by kernel_rfl) (by kernel_rfl) (fun _ _ _ h => h) (Or.inl ⟨by rfl, ?hy67⟩) hHeld ?rest67
        case hy67 => (intro w' hSw; (try dsimp only at hSw); go_simp; (try with_reducible rfl))
        try simp only [Act.put, List.setIfInBounds_toArray, List.set_cons_zero, List.set_cons_succ, List.getElem_toArray, List.getElem_cons_zero, List.getElem_cons_succ]
        refine wpAnyH_take (i := 4) (v := ?v68) rfl (by kernel_rfl) (by kernel_rfl) (by kernel_rfl) (fun _ _ _ h => h) (Or.inl ⟨by rfl, ?hy68⟩) hHeld ?rest68
        case hy68 => (intro w' hSw; (try dsimp only at hSw); go_simp; (try with_reducible rfl))
        try simp only [Act.put, List.setIfInBounds_toArray, List.set_cons_zero, List.set_cons_succ, List.getElem_toArray, List.getElem_cons_zero, List.getElem_cons_succ]
        refine wpAnyH_take (i := 5) (v := ?v69) rfl (by kernel_rfl) (by kernel_rfl) (by kernel_rfl) (fun _ _ _ h => h) (Or.inl ⟨by rfl, ?hy69⟩) hHeld ?rest69
        case hy69 => (intro w' hSw; (try dsimp only at hSw); go_simp; (try with_reducible rfl))
        try simp only [Act.put, List.setIfInBounds_toArray, List.set_cons_zero, List.set_cons_succ, List.getElem_toArray, List.getElem_cons_zero, List.getElem_cons_succ]
        refine wpAnyH_take (i := 6) (v := ?v70) rfl (by kernel_rfl) (by kernel_rfl) (by kernel_rfl) (fun _ _ _ h => h) (Or.inl ⟨by rfl, ?hy70⟩) hHeld ?rest70
        case hy70 => (intro w' hSw; (try dsimp only at hSw); go_simp; (try with_reducible rfl))
        try simp only [Act.put, List.setIfInBounds_toArray, List.set_cons_zero, List.set_cons_succ, List.getElem_toArray, List.getElem_cons_zero, List.getElem_cons_succ]
        refine wpAnyH_take (i := 7) (v := ?v71) rfl (by kernel_rfl) (by kernel_rfl) (by kernel_rfl) (fun _ _ _ h => h) (Or.inl ⟨by rfl, ?hy71⟩) hHeld ?rest71
        case hy71 => (intro w' hSw; (try dsimp only at hSw); go_simp; (try with_reducible rfl))
        try simp only [Act.put, List.setIfInBounds_toArray, List.set_cons_zero, List.set_cons_succ, List.getElem_toArray, List.getElem_cons_zero, List.getElem_cons_succ]
        refine wpAnyH_take (i := 8) (v := ?v72) rfl (by kernel_rfl) (by kernel_rfl) (by kernel_rfl) (fun _ _ _ h => h) (Or.inl ⟨by rfl, ?hy72⟩) hHeld ?rest72
        case hy72 => (intro w' hSw; (try dsimp only at hSw); go_simp; (try with_reducible rfl))
        try simp only [Act.put, List.setIfInBounds_toArray, List.set_cons_zero, List.set_cons_succ, List.getElem_toArray, List.getElem_cons_zero, List.getElem_cons_succ]
        refine wpAnyH_take (i := 9) (v := ?v73) rfl (by kernel_rfl) (by kernel_rfl) (by kernel_rfl) (fun _ _ _ h => h) (Or.inl ⟨by rfl, ?hy73⟩) hHeld ?rest73
        case hy73 => (intro w' hSw; (try dsimp only at hSw); go_simp; (try with_reducible rfl))
        try simp only [Act.put, List.setIfInBounds_toArray, List.set_cons_zero, List.set_cons_succ, List.getElem_toArray, List.getElem_cons_zero, List.getElem_cons_succ]
        refine wpAnyH_take (i := 10) (v := ?v74) rfl (by kernel_rfl) (by kernel_rfl) (by kernel_rfl) (fun _ _ _ h => h) (Or.inl ⟨by rfl, ?hy74⟩) hHeld ?rest74
        case hy74 => (intro w' hSw; (try dsimp only at hSw); go_simp; (try with_reducible rfl))
        try simp only [Act.put, List.setIfInBounds_toArray, List.set_cons_zero, List.set_cons_succ, List.getElem_toArray, List.getElem_cons_zero, List.getElem_cons_succ]
        refine wpAnyH_take (i := 11) (v := ?v75) rfl (by kernel_rfl) (by kernel_rfl) (by kernel_rfl) (fun _ _ _ h => h) (Or.inl ⟨by rfl, ?hy75⟩) hHeld ?rest75
        case hy75 => (intro w' hSw; (try dsimp only at hSw); go_simp; (try with_reducible rfl))
        try simp only [Act.put, List.setIfInBounds_toArray, List.set_cons_zero, List.set_cons_succ, List.getElem_toArray, List.getElem_cons_zero, List.getElem_cons_succ]
        refine wpAnyH_ready (rs := [12]) (by kernel_rfl) (by simp) ?_
        refine AllReadyH.cons rfl (fun K hK => ?_) AllReadyH.nil
        go_simp
        refine D2.out.mono ?_
        rintro e w7 ⟨rfl, hA⟩
        clear D2
        try go_wp2_with fail
        refine hK.out _ _ (⟨(hA.cell (p := ⟨gC, 0, none⟩) hgC6).trans c0, (hA.cell (p := ⟨gC, 1, none⟩) hgC6).trans c1, (hA.cell (p := ⟨gC, 2, none⟩) hgC6).trans c2, (hA.cell (p := ⟨b, o + i * 2, none⟩) hb6).trans hcu6, (hA.cell (p := ⟨b, o + i * 2 + 1, none⟩) hb6).trans hcv6⟩) (fun hHeld => ?_)
        clear hK K
        try simp only [Act.put, List.setIfInBounds_toArray, List.set_cons_zero, List.set_cons_succ, List.getElem_toArray, List.getElem_cons_zero, List.getElem_cons_succ]
        refine wpAnyH_take (i := 13) (v := ?v77) rfl (by kernel_rfl) (by kernel_rfl) (by kernel_rfl) (fun _ _ _ h => h) (Or.inl ⟨by rfl, ?hy77⟩) hHeld ?rest77
        case hy77 => (intro w' hSw; (try dsimp only at hSw); go_simp; (try with_reducible rfl))
        try simp only [Act.put, List.setIfInBounds_toArray, List.set_cons_zero, List.set_cons_succ, List.getElem_toArray, List.getElem_cons_zero, List.getElem_cons_succ]
        refine wpAnyH_take (i := 14) (v := ?v78) rfl (by kernel_rfl) (by kernel_rfl) (by kernel_rfl) (fun _ _ _ h => h) (Or.inl ⟨by rfl, ?hy78⟩) hHeld ?rest78
        case hy78 => (intro w' hSw; (try dsimp only at hSw); go_simp; (try with_reducible rfl))
        try simp only [Act.put, List.setIfInBounds_toArray, List.set_cons_zero, List.set_cons_succ, List.getElem_toArray, List.getElem_cons_zero, List.getElem_cons_succ]
        refine wpAnyH_take (i := 15) (v := ?v79) rfl (by kernel_rfl) (by kernel_rfl) (by kernel_rfl) (fun _ _ _ h => h) (Or.inl ⟨by rfl, ?hy79⟩) hHeld ?rest79
        case hy79 => (intro w' hSw; (try dsimp only at hSw); go_simp; (try with_reducible rfl))
        try simp only [Act.put, List.setIfInBounds_toArray, List.set_cons_zero, List.set_cons_succ, List.getElem_toArray, List.getElem_cons_zero, List.getElem_cons_succ]
        refine wpAnyH_take (i := 16) (v := ?v80) rfl (by kernel_rfl) (by kernel_rfl) (by kernel_rfl) (fun _ _ _ h => h) (Or.inl ⟨by rfl, ?hy80⟩) hHeld ?rest80
        case hy80 => (intro w' hSw; (try dsimp only at hSw); go_simp; (try with_reducible rfl))
        try simp only [Act.put, List.setIfInBounds_toArray, List.set_cons_zero, List.set_cons_succ, List.getElem_toArray, List.getElem_cons_zero, List.getElem_cons_succ]
        refine wpAnyH_take (i := 17) (v := ?v81) rfl (by kernel_rfl) (by kernel_rfl) (by kernel_rfl) (fun _ _ _ h => h) (Or.inl ⟨by rfl, ?hy81⟩) hHeld ?rest81
        case hy81 => (intro w' hSw; (try dsimp only at hSw); go_simp; (try with_reducible rfl))
        try simp only [Act.put, List.setIfInBounds_toArray, List.set_cons_zero, List.set_cons_succ, List.getElem_toArray, List.getElem_cons_zero, List.getElem_cons_succ]
        refine wpAnyH_done (by kernel_rfl) ?_ _
        have J7 := HJ6.out.drew.below hA
        have R7 := HR6.out.drew.below hA
        have hcu7 := (hA.cell (p := ⟨b, o + i * 2, none⟩) hb6).trans hcu6
        have hcv7 := (hA.cell (p := ⟨b, o + i * 2 + 1, none⟩) hb6).trans hcv6
        have hb7 : b < w7.heap.size := Nat.lt_of_lt_of_le hb6 hA.size
        clear c0 c1 c2 hcu6 hcv6 hA HJ6 HR6 hgC6 hb6
        have J8 := J7
        have R8 := R7
        clear J7 R7 hcu7 hcv7
        have hlen := J8.len
        have D5 := Lib.hid (met10_any _ g F x y 2 0 0 rm L mt ms w7 J8)
        have HJ8 := Lib.hid J8
        have HR8 := Lib.hid R8
        clear J8 R8
        go_wp2_with fail
        refine D5.out.mono ?_
        rintro e w9 ⟨rfl, q9, rfl⟩
        have J9 := HJ8.out.drewN q9
        have R9 := HR8.out.drewN q9
        clear D5 HJ8 HR8
        have D6 := Lib.hid (held_any _ g F x y 2 0 0 rm L mt ms _ J9)
        have HJ9 := Lib.hid J9
        have HR9 := Lib.hid R9
        clear J9 R9
        go_wp2_with fail
        refine D6.out.mono ?_
        rintro e w10 ⟨v10, rfl, hok, hA⟩
        obtain ⟨ak, ck, rfl, hck1, hck2⟩ := ownsRow_slice hok
        have J10 := HJ9.out.below hA
        have R10 := HR9.out.below hA
        have r0 := R10.KR.cell (i := 0) rfl
        have r1 := R10.KR.cell (i := 1) rfl
        have r2 := R10.KR.cell (i := 2) rfl
        have r3 := R10.KR.cell (i := 3) rfl
        have e1 : ((mt : Int) == (mt : Int)) = true := by simp
        have e2 : ((ms : Int) == (ms : Int)) = true := by simp
        obtain ⟨len, hlenE⟩ : ∃ len, len = L.length := ⟨_, rfl⟩
        have e3 : ((len : Int) == (len : Int)) = true := by simp
        have e4 : ¬ ((rm : Int) < (len : Int)) := by omega
        rw [← hlenE] at r1 hok hck1
        unfold maxLen at hck2
        obtain ⟨B9, hB9⟩ : ∃ B9, (World.drewN w7 q9).heap.size = B9 := ⟨_, rfl⟩
        rw [hB9] at hok
        have HLE := Lib.hid hlenE
        have HJ10 := Lib.hid J10
        have HR10 := Lib.hid R10
        have HOK := Lib.hid hok
        rw [← hlenE]
        clear D6 HJ9 HR9 hA J10 R10 hlenE hok hlen hB9
        go_wp2_with fail
        clear r0 r1 r2 r3
        go_loopw [18] (fun q2 wx => ∃ j : Nat, j ≤ len ∧ q2 = .int .i64 j ∧ KeepR w wx g gC gR B6 B7 F x y rm av m cw aL cL L mt ms ∧ CacheI wx B5 g F x y 2 0 0 rm L mt ms ∧ wx.ownsRow B9 3 1 (.slice ak len ck) len (ints L)) (fun q2 _ => len - (intOf q2).toNat)
        case atStart => exact ⟨0, Nat.zero_le _, rfl, HR10.out, HJ10.out, HOK.out⟩
        case round =>
          clear HR10 HJ10 HOK
          obtain ⟨j, hj, rfl, R11, J11, hok⟩ := hrel
          by_cases hjl : j < len
          · have hjL : j < L.length := by rw [← HLE.out]; exact hjl
            obtain ⟨bk, ok, rfl, _, hck⟩ := cell_ints (n := len) (cap := ck) (Sl.of_own hok) j hjL
            have hsL := R11.sL
            rw [← HLE.out] at hsL
            have hmL := hsL.max
            obtain ⟨bl, ol, hbl, _, hcl⟩ := cell_ints hsL j hjL
            have r1 := R11.KR.cell (i := 1) rfl
            rw [← HLE.out, hbl] at r1
            obtain ⟨zz, hzz⟩ : ∃ zz, zz = L[j] := ⟨_, rfl⟩
            rw [← hzz] at hck hcl
            have e5 : ((zz : Int) == (zz : Int)) = true := by simp
            have HR11 := Lib.hid R11
            have HJ11 := Lib.hid J11
            have HOK := Lib.hid hok
            clear R11 J11 hok hsL hzz hbl hjL
            go_wp2_with fail
            go_quiet (fail)
            go_wp2_with fail
            go_roundw
            case rel => exact ⟨j + 1, by omega, by go_num, HR11.out.drewN _, HJ11.out.drewN _, by exact HOK.out⟩
            case measure => simp [intOf]; omega
          · obtain rfl : j = len := by omega
            go_wp2_with fail
            go_roundw
            case rel => exact ⟨i + 1, L, mt, ms, aL, cL, by omega, by go_num, HMS.out.1, HMS.out.2, J11, R11⟩
            case measure => simp [intOf]; omega
    · obtain rfl : i = nl := by omega
      have hB := R.bel
      clear J R
      go_wp2_with fail
      refine (works10_any wr).mono ?_
      rintro e w8 ⟨rfl, hA⟩
      go_wp2_with fail
      go_ret
      exact ⟨rfl, hB.trans (hA.mono hB.size)⟩

theorem cacheKeeps_any (p q r : Nat) (al : Option Addr) (nl cl : Nat) (l : List (Int × Int)) (hp : p < 256) (hq : q < 256) (hr : r < 256) (hl : l.length = nl) (w : World) (hSl : Sl w 2 (.slice al nl cl) nl (ats l)) :
    Calls Try.prog 4 #[.int .u8 p, .int .u8 q, .int .u8 r, .slice al nl cl] w fun e w' => e = .returned (.bool true) ∧ Below w.heap.size w w' := by
  have m2 := hSl.max
  by_cases hbig : 200 < nl
  · exact cacheKeeps_big p q r al nl cl w hbig (by omega)
  · exact cacheKeeps_go p q r al nl cl l hp hq hr hl (by omega) w hSl
end Go.Proofs.Ytiflbbpliioblaa
