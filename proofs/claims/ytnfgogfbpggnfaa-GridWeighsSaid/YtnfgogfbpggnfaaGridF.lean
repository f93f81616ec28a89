/-
  A grid that is spread: the code's.
-/
import Derived.Test.YtnfgogfbpggnfaaGridE
set_option linter.unusedVariables false
set_option linter.unusedSimpArgs false
namespace Go.Th.Grid
open Go Go.RowKit Go.Th
theorem own_blk {w : World} {base g n : Nat} {e : TypeId} {xs : List Value} (h : w.ownsRow base e 1 (.slice (some ⟨g, 0, none⟩) n n) n xs) : Blk w g e xs := by
  obtain ⟨h1, h2⟩ := h
  rcases h2 with ⟨he, _⟩ | ⟨g', cap, cur, he, hb, hh, hnc, hcm, hcs, ht⟩
  · cases he
  · cases he
    unfold Blk
    rw [Nat.mul_one] at hcs ht
    have e : cur.toList = xs := by rw [← ht, List.take_of_length_le (by simp; omega)]
    rw [← e]
    simpa using hh
theorem blk_own {w : World} {base g n : Nat} {e : TypeId} {xs : List Value} (h : Blk w g e xs) (hb : base ≤ g) (hn : xs.length = n) (hm : n ≤ maxLen) : w.ownsRow base e 1 (.slice (some ⟨g, 0, none⟩) n n) n xs := by
  refine ⟨by rw [hn, Nat.mul_one], .inr ⟨g, n, xs.toArray, rfl, hb, h, Nat.le_refl _, hm, by simp [hn], by rw [Nat.mul_one]; simp [← hn]⟩⟩
theorem mem_new {w0 w w' : World} {bs : List (Nat × TypeId × List Value)} {g : Nat} {e : TypeId} {xs : List Value} (M : Mem w0 w bs) (hb : Below w.heap.size w w') (hk : Blk w' g e xs) (hg : w.heap.size ≤ g) : Mem w0 w' ((g, e, xs) :: bs) where
  below := M.below.trans (hb.mono M.below.size)
  nodup := by
    simp only [List.map_cons, List.nodup_cons]
    refine ⟨fun h => ?_, M.nodup⟩
    obtain ⟨e, he, h'⟩ := List.mem_map.1 h
    have := (M.blk e he).lt
    omega
  old := by
    intro e he
    rcases List.mem_cons.1 he with rfl | he
    · exact Nat.le_trans M.below.size hg
    · exact M.old e he
  blk := by
    intro e he
    rcases List.mem_cons.1 he with rfl | he
    · exact hk
    · exact (M.call hb).blk e he
/-- A slice of noughts is made; its block is known. -/
theorem wpL_mkM {P : Program} {w w0 : World} {bs : List (Nat × TypeId × List Value)} {ops : Array Oper} {rest : List Oper} {o : Oper} {a : Act} {Q : Exit → Act → World → Prop} {t e : TypeId} {z : Value} {bytes : Nat} (M : Mem w0 w bs)
    (hU : P.underlying t = some (.slice e)) (hI : (P.info? e).map (fun i => (i.zero, i.size, i.bytes)) = some (some z, 1, bytes)) (hz : z.cells = #[z])
    (hg : o.guard = none) (l c : Operand) (hop : o.op = Op.makeSlice t l c) (n : Nat) (kl kc : IntKind) (hl : a.eval l = .int kl (n : Int)) (hc : a.eval c = .int kc (n : Int))
    (b2 : bytes * n ≤ 281474976710656) (b3 : n ≤ maxLen)
    (hK : ∀ g w', Mem w0 w' ((g, e, List.replicate n z) :: bs) → wpList P ops Q rest (a.put o.dst (.slice (some ⟨g, 0, none⟩) n n)) w') : wpList P ops Q (o :: rest) a w :=
  gmk hU hI hz hg l c hop w.heap.size n kl kc hl hc b2 b3 (Nat.le_refl _) fun w' h hg' => hK _ _ (mem_new M (ggrown hg') (own_blk h) (Nat.le_refl _))
theorem getD_drop (l : List Int) (k j : Nat) : (l.drop k).getD j 0 = l.getD (k + j) 0 := by
  rw [List.getD_eq_getElem?_getD, List.getD_eq_getElem?_getD, List.getElem?_drop]
end Go.Th.Grid
namespace Go.Proofs.Ytnfgogfbpggnfaa
open Go Go.RowKit Go.Th Go.Th.Grid Go.Th.Wide

theorem i64s_drop (l : List Int) (k : Nat) : (i64s l).drop k = i64s (l.drop k) := by simp [i64s, List.map_drop]

set_option maxRecDepth 20000 in
set_option maxHeartbeats 1600000 in
theorem spread_no (x y X Y s q : Int) (a : Option Addr) (n cap : Nat) (p : List Int) (hp : p.length = n) (hn : n ≤ 1000000) (hq : inR q 0 85 = false) (w : World) (hS : Sl w 1 (.slice a n cap) n (i64s p)) :
    Calls Try.prog 17 #[gv x y X Y s (.slice a n cap), .int .i64 q] w (GRes x y X Y s n p 2 w) := by
  have C1 := within_64 q 0 85
  rw [hq] at C1
  have C1 := Lib.hid C1
  have C2 := Lib.hid (fun wx hs => itself_any x y X Y s a n cap p hp hn wx hs)
  have HS := Lib.hid hS
  clear hq hS hp
  (obtain ⟨w1, hw1⟩ : ∃ w1, w.alloc (.cells #[.int .i64 x, .int .i64 y, .int .i64 X, .int .i64 Y, .int .i64 s, .slice a n cap] 24) = w1 := ⟨_, rfl⟩; have M1 := (Mem.start w).alloc 24 (gc x y X Y s (.slice a n cap)); rw [show w.alloc (.cells (gc x y X Y s (.slice a n cap)).toArray 24) = w1 from hw1] at M1; obtain ⟨w2, hw2⟩ : ∃ w2, w1.alloc (.cells #[.int .i64 0, .int .i64 0, .int .i64 0, .int .i64 0, .int .i64 0, .slice none 0 0] 24) = w2 := ⟨_, rfl⟩; have M2 := M1.alloc 24 (gc 0 0 0 0 0 (.slice none 0 0)); rw [show w1.alloc (.cells (gc 0 0 0 0 0 (.slice none 0 0)).toArray 24) = w2 from hw2] at M2; have hsz : w1.heap.size = w.heap.size + 1 := (by rw [← hw1]; simp); have HW1 := Lib.hid hw1; have HW2 := Lib.hid hw2; clear hw1 hw2 M1)
  go_enter Try.func17, Try.ntmps17
  ((go_upto_region 1 with fail); rw [HW1.out, HW2.out, ← hsz]; clear HW1 HW2; obtain ⟨gB, hgB⟩ : ∃ gB, gB = w1.heap.size := ⟨_, rfl⟩; obtain ⟨gA, hgA⟩ : ∃ gA, gA = w.heap.size := ⟨_, rfl⟩; rw [← hgB] at M2 ⊢; rw [← hgA] at M2 ⊢; have hne : gA ≠ gB := (by omega); clear hgA hgB hsz)
  obtain ⟨c0, c1, c2, c3, c4, c5⟩ := gcells (M2.has (.tail _ _ _ _ _ (Has.head _ _ _ _)))
  go_wp2_with fail
  refine (C1.out _).mono ?_
  rintro e wx ⟨rfl, rfl⟩
  go_wp2_with fail
  refine (C2.out _ (HS.out.below M2.below)).mono ?_
  rintro e w4 ⟨a4, cap4, rfl, ho4, hA⟩
  have hz3 := M2.below.size
  have M3 := M2.call hA
  clear c0 c1 c2 c3 c4 c5 hA C2
  go_wp2_with ((with_reducible refine (?_ : Go.wpList _ _ _ (_ :: _) _ _)); (first | go_skip | (refine wpL_stM (v := gv x y X Y s (.slice a4 n cap4)) M3 rfl rfl rfl rfl (wr_g _ _ _ _ _ _ _ _ _ _ _ _ _ _) (Upd.head _ _ _ _ _) ?_; intro w4 M4 hT4)))
  have ho5 := gown_turned ho4 (M3.has (Has.head _ _ _ _)) (by decide) hT4
  ((try simp only [Exit.inBlock, Exit.then]); refine bodyPost_ret (res_cell_tmp rfl M4 rfl (Has.head _ _ _ _) (rd_g _ _ _ _ _ _) rfl) rfl ?_)
  exact ⟨_, _, rfl, ownsRow_base ho5 hz3, M4.below⟩

set_option maxRecDepth 20000 in
set_option maxHeartbeats 6400000 in
theorem spread_yes (x y : Nat) (X Y s q : Int) (a : Option Addr) (n cap : Nat) (p : List Int) (hp : p.length = n) (hxy : n = x * y) (hsd : sdG x y = true) (hr : ∀ u ∈ p, 0 ≤ u ∧ u ≤ 1073741824) (hq : inR q 0 85 = true) (w : World) (hS : Sl w 1 (.slice a n cap) n (i64s p)) :
    Calls Try.prog 17 #[gv x y X Y s (.slice a n cap), .int .i64 q] w (GRes x y X Y s n (spread p x y q) 0 w) := by
  have hqr := inR_t hq
  obtain ⟨⟨q1, q2⟩, q3, q4⟩ := sdG_t hsd
  have hle : x * y ≤ 64 * 64 := Nat.mul_le_mul (by omega) (by omega)
  have hyx : n = y * x := by rw [hxy, Nat.mul_comm]
  have C1 := within_64 q 0 85
  rw [hq] at C1
  have C2 := shape_any x y X Y s a n cap (by rw [hxy]; omega)
  rw [shp_ok hsd hxy] at C2
  have CW := Lib.hid (fun a' cap' => with_any x y X Y s (.slice a n cap) a' n cap' ⟨_, _, _, rfl⟩)
  have hpl : p.length = y * x := by rw [hp, hyx]
  obtain ⟨r, hrr⟩ : ∃ r, r = pass p x y q 1 0 := ⟨_, rfl⟩
  have hrl : r.length = n := by rw [hrr, pass_length, hyx]
  have hrg : ∀ u ∈ r, 0 ≤ u ∧ u ≤ 1073741824 := by rw [hrr]; exact pass_rng 1 0 hqr hpl hr
  obtain ⟨f1, hf1⟩ : ∃ f, f = mixAt p x y q 1 0 := ⟨_, rfl⟩
  obtain ⟨f2, hf2⟩ : ∃ f, f = mixAt r x y q 0 1 := ⟨_, rfl⟩
  have ht1 : tab f1 n = r := by rw [hf1, hrr, hyx]; rfl
  have ht2 : tab f2 n = spread p x y q := by rw [hf2, hyx]; unfold spread; rw [← hrr]; rfl
  rw [← ht2]
  have hat : ∀ yy xx, yy < y → xx < x → yy * x + xx < n := fun yy xx h1 h2 => by rw [hyx]; exact at_lt h2 h1
  have HM1 := fun (yy xx : Nat) (h1 : yy < y) (h2 : xx < x) (a' : Option Addr) (cap' : Nat) wx hs => mixed_any a' (n - yy * x) cap' (p.drop (yy * x)) (by rw [List.length_drop, hp]) (by omega) xx x 1 q h2 (by omega) hqr (fun j hj => by have := hat yy j h1 hj; omega) (fun u hu => hr u (List.mem_of_mem_drop hu)) wx hs
  have HM2 := fun (yy xx : Nat) (h1 : yy < y) (h2 : xx < x) (a' : Option Addr) (cap' : Nat) wx hs => mixed_any a' (n - xx) cap' (r.drop xx) (by rw [List.length_drop, hrl]) (by omega) yy y x q h1 (by omega) hqr (fun j hj => by have := hat j xx hj h2; omega) (fun u hu => hrg u (List.mem_of_mem_drop hu)) wx hs
  have HV1 : ∀ yy xx, yy < y → xx < x → mix q ((p.drop (yy * x)).getD ((xx - 1) * 1) 0) ((p.drop (yy * x)).getD (xx * 1) 0) ((p.drop (yy * x)).getD (min (xx + 1) (x - 1) * 1) 0) = f1 (yy * x + xx) := by
    intro yy xx h1 h2
    rw [hf1, getD_drop, getD_drop, getD_drop]
    unfold mixAt
    rw [div_at yy h2, mod_at yy h2, Nat.mul_one, Nat.mul_one, Nat.mul_one, Nat.sub_zero, Nat.add_zero yy, Nat.min_eq_left (by omega : yy ≤ y - 1)]
  have HV2 : ∀ yy xx, yy < y → xx < x → mix q ((r.drop xx).getD ((yy - 1) * x) 0) ((r.drop xx).getD (yy * x) 0) ((r.drop xx).getD (min (yy + 1) (y - 1) * x) 0) = f2 (yy * x + xx) := by
    intro yy xx h1 h2
    rw [hf2, getD_drop, getD_drop, getD_drop]
    unfold mixAt
    rw [div_at yy h2, mod_at yy h2, Nat.sub_zero, Nat.add_zero xx, Nat.min_eq_left (by omega : xx ≤ x - 1), Nat.add_comm xx, Nat.add_comm xx, Nat.add_comm xx]
  have HM1 := Lib.hid HM1
  have HM2 := Lib.hid HM2
  have HV1 := Lib.hid HV1
  have HV2 := Lib.hid HV2
  have HAT := Lib.hid hat
  have HT1 := Lib.hid ht1
  have HYX := Lib.hid hyx
  have HL1 := Lib.hid (fun k => lay_length f1 k n)
  have HL2 := Lib.hid (fun k => lay_length f2 k n)
  have HN1 := Lib.hid (fun k => lay_set f1 k n)
  have HN2 := Lib.hid (fun k => lay_set f2 k n)
  have HRL := Lib.hid hrl
  have C1 := Lib.hid C1
  have C2 := Lib.hid C2
  have HS := Lib.hid hS
  have hmx := hS.max
  have hn : n ≤ 4096 := by omega
  have hw0 : w.heap.size ≤ w.heap.size := Nat.le_refl _
  have HP := Lib.hid hp
  clear hq hqr hxy hsd hr hS hp hpl hrr hrl hrg hf1 hf2 ht1 ht2 hat hyx hle
  (obtain ⟨w1, hw1⟩ : ∃ w1, w.alloc (.cells #[.int .i64 x, .int .i64 y, .int .i64 X, .int .i64 Y, .int .i64 s, .slice a n cap] 24) = w1 := ⟨_, rfl⟩; have M1 := (Mem.start w).alloc 24 (gc x y X Y s (.slice a n cap)); rw [show w.alloc (.cells (gc x y X Y s (.slice a n cap)).toArray 24) = w1 from hw1] at M1; obtain ⟨w2, hw2⟩ : ∃ w2, w1.alloc (.cells #[.int .i64 0, .int .i64 0, .int .i64 0, .int .i64 0, .int .i64 0, .slice none 0 0] 24) = w2 := ⟨_, rfl⟩; have M2 := M1.alloc 24 (gc 0 0 0 0 0 (.slice none 0 0)); rw [show w1.alloc (.cells (gc 0 0 0 0 0 (.slice none 0 0)).toArray 24) = w2 from hw2] at M2; have hsz : w1.heap.size = w.heap.size + 1 := (by rw [← hw1]; simp); have HW1 := Lib.hid hw1; have HW2 := Lib.hid hw2; clear hw1 hw2 M1)
  go_enter Try.func17, Try.ntmps17
  ((go_upto_region 1 with fail); rw [HW1.out, HW2.out, ← hsz]; clear HW1 HW2; obtain ⟨gB, hgB⟩ : ∃ gB, gB = w1.heap.size := ⟨_, rfl⟩; obtain ⟨gA, hgA⟩ : ∃ gA, gA = w.heap.size := ⟨_, rfl⟩; rw [← hgB] at M2 ⊢; rw [← hgA] at M2 ⊢; have hne : gA ≠ gB := (by omega); clear hgA hgB hsz)
  obtain ⟨c0, c1, c2, c3, c4, c5⟩ := gcells (M2.has (.tail _ _ _ _ _ (Has.head _ _ _ _)))
  go_wp2_with fail
  refine (C1.out _).mono ?_
  rintro e wx ⟨rfl, rfl⟩
  go_wp2_with fail
  refine (C2.out _).mono ?_
  rintro e w3 ⟨rfl, hA⟩
  have M3 := M2.call hA
  clear c0 c1 c2 c3 c4 c5 M2 hA C1 C2
  obtain ⟨c0, c1, c2, c3, c4, c5⟩ := gcells (M3.has (.tail _ _ _ _ _ (Has.head _ _ _ _)))
  go_wp2_with (refine wpL_mkM (t := 22) (e := 2) (z := .int .i64 0) (bytes := 8) M3 Try.underlying22 (by kernel_rfl) rfl rfl _ _ rfl n _ _ rfl rfl (by omega) (by unfold maxLen; omega) ?_)
  intro B1 w4 M4
  clear c0 c1 c2 c3 c4 c5 M3
  obtain ⟨c0, c1, c2, c3, c4, c5⟩ := gcells (M4.has (.tail _ _ _ _ _ (.tail _ _ _ _ _ (Has.head _ _ _ _))))
  go_wp2_with (refine wpL_mkM (t := 22) (e := 2) (z := .int .i64 0) (bytes := 8) M4 Try.underlying22 (by kernel_rfl) rfl rfl _ _ rfl n _ _ rfl rfl (by omega) (by unfold maxLen; omega) ?_)
  intro B2 w5 M5
  clear c0 c1 c2 c3 c4 c5 M4
  rw [i64s_rep] at M5
  have M5' : Mem w w5 [(B2, 2, i64s (lay f2 (0 * x) n)), (B1, 2, i64s (lay f1 (0 * x) n)), (gB, 24, gc 0 0 0 0 0 (.slice none 0 0)), (gA, 24, gc x y X Y s (.slice a n cap))] := by
    rw [Nat.zero_mul, lay_0, lay_0]; exact M5
  clear M5
  obtain ⟨c0, c1, c2, c3, c4, c5⟩ := gcells (M5'.has (.tail _ _ _ _ _ (.tail _ _ _ _ _ (.tail _ _ _ _ _ (Has.head _ _ _ _)))))
  go_wp2_with fail
  go_loopw [35] (fun c wx => ∃ yy : Nat, yy ≤ y ∧ c = .int .i64 yy ∧ Mem w wx [(B2, 2, i64s (lay f2 (0 * x) n)), (B1, 2, i64s (lay f1 (yy * x) n)), (gB, 24, gc 0 0 0 0 0 (.slice none 0 0)), (gA, 24, gc x y X Y s (.slice a n cap))]) (fun c _ => y - (intOf c).toNat)
  case atStart => exact ⟨0, Nat.zero_le _, rfl, M5'⟩
  case round =>
    clear M5' c0 c1 c2 c3 c4 c5
    obtain ⟨yy, hyy, rfl, M⟩ := hrel
    obtain ⟨c0, c1, c2, c3, c4, c5⟩ := gcells (M.has (.tail _ _ _ _ _ (.tail _ _ _ _ _ (.tail _ _ _ _ _ (Has.head _ _ _ _)))))
    by_cases hlt : yy < y
    · obtain ⟨k0, hk0⟩ : ∃ k0, k0 = yy * x := ⟨_, rfl⟩
      have hk1 : (yy + 1) * x = k0 + x := by rw [hk0, Nat.succ_mul]
      have hmul : (yy : Int) * (x : Int) = (k0 : Int) := by rw [hk0]; simp
      have hfit := fun xx (h : xx < x) => HAT.out yy xx hlt h
      have HC := fun xx (h : xx < x) a' cap' wx hs => HM1.out yy xx hlt h a' cap' wx hs
      have HV := fun xx (h : xx < x) => HV1.out yy xx hlt h
      rw [← hk0] at M hfit HC HV
      have hk0n : k0 < n := by have := hfit 0 (by omega); omega
      obtain ⟨ac, capc, hcut, hSc, _, _⟩ := Sl.cut_off E64 HS.out k0 (by omega) (k0 : Int) rfl
      rw [i64s_drop] at hSc
      have HSC := Lib.hid hSc
      have HFIT := Lib.hid hfit
      have HC := Lib.hid HC
      have HV := Lib.hid HV
      have HK1 := Lib.hid hk1
      have hqw : IntKind.i64.wrap (k0 : Int) = (k0 : Int) := IntWalk.i64_in _ (by omega)
      clear hk0 hk1 hfit hSc
      go_wp2_with fail
      go_loopw [40] (fun c wx => ∃ xx : Nat, xx ≤ x ∧ c = .int .i64 xx ∧ Mem w wx [(B2, 2, i64s (lay f2 (0 * x) n)), (B1, 2, i64s (lay f1 (k0 + xx) n)), (gB, 24, gc 0 0 0 0 0 (.slice none 0 0)), (gA, 24, gc x y X Y s (.slice a n cap))]) (fun c _ => x - (intOf c).toNat)
      case atStart => exact ⟨0, Nat.zero_le _, rfl, M⟩
      case round =>
        clear M c0 c1 c2 c3 c4 c5
        obtain ⟨xx, hxx, rfl, M⟩ := hrel
        obtain ⟨c0, c1, c2, c3, c4, c5⟩ := gcells (M.has (.tail _ _ _ _ _ (.tail _ _ _ _ _ (.tail _ _ _ _ _ (Has.head _ _ _ _)))))
        by_cases hlt2 : xx < x
        · have HCx := HC.out xx hlt2 ac capc
          rw [HV.out xx hlt2] at HCx
          have hkn := HFIT.out xx hlt2
          obtain ⟨k, hk⟩ : ∃ k, k = k0 + xx := ⟨_, rfl⟩
          rw [← hk] at HCx hkn M
          have hs1 : IntKind.i64.wrap ((k0 : Int) + (xx : Int)) = (k : Int) := by
            have := IntWalk.i64_in (k : Int) (by omega)
            rw [hk] at this ⊢
            simpa using this
          have hkw : IntKind.i64.wrap (k : Int) = (k : Int) := IntWalk.i64_in _ (by omega)
          have hs2 : (k0 : Int) + (xx : Int) = (k : Int) := by omega
          have HK := Lib.hid hk
          have HS2 := Lib.hid hs2
          have HCx := Lib.hid HCx
          have hN := HN1.out k hkn
          have HN := Lib.hid hN
          have hll := HL1.out k (by omega)
          clear hk hN
          go_wp2_with fail
          refine wp_region_held_drew (S := (fun w' : World => w'.cell? ⟨gA, 0, none⟩ = some (.int .i64 x) ∧ w'.cell? ⟨gA, 1, none⟩ = some (.int .i64 y) ∧ w'.cell? ⟨gA, 2, none⟩ = some (.int .i64 X) ∧ w'.cell? ⟨gA, 3, none⟩ = some (.int .i64 Y) ∧ w'.cell? ⟨gA, 4, none⟩ = some (.int .i64 s) ∧ w'.cell? ⟨gA, 5, none⟩ = some (.slice a n cap))) (by kernel_rfl) (⟨c0, c1, c2, c3, c4, c5⟩) (fun hHeld => ?_)
          refine wpAnyH_take (i := 0) (v := ?v1) rfl (by kernel_rfl) (by kernel_rfl) (by kernel_rfl) (fun _ _ _ h => h) (Or.inl ⟨by rfl, ?hy1⟩) hHeld ?rest1
          case hy1 => (intro w' hSw; (try dsimp only at hSw); go_simp; (try with_reducible rfl))
          try simp only [Act.put, List.setIfInBounds_toArray, List.set_cons_zero, List.set_cons_succ, List.getElem_toArray, List.getElem_cons_zero, List.getElem_cons_succ]
          refine wpAnyH_take (i := 1) (v := ?v2) rfl (by kernel_rfl) (by kernel_rfl) (by kernel_rfl) (fun _ _ _ h => h) (Or.inl ⟨by rfl, ?hy2⟩) hHeld ?rest2
          case hy2 => (intro w' hSw; (try dsimp only at hSw); go_simp; (try with_reducible rfl))
          try simp only [Act.put, List.setIfInBounds_toArray, List.set_cons_zero, List.set_cons_succ, List.getElem_toArray, List.getElem_cons_zero, List.getElem_cons_succ]
          refine wpAnyH_take (i := 2) (v := ?v3) rfl (by kernel_rfl) (by kernel_rfl) (by kernel_rfl) (fun _ _ _ h => h) (Or.inl ⟨by rfl, ?hy3⟩) hHeld ?rest3
          case hy3 => (intro w' hSw; (try dsimp only at hSw); go_simp; (try with_reducible rfl))
          try simp only [Act.put, List.setIfInBounds_toArray, List.set_cons_zero, List.set_cons_succ, List.getElem_toArray, List.getElem_cons_zero, List.getElem_cons_succ]
          refine wpAnyH_take (i := 3) (v := ?v4) rfl (by kernel_rfl) (by kernel_rfl) (by kernel_rfl) (fun _ _ _ h => h) (Or.inl ⟨by rfl, ?hy4⟩) hHeld ?rest4
          case hy4 => (intro w' hSw; (try dsimp only at hSw); go_simp; (try with_reducible rfl))
          try simp only [Act.put, List.setIfInBounds_toArray, List.set_cons_zero, List.set_cons_succ, List.getElem_toArray, List.getElem_cons_zero, List.getElem_cons_succ]
          refine wpAnyH_take (i := 4) (v := ?v5) rfl (by kernel_rfl) (by kernel_rfl) (by kernel_rfl) (fun _ _ _ h => h) (Or.inl ⟨by rfl, ?hy5⟩) hHeld ?rest5
          case hy5 => (intro w' hSw; (try dsimp only at hSw); go_simp; (try with_reducible rfl))
          try simp only [Act.put, List.setIfInBounds_toArray, List.set_cons_zero, List.set_cons_succ, List.getElem_toArray, List.getElem_cons_zero, List.getElem_cons_succ]
          refine wpAnyH_take (i := 5) (v := ?v6) rfl (by kernel_rfl) (by kernel_rfl) (by kernel_rfl) (fun _ _ _ h => h) (Or.inl ⟨by rfl, ?hy6⟩) hHeld ?rest6
          case hy6 => (intro w' hSw; (try dsimp only at hSw); go_simp; (try with_reducible rfl))
          try simp only [Act.put, List.setIfInBounds_toArray, List.set_cons_zero, List.set_cons_succ, List.getElem_toArray, List.getElem_cons_zero, List.getElem_cons_succ]
          refine wpAnyH_take (i := 6) (v := ?v7) rfl (by kernel_rfl) (by kernel_rfl) (by kernel_rfl) (fun _ _ _ h => h) (Or.inl ⟨by rfl, ?hy7⟩) hHeld ?rest7
          case hy7 => (intro w' hSw; (try dsimp only at hSw); go_simp; (try with_reducible rfl))
          try simp only [Act.put, List.setIfInBounds_toArray, List.set_cons_zero, List.set_cons_succ, List.getElem_toArray, List.getElem_cons_zero, List.getElem_cons_succ]
          refine wpAnyH_take (i := 7) (v := ?v8) rfl (by kernel_rfl) (by kernel_rfl) (by kernel_rfl) (fun _ _ _ h => h) (Or.inl ⟨by rfl, ?hy8⟩) hHeld ?rest8
          case hy8 => (intro w' hSw; (try dsimp only at hSw); go_simp; (try with_reducible rfl))
          try simp only [Act.put, List.setIfInBounds_toArray, List.set_cons_zero, List.set_cons_succ, List.getElem_toArray, List.getElem_cons_zero, List.getElem_cons_succ]
          refine wpAnyH_take (i := 8) (v := ?v9) rfl (by kernel_rfl) (by kernel_rfl) (by kernel_rfl) (fun _ _ _ h => h) (Or.inl ⟨by rfl, ?hy9⟩) hHeld ?rest9
          case hy9 => (intro w' hSw; (try dsimp only at hSw); go_simp; (try with_reducible rfl))
          try simp only [Act.put, List.setIfInBounds_toArray, List.set_cons_zero, List.set_cons_succ, List.getElem_toArray, List.getElem_cons_zero, List.getElem_cons_succ]
          refine wpAnyH_take (i := 9) (v := ?v10) rfl (by kernel_rfl) (by kernel_rfl) (by kernel_rfl) (fun _ _ _ h => h) (Or.inl ⟨by rfl, ?hy10⟩) hHeld ?rest10
          case hy10 => (intro w' hSw; (try dsimp only at hSw); go_simp; (try with_reducible rfl))
          try simp only [Act.put, List.setIfInBounds_toArray, List.set_cons_zero, List.set_cons_succ, List.getElem_toArray, List.getElem_cons_zero, List.getElem_cons_succ]
          refine wpAnyH_take (i := 10) (v := ?v11) rfl (by kernel_rfl) (by kernel_rfl) (by kernel_rfl) (fun _ _ _ h => h) (Or.inl ⟨by rfl, ?hy11⟩) hHeld ?rest11
          case hy11 => (intro w' hSw; (try dsimp only at hSw); go_simp; (try with_reducible rfl))
          try simp only [Act.put, List.setIfInBounds_toArray, List.set_cons_zero, List.set_cons_succ, List.getElem_toArray, List.getElem_cons_zero, List.getElem_cons_succ]
          refine wpAnyH_take (i := 11) (v := ?v12) rfl (by kernel_rfl) (by kernel_rfl) (by kernel_rfl) (fun _ _ _ h => h) (Or.inl ⟨by rfl, ?hy12⟩) hHeld ?rest12
          case hy12 => (intro w' hSw; (try dsimp only at hSw); go_simp; (try with_reducible rfl))
          try simp only [Act.put, List.setIfInBounds_toArray, List.set_cons_zero, List.set_cons_succ, List.getElem_toArray, List.getElem_cons_zero, List.getElem_cons_succ]
          refine wpAnyH_take (i := 12) (v := ?v13) rfl (by kernel_rfl) (by kernel_rfl) (by kernel_rfl) (fun _ _ _ h => h) (Or.inl ⟨by rfl, ?hy13⟩) hHeld ?rest13
          case hy13 => (intro w' hSw; (try dsimp only at hSw); go_simp; (try with_reducible rfl))
          try simp only [Act.put, List.setIfInBounds_toArray, List.set_cons_zero, List.set_cons_succ, List.getElem_toArray, List.getElem_cons_zero, List.getElem_cons_succ]
          refine wpAnyH_take (i := 13) (v := ?v14) rfl (by kernel_rfl) (by kernel_rfl) (by kernel_rfl) (fun _ _ _ h => h) (Or.inl ⟨by rfl, ?hy14⟩) hHeld ?rest14
          case hy14 => (intro w' hSw; (try dsimp only at hSw); go_simp; (try with_reducible rfl))
          try simp only [Act.put, List.setIfInBounds_toArray, List.set_cons_zero, List.set_cons_succ, List.getElem_toArray, List.getElem_cons_zero, List.getElem_cons_succ]
          refine wpAnyH_take (i := 14) (v := ?v15) rfl (by kernel_rfl) (by kernel_rfl) (by kernel_rfl) (fun _ _ _ h => h) (Or.inl ⟨by rfl, ?hy15⟩) hHeld ?rest15
          case hy15 => (intro w' hSw; (try dsimp only at hSw); go_simp; (try with_reducible rfl))
          try simp only [Act.put, List.setIfInBounds_toArray, List.set_cons_zero, List.set_cons_succ, List.getElem_toArray, List.getElem_cons_zero, List.getElem_cons_succ]
          refine wpAnyH_take (i := 15) (v := ?v16) rfl (by kernel_rfl) (by kernel_rfl) (by kernel_rfl) (fun _ _ _ h => h) (Or.inl ⟨by rfl, ?hy16⟩) hHeld ?rest16
          case hy16 => (intro w' hSw; (try dsimp only at hSw); go_simp; (try with_reducible rfl))
          try simp only [Act.put, List.setIfInBounds_toArray, List.set_cons_zero, List.set_cons_succ, List.getElem_toArray, List.getElem_cons_zero, List.getElem_cons_succ]
          refine wpAnyH_take (i := 16) (v := ?v17) rfl (by kernel_rfl) (by kernel_rfl) (by kernel_rfl) (fun _ _ _ h => h) (Or.inl ⟨by rfl, ?hy17⟩) hHeld ?rest17
          case hy17 => (intro w' hSw; (try dsimp only at hSw); go_simp; (try with_reducible rfl))
          try simp only [Act.put, List.setIfInBounds_toArray, List.set_cons_zero, List.set_cons_succ, List.getElem_toArray, List.getElem_cons_zero, List.getElem_cons_succ]
          refine wpAnyH_take (i := 17) (v := ?v18) rfl (by kernel_rfl) (by kernel_rfl) (by kernel_rfl) (fun _ _ _ h => h) (Or.inl ⟨by rfl, ?hy18⟩) hHeld ?rest18
          case hy18 => (intro w' hSw; (try dsimp only at hSw); go_simp; (try with_reducible rfl))
          try simp only [Act.put, List.setIfInBounds_toArray, List.set_cons_zero, List.set_cons_succ, List.getElem_toArray, List.getElem_cons_zero, List.getElem_cons_succ]
          refine wpAnyH_ready (rs := [18]) (by kernel_rfl) (by simp) ?_
          refine AllReadyH.cons rfl (fun K hK => ?_) AllReadyH.nil
          go_simp
          refine (HCx.out _ (HSC.out.below M.drew.below)).mono ?_
          rintro e w6 ⟨rfl, hA⟩
          have M6 := M.drew.call hA
          obtain ⟨u0, hu0⟩ : ∃ u0, w6.cell? ⟨B1, k, none⟩ = some (.int .i64 u0) := ⟨_, M6.cell (.tail _ _ _ _ _ (Has.head _ _ _ _)) (i64s_at _ k (by rw [hll]; exact hkn))⟩
          have hf0 := M6.free (.tail _ _ _ _ _ (Has.head _ _ _ _)) k
          try go_wp2_with fail
          refine hK.out _ _ (gcells (M6.has (.tail _ _ _ _ _ (.tail _ _ _ _ _ (.tail _ _ _ _ _ (Has.head _ _ _ _)))))) (fun hHeld => ?_)
          clear hK K
          try simp only [Act.put, List.setIfInBounds_toArray, List.set_cons_zero, List.set_cons_succ, List.getElem_toArray, List.getElem_cons_zero, List.getElem_cons_succ]
          refine wpAnyH_take (i := 19) (v := ?v20) rfl (by kernel_rfl) (by kernel_rfl) (by kernel_rfl) (fun _ _ _ h => h) (Or.inl ⟨by rfl, ?hy20⟩) hHeld ?rest20
          case hy20 => (intro w' hSw; (try dsimp only at hSw); go_simp; (try with_reducible rfl))
          try simp only [Act.put, List.setIfInBounds_toArray, List.set_cons_zero, List.set_cons_succ, List.getElem_toArray, List.getElem_cons_zero, List.getElem_cons_succ]
          refine wpAnyH_ready (rs := [20]) (by kernel_rfl) (by simp) ?_
          refine AllReadyH.cons rfl (fun K hK => ?_) AllReadyH.nil
          go_simp
          have M7 := M6.set k (.int .i64 (f1 k)) (.tail _ _ _ _ _ _ _ (Upd.head _ _ _ _ _)) (by rw [i64s_length, hll]; exact hkn)
          try go_wp2_with fail
          refine hK.out _ _ (gcells (M7.has (.tail _ _ _ _ _ (.tail _ _ _ _ _ (.tail _ _ _ _ _ (Has.head _ _ _ _)))))) (fun hHeld => ?_)
          clear hK K
          try simp only [Act.put, List.setIfInBounds_toArray, List.set_cons_zero, List.set_cons_succ, List.getElem_toArray, List.getElem_cons_zero, List.getElem_cons_succ]
          refine wpAnyH_done (by kernel_rfl) ?_ _
          rw [i64s_set, HN.out] at M7
          clear c0 c1 c2 c3 c4 c5 M M6 hu0 hf0 hA
          go_wp2_with fail
          go_roundw
          case rel => exact ⟨xx + 1, by omega, by go_num, by rw [← Nat.add_assoc, ← HK.out]; exact M7⟩
          case measure => simp [intOf]; omega
        · have e : k0 + xx = (yy + 1) * x := by rw [HK1.out]; omega
          rw [e] at M
          clear e
          go_wp2_with fail
          go_roundw
          case rel => exact ⟨yy + 1, by omega, by go_num, M⟩
          case measure => simp [intOf]; omega
    · have e : yy * x = n := by rw [HYX.out]; congr 1; omega
      rw [e, lay_n, HT1.out] at M
      have M5' := M
      clear M e HM1 HV1 HL1 HN1 HT1 HS
      go_wp2_with fail
      go_loopw [67] (fun c wx => ∃ yy : Nat, yy ≤ y ∧ c = .int .i64 yy ∧ Mem w wx [(B2, 2, i64s (lay f2 (yy * x) n)), (B1, 2, i64s r), (gB, 24, gc 0 0 0 0 0 (.slice none 0 0)), (gA, 24, gc x y X Y s (.slice a n cap))]) (fun c _ => y - (intOf c).toNat)
      case atStart => exact ⟨0, Nat.zero_le _, rfl, M5'⟩
      case round =>
        clear M5' c0 c1 c2 c3 c4 c5 hyy hlt
        obtain ⟨yy, hyy, rfl, M⟩ := hrel
        obtain ⟨c0, c1, c2, c3, c4, c5⟩ := gcells (M.has (.tail _ _ _ _ _ (.tail _ _ _ _ _ (.tail _ _ _ _ _ (Has.head _ _ _ _)))))
        by_cases hlt : yy < y
        · obtain ⟨k0, hk0⟩ : ∃ k0, k0 = yy * x := ⟨_, rfl⟩
          have hk1 : (yy + 1) * x = k0 + x := by rw [hk0, Nat.succ_mul]
          have hmul : (yy : Int) * (x : Int) = (k0 : Int) := by rw [hk0]; simp
          have hfit := fun xx (h : xx < x) => HAT.out yy xx hlt h
          have HC := fun xx (h : xx < x) a' cap' wx hs => HM2.out yy xx hlt h a' cap' wx hs
          have HV := fun xx (h : xx < x) => HV2.out yy xx hlt h
          rw [← hk0] at M hfit HV
          have hk0n : k0 < n := by have := hfit 0 (by omega); omega
          have HFIT := Lib.hid hfit
          have HC := Lib.hid HC
          have HV := Lib.hid HV
          have HK0 := Lib.hid hk0
          have HK1 := Lib.hid hk1
          have hqw : IntKind.i64.wrap (k0 : Int) = (k0 : Int) := IntWalk.i64_in _ (by omega)
          clear hk0 hk1 hfit
          go_wp2_with fail
          go_loopw [72] (fun c wx => ∃ xx : Nat, xx ≤ x ∧ c = .int .i64 xx ∧ Mem w wx [(B2, 2, i64s (lay f2 (k0 + xx) n)), (B1, 2, i64s r), (gB, 24, gc 0 0 0 0 0 (.slice none 0 0)), (gA, 24, gc x y X Y s (.slice a n cap))]) (fun c _ => x - (intOf c).toNat)
          case atStart => exact ⟨0, Nat.zero_le _, rfl, M⟩
          case round =>
            clear M c0 c1 c2 c3 c4 c5
            obtain ⟨xx, hxx, rfl, M⟩ := hrel
            obtain ⟨c0, c1, c2, c3, c4, c5⟩ := gcells (M.has (.tail _ _ _ _ _ (.tail _ _ _ _ _ (.tail _ _ _ _ _ (Has.head _ _ _ _)))))
            by_cases hlt2 : xx < x
            · have hRS := (M.has (.tail _ _ _ _ _ (Has.head _ _ _ _))).sl n (by rw [i64s_length, HRL.out]) (by unfold maxLen; omega)
              obtain ⟨ac, capc, hcut, hSc, _, _⟩ := Sl.cut_off E64 hRS xx (by have := HFIT.out xx hlt2; omega) (xx : Int) rfl
              rw [i64s_drop] at hSc
              have HSC := Lib.hid hSc
              have HCx := HC.out xx hlt2 ac capc
              rw [← HK0.out, HV.out xx hlt2] at HCx
              have hkn := HFIT.out xx hlt2
              obtain ⟨k, hk⟩ : ∃ k, k = k0 + xx := ⟨_, rfl⟩
              rw [← hk] at HCx hkn M
              have hs1 : IntKind.i64.wrap ((k0 : Int) + (xx : Int)) = (k : Int) := by
                have := IntWalk.i64_in (k : Int) (by omega)
                rw [hk] at this ⊢
                simpa using this
              have hkw : IntKind.i64.wrap (k : Int) = (k : Int) := IntWalk.i64_in _ (by omega)
              have hs2 : (k0 : Int) + (xx : Int) = (k : Int) := by omega
              have HK := Lib.hid hk
              have HS2 := Lib.hid hs2
              have HCx := Lib.hid HCx
              have hN := HN2.out k hkn
              have HN := Lib.hid hN
              have hll := HL2.out k (by omega)
              clear hk hN hRS hSc
              go_wp2_with fail
              refine wp_region_held_drew (S := (fun w' : World => w'.cell? ⟨gA, 0, none⟩ = some (.int .i64 x) ∧ w'.cell? ⟨gA, 1, none⟩ = some (.int .i64 y) ∧ w'.cell? ⟨gA, 2, none⟩ = some (.int .i64 X) ∧ w'.cell? ⟨gA, 3, none⟩ = some (.int .i64 Y) ∧ w'.cell? ⟨gA, 4, none⟩ = some (.int .i64 s) ∧ w'.cell? ⟨gA, 5, none⟩ = some (.slice a n cap))) (by kernel_rfl) (⟨c0, c1, c2, c3, c4, c5⟩) (fun hHeld => ?_)
              refine wpAnyH_take (i := 0) (v := ?v22) rfl (by kernel_rfl) (by kernel_rfl) (by kernel_rfl) (fun _ _ _ h => h) (Or.inl ⟨by rfl, ?hy22⟩) hHeld ?rest22
              case hy22 => (intro w' hSw; (try dsimp only at hSw); go_simp; (try with_reducible rfl))
              try simp only [Act.put, List.setIfInBounds_toArray, List.set_cons_zero, List.set_cons_succ, List.getElem_toArray, List.getElem_cons_zero, List.getElem_cons_succ]
              refine wpAnyH_take (i := 1) (v := ?v23) rfl (by kernel_rfl) (by kernel_rfl) (by kernel_rfl) (fun _ _ _ h => h) (Or.inl ⟨by rfl, ?hy23⟩) hHeld ?rest23
              case hy23 => (intro w' hSw; (try dsimp only at hSw); go_simp; (try with_reducible rfl))
              try simp only [Act.put, List.setIfInBounds_toArray, List.set_cons_zero, List.set_cons_succ, List.getElem_toArray, List.getElem_cons_zero, List.getElem_cons_succ]
              refine wpAnyH_take (i := 2) (v := ?v24) rfl (by kernel_rfl) (by kernel_rfl) (by kernel_rfl) (fun _ _ _ h => h) (Or.inl ⟨by rfl, ?hy24⟩) hHeld ?rest24
              case hy24 => (intro w' hSw; (try dsimp only at hSw); go_simp; (try with_reducible rfl))
              try simp only [Act.put, List.setIfInBounds_toArray, List.set_cons_zero, List.set_cons_succ, List.getElem_toArray, List.getElem_cons_zero, List.getElem_cons_succ]
              refine wpAnyH_take (i := 3) (v := ?v25) rfl (by kernel_rfl) (by kernel_rfl) (by kernel_rfl) (fun _ _ _ h => h) (Or.inl ⟨by rfl, ?hy25⟩) hHeld ?rest25
              case hy25 => (intro w' hSw; (try dsimp only at hSw); go_simp; (try with_reducible rfl))
              try simp only [Act.put, List.setIfInBounds_toArray, List.set_cons_zero, List.set_cons_succ, List.getElem_toArray, List.getElem_cons_zero, List.getElem_cons_succ]
              refine wpAnyH_take (i := 4) (v := ?v26) rfl (by kernel_rfl) (by kernel_rfl) (by kernel_rfl) (fun _ _ _ h => h) (Or.inl ⟨by rfl, ?hy26⟩) hHeld ?rest26
              case hy26 => (intro w' hSw; (try dsimp only at hSw); go_simp; (try with_reducible rfl))
              try simp only [Act.put, List.setIfInBounds_toArray, List.set_cons_zero, List.set_cons_succ, List.getElem_toArray, List.getElem_cons_zero, List.getElem_cons_succ]
              refine wpAnyH_take (i := 5) (v := ?v27) rfl (by kernel_rfl) (by kernel_rfl) (by kernel_rfl) (fun _ _ _ h => h) (Or.inl ⟨by rfl, ?hy27⟩) hHeld ?rest27
              case hy27 => (intro w' hSw; (try dsimp only at hSw); go_simp; (try with_reducible rfl))
              try simp only [Act.put, List.setIfInBounds_toArray, List.set_cons_zero, List.set_cons_succ, List.getElem_toArray, List.getElem_cons_zero, List.getElem_cons_succ]
              refine wpAnyH_take (i := 6) (v := ?v28) rfl (by kernel_rfl) (by kernel_rfl) (by kernel_rfl) (fun _ _ _ h => h) (Or.inl ⟨by rfl, ?hy28⟩) hHeld ?rest28
              case hy28 => (intro w' hSw; (try dsimp only at hSw); go_simp; (try with_reducible rfl))
              try simp only [Act.put, List.setIfInBounds_toArray, List.set_cons_zero, List.set_cons_succ, List.getElem_toArray, List.getElem_cons_zero, List.getElem_cons_succ]
              refine wpAnyH_take (i := 7) (v := ?v29) rfl (by kernel_rfl) (by kernel_rfl) (by kernel_rfl) (fun _ _ _ h => h) (Or.inl ⟨by rfl, ?hy29⟩) hHeld ?rest29
              case hy29 => (intro w' hSw; (try dsimp only at hSw); go_simp; (try with_reducible rfl))
              try simp only [Act.put, List.setIfInBounds_toArray, List.set_cons_zero, List.set_cons_succ, List.getElem_toArray, List.getElem_cons_zero, List.getElem_cons_succ]
              refine wpAnyH_take (i := 8) (v := ?v30) rfl (by kernel_rfl) (by kernel_rfl) (by kernel_rfl) (fun _ _ _ h => h) (Or.inl ⟨by rfl, ?hy30⟩) hHeld ?rest30
              case hy30 => (intro w' hSw; (try dsimp only at hSw); go_simp; (try with_reducible rfl))
              try simp only [Act.put, List.setIfInBounds_toArray, List.set_cons_zero, List.set_cons_succ, List.getElem_toArray, List.getElem_cons_zero, List.getElem_cons_succ]
              refine wpAnyH_take (i := 9) (v := ?v31) rfl (by kernel_rfl) (by kernel_rfl) (by kernel_rfl) (fun _ _ _ h => h) (Or.inl ⟨by rfl, ?hy31⟩) hHeld ?rest31
              case hy31 => (intro w' hSw; (try dsimp only at hSw); go_simp; (try with_reducible rfl))
              try simp only [Act.put, List.setIfInBounds_toArray, List.set_cons_zero, List.set_cons_succ, List.getElem_toArray, List.getElem_cons_zero, List.getElem_cons_succ]
              refine wpAnyH_take (i := 10) (v := ?v32) rfl (by kernel_rfl) (by kernel_rfl) (by kernel_rfl) (fun _ _ _ h => h) (Or.inl ⟨by rfl, ?hy32⟩) hHeld ?rest32
              case hy32 => (intro w' hSw; (try dsimp only at hSw); go_simp; (try with_reducible rfl))
              try simp only [Act.put, List.setIfInBounds_toArray, List.set_cons_zero, List.set_cons_succ, List.getElem_toArray, List.getElem_cons_zero, List.getElem_cons_succ]
              refine wpAnyH_take (i := 11) (v := ?v33) rfl (by kernel_rfl) (by kernel_rfl) (by kernel_rfl) (fun _ _ _ h => h) (Or.inl ⟨by rfl, ?hy33⟩) hHeld ?rest33
              case hy33 => (intro w' hSw; (try dsimp only at hSw); go_simp; (try with_reducible rfl))
              try simp only [Act.put, List.setIfInBounds_toArray, List.set_cons_zero, List.set_cons_succ, List.getElem_toArray, List.getElem_cons_zero, List.getElem_cons_succ]
              refine wpAnyH_take (i := 12) (v := ?v34) rfl (by kernel_rfl) (by kernel_rfl) (by kernel_rfl) (fun _ _ _ h => h) (Or.inl ⟨by rfl, ?hy34⟩) hHeld ?rest34
              case hy34 => (intro w' hSw; (try dsimp only at hSw); go_simp; (try with_reducible rfl))
              try simp only [Act.put, List.setIfInBounds_toArray, List.set_cons_zero, List.set_cons_succ, List.getElem_toArray, List.getElem_cons_zero, List.getElem_cons_succ]
              refine wpAnyH_take (i := 13) (v := ?v35) rfl (by kernel_rfl) (by kernel_rfl) (by kernel_rfl) (fun _ _ _ h => h) (Or.inl ⟨by rfl, ?hy35⟩) hHeld ?rest35
              case hy35 => (intro w' hSw; (try dsimp only at hSw); go_simp; (try with_reducible rfl))
              try simp only [Act.put, List.setIfInBounds_toArray, List.set_cons_zero, List.set_cons_succ, List.getElem_toArray, List.getElem_cons_zero, List.getElem_cons_succ]
              refine wpAnyH_take (i := 14) (v := ?v36) rfl (by kernel_rfl) (by kernel_rfl) (by kernel_rfl) (fun _ _ _ h => h) (Or.inl ⟨by rfl, ?hy36⟩) hHeld ?rest36
              case hy36 => (intro w' hSw; (try dsimp only at hSw); go_simp; (try with_reducible rfl))
              try simp only [Act.put, List.setIfInBounds_toArray, List.set_cons_zero, List.set_cons_succ, List.getElem_toArray, List.getElem_cons_zero, List.getElem_cons_succ]
              refine wpAnyH_take (i := 15) (v := ?v37) rfl (by kernel_rfl) (by kernel_rfl) (by kernel_rfl) (fun _ _ _ h => h) (Or.inl ⟨by rfl, ?hy37⟩) hHeld ?rest37
              case hy37 => (intro w' hSw; (try dsimp only at hSw); go_simp; (try with_reducible rfl))
              try simp only [Act.put, List.setIfInBounds_toArray, List.set_cons_zero, List.set_cons_succ, List.getElem_toArray, List.getElem_cons_zero, List.getElem_cons_succ]
              refine wpAnyH_ready (rs := [16]) (by kernel_rfl) (by simp) ?_
              refine AllReadyH.cons rfl (fun K hK => ?_) AllReadyH.nil
              go_simp
              refine (HCx.out _ (HSC.out.below ((Below.refl _ _).drew))).mono ?_
              rintro e w6 ⟨rfl, hA⟩
              have M6 := M.drew.call hA
              obtain ⟨u0, hu0⟩ : ∃ u0, w6.cell? ⟨B2, k, none⟩ = some (.int .i64 u0) := ⟨_, M6.cell (Has.head _ _ _ _) (i64s_at _ k (by rw [hll]; exact hkn))⟩
              have hf0 := M6.free (Has.head _ _ _ _) k
              try go_wp2_with fail
              refine hK.out _ _ (gcells (M6.has (.tail _ _ _ _ _ (.tail _ _ _ _ _ (.tail _ _ _ _ _ (Has.head _ _ _ _)))))) (fun hHeld => ?_)
              clear hK K
              try simp only [Act.put, List.setIfInBounds_toArray, List.set_cons_zero, List.set_cons_succ, List.getElem_toArray, List.getElem_cons_zero, List.getElem_cons_succ]
              refine wpAnyH_take (i := 17) (v := ?v39) rfl (by kernel_rfl) (by kernel_rfl) (by kernel_rfl) (fun _ _ _ h => h) (Or.inl ⟨by rfl, ?hy39⟩) hHeld ?rest39
              case hy39 => (intro w' hSw; (try dsimp only at hSw); go_simp; (try with_reducible rfl))
              try simp only [Act.put, List.setIfInBounds_toArray, List.set_cons_zero, List.set_cons_succ, List.getElem_toArray, List.getElem_cons_zero, List.getElem_cons_succ]
              refine wpAnyH_ready (rs := [18]) (by kernel_rfl) (by simp) ?_
              refine AllReadyH.cons rfl (fun K hK => ?_) AllReadyH.nil
              go_simp
              have M7 := M6.set k (.int .i64 (f2 k)) (Upd.head _ _ _ _ _) (by rw [i64s_length, hll]; exact hkn)
              try go_wp2_with fail
              refine hK.out _ _ (gcells (M7.has (.tail _ _ _ _ _ (.tail _ _ _ _ _ (.tail _ _ _ _ _ (Has.head _ _ _ _)))))) (fun hHeld => ?_)
              clear hK K
              try simp only [Act.put, List.setIfInBounds_toArray, List.set_cons_zero, List.set_cons_succ, List.getElem_toArray, List.getElem_cons_zero, List.getElem_cons_succ]
              refine wpAnyH_done (by kernel_rfl) ?_ _
              rw [i64s_set, HN.out] at M7
              clear c0 c1 c2 c3 c4 c5 M M6 hu0 hf0 hA
              go_wp2_with fail
              go_roundw
              case rel => exact ⟨xx + 1, by omega, by go_num, by rw [← Nat.add_assoc, ← HK.out]; exact M7⟩
              case measure => simp [intOf]; omega
            · have e : k0 + xx = (yy + 1) * x := by rw [HK1.out]; omega
              rw [e] at M
              clear e
              go_wp2_with fail
              go_roundw
              case rel => exact ⟨yy + 1, by omega, by go_num, M⟩
              case measure => simp [intOf]; omega
        · have e : yy * x = n := by rw [HYX.out]; congr 1; omega
          rw [e, lay_n] at M
          have M3 := M
          have hl2 : (tab f2 n).length = n := tab_length _ _
          clear M e HM2 HV2 HL2 HN2
          go_wp2_with fail
          refine (CW.out _ _ _).mono ?_
          rintro e w4 ⟨rfl, hA⟩
          replace M3 := M3.call hA
          clear hA c0 c1 c2 c3 c4 c5
          go_wp2_with ((with_reducible refine (?_ : Go.wpList _ _ _ (_ :: _) _ _)); (first | go_skip | (refine wpL_stM (v := gv x y X Y s (.slice (some ⟨B2, 0, none⟩) n n)) M3 rfl rfl rfl rfl (wr_g _ _ _ _ _ _ _ _ _ _ _ _ _ _) (.tail _ _ _ _ _ _ _ (.tail _ _ _ _ _ _ _ (Upd.head _ _ _ _ _))) ?_; intro w4 M4 hT4)))
          ((try simp only [Exit.inBlock, Exit.then]); refine bodyPost_ret (res_cell_tmp rfl M4 rfl (.tail _ _ _ _ _ (.tail _ _ _ _ _ (Has.head _ _ _ _))) (rd_g _ _ _ _ _ _) rfl) rfl ?_)
          exact ⟨_, _, rfl, blk_own (M4.has (Has.head _ _ _ _)) (M4.from (Has.head _ _ _ _)) (by rw [i64s_length]; exact hl2) (by unfold maxLen; omega), M4.below⟩
end Go.Proofs.Ytnfgogfbpggnfaa
