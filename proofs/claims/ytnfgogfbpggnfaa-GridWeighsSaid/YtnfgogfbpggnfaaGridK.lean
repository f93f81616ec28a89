/-
  Where a place lies; a grid that is moved; a grid that is weighed: the code's.
-/
import Derived.Test.YtnfgogfbpggnfaaGridG
import Derived.Test.YtnfgogfbpggnfaaPackWide
set_option linter.unusedVariables false
set_option linter.unusedSimpArgs false
namespace Go.Th.Grid
open Go Go.RowKit Go.Th
theorem res_cells_tmp2 {P : Program} {w w0 : World} {bs : List (Nat × TypeId × List Value)} {g off : Nat} {t ty : TypeId} {cs : List Value} {v : Value} {fn : Func} {p q r z : Tmp} {ty2 : TypeId} (h : fn.results = #[.cell p ty, .cell q ty2, .tmp r, .tmp z]) (M : Mem w0 w bs) {tmps : Array Value} (hp : tmps.getD p undef = .pointer (some ⟨g, off, none⟩)) (hm : Has bs g t cs) (hr : Rd P ty off cs v)
    {g2 off2 : Nat} {t2 : TypeId} {cs2 : List Value} {v2 u1 u2 : Value} (hq : tmps.getD q undef = .pointer (some ⟨g2, off2, none⟩)) (hm2 : Has bs g2 t2 cs2) (hr2 : Rd P ty2 off2 cs2 v2) (h1 : tmps.getD r undef = u1) (h2 : tmps.getD z undef = u2) : (results fn tmps).run P w = .ok (.tuple #[v, v2, u1, u2]) w := by
  have hp' : tmps[p]?.getD undef = .pointer (some ⟨g, off, none⟩) := by simpa using hp
  have hq' : tmps[q]?.getD undef = .pointer (some ⟨g2, off2, none⟩) := by simpa using hq
  have h1' : tmps[r]?.getD undef = u1 := by simpa using h1
  have h2' : tmps[z]?.getD undef = u2 := by simpa using h2
  simp [results, h, hp', hq', h1', h2', asAddr, hr.run w g t (M.has hm), hr2.run w g2 t2 (M.has hm2)]
/-- What a grid becomes that is weighed. -/
def wgh (p l : List Int) : List Int := if sm (wd p l) = 0 then p else (wd p l).map (share (sm (wd p l)))
end Go.Th.Grid
namespace Go.Proofs.Ytnfgogfbpggnfaa
open Go Go.RowKit Go.Th Go.Th.Grid Go.Th.Wide

/-- A grid is answered, a sum, a weight, and a code. -/
def WRes (x y X Y s : Int) (n : Nat) (l : List Int) (T most c : Int) (w : World) (e : Ending) (w' : World) : Prop :=
  ∃ a cap, e = .returned (.tuple #[gv x y X Y s (.slice a n cap), wv (hiZ T) (loZ T), .int .i64 most, .int .i64 c]) ∧ w'.ownsRow w.heap.size 2 1 (.slice a n cap) n (i64s l) ∧ Below w.heap.size w w'
theorem hi0 : hiZ 0 = 0 := by unfold hiZ; rfl
theorem lo0 : loZ 0 = 0 := by unfold loZ; rfl

set_option maxRecDepth 20000 in
set_option maxHeartbeats 1600000 in
theorem weigh_size (x y X Y s : Int) (a : Option Addr) (n cap : Nat) (p : List Int) (hp : p.length = n) (hn : n ≤ 1000000) (al : Option Addr) (m capl : Nat) (hm : m ≠ n) (hm2 : m ≤ 1000000) (w : World) (hS : Sl w 1 (.slice a n cap) n (i64s p))  :
    Calls Try.prog 21 #[gv x y X Y s (.slice a n cap), .slice al m capl] w (WRes x y X Y s n p 0 0 5 w) := by
  unfold WRes
  rw [hi0, lo0]
  have C4 := Lib.hid (fun wx hs => itself_any x y X Y s a n cap p hp hn wx hs)
  have HS := Lib.hid hS
  have hmx := hS.max
  clear hS hp
  have hq : ((m : Int) != (n : Int)) = true := by simp; omega
  obtain ⟨w1, hw1⟩ : ∃ w1, w.alloc (.cells #[.int .i64 x, .int .i64 y, .int .i64 X, .int .i64 Y, .int .i64 s, .slice a n cap] 24) = w1 := ⟨_, rfl⟩
  have M1 := (Mem.start w).alloc 24 (gc x y X Y s (.slice a n cap))
  rw [show w.alloc (.cells (gc x y X Y s (.slice a n cap)).toArray 24) = w1 from hw1] at M1
  obtain ⟨w2, hw2⟩ : ∃ w2, w1.alloc (.cells #[.int .i64 0, .int .i64 0, .int .i64 0, .int .i64 0, .int .i64 0, .slice none 0 0] 24) = w2 := ⟨_, rfl⟩
  have M2 := M1.alloc 24 (gc 0 0 0 0 0 (.slice none 0 0))
  rw [show w1.alloc (.cells (gc 0 0 0 0 0 (.slice none 0 0)).toArray 24) = w2 from hw2] at M2
  obtain ⟨w3, hw3⟩ : ∃ w3, w2.alloc (.cells #[.int .i64 0, .int .u64 0] 41) = w3 := ⟨_, rfl⟩
  have M3 := M2.alloc 41 [.int .i64 0, .int .u64 0]
  rw [show w2.alloc (.cells [Value.int .i64 0, .int .u64 0].toArray 41) = w3 from hw3] at M3
  have hsz : w1.heap.size = w.heap.size + 1 := by rw [← hw1]; simp
  have hsz2 : w2.heap.size = w1.heap.size + 1 := by rw [← hw2]; simp
  have HW1 := Lib.hid hw1
  have HW2 := Lib.hid hw2
  have HW3 := Lib.hid hw3
  have HZ1 := Lib.hid hsz
  have HZ2 := Lib.hid hsz2
  clear hw1 hw2 hw3 M1 M2 hsz hsz2
  go_enter Try.func21, Try.ntmps21
  go_upto_region 1 with fail
  rw [HW1.out, HW2.out, HW3.out]
  first
    | rw [← HZ1.out, ← HZ2.out]
    | rw [show w.heap.size + 2 = w2.heap.size by rw [HZ2.out, HZ1.out], ← HZ1.out]
  clear HW1 HW2 HW3
  obtain ⟨gW, hgW⟩ : ∃ gW, gW = w2.heap.size := ⟨_, rfl⟩
  obtain ⟨gB, hgB⟩ : ∃ gB, gB = w1.heap.size := ⟨_, rfl⟩
  obtain ⟨gA, hgA⟩ : ∃ gA, gA = w.heap.size := ⟨_, rfl⟩
  rw [← hgW] at M3 ⊢
  rw [← hgB] at M3 ⊢
  rw [← hgA] at M3 ⊢
  clear hgA hgB hgW HZ1 HZ2
  obtain ⟨c0, c1, c2, c3, c4, c5⟩ := gcells (M3.has (.tail _ _ _ _ _ (.tail _ _ _ _ _ (Has.head _ _ _ _))))
  go_wp2_with fail
  refine (C4.out _ (HS.out.below M3.below)).mono ?_
  rintro e w4 ⟨a4, cap4, rfl, ho4, hA⟩
  have hz3 := M3.below.size
  replace M3 := M3.call hA
  clear c0 c1 c2 c3 c4 c5 hA
  go_wp2_with ((with_reducible refine (?_ : Go.wpList _ _ _ (_ :: _) _ _)); (first | go_skip | (refine wpL_stM (v := gv x y X Y s (.slice a4 n cap4)) M3 rfl rfl rfl rfl (wr_g _ _ _ _ _ _ _ _ _ _ _ _ _ _) (.tail _ _ _ _ _ _ _ (Upd.head _ _ _ _ _)) ?_; intro w4 M4 hT4) | (refine wpL_stM (v := wv 0 0) M4 rfl rfl rfl rfl (wr_w _ rfl _ _) (Upd.head _ _ _ _ _) ?_; intro w5 M5 hT5)))
  have ho5 := gown_turned (gown_turned ho4 (M3.has (.tail _ _ _ _ _ (Has.head _ _ _ _))) (by decide) hT4) (M4.has (Has.head _ _ _ _)) (by decide) hT5
  ((try simp only [Exit.inBlock, Exit.then]); refine bodyPost_ret (res_cells_tmp2 rfl M5 rfl (.tail _ _ _ _ _ (Has.head _ _ _ _)) (rd_g _ _ _ _ _ _) rfl (Has.head _ _ _ _) (rd_w _ _) rfl rfl) rfl ?_)
  exact ⟨_, _, rfl, ownsRow_base ho5 hz3, M5.below⟩

set_option maxRecDepth 20000 in
set_option maxHeartbeats 1600000 in
theorem weigh_arg (x y X Y s : Int) (a : Option Addr) (n cap : Nat) (p : List Int) (hp : p.length = n) (hn : n ≤ 1000000) (al : Option Addr) (m capl : Nat) (hm : n = m) (l : List Int) (hl : l.length = m) (hall : allIn l 65536 = false) (w : World) (hS : Sl w 1 (.slice a n cap) n (i64s p)) (hT : Sl w 1 (.slice al m capl) m (i64s l)) :
    Calls Try.prog 21 #[gv x y X Y s (.slice a n cap), .slice al m capl] w (WRes x y X Y s n p 0 0 1 w) := by
  unfold WRes
  rw [hi0, lo0]
  have C4 := Lib.hid (fun wx hs => itself_any x y X Y s a n cap p hp hn wx hs)
  have HS := Lib.hid hS
  have hmx := hS.max
  clear hS hp
  subst hm
  have hq : ((n : Int) != (n : Int)) = false := by simp
  have CW := fun wx hs => areWithin_any 65536 al n capl l hl wx hs
  rw [hall] at CW
  have CW := Lib.hid CW
  have HT := Lib.hid hT
  have hmy := hT.max
  clear hall hl hT
  obtain ⟨w1, hw1⟩ : ∃ w1, w.alloc (.cells #[.int .i64 x, .int .i64 y, .int .i64 X, .int .i64 Y, .int .i64 s, .slice a n cap] 24) = w1 := ⟨_, rfl⟩
  have M1 := (Mem.start w).alloc 24 (gc x y X Y s (.slice a n cap))
  rw [show w.alloc (.cells (gc x y X Y s (.slice a n cap)).toArray 24) = w1 from hw1] at M1
  obtain ⟨w2, hw2⟩ : ∃ w2, w1.alloc (.cells #[.int .i64 0, .int .i64 0, .int .i64 0, .int .i64 0, .int .i64 0, .slice none 0 0] 24) = w2 := ⟨_, rfl⟩
  have M2 := M1.alloc 24 (gc 0 0 0 0 0 (.slice none 0 0))
  rw [show w1.alloc (.cells (gc 0 0 0 0 0 (.slice none 0 0)).toArray 24) = w2 from hw2] at M2
  obtain ⟨w3, hw3⟩ : ∃ w3, w2.alloc (.cells #[.int .i64 0, .int .u64 0] 41) = w3 := ⟨_, rfl⟩
  have M3 := M2.alloc 41 [.int .i64 0, .int .u64 0]
  rw [show w2.alloc (.cells [Value.int .i64 0, .int .u64 0].toArray 41) = w3 from hw3] at M3
  have hsz : w1.heap.size = w.heap.size + 1 := by rw [← hw1]; simp
  have hsz2 : w2.heap.size = w1.heap.size + 1 := by rw [← hw2]; simp
  have HW1 := Lib.hid hw1
  have HW2 := Lib.hid hw2
  have HW3 := Lib.hid hw3
  have HZ1 := Lib.hid hsz
  have HZ2 := Lib.hid hsz2
  clear hw1 hw2 hw3 M1 M2 hsz hsz2
  go_enter Try.func21, Try.ntmps21
  go_upto_region 1 with fail
  rw [HW1.out, HW2.out, HW3.out]
  first
    | rw [← HZ1.out, ← HZ2.out]
    | rw [show w.heap.size + 2 = w2.heap.size by rw [HZ2.out, HZ1.out], ← HZ1.out]
  clear HW1 HW2 HW3
  obtain ⟨gW, hgW⟩ : ∃ gW, gW = w2.heap.size := ⟨_, rfl⟩
  obtain ⟨gB, hgB⟩ : ∃ gB, gB = w1.heap.size := ⟨_, rfl⟩
  obtain ⟨gA, hgA⟩ : ∃ gA, gA = w.heap.size := ⟨_, rfl⟩
  rw [← hgW] at M3 ⊢
  rw [← hgB] at M3 ⊢
  rw [← hgA] at M3 ⊢
  clear hgA hgB hgW HZ1 HZ2
  obtain ⟨c0, c1, c2, c3, c4, c5⟩ := gcells (M3.has (.tail _ _ _ _ _ (.tail _ _ _ _ _ (Has.head _ _ _ _))))
  go_wp2_with fail
  refine (CW.out _ (HT.out.below M3.below)).mono ?_
  rintro e w9 ⟨rfl, hA⟩
  replace M3 := M3.call hA
  clear c0 c1 c2 c3 c4 c5 hA CW
  obtain ⟨c0, c1, c2, c3, c4, c5⟩ := gcells (M3.has (.tail _ _ _ _ _ (.tail _ _ _ _ _ (Has.head _ _ _ _))))
  go_wp2_with fail
  refine (C4.out _ (HS.out.below M3.below)).mono ?_
  rintro e w4 ⟨a4, cap4, rfl, ho4, hA⟩
  have hz3 := M3.below.size
  replace M3 := M3.call hA
  clear c0 c1 c2 c3 c4 c5 hA
  go_wp2_with ((with_reducible refine (?_ : Go.wpList _ _ _ (_ :: _) _ _)); (first | go_skip | (refine wpL_stM (v := gv x y X Y s (.slice a4 n cap4)) M3 rfl rfl rfl rfl (wr_g _ _ _ _ _ _ _ _ _ _ _ _ _ _) (.tail _ _ _ _ _ _ _ (Upd.head _ _ _ _ _)) ?_; intro w4 M4 hT4) | (refine wpL_stM (v := wv 0 0) M4 rfl rfl rfl rfl (wr_w _ rfl _ _) (Upd.head _ _ _ _ _) ?_; intro w5 M5 hT5)))
  have ho5 := gown_turned (gown_turned ho4 (M3.has (.tail _ _ _ _ _ (Has.head _ _ _ _))) (by decide) hT4) (M4.has (Has.head _ _ _ _)) (by decide) hT5
  ((try simp only [Exit.inBlock, Exit.then]); refine bodyPost_ret (res_cells_tmp2 rfl M5 rfl (.tail _ _ _ _ _ (Has.head _ _ _ _)) (rd_g _ _ _ _ _ _) rfl (Has.head _ _ _ _) (rd_w _ _) rfl rfl) rfl ?_)
  exact ⟨_, _, rfl, ownsRow_base ho5 hz3, M5.below⟩

set_option maxRecDepth 20000 in
set_option maxHeartbeats 6400000 in
theorem weigh_any (x y X Y s : Int) (a al : Option Addr) (n cap capl : Nat) (p l : List Int) (hp : p.length = n) (hl : l.length = n) (hn : n ≤ 65536) (hr : ∀ u ∈ p, 0 ≤ u ∧ u ≤ 1073741824) (hall : allIn l 65536 = true) (w : World) (hS : Sl w 1 (.slice a n cap) n (i64s p)) (hT : Sl w 1 (.slice al n capl) n (i64s l)) :
    Calls Try.prog 21 #[gv x y X Y s (.slice a n cap), .slice al n capl] w (WRes x y X Y s n (wgh p l) (sm (wd p l)) (mxl l) (normC (wd p l)) w) := by
  have hlr := allIn_iff.1 hall
  have hwr := wd_rng (by rw [hl, hp]) hr hlr
  have hwl : (wd p l).length = n := by rw [wd_length, hl]
  have hws := sm_rng hwr
  rw [hwl] at hws
  have hw0 : ∀ u ∈ wd p l, 0 ≤ u := fun u hu => (hwr u hu).1
  have hge := sm_ge hw0
  have CT := fun a' cap' wx hs => total_any a' n cap' (wd p l) hwl (sm_fits hw0 (by omega)) wx hs
  have CW := fun wx hs => areWithin_any 65536 al n capl l hl wx hs
  rw [hall] at CW
  have hpr : ∀ i, i < n → ∃ u v z : Int, p.getD i 0 = u ∧ l.getD i 0 = v ∧ u * v = z ∧ (wd p l).getD i 0 = z ∧ 0 ≤ z ∧ z ≤ 70368744177664 ∧ 0 ≤ v ∧ v ≤ 65536 := by
    intro i hi
    have h1 : (wd p l).getD i 0 = p.getD i 0 * l.getD i 0 := by unfold wd; exact tab_getD _ _ (by rw [hl]; exact hi)
    have h2 := getD_mem (P := fun u => 0 ≤ u ∧ u ≤ 70368744177664) hwr (by rw [hwl]; exact hi : i < (wd p l).length)
    have h3 := getD_mem (P := fun u => 0 ≤ u ∧ u ≤ 65536) hlr (by rw [hl]; exact hi : i < l.length)
    exact ⟨_, _, _, rfl, rfl, rfl, h1, by rw [← h1]; exact h2.1, by rw [← h1]; exact h2.2, h3.1, h3.2⟩
  obtain ⟨fw, hfw⟩ : ∃ f : Nat → Int, f = fun i => p.getD i 0 * l.getD i 0 := ⟨_, rfl⟩
  have htab : tab fw n = wd p l := by rw [hfw, ← hl]; rfl
  have hfi : ∀ i, i < n → fw i = (wd p l).getD i 0 := fun i hi => by rw [← htab, tab_getD _ _ hi]
  have hmt := fun i (hi : i < n) => mxl_take l i (by rw [hl]; exact hi)
  have hma : mxl (l.take n) = mxl l := by rw [List.take_of_length_le (by rw [hl]; exact Nat.le_refl _)]
  have hm0 : mxl (l.take 0) = 0 := rfl
  have HMX := Lib.hid (fun (A B : Int) (ts : Array TypeId) (t : TypeId) (wx : World) => Lib.run_max_ints (P := Try.prog) wx ts t .i64 .i64 A B)
  obtain ⟨T, hTT⟩ : ∃ T, T = sm (wd p l) := ⟨_, rfl⟩
  obtain ⟨NL, hNL⟩ : ∃ NL, NL = wgh p l := ⟨_, rfl⟩
  obtain ⟨NC, hNC⟩ : ∃ NC, NC = normC (wd p l) := ⟨_, rfl⟩
  have hnorm : NL = if T = 0 then p else (wd p l).map (share T) := by rw [hTT, hNL]; rfl
  have hnormC : NC = if T = 0 then 7 else 0 := by rw [hTT, hNC]; rfl
  rw [← hNL, ← hNC]
  clear hNL hNC
  rw [← hTT] at CT hge hws ⊢
  have CH := fun (h0 : 0 < T) a' cap' wx hs => shares_any T a' n cap' (wd p l) hwl (by omega) h0 (by omega) (fun u hu => ⟨hw0 u hu, hge u hu⟩) wx hs
  have COf := Of_any T ⟨by omega, by omega⟩
  obtain ⟨MX, hMX⟩ : ∃ M, M = mxl l := ⟨_, rfl⟩
  rw [← hMX] at hma ⊢
  obtain ⟨L, hLL⟩ : ∃ L, L = wd p l := ⟨_, rfl⟩
  rw [← hLL] at hnorm CT CH htab hfi hpr
  have HN := Lib.hid hnorm
  have HNC := Lib.hid hnormC
  have CT := Lib.hid CT
  have CH := Lib.hid CH
  have COf := Lib.hid COf
  have CW := Lib.hid CW
  have C2 := Lib.hid (fun a' cap' => with_any x y X Y s (.slice a n cap) a' n cap' ⟨_, _, _, rfl⟩)
  have C4 := Lib.hid (fun wx hs => itself_any x y X Y s a n cap p hp (by omega) wx hs)
  have HPR := Lib.hid hpr
  have HTAB := Lib.hid htab
  have HFI := Lib.hid hfi
  have HMT := Lib.hid hmt
  have HMA := Lib.hid hma
  have HM0 := Lib.hid hm0
  have HLL := Lib.hid (fun k => lay_length fw k n)
  have HLN := Lib.hid (fun k => lay_set fw k n)
  have HP := Lib.hid hp
  have HLn := Lib.hid hl
  have HS := Lib.hid hS
  have HT := Lib.hid hT
  have hmx := hS.max
  have hmy := hT.max
  have hq : ((n : Int) != (n : Int)) = false := by simp
  clear hlr hwr hwl hw0 hge hpr hfw htab hfi hmt hma hm0 hTT hnorm hnormC hMX hLL hS hT hp hl hr hall
  obtain ⟨w1, hw1⟩ : ∃ w1, w.alloc (.cells #[.int .i64 x, .int .i64 y, .int .i64 X, .int .i64 Y, .int .i64 s, .slice a n cap] 24) = w1 := ⟨_, rfl⟩
  have M1 := (Mem.start w).alloc 24 (gc x y X Y s (.slice a n cap))
  rw [show w.alloc (.cells (gc x y X Y s (.slice a n cap)).toArray 24) = w1 from hw1] at M1
  obtain ⟨w2, hw2⟩ : ∃ w2, w1.alloc (.cells #[.int .i64 0, .int .i64 0, .int .i64 0, .int .i64 0, .int .i64 0, .slice none 0 0] 24) = w2 := ⟨_, rfl⟩
  have M2 := M1.alloc 24 (gc 0 0 0 0 0 (.slice none 0 0))
  rw [show w1.alloc (.cells (gc 0 0 0 0 0 (.slice none 0 0)).toArray 24) = w2 from hw2] at M2
  obtain ⟨w3, hw3⟩ : ∃ w3, w2.alloc (.cells #[.int .i64 0, .int .u64 0] 41) = w3 := ⟨_, rfl⟩
  have M3 := M2.alloc 41 [.int .i64 0, .int .u64 0]
  rw [show w2.alloc (.cells [Value.int .i64 0, .int .u64 0].toArray 41) = w3 from hw3] at M3
  have hsz : w1.heap.size = w.heap.size + 1 := by rw [← hw1]; simp
  have hsz2 : w2.heap.size = w1.heap.size + 1 := by rw [← hw2]; simp
  have HW1 := Lib.hid hw1
  have HW2 := Lib.hid hw2
  have HW3 := Lib.hid hw3
  have HZ1 := Lib.hid hsz
  have HZ2 := Lib.hid hsz2
  clear hw1 hw2 hw3 M1 M2 hsz hsz2
  go_enter Try.func21, Try.ntmps21
  go_upto_region 1 with fail
  rw [HW1.out, HW2.out, HW3.out]
  first
    | rw [← HZ1.out, ← HZ2.out]
    | rw [show w.heap.size + 2 = w2.heap.size by rw [HZ2.out, HZ1.out], ← HZ1.out]
  clear HW1 HW2 HW3
  obtain ⟨gW, hgW⟩ : ∃ gW, gW = w2.heap.size := ⟨_, rfl⟩
  obtain ⟨gB, hgB⟩ : ∃ gB, gB = w1.heap.size := ⟨_, rfl⟩
  obtain ⟨gA, hgA⟩ : ∃ gA, gA = w.heap.size := ⟨_, rfl⟩
  rw [← hgW] at M3 ⊢
  rw [← hgB] at M3 ⊢
  rw [← hgA] at M3 ⊢
  clear hgA hgB hgW HZ1 HZ2
  obtain ⟨c0, c1, c2, c3, c4, c5⟩ := gcells (M3.has (.tail _ _ _ _ _ (.tail _ _ _ _ _ (Has.head _ _ _ _))))
  go_wp2_with fail
  refine (CW.out _ (HT.out.below M3.below)).mono ?_
  rintro e w9 ⟨rfl, hA⟩
  replace M3 := M3.call hA
  clear c0 c1 c2 c3 c4 c5 hA CW
  go_wp2_with (refine wpL_mkM (t := 22) (e := 2) (z := .int .i64 0) (bytes := 8) M3 Try.underlying22 (by kernel_rfl) rfl rfl _ _ rfl n _ _ rfl rfl (by omega) (by unfold maxLen; omega) ?_)
  intro Bw w4 M4
  rw [i64s_rep, ← lay_0 fw n] at M4
  clear M3
  go_wp2_with fail
  go_loopw [9, 33] (fun v c wx => ∃ i : Nat, i ≤ n ∧ c = .int .i64 i ∧ v = .int .i64 (mxl (l.take i)) ∧ Mem w wx [(Bw, 2, i64s (lay fw i n)), (gW, 41, [.int .i64 0, .int .u64 0]), (gB, 24, gc 0 0 0 0 0 (.slice none 0 0)), (gA, 24, gc x y X Y s (.slice a n cap))]) (fun _ c _ => n - (intOf c).toNat)
  case atStart => exact ⟨0, Nat.zero_le _, rfl, by rw [HM0.out], M4⟩
  case round =>
    clear M4
    obtain ⟨i, hi, rfl, rfl, M⟩ := hrel
    by_cases hlt : i < n
    · obtain ⟨u, v, z, hu, hv, huv, hz, hz0, hz1, hv0, hv1⟩ := HPR.out i hlt
      obtain ⟨b, o, rfl, _, cu⟩ := cell64 (HS.out.below M.below) i (by rw [HP.out]; exact hlt)
      obtain ⟨bl, ol, rfl, _, cv⟩ := cell64 (HT.out.below M.below) i (by rw [HLn.out]; exact hlt)
      rw [hu] at cu
      rw [hv] at cv
      have hfz : fw i = z := by rw [HFI.out i hlt, hz]
      have hmt := HMT.out i hlt
      rw [hv] at hmt
      obtain ⟨M0, hM0⟩ : ∃ M0, M0 = mxl (l.take i) := ⟨_, rfl⟩
      rw [← hM0] at hmt ⊢
      obtain ⟨M1, hM1⟩ : ∃ M1, M1 = max M0 v := ⟨_, rfl⟩
      have hmxe : ∀ (ts : Array TypeId) (t : TypeId) (wx : World), (Builtin.max_ ts t #[.int .i64 M0, .int .i64 v]).run Try.prog wx = .ok (.int .i64 M1) wx := fun ts t wx => by rw [hM1]; exact HMX.out M0 v ts t wx
      rw [← hM1] at hmt
      have hst := HLN.out i hlt
      rw [hfz] at hst
      have hll := HLL.out i hi
      have wz : IntKind.i64.wrap z = z := IntWalk.i64_in _ (by omega)
      have HST := Lib.hid hst
      have HMTi := Lib.hid hmt
      obtain ⟨c0, c1, c2, c3, c4, c5⟩ := gcells (M.has (.tail _ _ _ _ _ (.tail _ _ _ _ _ (.tail _ _ _ _ _ (Has.head _ _ _ _)))))
      obtain ⟨u0, hu0⟩ : ∃ u0, wr.cell? ⟨Bw, i, none⟩ = some (.int .i64 u0) := ⟨_, M.cell (Has.head _ _ _ _) (i64s_at _ i (by rw [hll]; exact hlt))⟩
      have hf0 := M.free (Has.head _ _ _ _) i
      have M7 := M.set i (.int .i64 z) (Upd.head _ _ _ _ _) (by rw [i64s_length, hll]; exact hlt)
      rw [i64s_set, HST.out] at M7
      clear hu hv hz hfz hM0 hM1 hmt hst M
      go_wp2_with fail
      go_roundw
      case rel => exact ⟨i + 1, by omega, by go_num, by rw [HMTi.out], M7⟩
      case measure => simp [intOf]; omega
    · obtain rfl : n = i := by omega
      rw [lay_n, HTAB.out] at M
      rw [HMA.out]
      have hTl : L.length = n := by rw [← HTAB.out, tab_length]
      have HTL := Lib.hid hTl
      have hLS := Lib.hid (fun wx (Mx : Blk wx Bw 2 (i64s L)) => Mx.sl n (by rw [i64s_length, HTL.out]) (by unfold maxLen; omega))
      clear hTl HMT HLL HLN HPR HFI
      go_wp2_with fail
      refine (CT.out _ _ _ (hLS.out _ (M.has (Has.head _ _ _ _)))).mono ?_
      rintro e wx ⟨rfl, rfl⟩
      clear CT
      obtain ⟨c0, c1, c2, c3, c4, c5⟩ := gcells (M.has (.tail _ _ _ _ _ (.tail _ _ _ _ _ (.tail _ _ _ _ _ (Has.head _ _ _ _)))))
      by_cases h0 : T = 0
      · subst h0
        have e1 := HN.out
        have e2 := HNC.out
        rw [if_pos rfl] at e1 e2
        subst e1 e2
        go_wp2_with fail
        refine (C4.out _ (HS.out.below M.below)).mono ?_
        rintro e w4 ⟨a4, cap4, rfl, ho4, hA⟩
        have hz3 := M.below.size
        replace M := M.call hA
        clear c0 c1 c2 c3 c4 c5 hA
        go_wp2_with ((with_reducible refine (?_ : Go.wpList _ _ _ (_ :: _) _ _)); (first | go_skip | (refine wpL_stM (v := gv x y X Y s (.slice a4 n cap4)) M rfl rfl rfl rfl (wr_g _ _ _ _ _ _ _ _ _ _ _ _ _ _) (.tail _ _ _ _ _ _ _ (.tail _ _ _ _ _ _ _ (Upd.head _ _ _ _ _))) ?_; intro w4 M4 hT4) | (refine wpL_stM (v := wv 0 0) M4 rfl rfl rfl rfl (wr_w _ rfl _ _) (.tail _ _ _ _ _ _ _ (Upd.head _ _ _ _ _)) ?_; intro w5 M5 hT5)))
        have ho5 := gown_turned (gown_turned ho4 (M.has (.tail _ _ _ _ _ (.tail _ _ _ _ _ (Has.head _ _ _ _)))) (by decide) hT4) (M4.has (.tail _ _ _ _ _ (Has.head _ _ _ _))) (by decide) hT5
        ((try simp only [Exit.inBlock, Exit.then]); refine bodyPost_ret (res_cells_tmp2 rfl M5 rfl (.tail _ _ _ _ _ (.tail _ _ _ _ _ (Has.head _ _ _ _))) (rd_g _ _ _ _ _ _) rfl (.tail _ _ _ _ _ (Has.head _ _ _ _)) (rd_w _ _) rfl rfl) rfl ?_)
        exact ⟨_, _, rfl, ownsRow_base ho5 hz3, M5.below⟩
      · have e1 := HN.out
        have e2 := HNC.out
        rw [if_neg h0] at e1 e2
        subst e1 e2
        have bz : (T == 0) = false := by simpa using h0
        have CHH := Lib.hid (CH.out (by omega))
        have hz3 := M.below.size
        clear CH
        go_wp2_with fail
        refine wp_region_held_drew (S := (fun w' : World => w'.cell? ⟨gA, 0, none⟩ = some (.int .i64 x) ∧ w'.cell? ⟨gA, 1, none⟩ = some (.int .i64 y) ∧ w'.cell? ⟨gA, 2, none⟩ = some (.int .i64 X) ∧ w'.cell? ⟨gA, 3, none⟩ = some (.int .i64 Y) ∧ w'.cell? ⟨gA, 4, none⟩ = some (.int .i64 s) ∧ w'.cell? ⟨gA, 5, none⟩ = some (.slice a n cap))) (by kernel_rfl) (⟨c0, c1, c2, c3, c4, c5⟩) (fun hHeld => ?_)
        refine wpAnyH_take (i := 0) (v := ?v1) rfl (by kernel_rfl) (by kernel_rfl) (by kernel_rfl) (fun _ _ _ h => h) (Or.inl ⟨by rfl, ?hy1⟩) hHeld ?rest1
        case hy1 => (intro w' hSw; (try dsimp only at hSw); go_simp; (try with_reducible rfl))
        try simp only [Act.put, List.setIfInBounds_toArray, List.set_cons_zero, List.set_cons_succ, List.getElem_toArray, List.getElem_cons_zero, List.getElem_cons_succ]
        refine wpAnyH_take (i := 1) (v := ?v2) rfl (by kernel_rfl) (by kernel_rfl) (by kernel_rfl) (fun _ _ _ h => h) (Or.inl ⟨by rfl, ?hy2⟩) hHeld ?rest2
        case hy2 => (intro w' hSw; (try dsimp only at hSw); go_simp; (try with_reducible rfl))
        try simp only [Act.put, List.setIfInBounds_toArray, List.set_cons_zero, List.set_cons_succ, List.getElem_toArray, List.getElem_cons_zero, List.getElem_cons_succ]
        refine wpAnyH_take (i := 2) (v := ?v3) rfl (by kernel_rfl) (by kernel_rfl) (by kernel_rfl) (fun _ _ _ h => h) (Or.inl ⟨by rfl, ?hy3⟩) hHeld ?rest3
        case hy3 => (intro w' hSw; (try dsimp only at hSw); go_simp; (try with_reducible rfl))
        try simp only [Act.put, List.setIfInBounds_toArray, List.set_cons_zero, List.set_cons_succ, List.getElem_toArray, List.getElem_cons_zero, List.getElem_cons_succ]
        refine wpAnyH_take (i := 5) (v := ?v4) rfl (by kernel_rfl) (by kernel_rfl) (by kernel_rfl) (fun _ _ _ h => h) (Or.inl ⟨by rfl, ?hy4⟩) hHeld ?rest4
        case hy4 => (intro w' hSw; (try dsimp only at hSw); go_simp; (try with_reducible rfl))
        try simp only [Act.put, List.setIfInBounds_toArray, List.set_cons_zero, List.set_cons_succ, List.getElem_toArray, List.getElem_cons_zero, List.getElem_cons_succ]
        refine wpAnyH_take (i := 7) (v := ?v5) rfl (by kernel_rfl) (by kernel_rfl) (by kernel_rfl) (fun _ _ _ h => h) (Or.inl ⟨by rfl, ?hy5⟩) hHeld ?rest5
        case hy5 => (intro w' hSw; (try dsimp only at hSw); go_simp; (try with_reducible rfl))
        try simp only [Act.put, List.setIfInBounds_toArray, List.set_cons_zero, List.set_cons_succ, List.getElem_toArray, List.getElem_cons_zero, List.getElem_cons_succ]
        refine wpAnyH_ready (rs := [3]) (by kernel_rfl) (by simp) ?_
        refine AllReadyH.cons rfl (fun K hK => ?_) AllReadyH.nil
        go_simp
        refine (CHH.out _ _ _ (hLS.out _ (M.drew.has (Has.head _ _ _ _)))).mono ?_
        rintro e w5 ⟨a5, cap5, rfl, ho5, hA⟩
        have M5 := M.drew.call hA
        try go_wp2_with fail
        refine hK.out _ _ (gcells (M5.has (.tail _ _ _ _ _ (.tail _ _ _ _ _ (.tail _ _ _ _ _ (Has.head _ _ _ _)))))) (fun hHeld => ?_)
        clear hK K
        try simp only [Act.put, List.setIfInBounds_toArray, List.set_cons_zero, List.set_cons_succ, List.getElem_toArray, List.getElem_cons_zero, List.getElem_cons_succ]
        refine wpAnyH_ready (rs := [4]) (by kernel_rfl) (by simp) ?_
        refine AllReadyH.cons rfl (fun K hK => ?_) AllReadyH.nil
        go_simp
        refine (C2.out a5 cap5 _).mono ?_
        rintro e w6 ⟨rfl, hA6⟩
        have M6 := M5.call hA6
        have ho6 := ownsRow_below ho5 hA6
        try go_wp2_with fail
        refine hK.out _ _ (gcells (M6.has (.tail _ _ _ _ _ (.tail _ _ _ _ _ (.tail _ _ _ _ _ (Has.head _ _ _ _)))))) (fun hHeld => ?_)
        clear hK K
        try simp only [Act.put, List.setIfInBounds_toArray, List.set_cons_zero, List.set_cons_succ, List.getElem_toArray, List.getElem_cons_zero, List.getElem_cons_succ]
        refine wpAnyH_ready (rs := [6]) (by kernel_rfl) (by simp) ?_
        refine AllReadyH.cons rfl (fun K hK => ?_) AllReadyH.nil
        go_simp
        refine (COf.out _).mono ?_
        rintro e w7 ⟨rfl, hA7⟩
        have M7 := M6.call hA7
        have ho7 := ownsRow_below ho6 hA7
        try go_wp2_with fail
        refine hK.out _ _ (gcells (M7.has (.tail _ _ _ _ _ (.tail _ _ _ _ _ (.tail _ _ _ _ _ (Has.head _ _ _ _)))))) (fun hHeld => ?_)
        clear hK K
        try simp only [Act.put, List.setIfInBounds_toArray, List.set_cons_zero, List.set_cons_succ, List.getElem_toArray, List.getElem_cons_zero, List.getElem_cons_succ]
        refine wpAnyH_ready (rs := [8]) (by kernel_rfl) (by simp) ?_
        refine AllReadyH.cons rfl (fun K hK => ?_) AllReadyH.nil
        rw [if_pos (by rfl)]
        refine wp_stM (v := gv x y X Y s (.slice a5 n cap5)) M7 rfl rfl rfl (wr_g _ _ _ _ _ _ _ _ _ _ _ _ _ _) (.tail _ _ _ _ _ _ _ (.tail _ _ _ _ _ _ _ (Upd.head _ _ _ _ _))) ?_
        intro w8 M8 hT8
        refine hK.out _ _ (gcells (M8.has (.tail _ _ _ _ _ (.tail _ _ _ _ _ (.tail _ _ _ _ _ (Has.head _ _ _ _)))))) (fun hHeld => ?_)
        clear hK K
        try simp only [Act.put, List.setIfInBounds_toArray, List.set_cons_zero, List.set_cons_succ, List.getElem_toArray, List.getElem_cons_zero, List.getElem_cons_succ]
        refine wpAnyH_ready (rs := [9]) (by kernel_rfl) (by simp) ?_
        refine AllReadyH.cons rfl (fun K hK => ?_) AllReadyH.nil
        rw [if_pos (by rfl)]
        refine wp_stM (v := wv (hiZ T) (loZ T)) M8 rfl rfl rfl (wr_w _ rfl _ _) (.tail _ _ _ _ _ _ _ (Upd.head _ _ _ _ _)) ?_
        intro w9 M9 hT9
        refine hK.out _ _ (gcells (M9.has (.tail _ _ _ _ _ (.tail _ _ _ _ _ (.tail _ _ _ _ _ (Has.head _ _ _ _)))))) (fun hHeld => ?_)
        clear hK K
        try simp only [Act.put, List.setIfInBounds_toArray, List.set_cons_zero, List.set_cons_succ, List.getElem_toArray, List.getElem_cons_zero, List.getElem_cons_succ]
        refine wpAnyH_take (i := 10) (v := ?v11) rfl (by kernel_rfl) (by kernel_rfl) (by kernel_rfl) (fun _ _ _ h => h) (Or.inl ⟨by rfl, ?hy11⟩) hHeld ?rest11
        case hy11 => (intro w' hSw; (try dsimp only at hSw); go_simp; (try with_reducible rfl))
        try simp only [Act.put, List.setIfInBounds_toArray, List.set_cons_zero, List.set_cons_succ, List.getElem_toArray, List.getElem_cons_zero, List.getElem_cons_succ]
        refine wpAnyH_take (i := 11) (v := ?v12) rfl (by kernel_rfl) (by kernel_rfl) (by kernel_rfl) (fun _ _ _ h => h) (Or.inl ⟨by rfl, ?hy12⟩) hHeld ?rest12
        case hy12 => (intro w' hSw; (try dsimp only at hSw); go_simp; (try with_reducible rfl))
        try simp only [Act.put, List.setIfInBounds_toArray, List.set_cons_zero, List.set_cons_succ, List.getElem_toArray, List.getElem_cons_zero, List.getElem_cons_succ]
        refine wpAnyH_done (by kernel_rfl) ?_ _
        have ho9 := gown_turned (gown_turned ho7 (M7.has (.tail _ _ _ _ _ (.tail _ _ _ _ _ (Has.head _ _ _ _)))) (by decide) hT8) (M8.has (.tail _ _ _ _ _ (Has.head _ _ _ _))) (by decide) hT9
        go_wp2_with fail
        ((try simp only [Exit.inBlock, Exit.then]); refine bodyPost_ret (res_cells_tmp2 rfl M9 rfl (.tail _ _ _ _ _ (.tail _ _ _ _ _ (Has.head _ _ _ _))) (rd_g _ _ _ _ _ _) rfl (.tail _ _ _ _ _ (Has.head _ _ _ _)) (rd_w _ _) rfl rfl) rfl ?_)
        exact ⟨_, _, rfl, ownsRow_base ho9 hz3, M9.below⟩
end Go.Proofs.Ytnfgogfbpggnfaa
