/-
  Stores whose world is told; what is wrong with a grid; a copy; parts of the whole: the code's.
-/
import Derived.Test.YtnfgogfbpggnfaaGridB
import Derived.Test.YtnfgogfbpggnfaaPackWide
set_option linter.unusedVariables false
set_option linter.unusedSimpArgs false
namespace Go.Th.Grid
open Go Go.RowKit Go.Th
section
variable {P : Program} {ops : Array Oper} {rest : List Oper} {o : Oper} {a : Act} {w w0 : World} {Q : Exit → Act → World → Prop} {K : Act → World → Prop} {bs bs' : List (Nat × TypeId × List Value)}
  {g off : Nat} {t ty : TypeId} {cs cs' : List Value} {v : Value} {x y : Operand}
theorem turned_row (w : World) (g : Nat) (ds : Array Value) : Turned (fun k => k = g) w (w.setRow g ds) := ⟨rfl, rfl, rfl, by simp [World.setRow], fun j hj hs => setRow_other w g j _ hs⟩
theorem turned_cell (w : World) (g i : Nat) (u : Value) : Turned (fun k => k = g) w (w.setCell ⟨g, i, none⟩ u) := (Turned.refl (fun k => k = g) w).setCell (a := ⟨g, i, none⟩) (.inl rfl) u
theorem wp_stM (M : Mem w0 w bs) (ho : o.op = .store ty x y) (hx : a.eval x = .pointer (some ⟨g, off, none⟩)) (hy : a.eval y = v) (hr : Wr P ty off cs v cs') (hu : Upd bs g t cs cs' bs')
    (h : ∀ w', Mem w0 w' bs' → Turned (fun k => k = g) w w' → K (a.put o.dst undef) w') : o.wp P a w K Q := by
  unfold Oper.wp execOp
  simp only [ho, hx, hy, Instr.storeAt, Instr.sureAddr, Sem.run_bind, Sem.run_pure, Result.andThen_ok, hr.run w g t (M.has hu.has)]
  exact h _ (M.row hu) (turned_row _ _ _)
theorem wpL_stM (M : Mem w0 w bs) (hgd : o.guard = none) (ho : o.op = .store ty x y) (hx : a.eval x = .pointer (some ⟨g, off, none⟩)) (hy : a.eval y = v) (hr : Wr P ty off cs v cs') (hu : Upd bs g t cs cs' bs')
    (h : ∀ w', Mem w0 w' bs' → Turned (fun k => k = g) w w' → wpList P ops Q rest (a.put o.dst undef) w') : wpList P ops Q (o :: rest) a w := wpList_plain hgd fun _ hK => wp_stM M ho hx hy hr hu fun w' h' ht => hK _ _ (h w' h' ht)
/-- An owned row is not a block of another type. -/
theorem gown_ne {w : World} {g : Nat} {t : TypeId} {cs : List Value} {base : Nat} {e : TypeId} {size n : Nat} {v : Value} {xs : List Value} (K : Blk w g t cs) (ho : w.ownsRow base e size v n xs) (hne : t ≠ e) : ∀ k, v.ownBlock = some k → k ≠ g := by
  rintro k hk rfl
  obtain ⟨h1, h2⟩ := ho
  rcases h2 with ⟨rfl, _⟩ | ⟨g', cap, cur, rfl, hb, hh, _⟩
  · cases hk
  · cases hk
    unfold Blk at K
    rw [hh] at K
    cases K
    exact hne rfl
/-- .. and lies as it lay, where such a block has turned. -/
theorem gown_turned {w w' : World} {g : Nat} {t : TypeId} {cs : List Value} {base : Nat} {e : TypeId} {size n : Nat} {v : Value} {xs : List Value} (ho : w.ownsRow base e size v n xs) (K : Blk w g t cs) (hne : t ≠ e) (ht : Turned (fun k => k = g) w w') : w'.ownsRow base e size v n xs :=
  ht.own ho (gown_ne K ho hne)
end
end Go.Th.Grid
namespace Go.Proofs.Ytnfgogfbpggnfaa
open Go Go.RowKit Go.Th Go.Th.Grid Go.Th.Wide

theorem size6g : (Try.prog.info? 24).map (·.size) = some 6 := by kernel_rfl
theorem rd_g (x y X Y s : Int) (v : Value) : Rd Try.prog 24 0 (gc x y X Y s v) (gv x y X Y s v) :=
  Rd.agg (ds := gc x y X Y s v) Try.underlying24 rfl size6g (fun j u hj => by rw [Nat.zero_add]; exact hj)
theorem wr_g (x y X Y s x' y' X' Y' s' : Int) (v' : Value) (a : Option Addr) (n cap : Nat) : Wr Try.prog 24 0 (gc x' y' X' Y' s' v') (gv x y X Y s (.slice a n cap)) (gc x y X Y s (.slice a n cap)) :=
  Wr.whole (ds := gc x y X Y s (.slice a n cap)) size6g rfl (by intro u hu; simp at hu; rcases hu with rfl | rfl | rfl | rfl | rfl | rfl <;> rfl)

/-- A grid is answered, with a code; its places lie in memory of its own. -/
def GRes (x y X Y s : Int) (n : Nat) (l : List Int) (c : Int) (w : World) (e : Ending) (w' : World) : Prop :=
  ∃ a cap, e = .returned (.tuple #[gv x y X Y s (.slice a n cap), .int .i64 c]) ∧ w'.ownsRow w.heap.size 2 1 (.slice a n cap) n (i64s l) ∧ Below w.heap.size w w'
/-- .., wherever they lie. -/
def GSaid (x y X Y s : Int) (n : Nat) (l : List Int) (c : Int) (w : World) (e : Ending) (w' : World) : Prop :=
  ∃ a cap, e = .returned (.tuple #[gv x y X Y s (.slice a n cap), .int .i64 c]) ∧ Sl w' 1 (.slice a n cap) n (i64s l) ∧ Below w.heap.size w w'
theorem GRes.said {x y X Y s : Int} {n : Nat} {l : List Int} {c : Int} {w w' : World} {e : Ending} (h : GRes x y X Y s n l c w e w') : GSaid x y X Y s n l c w e w' := by
  obtain ⟨a, cap, h1, h2, h3⟩ := h
  exact ⟨a, cap, h1, Sl.of_own h2, h3⟩

theorem clone64_any (vx : Value) (n : Nat) (z : List Int) (hz : z.length = n) (w : World) (h : Sl w 1 vx n (i64s z)) (hl : n ≤ 1000000) :
    Calls Try.prog 56 #[vx] w fun e w' => ∃ v, e = .returned v ∧ w'.ownsRow w.heap.size 2 1 v n (i64s z) ∧ Below w.heap.size w w' := by
  subst hz
  have hs := h
  obtain ⟨a, cap, rfl, h1, h2, h3, h4, h5⟩ := h
  cases a with
  | none =>
    obtain ⟨h0, rfl⟩ := h4 rfl
    have hnil : z = [] := List.eq_nil_of_length_eq_zero h0
    subst hnil
    have hq : ∀ wx : World, (binOp .eql 22 (.slice none 0 0) (.slice none 0 0)).run Try.prog wx = .ok (.bool true) wx := fun wx => Lib.run_eql_slice_nil wx 22 2 none _ _ 0 0 Try.underlying22
    go_enter Try.func56, Try.ntmps56
    go_wp2
    go_ret
    exact ⟨_, rfl, World.ownsRow_nil _ _ _ _, Below.refl _ _⟩
  | some ad =>
    have hx : Sl (w.alloc (.cells #[] 2)) 1 (.slice (some ad) z.length cap) z.length (i64s z) := hs.below ((Below.refl _ _).alloc (Nat.le_refl _) _)
    have hown := World.ownsRow_made (base := w.heap.size) (e := 2) (size := 1) w #[] 0 (Nat.le_refl _) (Nat.zero_le _) rfl
    have hq : ∀ wx : World, (binOp .eql 22 (.slice (some ad) z.length cap) (.slice none 0 0)).run Try.prog wx = .ok (.bool false) wx := fun wx => Lib.run_eql_slice_nil wx 22 2 (some ad) _ _ 0 0 Try.underlying22
    go_enter Try.func56, Try.ntmps56
    go_wp2_with (at_builtin; refine wpList_app E64 rfl (.tmp 5) (.tmp 6) rfl w.heap.size rfl hown rfl hx (oneCell_i64s _) (by unfold maxLen; omega) (by omega) (by simp) ?_)
    intro v' w' hown' hgrow _
    go_wp2
    go_ret
    exact ⟨_, rfl, by simpa using hown', ((Below.refl _ _).alloc (Nat.le_refl _) _).grown hgrow (by simp) (fun k hk => by simp [Value.ownBlock] at hk; omega)⟩

set_option maxRecDepth 20000 in
set_option maxHeartbeats 1600000 in
theorem itself_any (x y X Y s : Int) (a : Option Addr) (n cap : Nat) (p : List Int) (hp : p.length = n) (hn : n ≤ 1000000) (w : World) (hS : Sl w 1 (.slice a n cap) n (i64s p)) :
    Calls Try.prog 42 #[gv x y X Y s (.slice a n cap)] w fun e w' => ∃ a' cap', e = .returned (gv x y X Y s (.slice a' n cap')) ∧ w'.ownsRow w.heap.size 2 1 (.slice a' n cap') n (i64s p) ∧ Below w.heap.size w w' := by
  have C1 := Lib.hid (fun wx hs => clone64_any (.slice a n cap) n p hp wx hs hn)
  have C2 := Lib.hid (fun a' cap' => with_any x y X Y s (.slice a n cap) a' n cap' ⟨_, _, _, rfl⟩)
  have HS := Lib.hid hS
  clear hS hp
  (obtain ⟨w1, hw1⟩ : ∃ w1, w.alloc (.cells #[.int .i64 x, .int .i64 y, .int .i64 X, .int .i64 Y, .int .i64 s, .slice a n cap] 24) = w1 := ⟨_, rfl⟩; have M1 := (Mem.start w).alloc 24 (gc x y X Y s (.slice a n cap)); rw [show w.alloc (.cells (gc x y X Y s (.slice a n cap)).toArray 24) = w1 from hw1] at M1; obtain ⟨w2, hw2⟩ : ∃ w2, w1.alloc (.cells #[.int .i64 0, .int .i64 0, .int .i64 0, .int .i64 0, .int .i64 0, .slice none 0 0] 24) = w2 := ⟨_, rfl⟩; have M2 := M1.alloc 24 (gc 0 0 0 0 0 (.slice none 0 0)); rw [show w1.alloc (.cells (gc 0 0 0 0 0 (.slice none 0 0)).toArray 24) = w2 from hw2] at M2; have hsz : w1.heap.size = w.heap.size + 1 := (by rw [← hw1]; simp); have HW1 := Lib.hid hw1; have HW2 := Lib.hid hw2; clear hw1 hw2 M1)
  go_enter Try.func42, Try.ntmps42
  ((go_upto_region 1 with fail); rw [HW1.out, HW2.out, ← hsz]; clear HW1 HW2; obtain ⟨gB, hgB⟩ : ∃ gB, gB = w1.heap.size := ⟨_, rfl⟩; obtain ⟨gA, hgA⟩ : ∃ gA, gA = w.heap.size := ⟨_, rfl⟩; rw [← hgB] at M2 ⊢; rw [← hgA] at M2 ⊢; have hne : gA ≠ gB := (by omega); clear hgA hgB hsz)
  obtain ⟨c0, c1, c2, c3, c4, c5⟩ := gcells (M2.has (.tail _ _ _ _ _ (Has.head _ _ _ _)))
  go_wp2_with fail
  refine wp_region_held_drew (S := (fun w' : World => w'.cell? ⟨gA, 0, none⟩ = some (.int .i64 x) ∧ w'.cell? ⟨gA, 1, none⟩ = some (.int .i64 y) ∧ w'.cell? ⟨gA, 2, none⟩ = some (.int .i64 X) ∧ w'.cell? ⟨gA, 3, none⟩ = some (.int .i64 Y) ∧ w'.cell? ⟨gA, 4, none⟩ = some (.int .i64 s) ∧ w'.cell? ⟨gA, 5, none⟩ = some (.slice a n cap))) (by kernel_rfl) (⟨c0, c1, c2, c3, c4, c5⟩) (fun hHeld => ?_)
  refine wpAnyH_take (i := 0) (v := ?v1) rfl (by kernel_rfl) (by kernel_rfl) (by kernel_rfl) (fun _ _ _ h => h) (Or.inl ⟨by rfl, ?hy1⟩) hHeld ?rest1
  case hy1 => (intro w' hSw; (try dsimp only at hSw); go_simp; (try with_reducible rfl))
  try simp only [Act.put, List.setIfInBounds_toArray, List.set_cons_zero, List.set_cons_succ, List.getElem_toArray, List.getElem_cons_zero, List.getElem_cons_succ]
  refine wpAnyH_take (i := 1) (v := ?v2) rfl (by kernel_rfl) (by kernel_rfl) (by kernel_rfl) (fun _ _ _ h => h) (Or.inl ⟨by rfl, ?hy2⟩) hHeld ?rest2
  case hy2 => (intro w' hSw; (try dsimp only at hSw); go_simp; (try with_reducible rfl))
  try simp only [Act.put, List.setIfInBounds_toArray, List.set_cons_zero, List.set_cons_succ, List.getElem_toArray, List.getElem_cons_zero, List.getElem_cons_succ]
  refine wpAnyH_take (i := 2) (v := ?v3) rfl (by kernel_rfl) (by kernel_rfl) (by kernel_rfl) (fun _ _ _ h => h) (Or.inl ⟨by rfl, ?hy3⟩) hHeld ?rest3
  case hy3 => (intro w' hSw; (try dsimp only at hSw); go_simp; (try with_reducible rfl))
  try simp only [Act.put, List.setIfInBounds_toArray, List.set_cons_zero, List.set_cons_succ, List.getElem_toArray, List.getElem_cons_zero, List.getElem_cons_succ]
  refine wpAnyH_ready (rs := [3]) (by kernel_rfl) (by simp) ?_
  refine AllReadyH.cons rfl (fun K hK => ?_) AllReadyH.nil
  go_simp
  refine (C1.out _ (HS.out.below M2.below.drew)).mono ?_
  rintro e w3 ⟨v3, rfl, ho3, hA⟩
  obtain ⟨a3, cap3, rfl, _, _⟩ := ownsRow_slice ho3
  have M3 := M2.drew.call hA
  have hz3 := M2.below.size
  try go_wp2_with fail
  refine hK.out _ _ (gcells (M3.has (.tail _ _ _ _ _ (Has.head _ _ _ _)))) (fun hHeld => ?_)
  clear hK K
  try simp only [Act.put, List.setIfInBounds_toArray, List.set_cons_zero, List.set_cons_succ, List.getElem_toArray, List.getElem_cons_zero, List.getElem_cons_succ]
  refine wpAnyH_ready (rs := [4]) (by kernel_rfl) (by simp) ?_
  refine AllReadyH.cons rfl (fun K hK => ?_) AllReadyH.nil
  go_simp
  refine (C2.out a3 cap3 _).mono ?_
  rintro e w4 ⟨rfl, hA4⟩
  have M4 := M3.call hA4
  have ho4 := ownsRow_below ho3 hA4
  try go_wp2_with fail
  refine hK.out _ _ (gcells (M4.has (.tail _ _ _ _ _ (Has.head _ _ _ _)))) (fun hHeld => ?_)
  clear hK K
  try simp only [Act.put, List.setIfInBounds_toArray, List.set_cons_zero, List.set_cons_succ, List.getElem_toArray, List.getElem_cons_zero, List.getElem_cons_succ]
  refine wpAnyH_ready (rs := [5]) (by kernel_rfl) (by simp) ?_
  refine AllReadyH.cons rfl (fun K hK => ?_) AllReadyH.nil
  rw [if_pos (by rfl)]
  refine wp_stM M4 rfl rfl rfl (wr_g _ _ _ _ _ _ _ _ _ _ _ _ _ _) (Upd.head _ _ _ _ _) ?_
  intro w5 M5 hT5
  refine hK.out _ _ (gcells (M5.has (.tail _ _ _ _ _ (Has.head _ _ _ _)))) (fun hHeld => ?_)
  clear hK K
  try simp only [Act.put, List.setIfInBounds_toArray, List.set_cons_zero, List.set_cons_succ, List.getElem_toArray, List.getElem_cons_zero, List.getElem_cons_succ]
  refine wpAnyH_done (by kernel_rfl) ?_ _
  have ho5 := gown_turned ho4 (M4.has (Has.head _ _ _ _)) (by decide) hT5
  go_wp2_with fail
  refine bodyPost_ret (res_cell rfl M5 rfl (Has.head _ _ _ _) (rd_g _ _ _ _ _ _)) rfl ?_
  exact ⟨_, _, rfl, ownsRow_base ho5 hz3, M5.below⟩

set_option maxRecDepth 20000 in
set_option maxHeartbeats 1600000 in
theorem shares_any (sT : Int) (a : Option Addr) (n cap : Nat) (p : List Int) (hp : p.length = n) (hn : n ≤ 1000000) (hs0 : 0 < sT) (hs1 : sT ≤ 9223372036854775807) (hr : ∀ u ∈ p, 0 ≤ u ∧ u ≤ sT) (w : World) (hS : Sl w 1 (.slice a n cap) n (i64s p)) :
    Calls Try.prog 43 #[.slice a n cap, .int .i64 sT] w fun e w' => ∃ a' cap', e = .returned (.slice a' n cap') ∧ w'.ownsRow w.heap.size 2 1 (.slice a' n cap') n (i64s (p.map (share sT))) ∧ Below w.heap.size w w' := by
  have hD : ∀ u, 0 ≤ u ∧ u ≤ sT → ∃ E, Ans 57 #[.int .i64 u, .int .i64 1073741824, .int .i64 sT, .int .i64 0] (.tuple #[.int .i64 (share sT u), .int .i64 E]) := by
    intro u hu
    have h1 := share_rng hs0 hu
    have h2 := divV_down (u * 1073741824) sT hs0 (by unfold share at h1; omega)
    refine ⟨divE (u * 1073741824) sT 0, fun wx => ?_⟩
    have := MulDiv_any u 1073741824 sT 0 (by omega) (by omega) (by omega) (by omega) wx
    rw [h2] at this
    exact this
  have hm : p.map (share sT) = tab (fun i => share sT (p.getD i 0)) n := by rw [← hp, tab_map]
  rw [hm]
  have hRg := fun i (hi : i < n) => getD_mem (P := fun u => 0 ≤ u ∧ u ≤ sT) hr (by rw [hp]; exact hi : i < p.length)
  obtain ⟨f, hf⟩ : ∃ f : Nat → Int, f = fun i => share sT (p.getD i 0) := ⟨_, rfl⟩
  rw [← hf]
  have hfi : ∀ i, share sT (p.getD i 0) = f i := fun i => by rw [hf]
  have HF := Lib.hid hfi
  have HD := Lib.hid hD
  have HR := Lib.hid hRg
  have HP := Lib.hid hp
  have HS := Lib.hid hS
  have hmx := hS.max
  clear hD hm hRg hf hfi hp hS hr
  go_enter Try.func43, Try.ntmps43
  go_wp2_with (refine gmk (t := 22) (e := 2) (z := .int .i64 0) (bytes := 8) Try.underlying22 (by kernel_rfl) rfl rfl _ _ rfl w.heap.size n _ _ rfl rfl (by omega) (by unfold maxLen; omega) (Nat.le_refl _) ?_)
  intro w5 ho5 hg5
  have hA5 := ggrown hg5
  obtain ⟨G, hG⟩ : ∃ G, G = w.heap.size := ⟨_, rfl⟩
  have hlo : w.heap.size ≤ G := by omega
  rw [i64s_rep, ← lay_0 f n] at ho5
  rw [← hG] at ho5 ⊢
  clear hg5 hG
  go_wp2_with fail
  go_loopw [13] (fun c wx => ∃ i : Nat, i ≤ n ∧ c = .int .i64 i ∧ wx.ownsRow G 2 1 (.slice (some ⟨G, 0, none⟩) n n) n (i64s (lay f i n)) ∧ Below w.heap.size w wx) (fun c _ => n - (intOf c).toNat)
  case atStart => exact ⟨0, Nat.zero_le _, rfl, ho5, hA5⟩
  case round =>
    clear ho5 hA5
    obtain ⟨i, hi, rfl, ho, hB⟩ := hrel
    by_cases hlt : i < n
    · obtain ⟨b, o, rfl, hbl, hc⟩ := cell64 HS.out i (by rw [HP.out]; exact hlt)
      have hcu := (hB.cell (p := ⟨b, o + i, none⟩) hbl).trans hc
      obtain ⟨E, hE⟩ := HD.out _ (HR.out i hlt)
      rw [HF.out i] at hE
      have hnx := lay_set f i n hlt
      have hll := lay_length f i n hi
      obtain ⟨u, hu⟩ : ∃ u, u = p.getD i 0 := ⟨_, rfl⟩
      rw [← hu] at hE hcu
      have HE := Lib.hid hE
      have HN := Lib.hid hnx
      clear hE hu hc hbl hnx
      go_wp2_with fail
      refine (HE.out _).mono ?_
      rintro e w6 ⟨rfl, hA6⟩
      have ho6 := ownsRow_below ho hA6
      have hB6 := hB.trans (hA6.mono hB.size)
      have hcc := own64 ho6 i (by rw [hll]; exact hlt)
      have hff := ownsRow_free ho6 i
      have ho7 := ownsRow_set ho6 i hlt (.int .i64 (f i))
      rw [i64s_set, HN.out] at ho7
      clear ho hB hA6 HE hcu ho6
      go_wp2_with fail
      go_roundw
      case rel => exact ⟨i + 1, by omega, by go_num, ho7, hB6.setCell hlo _⟩
      case measure => simp [intOf]; omega
    · obtain rfl : i = n := by omega
      rw [lay_n] at ho
      go_wp2_with fail
      go_ret
      exact ⟨_, _, rfl, ownsRow_base ho hlo, hB⟩
end Go.Proofs.Ytnfgogfbpggnfaa
