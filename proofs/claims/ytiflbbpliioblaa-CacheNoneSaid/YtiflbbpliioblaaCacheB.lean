/-
  A cache: where another tile may stand; how often; the map; a tile goes first: the code's.
-/
import Derived.Test.YtiflbbpliioblaaCacheA
import Derived.Test.YtiflbbpliioblaaPackChartA
import Derived.Deep.QuietTactic
import Derived.BigQuiet
set_option linter.unusedVariables false
set_option linter.unusedSimpArgs false
namespace Go.Proofs.Ytiflbbpliioblaa
open Go Go.RowKit Go.Th

set_option maxRecDepth 20000 in
theorem free_any (g : Nat) (h : List Value) (T : List (Nat × Value)) (c m s room : Nat) (hr : h[9]? = some (.int .i64 (room : Int))) (hc : c ≤ room) (hr0 : 0 < room) (hr2 : room ≤ 32) (w : World) (K : CK w g h T c m s) :
    Calls Try.prog 39 #[.pointer (some ⟨g, 0, none⟩)] w fun e w' => ∃ at_ : Nat, at_ < room ∧ (c < room ∧ at_ = c ∨ c = room ∧ at_ + 1 = c) ∧ e = .returned (.int .i64 at_) ∧ CK w' g h T (at_ + 1) m s ∧ Turned (fun k => k = g) w w' := by
  have c74 := K.cnt
  have c9 := K.head hr
  have f74 := K.free 74
  have HK := Lib.hid K
  clear hr
  by_cases hlt : c < room
  · have hlt' : (c : Int) < (room : Int) := by omega
    go_enter Try.func39, Try.ntmps39
    go_wp2_with fail
    go_quiet (fail)
    go_wp2_with fail
    go_ret
    exact ⟨c, hlt, .inl ⟨hlt, rfl⟩, rfl, (HK.out.drewN _).setC (c + 1), ((Turned.refl (fun k => k = g) w).drewN _).setCell (.inl rfl) _⟩
  · obtain rfl : c = room := by omega
    obtain ⟨k, rfl⟩ : ∃ k, c = k + 1 := ⟨c - 1, by omega⟩
    go_enter Try.func39, Try.ntmps39
    go_wp2_with fail
    go_quiet (fail)
    go_wp2_with fail
    go_ret
    exact ⟨k, by omega, .inr ⟨by trivial, rfl⟩, ret_int (by omega), HK.out.drewN _, (Turned.refl (fun k => k = g) w).drewN _⟩

set_option maxRecDepth 20000 in
theorem met_any (g : Nat) (h : List Value) (T : List (Nat × Value)) (c m s : Nat) (w : World) (K : CK w g h T c m s) :
    Calls Try.prog 14 #[.pointer (some ⟨g, 0, none⟩)] w fun e w' => e = .returned (.tuple #[.int .i64 m, .int .i64 s]) ∧ ∃ n, w' = w.drewN n := by
  have c75 := K.met
  have c76 := K.mis
  clear K
  go_enter Try.func14, Try.ntmps14
  go_wp2_with fail
  go_quiet (fail)
  go_wp2_with fail
  go_ret2
  exact ⟨rfl, _, rfl⟩

set_option maxRecDepth 20000 in
theorem chart10_any (g : Nat) (h : List Value) (T : List (Nat × Value)) (c m s : Nat) (W H cell : Nat) (ox oy : Int) (h1 : h[1]? = some (.int .i64 (W : Int))) (h2 : h[2]? = some (.int .i64 (H : Int))) (h3 : h[3]? = some (.slice none 0 0)) (h4 : h[4]? = some (.int .i64 (cell : Int))) (h5 : h[5]? = some (.int .i32 ox)) (h6 : h[6]? = some (.int .i32 oy)) (w : World) (K : CK w g h T c m s) :
    Calls Try.prog 20 #[.pointer (some ⟨g, 0, none⟩)] w fun e w' => e = .returned (.agg #[.int .i64 W, .int .i64 H, .slice none 0 0, .int .i64 cell, .int .i32 ox, .int .i32 oy]) ∧ Below w.heap.size w w' := by
  have c1 := K.head h1
  have c2 := K.head h2
  have c3 := K.head h3
  have c4 := K.head h4
  have c5 := K.head h5
  have c6 := K.head h6
  have hg := K.lt
  clear K h1 h2 h3 h4 h5 h6
  go_enter Try.func20, Try.ntmps20
  go_wp2_with fail
  refine bodyPost_ret (v := cv W H (.slice none 0 0) cell ox oy) (res_blk rfl rfl (Blk.new w 28 [.int .i64 W, .int .i64 H, .slice none 0 0, .int .i64 cell, .int .i32 ox, .int .i32 oy]) Try.underlying28 rfl (by kernel_rfl)) rfl ?_
  exact ⟨rfl, (Below.refl _ _).alloc (Nat.le_refl _) _⟩

/-! ### A tile goes first -/
theorem und_helds : Try.prog.underlying 112 = some (.slice 64) := Try.underlying112
theorem run_copy_two (w : World) (ty : TypeId) (g o1 o2 k d1 d2 : Nat) (t : TypeId) (cs : List Value) (K : Blk w g t cs) (h1 : o1 + 2 * k ≤ cs.length) (h2 : o2 + 2 * k ≤ cs.length) (one : ∀ u ∈ (cs.drop o2).take (2 * k), u.oneCell' = true) :
    (Builtin.copy_ #[112, 112] ty #[.slice (some ⟨g, o1, none⟩) k d1, .slice (some ⟨g, o2, none⟩) k d2]).run Try.prog w = .ok (goInt k) (w.setRow g (over cs o1 ((cs.drop o2).take (2 * k))).toArray) := by
  obtain ⟨ys, hys⟩ : ∃ ys, ys = (cs.drop o2).take (2 * k) := ⟨_, rfl⟩
  have hyl : ys.length = k * 2 := by rw [hys, List.length_take, List.length_drop]; omega
  rw [← hys] at one ⊢
  have hsrc : ∀ j v, ys[j]? = some v → w.cell? ((⟨g, o2, none⟩ : Addr).add j) = some v := by
    intro j v hv
    have hj : j < 2 * k := by have := (List.getElem?_eq_some_iff.1 hv).1; omega
    rw [hys, List.getElem?_take, if_pos hj, List.getElem?_drop] at hv
    rw [add_none]
    exact K.cell hv
  have hl := run_loadCells_list (P := Try.prog) w ⟨g, o2, none⟩ ys hsrc
  have hst := run_storeCells_at Try.prog g o1 t ys 0 cs.toArray w K (by simp; omega) one
  rw [hyl] at hl
  obtain ⟨i, hi, hsz⟩ : ∃ i, Try.prog.info? 64 = some i ∧ i.size = 2 := by
    have h : (Try.prog.info? 64).map (·.size) = some 2 := by kernel_rfl
    cases hq : Try.prog.info? 64 with
    | none => rw [hq] at h; cases h
    | some i => exact ⟨i, rfl, by rw [hq] at h; simpa using h⟩
  simp [Builtin.copy_, run_underlying und_helds, Builtin.lenOf, Builtin.firstCells, sizeOf, typeInfo, hi, hsz, hl, hst, over, splice]

theorem wp_copy_two {w : World} {o : Oper} {b : Act} {Kk : Act → World → Prop} {Q : Exit → Act → World → Prop} (d s : Operand)
    (ho : o.op = .call { callee := .builtin .copy, args := #[d, s], argTypes := #[112, 112] }) {g o1 o2 k d1 d2 : Nat} {t : TypeId} {cs : List Value}
    (hd : b.eval d = .slice (some ⟨g, o1, none⟩) k d1) (hs : b.eval s = .slice (some ⟨g, o2, none⟩) k d2) (K : Blk w g t cs) (h1 : o1 + 2 * k ≤ cs.length) (h2 : o2 + 2 * k ≤ cs.length) (one : ∀ u ∈ (cs.drop o2).take (2 * k), u.oneCell' = true)
    (h : Kk (b.put o.dst (goInt k)) (w.setRow g (over cs o1 ((cs.drop o2).take (2 * k))).toArray)) : o.wp Try.prog b w Kk Q := by
  have hr := run_copy_two w o.type g o1 o2 k d1 d2 t cs K h1 h2 one
  unfold Oper.wp
  simp [execOp, ho, resolve, invoke, builtin, hd, hs, hr, Result.andThen]
  exact h

theorem mem_tcs {T : List (Nat × Value)} (h : ∀ p ∈ T, ∃ a n cap, p.2 = .slice a n cap) : ∀ u ∈ tcs T, u.oneCell' = true := by
  induction T with
  | nil => intro u hu; cases hu
  | cons p r ih =>
    intro u hu
    rw [tcs] at hu
    rcases List.mem_cons.1 hu with rfl | hu
    · rfl
    · rcases List.mem_cons.1 hu with rfl | hu
      · obtain ⟨a, n, cap, e⟩ := h p List.mem_cons_self
        rw [e]; rfl
      · exact ih (fun q hq => h q (List.mem_cons_of_mem _ hq)) u hu
theorem cc_drop {h : List Value} {T : List (Nat × Value)} {c m s : Nat} (hl : h.length = 10) (tl : T.length = 32) (k : Nat) (hk : k ≤ 32) : ((cc h T c m s).drop 10).take (2 * k) = tcs (T.take k) := by
  unfold cc
  rw [List.drop_append_of_le_length (by omega), List.drop_of_length_le (by omega), List.nil_append, List.take_append_of_le_length (by rw [tcs_length]; omega), tcs_take]
theorem cc_copy {h : List Value} {T : List (Nat × Value)} {c m s : Nat} (hl : h.length = 10) (tl : T.length = 32) (k : Nat) (hk : k < 32) :
    over (cc h T c m s) 12 (((cc h T c m s).drop 10).take (2 * k)) = cc h (T.take 1 ++ (T.take k ++ T.drop (k + 1))) c m s := by
  rw [cc_drop hl tl k (by omega)]
  unfold over splice cc
  have e1 : (tcs (T.take k)).length = 2 * k := by rw [tcs_length, List.length_take]; omega
  rw [e1, List.take_append, List.take_of_length_le (by omega), hl, List.take_append_of_le_length (by rw [tcs_length]; omega), show 12 - 10 = 2 * 1 by rfl, tcs_take, List.drop_append, List.drop_of_length_le (by omega), hl,
    List.nil_append, List.drop_append_of_le_length (by rw [tcs_length]; omega), show 12 + 2 * k - 10 = 2 * (k + 1) by omega, tcs_drop]
  simp only [tcs_append, List.append_assoc]

/-- The tiles with one of them first. -/
def toFront (T : List (Nat × Value)) (k : Nat) : List (Nat × Value) := (pl T k, pz T k) :: (T.take k ++ T.drop (k + 1))
theorem toFront_eq (T : List (Nat × Value)) (k : Nat) (h : 0 < T.length) : (T.take 1 ++ (T.take k ++ T.drop (k + 1))).set 0 (pl T k, pz T k) = toFront T k := by
  cases T with
  | nil => simp at h
  | cons p r => rfl
theorem toFront_length (T : List (Nat × Value)) (k : Nat) (h : k < T.length) : (toFront T k).length = T.length := by
  unfold toFront
  rw [List.length_cons, List.length_append, List.length_take, List.length_drop]; omega

theorem pz_one {w : World} {g : Nat} {h : List Value} {T : List (Nat × Value)} {c m s : Nat} (K : CK w g h T c m s) (k : Nat) (hk : k < 32) : ∃ a n cap, pz T k = .slice a n cap := by
  have := pl_mem T k (by rw [K.tl]; exact hk)
  exact K.one _ (List.mem_of_getElem? this)
theorem CK.copied {w : World} {g : Nat} {h : List Value} {T : List (Nat × Value)} {c m s : Nat} (K : CK w g h T c m s) (k : Nat) (hk : k < 32) :
    CK (w.setRow g (over (cc h T c m s) 12 (((cc h T c m s).drop 10).take (2 * k))).toArray) g h (T.take 1 ++ (T.take k ++ T.drop (k + 1))) c m s := by
  refine ⟨?_, K.hl, ?_, ?_⟩
  · rw [cc_copy K.hl K.tl k hk]; exact K.blk.row _
  · have := K.tl
    rw [List.length_append, List.length_append, List.length_take, List.length_take, List.length_drop]; omega
  · intro p hp
    rcases List.mem_append.1 hp with hp | hp
    · exact K.one p (List.mem_of_mem_take hp)
    · rcases List.mem_append.1 hp with hp | hp
      · exact K.one p (List.mem_of_mem_take hp)
      · exact K.one p (List.mem_of_mem_drop hp)

theorem turned_setRow (w : World) (g : Nat) (ds : Array Value) : Turned (fun k => k = g) w (w.setRow g ds) := ⟨rfl, rfl, rfl, by simp [World.setRow], fun j hj hs => setRow_other w g j _ hs⟩

set_option maxRecDepth 20000 in
set_option maxHeartbeats 1600000 in
theorem first_any (g : Nat) (h : List Value) (T : List (Nat × Value)) (c m s k : Nat) (hk : k < 32) (w : World) (K : CK w g h T c m s) :
    Calls Try.prog 41 #[.pointer (some ⟨g, 0, none⟩), .int .i64 k] w fun e w' => e = .returned (pz T k) ∧ CK w' g h (toFront T k) c m s ∧ Turned (fun k => k = g) w w' := by
  obtain ⟨az, nz, cz, hze⟩ := pz_one K k hk
  have hp := K.place k hk
  have hz := K.z k hk
  obtain ⟨p, hpe⟩ : ∃ p, p = pl T k := ⟨_, rfl⟩
  rw [hze] at hz ⊢
  rw [← hpe] at hp
  have hg := K.lt
  have hlen := K.len
  have hin : ∀ u ∈ ((cc h T c m s).drop 10).take (2 * k), u.oneCell' = true := by
    rw [cc_drop K.hl K.tl k (by omega)]
    exact mem_tcs (fun q hq => K.one q (List.mem_of_mem_take hq))
  have HIN := Lib.hid hin
  have HK := Lib.hid K
  have HZ := Lib.hid hze
  have HP := Lib.hid hpe
  have hk1 : IntKind.i64.wrap ((k : Int) + 1) = (k : Int) + 1 := by have := i64_nat (k + 1) (by omega); simpa using this
  have hr1 : ∀ wx : World, (Instr.sliceAt 65 (.pointer (some ⟨g, 10, none⟩)) (some (.int .i64 1)) (some (.int .i64 ((k : Int) + 1))) none).run Try.prog wx = .ok (.slice (some ⟨g, 12, none⟩) k 31) wx := by
    intro wx
    have h1 : (1 : Int) ≤ (k : Int) + 1 := by omega
    have hal : Try.prog.arrayLen 65 = 32 := by kernel_rfl
    have h2 : (k : Int) + 1 ≤ ((Try.prog.arrayLen 65 : Nat) : Int) := by rw [hal]; omega
    have hs : (sizeOf (Try.prog.elem 65)).run Try.prog wx = .ok 2 wx := by kernel_rfl
    rw [run_sliceAt_array_lh (P := Try.prog) wx 65 ⟨g, 10, none⟩ Try.underlying65 .i64 .i64 1 ((k : Int) + 1) (by omega) h1 h2, hs, hal]
    simp [slicedAt, add_none]
  have hr2 : ∀ wx : World, (Instr.sliceAt 65 (.pointer (some ⟨g, 10, none⟩)) none (some (.int .i64 (k : Int))) none).run Try.prog wx = .ok (.slice (some ⟨g, 10, none⟩) k 32) wx := by
    intro wx
    have hal : Try.prog.arrayLen 65 = 32 := by kernel_rfl
    have h2 : (k : Int) ≤ ((Try.prog.arrayLen 65 : Nat) : Int) := by rw [hal]; omega
    have hs : (sizeOf (Try.prog.elem 65)).run Try.prog wx = .ok 2 wx := by kernel_rfl
    rw [run_sliceAt_array_h (P := Try.prog) wx 65 ⟨g, 10, none⟩ Try.underlying65 .i64 (k : Int) (by omega) h2, hs, hal]
    simp [slicedAt, add_none]
  clear hin hze hpe K
  go_enter Try.func41, Try.ntmps41
  go_wp2_with fail
  obtain ⟨w1, hw1⟩ : ∃ w1, w.alloc (.cells #[.int .i64 p, .slice az nz cz] 64) = w1 := ⟨_, rfl⟩
  have hB : Below w.heap.size w w1 := by rw [← hw1]; exact (Below.refl _ _).alloc (Nat.le_refl _) _
  have KO : Blk w1 w.heap.size 64 [.int .i64 p, .slice az nz cz] := by rw [← hw1]; exact Blk.new w _ _
  have K1 := HK.out.below hB
  rw [hw1]
  have HK1 := Lib.hid K1
  clear hw1 hp hz K1
  refine wp_region_held_drew (S := (fun _ : World => True)) (by kernel_rfl) (trivial) (fun hHeld => ?_)
  refine wpAnyH_take (i := 0) (v := ?v1) rfl (by kernel_rfl) (by kernel_rfl) (by kernel_rfl) (fun _ _ _ h => h) (Or.inl ⟨by rfl, ?hy1⟩) hHeld ?rest1
  case hy1 => (intro w' hSw; (try dsimp only at hSw); go_simp; (try with_reducible rfl))
  try simp only [Act.put, List.setIfInBounds_toArray, List.set_cons_zero, List.set_cons_succ, List.getElem_toArray, List.getElem_cons_zero, List.getElem_cons_succ]
  refine wpAnyH_take (i := 1) (v := ?v2) rfl (by kernel_rfl) (by kernel_rfl) (by kernel_rfl) (fun _ _ _ h => h) (Or.inl ⟨by rfl, ?hy2⟩) hHeld ?rest2
  case hy2 => (intro w' hSw; (try dsimp only at hSw); go_simp; (try with_reducible rfl))
  try simp only [Act.put, List.setIfInBounds_toArray, List.set_cons_zero, List.set_cons_succ, List.getElem_toArray, List.getElem_cons_zero, List.getElem_cons_succ]
  refine wpAnyH_take (i := 2) (v := ?v3) rfl (by kernel_rfl) (by kernel_rfl) (by kernel_rfl) (fun _ _ _ h => h) (Or.inl ⟨by rfl, ?hy3⟩) hHeld ?rest3
  case hy3 => (intro w' hSw; (try dsimp only at hSw); go_simp; (try with_reducible rfl))
  try simp only [Act.put, List.setIfInBounds_toArray, List.set_cons_zero, List.set_cons_succ, List.getElem_toArray, List.getElem_cons_zero, List.getElem_cons_succ]
  refine wpAnyH_take (i := 3) (v := ?v4) rfl (by kernel_rfl) (by kernel_rfl) (by kernel_rfl) (fun _ _ _ h => h) (Or.inl ⟨by rfl, ?hy4⟩) hHeld ?rest4
  case hy4 => (intro w' hSw; (try dsimp only at hSw); go_simp; (try with_reducible rfl))
  try simp only [Act.put, List.setIfInBounds_toArray, List.set_cons_zero, List.set_cons_succ, List.getElem_toArray, List.getElem_cons_zero, List.getElem_cons_succ]
  refine wpAnyH_take (i := 4) (v := ?v5) rfl (by kernel_rfl) (by kernel_rfl) (by kernel_rfl) (fun _ _ _ h => h) (Or.inl ⟨by rfl, ?hy5⟩) hHeld ?rest5
  case hy5 => (intro w' hSw; (try dsimp only at hSw); go_simp; (try with_reducible rfl))
  try simp only [Act.put, List.setIfInBounds_toArray, List.set_cons_zero, List.set_cons_succ, List.getElem_toArray, List.getElem_cons_zero, List.getElem_cons_succ]
  refine wpAnyH_take (i := 5) (v := ?v6) rfl (by kernel_rfl) (by kernel_rfl) (by kernel_rfl) (fun _ _ _ h => h) (Or.inl ⟨by rfl, ?hy6⟩) hHeld ?rest6
  case hy6 => (intro w' hSw; (try dsimp only at hSw); go_simp; (try with_reducible rfl))
  try simp only [Act.put, List.setIfInBounds_toArray, List.set_cons_zero, List.set_cons_succ, List.getElem_toArray, List.getElem_cons_zero, List.getElem_cons_succ]
  refine wpAnyH_take (i := 6) (v := ?v7) rfl (by kernel_rfl) (by kernel_rfl) (by kernel_rfl) (fun _ _ _ h => h) (Or.inl ⟨by rfl, ?hy7⟩) hHeld ?rest7
  case hy7 => (intro w' hSw; (try dsimp only at hSw); go_simp; (try with_reducible rfl))
  try simp only [Act.put, List.setIfInBounds_toArray, List.set_cons_zero, List.set_cons_succ, List.getElem_toArray, List.getElem_cons_zero, List.getElem_cons_succ]
  refine wpAnyH_take (i := 7) (v := ?v8) rfl (by kernel_rfl) (by kernel_rfl) (by kernel_rfl) (fun _ _ _ h => h) (Or.inl ⟨by rfl, ?hy8⟩) hHeld ?rest8
  case hy8 => (intro w' hSw; (try dsimp only at hSw); go_simp; (try with_reducible rfl))
  try simp only [Act.put, List.setIfInBounds_toArray, List.set_cons_zero, List.set_cons_succ, List.getElem_toArray, List.getElem_cons_zero, List.getElem_cons_succ]
  refine wpAnyH_take (i := 8) (v := ?v9) rfl (by kernel_rfl) (by kernel_rfl) (by kernel_rfl) (fun _ _ _ h => h) (Or.inl ⟨by rfl, ?hy9⟩) hHeld ?rest9
  case hy9 => (intro w' hSw; (try dsimp only at hSw); go_simp; (try with_reducible rfl))
  try simp only [Act.put, List.setIfInBounds_toArray, List.set_cons_zero, List.set_cons_succ, List.getElem_toArray, List.getElem_cons_zero, List.getElem_cons_succ]
  refine wpAnyH_take (i := 9) (v := ?v10) rfl (by kernel_rfl) (by kernel_rfl) (by kernel_rfl) (fun _ _ _ h => h) (Or.inl ⟨by rfl, ?hy10⟩) hHeld ?rest10
  case hy10 => (intro w' hSw; (try dsimp only at hSw); go_simp; (try with_reducible rfl))
  try simp only [Act.put, List.setIfInBounds_toArray, List.set_cons_zero, List.set_cons_succ, List.getElem_toArray, List.getElem_cons_zero, List.getElem_cons_succ]
  refine wpAnyH_take (i := 10) (v := ?v11) rfl (by kernel_rfl) (by kernel_rfl) (by kernel_rfl) (fun _ _ _ h => h) (Or.inl ⟨by rfl, ?hy11⟩) hHeld ?rest11
  case hy11 => (intro w' hSw; (try dsimp only at hSw); go_simp; (try with_reducible rfl))
  try simp only [Act.put, List.setIfInBounds_toArray, List.set_cons_zero, List.set_cons_succ, List.getElem_toArray, List.getElem_cons_zero, List.getElem_cons_succ]
  refine wpAnyH_ready (rs := [11]) (by kernel_rfl) (by simp) ?_
  refine AllReadyH.cons rfl (fun K hK => ?_) AllReadyH.nil
  rw [if_pos (by rfl)]
  refine wp_copy_two (.tmp 17) (.tmp 22) rfl (g := g) (o1 := 12) (o2 := 10) (k := k) (d1 := 31) (d2 := 32) rfl rfl HK1.out.drew.blk (by rw [hlen]; omega) (by rw [hlen]; omega) HIN.out ?_
  refine hK.out _ _ (trivial) (fun hHeld => ?_)
  clear hK K
  try simp only [Act.put, List.setIfInBounds_toArray, List.set_cons_zero, List.set_cons_succ, List.getElem_toArray, List.getElem_cons_zero, List.getElem_cons_succ]
  refine wpAnyH_done (by kernel_rfl) ?_ _
  have K2 := HK1.out.drew.copied k hk
  have hT2 := (Turned.below (S := fun k => k = g) hB).drew.trans (turned_setRow w1.drew g (over (cc h T c m s) 12 (((cc h T c m s).drop 10).take (2 * k))).toArray) (fun _ _ h => h)
  have hgw : g < w1.drew.heap.size := HK1.out.lt
  have KO2 := KO.drew.turned (turned_setRow w1.drew g (over (cc h T c m s) 12 (((cc h T c m s).drop 10).take (2 * k))).toArray) (by omega)
  obtain ⟨w2, hw2⟩ : ∃ w2, w1.drew.setRow g (over (cc h T c m s) 12 (((cc h T c m s).drop 10).take (2 * k))).toArray = w2 := ⟨_, rfl⟩
  rw [hw2] at K2 hT2 KO2 ⊢
  have o0 := KO2.cell (i := 0) rfl
  have o1 := KO2.cell (i := 1) rfl
  have k0 := K2.place 0 (by omega)
  have k1 := K2.z 0 (by omega)
  have q0 := K2.free 10
  have q1 := K2.free 11
  have hne : w.heap.size ≠ g := by omega
  have H2 := Lib.hid K2
  clear hw2 HK1 KO hB K2
  go_wp2_with fail
  go_region
  have K3 : CK ((w2.setCell ⟨g, 10, none⟩ (.int .i64 p)).setCell ⟨g, 11, none⟩ (.slice az nz cz)) g h (toFront T k) c m s := by
    have := H2.out.setT 0 (by omega) p (.slice az nz cz) ⟨_, _, _, rfl⟩
    rw [HP.out, ← HZ.out, toFront_eq T k (by rw [HK.out.tl]; omega), HZ.out, ← HP.out] at this
    exact this
  have hT3 := ((hT2.setCell (a := ⟨g, 10, none⟩) (.inl rfl) (.int .i64 p)).setCell (a := ⟨g, 11, none⟩) (.inl rfl) (.slice az nz cz)).drew
  have o1' := ((KO2.other ⟨g, 10, none⟩ (.int .i64 p) (Ne.symm hne)).other ⟨g, 11, none⟩ (.slice az nz cz) (Ne.symm hne)).drew.cell (i := 1) rfl
  obtain ⟨w3, hw3⟩ : ∃ w3, ((w2.setCell ⟨g, 10, none⟩ (.int .i64 p)).setCell ⟨g, 11, none⟩ (.slice az nz cz)) = w3 := ⟨_, rfl⟩
  rw [hw3] at K3 hT3 o1' ⊢
  clear hw3 o0 o1 k0 k1 q0 q1 KO2 hT2
  go_wp2_with fail
  go_ret
  exact ⟨rfl, K3.drew, hT3⟩
end Go.Proofs.Ytiflbbpliioblaa
