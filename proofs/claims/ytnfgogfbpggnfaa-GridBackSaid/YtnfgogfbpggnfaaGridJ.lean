/-
  A row of one number, so often; an even grid: the code's.
-/
import Derived.Test.YtnfgogfbpggnfaaGridG
import Derived.Test.YtnfgogfbpggnfaaPackWide
set_option linter.unusedVariables false
set_option linter.unusedSimpArgs false
namespace Go.Th.Grid
open Go Go.RowKit Go.Th
theorem wpL_copy_at {P : Program} {w : World} {ops : Array Oper} {rest : List Oper} {o : Oper} {b : Act} {Q : Exit → Act → World → Prop} {t e : TypeId} {bytes n cap : Nat} {xs : List Value} (E : ElemOf P t e 1 bytes) (hgd : o.guard = none) (d s : Operand)
    (ho : o.op = .call { callee := .builtin .copy, args := #[d, s], argTypes := #[t, t] }) {base g off m dcap sl scap : Nat} {sa : Option Addr} {ys : List Value} (k : Nat)
    (hd : b.eval d = .slice (some ⟨g, off, none⟩) m dcap) (hs : b.eval s = .slice sa sl scap)
    (hown : w.ownsRow base e 1 (.slice (some ⟨g, 0, none⟩) n cap) n xs) (hS : Sl w 1 (.slice sa sl scap) sl ys) (hk : k = Nat.min sl m) (h0 : 0 < k) (hfit : off + k ≤ n) (h1 : ∀ u ∈ ys, u.oneCell' = true)
    (h : ∀ w', w'.ownsRow base e 1 (.slice (some ⟨g, 0, none⟩) n cap) n (over xs off (ys.take k)) → Turned (fun j => j = g) w w' → wpList P ops Q rest (b.put o.dst (goInt k)) w') : wpList P ops Q (o :: rest) b w :=
  wpList_plain hgd fun _ hK => wp_copy_at E d s ho k hd hs hown hS hk h0 hfit h1 fun w' a c => hK _ _ (h w' a c)
/-- So often, noughts behind. -/
def rp (u : Int) (i n : Nat) : List Int := List.replicate i u ++ List.replicate (n - i) 0
theorem rp_over (u : Int) {i k n : Nat} (h : i + k ≤ n) : over (rp u i n) i (List.replicate k u) = rp u (i + k) n := by
  unfold rp over splice
  rw [List.take_append_of_le_length (by simp), List.take_of_length_le (by simp), List.drop_append, List.length_replicate, List.length_replicate, List.drop_eq_nil_of_le (by simp), List.nil_append, List.drop_replicate, ← List.append_assoc, List.replicate_append_replicate]
  congr 2
  omega
theorem rp_take (u : Int) {i n : Nat} : (rp u i n).take i = List.replicate i u := by
  unfold rp
  rw [List.take_append_of_le_length (by simp), List.take_of_length_le (by simp)]
theorem rp_n (u : Int) (n : Nat) : rp u n n = List.replicate n u := by unfold rp; rw [Nat.sub_self, List.replicate_zero, List.append_nil]
theorem rep_tab (c : Int) : ∀ n, List.replicate n c = tab (fun _ => c) n
  | 0 => rfl
  | n + 1 => by rw [tab, ← rep_tab c n, List.replicate_succ']
end Go.Th.Grid
namespace Go.Proofs.Ytnfgogfbpggnfaa
open Go Go.RowKit Go.Th Go.Th.Grid Go.Th.Wide

theorem i64s_over (l m : List Int) (i : Nat) : over (i64s l) i (i64s m) = i64s (over l i m) := over_map _ _ _ _
theorem i64s_take (l : List Int) (k : Nat) : (i64s l).take k = i64s (l.take k) := by simp [i64s, List.map_take]

theorem mul1_any (n : Nat) (hn : n ≤ 1000000) (w : World) : Calls Try.prog 55 #[.int .u64 1, .int .u64 n] w fun e w' => e = .returned (.tuple #[.int .u64 0, .int .u64 n]) ∧ w = w' := by
  have C := Mul64_any 1 n (by omega) (by omega)
  rw [Nat.one_mul, Nat.div_eq_of_lt (by omega), Nat.mod_eq_of_lt (by omega)] at C
  have C := Lib.hid C
  go_enter Try.func55, Try.ntmps55
  go_wp2_with fail
  refine (C.out _).mono ?_
  rintro e wx ⟨rfl, rfl⟩
  go_wp2_with fail
  go_ret2
  exact ⟨rfl, rfl⟩

set_option maxRecDepth 20000 in
set_option maxHeartbeats 3200000 in
theorem repeat_any (u : Int) (a : Option Addr) (cap n : Nat) (hn0 : 0 < n) (hn : n ≤ 1000000) (w : World) (hS : Sl w 1 (.slice a 1 cap) 1 (i64s [u])) :
    Calls Try.prog 41 #[.slice a 1 cap, .int .i64 n] w fun e w' => ∃ a' cap', e = .returned (.slice a' n cap') ∧ w'.ownsRow w.heap.size 2 1 (.slice a' n cap') n (i64s (List.replicate n u)) ∧ Below w.heap.size w w' := by
  have C1 := Lib.hid (mul1_any n hn)
  have HS := Lib.hid hS
  clear hS
  go_enter Try.func41, Try.ntmps41
  go_wp2_with fail
  refine (C1.out _).mono ?_
  rintro e wx ⟨rfl, rfl⟩
  clear C1
  go_wp2_with (refine gmk (t := 22) (e := 2) (z := .int .i64 0) (bytes := 8) Try.underlying22 (by kernel_rfl) rfl rfl _ _ rfl w.heap.size n _ _ rfl rfl (by omega) (by unfold maxLen; omega) (Nat.le_refl _) ?_)
  intro w5 ho5 hg5
  have hA5 := ggrown hg5
  obtain ⟨G, hG⟩ : ∃ G, G = w.heap.size := ⟨_, rfl⟩
  have hlo : w.heap.size ≤ G := by omega
  rw [i64s_rep] at ho5
  rw [← hG] at ho5 ⊢
  have hS5 := HS.out.below hA5
  clear hg5 hG
  go_wp2_with (refine wpL_copy_at E64 rfl (.tmp 31) (.tmp 32) rfl (off := 0) 1 rfl rfl ho5 hS5 (by show 1 = min 1 n; omega) (by omega) (by omega) (oneCell_i64s _) ?_)
  intro w6 ho6 hT6
  have hB6 : Below w.heap.size w w6 := hT6.old hA5 hA5.size (by rintro j hj rfl; omega)
  have e1 : (i64s [u]).take 1 = i64s (List.replicate 1 u) := rfl
  have e0 : List.replicate n (0 : Int) = rp u 0 n := by unfold rp; rfl
  rw [e1, e0, i64s_over, rp_over u (by omega : 0 + 1 ≤ n)] at ho6
  clear ho5 hA5 hS5 hT6 e1 e0
  go_wp2_with fail
  go_loopw [8] (fun c wx => ∃ i : Nat, 1 ≤ i ∧ i ≤ n ∧ c = .int .i64 i ∧ wx.ownsRow G 2 1 (.slice (some ⟨G, 0, none⟩) n n) n (i64s (rp u i n)) ∧ Below w.heap.size w wx) (fun c _ => n - (intOf c).toNat)
  case atStart => exact ⟨1, Nat.le_refl _, by omega, rfl, ho6, hB6⟩
  case round =>
    clear ho6 hB6
    obtain ⟨i, hi1, hi, rfl, ho, hB⟩ := hrel
    by_cases hlt : i < n
    · obtain ⟨a1, cap1, hcut, _, _, hca⟩ := Sl.cut_off E64 (Sl.of_own ho) i (by omega) (i : Int) rfl
      have ea := hca G 0 rfl (by omega)
      rw [Nat.zero_add] at ea
      subst ea
      obtain ⟨hto, hst⟩ := Sl.cut_to E64 (Sl.of_own ho) i (by omega)
      rw [i64s_take, rp_take] at hst
      obtain ⟨k, hk⟩ : ∃ k, k = min i (n - i) := ⟨_, rfl⟩
      have hk1 : 0 < k := by omega
      have hk2 : i + k ≤ n := by omega
      have hkt : (i64s (List.replicate i u)).take k = i64s (List.replicate k u) := by rw [i64s_take, List.take_replicate, Nat.min_eq_left (by omega)]
      have hkw : IntKind.i64.wrap ((i : Int) + (k : Int)) = ((i + k : Nat) : Int) := by
        have := IntWalk.i64_in ((i + k : Nat) : Int) (by omega)
        simpa using this
      have HK := Lib.hid hk
      have HKT := Lib.hid hkt
      have HST := Lib.hid hst
      have hB0 := Below.refl wr.heap.size wr
      clear hk hkt hst hca
      go_wp2_with fail
      refine wp_region_held_drew (S := (fun _ : World => True)) (by kernel_rfl) (trivial) (fun hHeld => ?_)
      refine wpAnyH_take (i := 0) (v := ?v1) rfl (by kernel_rfl) (by kernel_rfl) (by kernel_rfl) (fun _ _ _ h => h) (Or.inl ⟨by rfl, ?hy1⟩) hHeld ?rest1
      case hy1 => (intro w' hSw; (try dsimp only at hSw); go_simp; (try with_reducible rfl))
      try simp only [Act.put, List.setIfInBounds_toArray, List.set_cons_zero, List.set_cons_succ, List.getElem_toArray, List.getElem_cons_zero, List.getElem_cons_succ]
      refine wpAnyH_take (i := 1) (v := ?v2) rfl (by kernel_rfl) (by kernel_rfl) (by kernel_rfl) (fun _ _ _ h => h) (Or.inl ⟨by rfl, ?hy2⟩) hHeld ?rest2
      case hy2 => (intro w' hSw; (try dsimp only at hSw); go_simp; (try with_reducible rfl))
      try simp only [Act.put, List.setIfInBounds_toArray, List.set_cons_zero, List.set_cons_succ, List.getElem_toArray, List.getElem_cons_zero, List.getElem_cons_succ]
      refine wpAnyH_take (i := 2) (v := ?v3) rfl (by kernel_rfl) (by kernel_rfl) (by kernel_rfl) (fun _ _ _ h => h) (Or.inl ⟨by rfl, ?hy3⟩) hHeld ?rest3
      case hy3 => (intro w' hSw; (try dsimp only at hSw); go_simp; (try with_reducible rfl))
      try simp only [Act.put, List.setIfInBounds_toArray, List.set_cons_zero, List.set_cons_succ, List.getElem_toArray, List.getElem_cons_zero, List.getElem_cons_succ]
      refine wpAnyH_take (i := 3) (v := ?v4) rfl (by kernel_rfl) (by kernel_rfl) (by kernel_rfl) (fun _ _ _ h => h) (Or.inl ⟨by rfl, ?hy4⟩) hHeld ?rest4
      case hy4 => (intro w' hSw; (try dsimp only at hSw); go_simp; (try with_reducible rfl))
      try simp only [Act.put, List.setIfInBounds_toArray, List.set_cons_zero, List.set_cons_succ, List.getElem_toArray, List.getElem_cons_zero, List.getElem_cons_succ]
      refine wpAnyH_take (i := 4) (v := ?v5) rfl (by kernel_rfl) (by kernel_rfl) (by kernel_rfl) (fun _ _ _ h => h) (Or.inl ⟨by rfl, ?hy5⟩) hHeld ?rest5
      case hy5 => (intro w' hSw; (try dsimp only at hSw); go_simp; (try with_reducible rfl))
      try simp only [Act.put, List.setIfInBounds_toArray, List.set_cons_zero, List.set_cons_succ, List.getElem_toArray, List.getElem_cons_zero, List.getElem_cons_succ]
      refine wpAnyH_take (i := 5) (v := ?v6) rfl (by kernel_rfl) (by kernel_rfl) (by kernel_rfl) (fun _ _ _ h => h) (Or.inl ⟨by rfl, ?hy6⟩) hHeld ?rest6
      case hy6 => (intro w' hSw; (try dsimp only at hSw); go_simp; (try with_reducible rfl))
      try simp only [Act.put, List.setIfInBounds_toArray, List.set_cons_zero, List.set_cons_succ, List.getElem_toArray, List.getElem_cons_zero, List.getElem_cons_succ]
      refine wpAnyH_take (i := 6) (v := ?v7) rfl (by kernel_rfl) (by kernel_rfl) (by kernel_rfl) (fun _ _ _ h => h) (Or.inl ⟨by rfl, ?hy7⟩) hHeld ?rest7
      case hy7 => (intro w' hSw; (try dsimp only at hSw); go_simp; (try with_reducible rfl))
      try simp only [Act.put, List.setIfInBounds_toArray, List.set_cons_zero, List.set_cons_succ, List.getElem_toArray, List.getElem_cons_zero, List.getElem_cons_succ]
      refine wpAnyH_ready (rs := [7]) (by kernel_rfl) (by simp) ?_
      refine AllReadyH.cons rfl (fun K hK => ?_) AllReadyH.nil
      rw [if_pos (by rfl)]
      refine wp_copy_at E64 (.tmp 41) (.tmp 44) rfl k rfl rfl (ownsRow_below (w' := wr.drew) ho (Below.refl wr.heap.size wr).drew) (HST.out.below (Below.refl wr.heap.size wr).drew) HK.out hk1 hk2 (oneCell_i64s _) ?_
      intro w7 ho7 hT7
      refine hK.out _ _ (trivial) (fun hHeld => ?_)
      clear hK K
      try simp only [Act.put, List.setIfInBounds_toArray, List.set_cons_zero, List.set_cons_succ, List.getElem_toArray, List.getElem_cons_zero, List.getElem_cons_succ]
      refine wpAnyH_take (i := 8) (v := ?v9) rfl (by kernel_rfl) (by kernel_rfl) (by kernel_rfl) (fun _ _ _ h => h) (Or.inl ⟨by rfl, ?hy9⟩) hHeld ?rest9
      case hy9 => (intro w' hSw; (try dsimp only at hSw); go_simp; (try with_reducible rfl))
      try simp only [Act.put, List.setIfInBounds_toArray, List.set_cons_zero, List.set_cons_succ, List.getElem_toArray, List.getElem_cons_zero, List.getElem_cons_succ]
      refine wpAnyH_take (i := 9) (v := ?v10) rfl (by kernel_rfl) (by kernel_rfl) (by kernel_rfl) (fun _ _ _ h => h) (Or.inl ⟨by rfl, ?hy10⟩) hHeld ?rest10
      case hy10 => (intro w' hSw; (try dsimp only at hSw); go_simp; (try with_reducible rfl))
      try simp only [Act.put, List.setIfInBounds_toArray, List.set_cons_zero, List.set_cons_succ, List.getElem_toArray, List.getElem_cons_zero, List.getElem_cons_succ]
      refine wpAnyH_done (by kernel_rfl) ?_ _
      have hB7 : Below w.heap.size w w7 := hT7.old hB.drew (by have := hB.size; simp at *; omega) (by rintro j hj rfl; omega)
      rw [HKT.out, i64s_over, rp_over u hk2] at ho7
      clear hT7 ho hB hB0 hcut hto
      go_wp2_with fail
      go_roundw
      case rel => exact ⟨i + k, by omega, hk2, by go_num, ho7, hB7⟩
      case measure => simp [intOf]; omega
    · obtain rfl : i = n := by omega
      rw [rp_n] at ho
      go_wp2_with fail
      go_ret
      exact ⟨_, _, rfl, ownsRow_base ho hlo, hB⟩

set_option maxRecDepth 20000 in
set_option maxHeartbeats 1600000 in
theorem even_no (x y X Y s : Int) (h : sidesG x y s = false) (w : World) :
    Calls Try.prog 11 #[.int .i64 x, .int .i64 y, .int .i64 X, .int .i64 Y, .int .i64 s] w (GRes 0 0 0 0 0 0 [] 2 w) := by
  rw [sidesG_is] at h
  have C1 := sides_any x y
  have C2 := step_any s
  obtain ⟨b1, hb1⟩ : ∃ b, b = sdG x y := ⟨_, rfl⟩
  obtain ⟨b2, hb2⟩ : ∃ b, b = inR s 16 4096 := ⟨_, rfl⟩
  rw [← hb1] at C1
  rw [← hb2] at C2
  rw [← hb1, ← hb2] at h
  have C1 := Lib.hid C1
  have C2 := Lib.hid C2
  clear hb1 hb2
  obtain ⟨w2, hw2⟩ : ∃ w2, w.alloc (.cells #[.int .i64 0, .int .i64 0, .int .i64 0, .int .i64 0, .int .i64 0, .slice none 0 0] 24) = w2 := ⟨_, rfl⟩
  have M2 := (Mem.start w).alloc 24 (gc 0 0 0 0 0 (.slice none 0 0))
  rw [show w.alloc (.cells (gc 0 0 0 0 0 (.slice none 0 0)).toArray 24) = w2 from hw2] at M2
  have HW2 := Lib.hid hw2
  clear hw2
  go_enter Try.func11, Try.ntmps11
  go_upto_region 1 with fail
  rw [HW2.out]
  clear HW2
  obtain ⟨gB, hgB⟩ : ∃ gB, gB = w.heap.size := ⟨_, rfl⟩
  rw [← hgB] at M2 ⊢
  have hlo : w.heap.size ≤ gB := by omega
  clear hgB
  obtain ⟨c0, c1, c2, c3, c4, c5⟩ := gcells (M2.has (Has.head _ _ _ _))
  have K := M2.has (Has.head _ _ _ _)
  have f0 := K.free 0
  have f1 := K.free 1
  have f2 := K.free 2
  have f3 := K.free 3
  have f4 := K.free 4
  have f5 := K.free 5
  have M4 := (((((M2.set 0 (.int .i64 0) (Upd.head _ _ _ _ _) (by simp)).set 1 (.int .i64 0) (Upd.head _ _ _ _ _) (by simp)).set 2 (.int .i64 0) (Upd.head _ _ _ _ _) (by simp)).set 3 (.int .i64 0) (Upd.head _ _ _ _ _) (by simp)).set 4 (.int .i64 0) (Upd.head _ _ _ _ _) (by simp)).set 5 (.slice none 0 0) (Upd.head _ _ _ _ _) (by simp)
  cases b1
  · clear h
    go_wp2_with fail
    refine (C1.out _).mono ?_
    rintro e wx ⟨rfl, rfl⟩
    go_wp2_with fail
    ((try simp only [Exit.inBlock, Exit.then]); refine bodyPost_ret (res_cell_tmp rfl M4 rfl (Has.head _ _ _ _) (rd_g _ _ _ _ _ _) rfl) rfl ?_)
    exact ⟨none, 0, rfl, World.ownsRow_nil _ _ _ _, M4.below⟩
  · rw [Bool.true_and] at h
    subst h
    go_wp2_with fail
    refine (C1.out _).mono ?_
    rintro e wx ⟨rfl, rfl⟩
    go_wp2_with fail
    refine (C2.out _).mono ?_
    rintro e wx ⟨rfl, rfl⟩
    go_wp2_with fail
    ((try simp only [Exit.inBlock, Exit.then]); refine bodyPost_ret (res_cell_tmp rfl M4 rfl (Has.head _ _ _ _) (rd_g _ _ _ _ _ _) rfl) rfl ?_)
    exact ⟨none, 0, rfl, World.ownsRow_nil _ _ _ _, M4.below⟩

set_option maxRecDepth 20000 in
set_option maxHeartbeats 6400000 in
theorem even_yes (x y n : Nat) (X Y s : Int) (h : sidesG x y s = true) (hn : n = x * y) (w : World) :
    Calls Try.prog 11 #[.int .i64 x, .int .i64 y, .int .i64 X, .int .i64 Y, .int .i64 s] w (GRes x y X Y s n (even n) 0 w) := by
  obtain ⟨q1, q2, q3⟩ := sidesG_iff.1 h
  rw [sidesG_is, Bool.and_eq_true] at h
  have C1 := sides_any x y
  have C2 := step_any s
  rw [h.1] at C1
  rw [h.2] at C2
  have hle : x * y ≤ 64 * 64 := Nat.mul_le_mul (by omega) (by omega)
  have hpos : 0 < x * y := Nat.mul_pos (by omega) (by omega)
  rw [← hn] at hle hpos
  have hmul : (x : Int) * (y : Int) = (n : Int) := by rw [hn]; simp
  have C3 := Lib.hid (glen_any x y X Y s (n : Int) none 0 0 (by rw [hmul]; exact IntWalk.wrap64_in _ (by omega)))
  obtain ⟨Q, hQ⟩ : ∃ Q : Nat, 1073741824 / (n : Int) = (Q : Int) := ⟨1073741824 / n, by simp⟩
  have hQb : Q ≤ 1073741824 := by
    have : 1073741824 / (n : Int) ≤ 1073741824 := Int.ediv_le_self _ (by omega)
    omega
  have he : even n = List.replicate n (Q : Int) := by unfold even; rw [hQ, ← rep_tab]
  rw [he]
  have CR := Lib.hid (fun a' cap' wx hs => repeat_any (Q : Int) a' cap' n hpos (by omega) wx hs)
  have CW := Lib.hid (fun a' cap' => with_any x y X Y s (.slice none 0 0) a' n cap' ⟨_, _, _, rfl⟩)
  have wQ : IntKind.i64.wrap (Q : Int) = (Q : Int) := IntWalk.i64_in _ (by omega)
  have wQ2 : wrap64 (Q : Int) = (Q : Int) := IntWalk.wrap64_in _ (by omega)
  have hn0 : ¬ ((n : Int) = 0) := by omega
  have hn1 : ¬ (n = 0) := by omega
  have hQt : Int.tdiv 1073741824 (n : Int) = (Q : Int) := by rw [Int.tdiv_eq_ediv_of_nonneg (by omega)]; exact hQ
  have C1 := Lib.hid C1
  have C2 := Lib.hid C2
  clear h hn hmul he
  obtain ⟨w2, hw2⟩ : ∃ w2, w.alloc (.cells #[.int .i64 0, .int .i64 0, .int .i64 0, .int .i64 0, .int .i64 0, .slice none 0 0] 24) = w2 := ⟨_, rfl⟩
  have M2 := (Mem.start w).alloc 24 (gc 0 0 0 0 0 (.slice none 0 0))
  rw [show w.alloc (.cells (gc 0 0 0 0 0 (.slice none 0 0)).toArray 24) = w2 from hw2] at M2
  have HW2 := Lib.hid hw2
  clear hw2
  go_enter Try.func11, Try.ntmps11
  go_upto_region 1 with fail
  rw [HW2.out]
  clear HW2
  obtain ⟨gB, hgB⟩ : ∃ gB, gB = w.heap.size := ⟨_, rfl⟩
  rw [← hgB] at M2 ⊢
  clear hgB
  go_wp2_with fail
  refine (C1.out _).mono ?_
  rintro e wx ⟨rfl, rfl⟩
  go_wp2_with fail
  refine (C2.out _).mono ?_
  rintro e wx ⟨rfl, rfl⟩
  clear C1 C2
  obtain ⟨w3, hw3⟩ : ∃ w3, w2.alloc (.cells #[.int .i64 x, .int .i64 y, .int .i64 X, .int .i64 Y, .int .i64 s, .slice none 0 0] 24) = w3 := ⟨_, rfl⟩
  have M3 := M2.alloc 24 (gc x y X Y s (.slice none 0 0))
  rw [show w2.alloc (.cells (gc x y X Y s (.slice none 0 0)).toArray 24) = w3 from hw3] at M3
  have HW3 := Lib.hid hw3
  clear hw3
  go_upto_region 4 with fail
  rw [HW3.out]
  clear HW3
  obtain ⟨gC, hgC⟩ : ∃ gC, gC = w2.heap.size := ⟨_, rfl⟩
  rw [← hgC] at M3 ⊢
  clear hgC M2
  obtain ⟨c0, c1, c2, c3, c4, c5⟩ := gcells (M3.has (Has.head _ _ _ _))
  refine wp_region_held_drew (S := (fun w' : World => w'.cell? ⟨gC, 0, none⟩ = some (.int .i64 x) ∧ w'.cell? ⟨gC, 1, none⟩ = some (.int .i64 y) ∧ w'.cell? ⟨gC, 2, none⟩ = some (.int .i64 X) ∧ w'.cell? ⟨gC, 3, none⟩ = some (.int .i64 Y) ∧ w'.cell? ⟨gC, 4, none⟩ = some (.int .i64 s) ∧ w'.cell? ⟨gC, 5, none⟩ = some (.slice none 0 0))) (by kernel_rfl) (⟨c0, c1, c2, c3, c4, c5⟩) (fun hHeld => ?_)
  refine wpAnyH_take (i := 0) (v := ?v5001) rfl (by kernel_rfl) (by kernel_rfl) (by kernel_rfl) (fun _ _ _ h => h) (Or.inl ⟨by rfl, ?hy5001⟩) hHeld ?rest5001
  case hy5001 => (intro w' hSw; (try dsimp only at hSw); go_simp; (try with_reducible rfl))
  try simp only [Act.put, List.setIfInBounds_toArray, List.set_cons_zero, List.set_cons_succ, List.getElem_toArray, List.getElem_cons_zero, List.getElem_cons_succ]
  refine wpAnyH_take (i := 1) (v := ?v5002) rfl (by kernel_rfl) (by kernel_rfl) (by kernel_rfl) (fun _ _ _ h => h) (Or.inl ⟨by rfl, ?hy5002⟩) hHeld ?rest5002
  case hy5002 => (intro w' hSw; (try dsimp only at hSw); go_simp; (try with_reducible rfl))
  try simp only [Act.put, List.setIfInBounds_toArray, List.set_cons_zero, List.set_cons_succ, List.getElem_toArray, List.getElem_cons_zero, List.getElem_cons_succ]
  refine wpAnyH_take (i := 5) (v := ?v5003) rfl (by kernel_rfl) (by kernel_rfl) (by kernel_rfl) (fun _ _ _ h => h) (Or.inl ⟨by rfl, ?hy5003⟩) hHeld ?rest5003
  case hy5003 => (intro w' hSw; (try dsimp only at hSw); go_simp; (try with_reducible rfl))
  try simp only [Act.put, List.setIfInBounds_toArray, List.set_cons_zero, List.set_cons_succ, List.getElem_toArray, List.getElem_cons_zero, List.getElem_cons_succ]
  refine wpAnyH_ready (rs := [2]) (by kernel_rfl) (by simp) ?_
  refine AllReadyH.cons rfl (fun K hK => ?_) AllReadyH.nil
  go_simp
  refine (C3.out _).mono ?_
  rintro e w4 ⟨rfl, hA⟩
  have M4 := M3.drew.call hA
  try go_wp2_with fail
  refine hK.out _ _ (gcells (M4.has (Has.head _ _ _ _))) (fun hHeld => ?_)
  clear hK K
  try simp only [Act.put, List.setIfInBounds_toArray, List.set_cons_zero, List.set_cons_succ, List.getElem_toArray, List.getElem_cons_zero, List.getElem_cons_succ]
  refine wpAnyH_take (i := 3) (v := ?v5004) rfl (by kernel_rfl) (by kernel_rfl) (by kernel_rfl) (fun _ _ _ h => h) (Or.inl ⟨by rfl, ?hy5004⟩) hHeld ?rest5004
  case hy5004 => (intro w' hSw; (try dsimp only at hSw); go_simp; (try with_reducible rfl))
  try simp only [Act.put, List.setIfInBounds_toArray, List.set_cons_zero, List.set_cons_succ, List.getElem_toArray, List.getElem_cons_zero, List.getElem_cons_succ]
  refine wpAnyH_ready (rs := [4, 6]) (by kernel_rfl) (by simp) ?_
  refine AllReadyH.cons rfl (fun K hK => ?ordA) (AllReadyH.cons rfl (fun K hK => ?ordB) AllReadyH.nil)
  case ordA =>
    go_simp
    have M5 := M4.alloc 2 [.int .i64 (Q : Int)]
    obtain ⟨gQ, hgQ⟩ : ∃ gQ, gQ = w4.heap.size := ⟨_, rfl⟩
    obtain ⟨w5, hw5⟩ : ∃ w9, w4.alloc (.cells #[.int .i64 (Q : Int)] 2) = w9 := ⟨_, rfl⟩
    rw [show w4.alloc (.cells [Value.int .i64 (Q : Int)].toArray 2) = w5 from hw5, ← hgQ] at M5
    try rw [hw5]
    try rw [← hgQ]
    clear hw5 hgQ
    try go_wp2_with fail
    refine hK.out _ _ (gcells (M5.has (.tail _ _ _ _ _ (Has.head _ _ _ _)))) (fun hHeld => ?_)
    clear hK K
    try simp only [Act.put, List.setIfInBounds_toArray, List.set_cons_zero, List.set_cons_succ, List.getElem_toArray, List.getElem_cons_zero, List.getElem_cons_succ]
    refine wpAnyH_ready (rs := [6]) (by kernel_rfl) (by simp) ?_
    refine AllReadyH.cons rfl (fun K hK => ?_) AllReadyH.nil
    go_simp
    refine (C3.out _).mono ?_
    rintro e w6 ⟨rfl, hA⟩
    have M6 := M5.call hA
    try go_wp2_with fail
    refine hK.out _ _ (gcells (M6.has (.tail _ _ _ _ _ (Has.head _ _ _ _)))) (fun hHeld => ?_)
    clear hK K
    try simp only [Act.put, List.setIfInBounds_toArray, List.set_cons_zero, List.set_cons_succ, List.getElem_toArray, List.getElem_cons_zero, List.getElem_cons_succ]
    refine wpAnyH_ready (rs := [7]) (by kernel_rfl) (by simp) ?_
    refine AllReadyH.cons rfl (fun K hK => ?_) AllReadyH.nil
    go_simp
    refine (CR.out _ _ _ ((M6.has (Has.head _ _ _ _)).sl 1 rfl (by unfold maxLen; omega))).mono ?_
    rintro e w7 ⟨a7, cap7, rfl, ho7, hA7⟩
    have hz7 := M6.below.size
    have M7 := M6.call hA7
    try go_wp2_with fail
    refine hK.out _ _ (gcells (M7.has (.tail _ _ _ _ _ (Has.head _ _ _ _)))) (fun hHeld => ?_)
    clear hK K
    try simp only [Act.put, List.setIfInBounds_toArray, List.set_cons_zero, List.set_cons_succ, List.getElem_toArray, List.getElem_cons_zero, List.getElem_cons_succ]
    refine wpAnyH_ready (rs := [8]) (by kernel_rfl) (by simp) ?_
    refine AllReadyH.cons rfl (fun K hK => ?_) AllReadyH.nil
    go_simp
    refine (CW.out a7 cap7 _).mono ?_
    rintro e w8 ⟨rfl, hA8⟩
    have M8 := M7.call hA8
    have ho8 := ownsRow_below ho7 hA8
    try go_wp2_with fail
    refine hK.out _ _ (gcells (M8.has (.tail _ _ _ _ _ (Has.head _ _ _ _)))) (fun hHeld => ?_)
    clear hK K
    try simp only [Act.put, List.setIfInBounds_toArray, List.set_cons_zero, List.set_cons_succ, List.getElem_toArray, List.getElem_cons_zero, List.getElem_cons_succ]
    refine wpAnyH_ready (rs := [9]) (by kernel_rfl) (by simp) ?_
    refine AllReadyH.cons rfl (fun K hK => ?_) AllReadyH.nil
    rw [if_pos (by rfl)]
    refine wp_stM (v := gv x y X Y s (.slice a7 n cap7)) M8 rfl rfl rfl (wr_g _ _ _ _ _ _ _ _ _ _ _ _ _ _) (.tail _ _ _ _ _ _ _ (.tail _ _ _ _ _ _ _ (Upd.head _ _ _ _ _))) ?_
    intro w9 M9 hT9
    refine hK.out _ _ (gcells (M9.has (.tail _ _ _ _ _ (Has.head _ _ _ _)))) (fun hHeld => ?_)
    clear hK K
    try simp only [Act.put, List.setIfInBounds_toArray, List.set_cons_zero, List.set_cons_succ, List.getElem_toArray, List.getElem_cons_zero, List.getElem_cons_succ]
    refine wpAnyH_take (i := 10) (v := ?v5005) rfl (by kernel_rfl) (by kernel_rfl) (by kernel_rfl) (fun _ _ _ h => h) (Or.inl ⟨by rfl, ?hy5005⟩) hHeld ?rest5005
    case hy5005 => (intro w' hSw; (try dsimp only at hSw); go_simp; (try with_reducible rfl))
    try simp only [Act.put, List.setIfInBounds_toArray, List.set_cons_zero, List.set_cons_succ, List.getElem_toArray, List.getElem_cons_zero, List.getElem_cons_succ]
    refine wpAnyH_done (by kernel_rfl) ?_ _
    have ho9 := gown_turned ho8 (M8.has (.tail _ _ _ _ _ (.tail _ _ _ _ _ (Has.head _ _ _ _)))) (by decide) hT9
    go_wp2_with fail
    ((try simp only [Exit.inBlock, Exit.then]); refine bodyPost_ret (res_cell_tmp rfl M9 rfl (.tail _ _ _ _ _ (.tail _ _ _ _ _ (Has.head _ _ _ _))) (rd_g _ _ _ _ _ _) rfl) rfl ?_)
    exact ⟨_, _, rfl, ownsRow_base ho9 hz7, M9.below⟩
  case ordB =>
    go_simp
    refine (C3.out _).mono ?_
    rintro e w5 ⟨rfl, hA⟩
    have M5 := M4.call hA
    try go_wp2_with fail
    refine hK.out _ _ (gcells (M5.has (Has.head _ _ _ _))) (fun hHeld => ?_)
    clear hK K
    try simp only [Act.put, List.setIfInBounds_toArray, List.set_cons_zero, List.set_cons_succ, List.getElem_toArray, List.getElem_cons_zero, List.getElem_cons_succ]
    refine wpAnyH_ready (rs := [4]) (by kernel_rfl) (by simp) ?_
    refine AllReadyH.cons rfl (fun K hK => ?_) AllReadyH.nil
    go_simp
    have M6 := M5.alloc 2 [.int .i64 (Q : Int)]
    obtain ⟨gQ, hgQ⟩ : ∃ gQ, gQ = w5.heap.size := ⟨_, rfl⟩
    obtain ⟨w6, hw6⟩ : ∃ w9, w5.alloc (.cells #[.int .i64 (Q : Int)] 2) = w9 := ⟨_, rfl⟩
    rw [show w5.alloc (.cells [Value.int .i64 (Q : Int)].toArray 2) = w6 from hw6, ← hgQ] at M6
    try rw [hw6]
    try rw [← hgQ]
    clear hw6 hgQ
    try go_wp2_with fail
    refine hK.out _ _ (gcells (M6.has (.tail _ _ _ _ _ (Has.head _ _ _ _)))) (fun hHeld => ?_)
    clear hK K
    try simp only [Act.put, List.setIfInBounds_toArray, List.set_cons_zero, List.set_cons_succ, List.getElem_toArray, List.getElem_cons_zero, List.getElem_cons_succ]
    refine wpAnyH_ready (rs := [7]) (by kernel_rfl) (by simp) ?_
    refine AllReadyH.cons rfl (fun K hK => ?_) AllReadyH.nil
    go_simp
    refine (CR.out _ _ _ ((M6.has (Has.head _ _ _ _)).sl 1 rfl (by unfold maxLen; omega))).mono ?_
    rintro e w7 ⟨a7, cap7, rfl, ho7, hA7⟩
    have hz7 := M6.below.size
    have M7 := M6.call hA7
    try go_wp2_with fail
    refine hK.out _ _ (gcells (M7.has (.tail _ _ _ _ _ (Has.head _ _ _ _)))) (fun hHeld => ?_)
    clear hK K
    try simp only [Act.put, List.setIfInBounds_toArray, List.set_cons_zero, List.set_cons_succ, List.getElem_toArray, List.getElem_cons_zero, List.getElem_cons_succ]
    refine wpAnyH_ready (rs := [8]) (by kernel_rfl) (by simp) ?_
    refine AllReadyH.cons rfl (fun K hK => ?_) AllReadyH.nil
    go_simp
    refine (CW.out a7 cap7 _).mono ?_
    rintro e w8 ⟨rfl, hA8⟩
    have M8 := M7.call hA8
    have ho8 := ownsRow_below ho7 hA8
    try go_wp2_with fail
    refine hK.out _ _ (gcells (M8.has (.tail _ _ _ _ _ (Has.head _ _ _ _)))) (fun hHeld => ?_)
    clear hK K
    try simp only [Act.put, List.setIfInBounds_toArray, List.set_cons_zero, List.set_cons_succ, List.getElem_toArray, List.getElem_cons_zero, List.getElem_cons_succ]
    refine wpAnyH_ready (rs := [9]) (by kernel_rfl) (by simp) ?_
    refine AllReadyH.cons rfl (fun K hK => ?_) AllReadyH.nil
    rw [if_pos (by rfl)]
    refine wp_stM (v := gv x y X Y s (.slice a7 n cap7)) M8 rfl rfl rfl (wr_g _ _ _ _ _ _ _ _ _ _ _ _ _ _) (.tail _ _ _ _ _ _ _ (.tail _ _ _ _ _ _ _ (Upd.head _ _ _ _ _))) ?_
    intro w9 M9 hT9
    refine hK.out _ _ (gcells (M9.has (.tail _ _ _ _ _ (Has.head _ _ _ _)))) (fun hHeld => ?_)
    clear hK K
    try simp only [Act.put, List.setIfInBounds_toArray, List.set_cons_zero, List.set_cons_succ, List.getElem_toArray, List.getElem_cons_zero, List.getElem_cons_succ]
    refine wpAnyH_take (i := 10) (v := ?v5006) rfl (by kernel_rfl) (by kernel_rfl) (by kernel_rfl) (fun _ _ _ h => h) (Or.inl ⟨by rfl, ?hy5006⟩) hHeld ?rest5006
    case hy5006 => (intro w' hSw; (try dsimp only at hSw); go_simp; (try with_reducible rfl))
    try simp only [Act.put, List.setIfInBounds_toArray, List.set_cons_zero, List.set_cons_succ, List.getElem_toArray, List.getElem_cons_zero, List.getElem_cons_succ]
    refine wpAnyH_done (by kernel_rfl) ?_ _
    have ho9 := gown_turned ho8 (M8.has (.tail _ _ _ _ _ (.tail _ _ _ _ _ (Has.head _ _ _ _)))) (by decide) hT9
    go_wp2_with fail
    ((try simp only [Exit.inBlock, Exit.then]); refine bodyPost_ret (res_cell_tmp rfl M9 rfl (.tail _ _ _ _ _ (.tail _ _ _ _ _ (Has.head _ _ _ _))) (rd_g _ _ _ _ _ _) rfl) rfl ?_)
    exact ⟨_, _, rfl, ownsRow_base ho9 hz7, M9.below⟩
end Go.Proofs.Ytnfgogfbpggnfaa
