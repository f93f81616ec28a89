/-
  Texts in one: ChartV, ChartN, ChartG, ChartW, ChartL.
-/
import Derived.Test.YtlkjcamjgaecgaaGreatPackChartA
import Derived.Test.YtlkjcamjgaecgaaGreatPackTile
import Derived.Deep.LoopGhost
set_option linter.unusedVariables false
set_option linter.unusedSimpArgs false

/-
  A tile read: the code's.
-/
namespace Go.Proofs.YtlkjcamjgaecgaaGreat
open Go Go.RowKit Go.Th Go.Th.Crc

/-- What a call answers that reads a tile: heights of which R holds, with a code. -/
def TAns (R : List Int → Int → Prop) (m : Nat) (w0 : World) (e : Ending) (w' : World) : Prop :=
  ∃ zs c v, e = .returned (.tuple #[v, .int .i64 c]) ∧ R zs c ∧ (∃ a n cap, v = .slice a n cap) ∧ (c = 0 → zs.length = m ∧ w'.ownsRow w0.heap.size 51 1 v m (i16s zs)) ∧ Below w0.heap.size w0 w'
theorem tget_some (x y n : Nat) (hT : isT x y = true) (hn : n = x * y) (v : Value) (bs : List Nat) (hl : bs.length ≤ 1000000) (hb : ∀ u ∈ bs, u < 256) (w : World) (hS : Sl w 1 v bs.length (u8s bs)) :
    Calls Tryz.prog 105 #[.int .i64 x, .int .i64 y, v] w (TAns (fun _ _ => True) n w) := by
  refine (tget_again x y n hT hn v bs hl hb w hS).mono ?_
  rintro e w' (⟨d, v', he, hd, _, _, ho, hB⟩ | ⟨c, hc, he, hB⟩)
  · obtain ⟨a, cap, hv, _, _⟩ := ownsRow_slice ho
    exact ⟨d, 0, v', he, trivial, ⟨a, _, cap, hv⟩, fun _ => ⟨hd, ho⟩, hB⟩
  · exact ⟨[], c, _, he, trivial, ⟨none, 0, 0, rfl⟩, fun h => by omega, hB⟩
theorem tget_back' (x y n : Nat) (hT : isT x y = true) (hn : n = x * y) (v : Value) (z : List Int) (hz : z.length = n) (h16 : ∀ u ∈ z, In16 u) (w : World) (hS : Sl w 1 v (pack (row (deltas x z))).length (u8s (pack (row (deltas x z))))) :
    Calls Tryz.prog 105 #[.int .i64 x, .int .i64 y, v] w (TAns (fun zs c => c = 0 ∧ zs = z) n w) := by
  refine (tget_back x y n hT hn v z hz h16 w hS).mono ?_
  rintro e w' ⟨v', he, ho, hB⟩
  obtain ⟨a, cap, hv, _, _⟩ := ownsRow_slice ho
  exact ⟨z, 0, v', he, ⟨rfl, rfl⟩, ⟨a, _, cap, hv⟩, fun _ => ⟨hz, ho⟩, hB⟩
theorem crcGet_bad (vx : Value) (bs : List Nat) (w : World) (h : Sl w 1 vx bs.length (u8s bs)) (hl : bs.length ≤ 35184372088832) (hb : ∀ x ∈ bs, x < 256) (hok : okB bs = false) :
    Calls Tryz.prog 80 #[vx] w fun e w' => e = .returned (.tuple #[.slice none 0 0, .bool false]) ∧ Below w.heap.size w w' := by
  by_cases h4 : 4 ≤ bs.length
  · exact crcGet_no vx bs w h hl hb h4 hok
  · exact crcGet_short vx bs w h (by omega)
theorem cell_ints {w : World} {a : Option Addr} {n cap : Nat} {m : List Nat} (hS : Sl w 1 (.slice a n cap) n (ints m)) (i : Nat) (hi : i < m.length) :
    ∃ b o, a = some ⟨b, o, none⟩ ∧ b < w.heap.size ∧ w.cell? ⟨b, o + i, none⟩ = some (.int .i64 (m[i] : Nat)) := by
  obtain ⟨a', c', he, _, _, _, _, h5⟩ := hS
  cases he
  obtain ⟨b, o, e, hc⟩ := h5 i _ (ints_at m i hi)
  refine ⟨b, o, e, ?_, hc⟩
  have := World.block_lt_of_cell? w _ hc
  simpa using this

set_option maxRecDepth 20000 in
set_option maxHeartbeats 6400000 in
theorem tile9_no (W H i n9 L m s o sx sy X Y px py k : Nat) (cell ox oy : Int) (bs one : List Nat) (a : Option Addr) (cap : Nat) (aA aS : Option Addr) (cA cS : Nat) (As Ss : List Nat) (Rz : List Int → Int → Prop) (w : World) (hi : i < n9) (hn9 : n9 ≤ 256)
    (hS : Sl w 1 (.slice a L cap) L (u8s bs)) (hA : Sl w 1 (.slice aA n9 cA) n9 (ints As)) (hs : Sl w 1 (.slice aS n9 cS) n9 (ints Ss)) (hAl : As.length = n9) (hSl : Ss.length = n9) (ho : As[i]? = some o) (hsz : Ss[i]? = some s)
    (C1 : Hid (Ans 67 #[.int .i64 W, .int .i64 H] (.int .i64 n9)))
    (C2 : Hid (∀ wx, Sl wx 1 (.slice a L cap) L (u8s bs) → Calls Tryz.prog 104 #[.slice a L cap, .int .i64 o, .int .i64 s] wx fun e w' => ∃ a' cap', e = .returned (.slice a' s cap') ∧ Sl wx 1 (.slice a' s cap') s (u8s one) ∧ wx = w'))
    (C3 : Hid (∀ a' cap' wx, Sl wx 1 (.slice a' s cap') s (u8s one) → Calls Tryz.prog 80 #[.slice a' s cap'] wx fun e w' => e = .returned (.tuple #[.slice none 0 0, .bool false]) ∧ Below wx.heap.size wx w')) (HOK : Hid (okB one = false)) :
    Calls Tryz.prog 76 #[.slice a L cap, dv W H (.slice none 0 0) cell ox oy (.slice aA n9 cA) (.slice aS n9 cS), .int .i64 i] w (TAns (fun zs c => (okB one = false ∧ c = 4) ∨ (okB one = true ∧ Rz zs c)) m w) := by
  obtain ⟨bA, oA, rfl, hbA, hcA⟩ := cell_ints hA i (by omega)
  obtain ⟨bS, oS, rfl, hbS, hcS⟩ := cell_ints hs i (by omega)
  rw [List.getElem?_eq_getElem (by omega)] at ho hsz
  have ho' : As[i]'(by omega) = o := by simpa using ho
  have hsz' : Ss[i]'(by omega) = s := by simpa using hsz
  rw [ho'] at hcA
  rw [hsz'] at hcS
  have hmA := hA.max
  have hmS := hs.max
  have HS := Lib.hid hS
  have hi0 : ¬ ((i : Int) < 0) := by omega
  have hge : ¬ ((n9 : Int) ≤ (i : Int)) := by omega
  obtain ⟨w1, hw1⟩ : ∃ w1, (w.alloc (.cells #[.int .i64 W, .int .i64 H, .slice none 0 0, .int .i64 cell, .int .i32 ox, .int .i32 oy, .slice (some ⟨bA, oA, none⟩) n9 cA, .slice (some ⟨bS, oS, none⟩) n9 cS] 101)).alloc (.cells #[.int .i64 W, .int .i64 H, .slice none 0 0] 26) = w1 := ⟨_, rfl⟩
  have hB : Below w.heap.size w w1 := by rw [← hw1]; exact ((Below.refl _ _).alloc (Nat.le_refl _) _).alloc (by simp) _
  have KD : Blk w1 w.heap.size 101 [.int .i64 W, .int .i64 H, .slice none 0 0, .int .i64 cell, .int .i32 ox, .int .i32 oy, .slice (some ⟨bA, oA, none⟩) n9 cA, .slice (some ⟨bS, oS, none⟩) n9 cS] := by rw [← hw1]; exact (Blk.new w _ _).alloc _
  have KF : Blk w1 (w.heap.size + 1) 26 [.int .i64 W, .int .i64 H, .slice none 0 0] := by
    rw [← hw1]
    have := Blk.new (w.alloc (.cells #[.int .i64 W, .int .i64 H, .slice none 0 0, .int .i64 cell, .int .i32 ox, .int .i32 oy, .slice (some ⟨bA, oA, none⟩) n9 cA, .slice (some ⟨bS, oS, none⟩) n9 cS] 101)) 26 [.int .i64 W, .int .i64 H, .slice none 0 0]
    rw [World.size_alloc] at this
    exact this
  have hcA1 := (hB.cell (p := ⟨bA, oA + i, none⟩) hbA).trans hcA
  have hcS1 := (hB.cell (p := ⟨bS, oS + i, none⟩) hbS).trans hcS
  have hbA1 : bA < w1.heap.size := Nat.lt_of_lt_of_le hbA hB.size
  have hbS1 : bS < w1.heap.size := Nat.lt_of_lt_of_le hbS hB.size
  clear hS hA hs ho hsz ho' hsz' hcA hcS hbA hbS hAl hSl
  have HW1 := Lib.hid hw1
  have hmin3 : ∀ (ts : Array TypeId) (t : TypeId) (wx : World), (Builtin.min_ ts t #[.int .i64 (n9 : Int), .int .i64 (n9 : Int), .int .i64 (n9 : Int)]).run Tryz.prog wx = .ok (.int .i64 (n9 : Int)) wx := fun ts t wx => by simp [Builtin.min_, Builtin.min2]
  clear hw1
  go_enter Tryz.func76, Tryz.ntmps76
  go_wp2_with fail
  rw [HW1.out]
  have d6 := KD.cell (i := 6) rfl
  have d7 := KD.cell (i := 7) rfl
  have f0 := KF.cell (i := 0) rfl
  have f1 := KF.cell (i := 1) rfl
  refine wp_region_held_drew (S := (fun w' : World => w'.cell? ⟨w.heap.size, 6, none⟩ = some (.slice (some ⟨bA, oA, none⟩) n9 cA) ∧ w'.cell? ⟨w.heap.size, 7, none⟩ = some (.slice (some ⟨bS, oS, none⟩) n9 cS) ∧ w'.cell? ⟨w.heap.size + 1, 0, none⟩ = some (.int .i64 W) ∧ w'.cell? ⟨w.heap.size + 1, 1, none⟩ = some (.int .i64 H))) (by kernel_rfl) (⟨d6, d7, f0, f1⟩) (fun hHeld => ?_)
  refine wpAnyH_take (i := 0) (v := ?v106) rfl (by kernel_rfl) (by kernel_rfl) (by kernel_rfl) (fun _ _ _ h => h) (Or.inl ⟨by rfl, ?hy106⟩) hHeld ?rest106
  case hy106 => (intro w' hSw; (try dsimp only at hSw); go_simp; (try with_reducible rfl))
  try simp only [Act.put, List.setIfInBounds_toArray, List.set_cons_zero, List.set_cons_succ, List.getElem_toArray, List.getElem_cons_zero, List.getElem_cons_succ]
  refine wpAnyH_take (i := 1) (v := ?v107) rfl (by kernel_rfl) (by kernel_rfl) (by kernel_rfl) (fun _ _ _ h => h) (Or.inl ⟨by rfl, ?hy107⟩) hHeld ?rest107
  case hy107 => (intro w' hSw; (try dsimp only at hSw); go_simp; (try with_reducible rfl))
  try simp only [Act.put, List.setIfInBounds_toArray, List.set_cons_zero, List.set_cons_succ, List.getElem_toArray, List.getElem_cons_zero, List.getElem_cons_succ]
  refine wpAnyH_take (i := 2) (v := ?v108) rfl (by kernel_rfl) (by kernel_rfl) (by kernel_rfl) (fun _ _ _ h => h) (Or.inl ⟨by rfl, ?hy108⟩) hHeld ?rest108
  case hy108 => (intro w' hSw; (try dsimp only at hSw); go_simp; (try with_reducible rfl))
  try simp only [Act.put, List.setIfInBounds_toArray, List.set_cons_zero, List.set_cons_succ, List.getElem_toArray, List.getElem_cons_zero, List.getElem_cons_succ]
  refine wpAnyH_take (i := 3) (v := ?v109) rfl (by kernel_rfl) (by kernel_rfl) (by kernel_rfl) (fun _ _ _ h => h) (Or.inl ⟨by rfl, ?hy109⟩) hHeld ?rest109
  case hy109 => (intro w' hSw; (try dsimp only at hSw); go_simp; (try with_reducible rfl))
  try simp only [Act.put, List.setIfInBounds_toArray, List.set_cons_zero, List.set_cons_succ, List.getElem_toArray, List.getElem_cons_zero, List.getElem_cons_succ]
  refine wpAnyH_take (i := 4) (v := ?v110) rfl (by kernel_rfl) (by kernel_rfl) (by kernel_rfl) (fun _ _ _ h => h) (Or.inl ⟨by rfl, ?hy110⟩) hHeld ?rest110
  case hy110 => (intro w' hSw; (try dsimp only at hSw); go_simp; (try with_reducible rfl))
  try simp only [Act.put, List.setIfInBounds_toArray, List.set_cons_zero, List.set_cons_succ, List.getElem_toArray, List.getElem_cons_zero, List.getElem_cons_succ]
  refine wpAnyH_take (i := 5) (v := ?v111) rfl (by kernel_rfl) (by kernel_rfl) (by kernel_rfl) (fun _ _ _ h => h) (Or.inl ⟨by rfl, ?hy111⟩) hHeld ?rest111
  case hy111 => (intro w' hSw; (try dsimp only at hSw); go_simp; (try with_reducible rfl))
  try simp only [Act.put, List.setIfInBounds_toArray, List.set_cons_zero, List.set_cons_succ, List.getElem_toArray, List.getElem_cons_zero, List.getElem_cons_succ]
  refine wpAnyH_take (i := 6) (v := ?v112) rfl (by kernel_rfl) (by kernel_rfl) (by kernel_rfl) (fun _ _ _ h => h) (Or.inl ⟨by rfl, ?hy112⟩) hHeld ?rest112
  case hy112 => (intro w' hSw; (try dsimp only at hSw); go_simp; (try with_reducible rfl))
  try simp only [Act.put, List.setIfInBounds_toArray, List.set_cons_zero, List.set_cons_succ, List.getElem_toArray, List.getElem_cons_zero, List.getElem_cons_succ]
  refine wpAnyH_take (i := 7) (v := ?v113) rfl (by kernel_rfl) (by kernel_rfl) (by kernel_rfl) (fun _ _ _ h => h) (Or.inl ⟨by rfl, ?hy113⟩) hHeld ?rest113
  case hy113 => (intro w' hSw; (try dsimp only at hSw); go_simp; (try with_reducible rfl))
  try simp only [Act.put, List.setIfInBounds_toArray, List.set_cons_zero, List.set_cons_succ, List.getElem_toArray, List.getElem_cons_zero, List.getElem_cons_succ]
  refine wpAnyH_take (i := 9) (v := ?v114) rfl (by kernel_rfl) (by kernel_rfl) (by kernel_rfl) (fun _ _ _ h => h) (Or.inl ⟨by rfl, ?hy114⟩) hHeld ?rest114
  case hy114 => (intro w' hSw; (try dsimp only at hSw); go_simp; (try with_reducible rfl))
  try simp only [Act.put, List.setIfInBounds_toArray, List.set_cons_zero, List.set_cons_succ, List.getElem_toArray, List.getElem_cons_zero, List.getElem_cons_succ]
  refine wpAnyH_take (i := 10) (v := ?v115) rfl (by kernel_rfl) (by kernel_rfl) (by kernel_rfl) (fun _ _ _ h => h) (Or.inl ⟨by rfl, ?hy115⟩) hHeld ?rest115
  case hy115 => (intro w' hSw; (try dsimp only at hSw); go_simp; (try with_reducible rfl))
  try simp only [Act.put, List.setIfInBounds_toArray, List.set_cons_zero, List.set_cons_succ, List.getElem_toArray, List.getElem_cons_zero, List.getElem_cons_succ]
  refine wpAnyH_take (i := 11) (v := ?v116) rfl (by kernel_rfl) (by kernel_rfl) (by kernel_rfl) (fun _ _ _ h => h) (Or.inl ⟨by rfl, ?hy116⟩) hHeld ?rest116
  case hy116 => (intro w' hSw; (try dsimp only at hSw); go_simp; (try with_reducible rfl))
  try simp only [Act.put, List.setIfInBounds_toArray, List.set_cons_zero, List.set_cons_succ, List.getElem_toArray, List.getElem_cons_zero, List.getElem_cons_succ]
  refine wpAnyH_take (i := 12) (v := ?v117) rfl (by kernel_rfl) (by kernel_rfl) (by kernel_rfl) (fun _ _ _ h => h) (Or.inl ⟨by rfl, ?hy117⟩) hHeld ?rest117
  case hy117 => (intro w' hSw; (try dsimp only at hSw); go_simp; (try with_reducible rfl))
  try simp only [Act.put, List.setIfInBounds_toArray, List.set_cons_zero, List.set_cons_succ, List.getElem_toArray, List.getElem_cons_zero, List.getElem_cons_succ]
  refine wpAnyH_take (i := 13) (v := ?v118) rfl (by kernel_rfl) (by kernel_rfl) (by kernel_rfl) (fun _ _ _ h => h) (Or.inl ⟨by rfl, ?hy118⟩) hHeld ?rest118
  case hy118 => (intro w' hSw; (try dsimp only at hSw); go_simp; (try with_reducible rfl))
  try simp only [Act.put, List.setIfInBounds_toArray, List.set_cons_zero, List.set_cons_succ, List.getElem_toArray, List.getElem_cons_zero, List.getElem_cons_succ]
  refine wpAnyH_take (i := 14) (v := ?v119) rfl (by kernel_rfl) (by kernel_rfl) (by kernel_rfl) (fun _ _ _ h => h) (Or.inl ⟨by rfl, ?hy119⟩) hHeld ?rest119
  case hy119 => (intro w' hSw; (try dsimp only at hSw); go_simp; (try with_reducible rfl))
  try simp only [Act.put, List.setIfInBounds_toArray, List.set_cons_zero, List.set_cons_succ, List.getElem_toArray, List.getElem_cons_zero, List.getElem_cons_succ]
  refine wpAnyH_ready (rs := [8]) (by kernel_rfl) (by simp) ?_
  refine AllReadyH.cons rfl (fun K hK => ?_) AllReadyH.nil
  go_simp
  refine (C1.out _).mono ?_
  rintro e w2 ⟨rfl, hA⟩
  replace KD := KD.drew.below hA KD.lt
  replace KF := KF.drew.below hA KF.lt
  replace hcA1 := (hA.cell (p := ⟨bA, oA + i, none⟩) hbA1).trans hcA1
  replace hcS1 := (hA.cell (p := ⟨bS, oS + i, none⟩) hbS1).trans hcS1
  replace hbA1 := Nat.lt_of_lt_of_le hbA1 hA.size
  replace hbS1 := Nat.lt_of_lt_of_le hbS1 hA.size
  replace hB := hB.drew.trans (hA.mono hB.size)
  clear C1 hA
  try go_wp2_with fail
  refine hK.out _ _ (⟨KD.cell (i := 6) rfl, KD.cell (i := 7) rfl, KF.cell (i := 0) rfl, KF.cell (i := 1) rfl⟩) (fun hHeld => ?_)
  clear hK K
  try simp only [Act.put, List.setIfInBounds_toArray, List.set_cons_zero, List.set_cons_succ, List.getElem_toArray, List.getElem_cons_zero, List.getElem_cons_succ]
  refine wpAnyH_take (i := 15) (v := ?v121) rfl (by kernel_rfl) (by kernel_rfl) (by kernel_rfl) (fun _ _ _ h => h) (Or.inl ⟨by rfl, ?hy121⟩) hHeld ?rest121
  case hy121 => (intro w' hSw; (try dsimp only at hSw); go_simp; (try with_reducible rfl))
  try simp only [Act.put, List.setIfInBounds_toArray, List.set_cons_zero, List.set_cons_succ, List.getElem_toArray, List.getElem_cons_zero, List.getElem_cons_succ]
  refine wpAnyH_take (i := 16) (v := ?v122) rfl (by kernel_rfl) (by kernel_rfl) (by kernel_rfl) (fun _ _ _ h => h) (Or.inl ⟨by rfl, ?hy122⟩) hHeld ?rest122
  case hy122 => (intro w' hSw; (try dsimp only at hSw); go_simp; (try with_reducible rfl))
  try simp only [Act.put, List.setIfInBounds_toArray, List.set_cons_zero, List.set_cons_succ, List.getElem_toArray, List.getElem_cons_zero, List.getElem_cons_succ]
  refine wpAnyH_take (i := 17) (v := ?v123) rfl (by kernel_rfl) (by kernel_rfl) (by kernel_rfl) (fun _ _ _ h => h) (Or.inl ⟨by rfl, ?hy123⟩) hHeld ?rest123
  case hy123 => (intro w' hSw; (try dsimp only at hSw); go_simp; (try with_reducible rfl))
  try simp only [Act.put, List.setIfInBounds_toArray, List.set_cons_zero, List.set_cons_succ, List.getElem_toArray, List.getElem_cons_zero, List.getElem_cons_succ]
  refine wpAnyH_done (by kernel_rfl) ?_ _
  clear d6 d7 f0 f1
  have d6 := KD.cell (i := 6) rfl
  have d7 := KD.cell (i := 7) rfl
  have D2 := Lib.hid (C2.out w2.drew (HS.out.below hB.drew))
  clear C2
  go_wp2_with fail
  refine wp_region_held_drew (S := (fun w' : World => w'.cell? ⟨w.heap.size, 6, none⟩ = some (.slice (some ⟨bA, oA, none⟩) n9 cA) ∧ w'.cell? ⟨w.heap.size, 7, none⟩ = some (.slice (some ⟨bS, oS, none⟩) n9 cS) ∧ w'.cell? ⟨bA, oA + i, none⟩ = some (.int .i64 o) ∧ w'.cell? ⟨bS, oS + i, none⟩ = some (.int .i64 s))) (by kernel_rfl) (⟨d6, d7, hcA1, hcS1⟩) (fun hHeld => ?_)
  refine wpAnyH_take (i := 0) (v := ?v124) rfl (by kernel_rfl) (by kernel_rfl) (by kernel_rfl) (fun _ _ _ h => h) (Or.inl ⟨by rfl, ?hy124⟩) hHeld ?rest124
  case hy124 => (intro w' hSw; (try dsimp only at hSw); go_simp; (try with_reducible rfl))
  try simp only [Act.put, List.setIfInBounds_toArray, List.set_cons_zero, List.set_cons_succ, List.getElem_toArray, List.getElem_cons_zero, List.getElem_cons_succ]
  refine wpAnyH_take (i := 1) (v := ?v125) rfl (by kernel_rfl) (by kernel_rfl) (by kernel_rfl) (fun _ _ _ h => h) (Or.inl ⟨by rfl, ?hy125⟩) hHeld ?rest125
  case hy125 => (intro w' hSw; (try dsimp only at hSw); go_simp; (try with_reducible rfl))
  try simp only [Act.put, List.setIfInBounds_toArray, List.set_cons_zero, List.set_cons_succ, List.getElem_toArray, List.getElem_cons_zero, List.getElem_cons_succ]
  refine wpAnyH_take (i := 2) (v := ?v126) rfl (by kernel_rfl) (by kernel_rfl) (by kernel_rfl) (fun _ _ _ h => h) (Or.inl ⟨by rfl, ?hy126⟩) hHeld ?rest126
  case hy126 => (intro w' hSw; (try dsimp only at hSw); go_simp; (try with_reducible rfl))
  try simp only [Act.put, List.setIfInBounds_toArray, List.set_cons_zero, List.set_cons_succ, List.getElem_toArray, List.getElem_cons_zero, List.getElem_cons_succ]
  refine wpAnyH_take (i := 3) (v := ?v127) rfl (by kernel_rfl) (by kernel_rfl) (by kernel_rfl) (fun _ _ _ h => h) (Or.inl ⟨by rfl, ?hy127⟩) hHeld ?rest127
  case hy127 => (intro w' hSw; (try dsimp only at hSw); go_simp; (try with_reducible rfl))
  try simp only [Act.put, List.setIfInBounds_toArray, List.set_cons_zero, List.set_cons_succ, List.getElem_toArray, List.getElem_cons_zero, List.getElem_cons_succ]
  refine wpAnyH_take (i := 4) (v := ?v128) rfl (by kernel_rfl) (by kernel_rfl) (by kernel_rfl) (fun _ _ _ h => h) (Or.inl ⟨by rfl, ?hy128⟩) hHeld ?rest128
  case hy128 => (intro w' hSw; (try dsimp only at hSw); go_simp; (try with_reducible rfl))
  try simp only [Act.put, List.setIfInBounds_toArray, List.set_cons_zero, List.set_cons_succ, List.getElem_toArray, List.getElem_cons_zero, List.getElem_cons_succ]
  refine wpAnyH_take (i := 5) (v := ?v129) rfl (by kernel_rfl) (by kernel_rfl) (by kernel_rfl) (fun _ _ _ h => h) (Or.inl ⟨by rfl, ?hy129⟩) hHeld ?rest129
  case hy129 => (intro w' hSw; (try dsimp only at hSw); go_simp; (try with_reducible rfl))
  try simp only [Act.put, List.setIfInBounds_toArray, List.set_cons_zero, List.set_cons_succ, List.getElem_toArray, List.getElem_cons_zero, List.getElem_cons_succ]
  refine wpAnyH_take (i := 6) (v := ?v130) rfl (by kernel_rfl) (by kernel_rfl) (by kernel_rfl) (fun _ _ _ h => h) (Or.inl ⟨by rfl, ?hy130⟩) hHeld ?rest130
  case hy130 => (intro w' hSw; (try dsimp only at hSw); go_simp; (try with_reducible rfl))
  try simp only [Act.put, List.setIfInBounds_toArray, List.set_cons_zero, List.set_cons_succ, List.getElem_toArray, List.getElem_cons_zero, List.getElem_cons_succ]
  refine wpAnyH_take (i := 7) (v := ?v131) rfl (by kernel_rfl) (by kernel_rfl) (by kernel_rfl) (fun _ _ _ h => h) (Or.inl ⟨by rfl, ?hy131⟩) hHeld ?rest131
  case hy131 => (intro w' hSw; (try dsimp only at hSw); go_simp; (try with_reducible rfl))
  try simp only [Act.put, List.setIfInBounds_toArray, List.set_cons_zero, List.set_cons_succ, List.getElem_toArray, List.getElem_cons_zero, List.getElem_cons_succ]
  refine wpAnyH_take (i := 8) (v := ?v132) rfl (by kernel_rfl) (by kernel_rfl) (by kernel_rfl) (fun _ _ _ h => h) (Or.inl ⟨by rfl, ?hy132⟩) hHeld ?rest132
  case hy132 => (intro w' hSw; (try dsimp only at hSw); go_simp; (try with_reducible rfl))
  try simp only [Act.put, List.setIfInBounds_toArray, List.set_cons_zero, List.set_cons_succ, List.getElem_toArray, List.getElem_cons_zero, List.getElem_cons_succ]
  refine wpAnyH_take (i := 9) (v := ?v133) rfl (by kernel_rfl) (by kernel_rfl) (by kernel_rfl) (fun _ _ _ h => h) (Or.inl ⟨by rfl, ?hy133⟩) hHeld ?rest133
  case hy133 => (intro w' hSw; (try dsimp only at hSw); go_simp; (try with_reducible rfl))
  try simp only [Act.put, List.setIfInBounds_toArray, List.set_cons_zero, List.set_cons_succ, List.getElem_toArray, List.getElem_cons_zero, List.getElem_cons_succ]
  refine wpAnyH_take (i := 10) (v := ?v134) rfl (by kernel_rfl) (by kernel_rfl) (by kernel_rfl) (fun _ _ _ h => h) (Or.inl ⟨by rfl, ?hy134⟩) hHeld ?rest134
  case hy134 => (intro w' hSw; (try dsimp only at hSw); go_simp; (try with_reducible rfl))
  try simp only [Act.put, List.setIfInBounds_toArray, List.set_cons_zero, List.set_cons_succ, List.getElem_toArray, List.getElem_cons_zero, List.getElem_cons_succ]
  refine wpAnyH_ready (rs := [11]) (by kernel_rfl) (by simp) ?_
  refine AllReadyH.cons rfl (fun K hK => ?_) AllReadyH.nil
  go_simp
  refine D2.out.mono ?_
  rintro e w3 ⟨a3, c3, rfl, hs3, rfl⟩
  clear D2
  try go_wp2_with fail
  refine hK.out _ _ (⟨KD.cell (i := 6) rfl, KD.cell (i := 7) rfl, hcA1, hcS1⟩) (fun hHeld => ?_)
  clear hK K
  try simp only [Act.put, List.setIfInBounds_toArray, List.set_cons_zero, List.set_cons_succ, List.getElem_toArray, List.getElem_cons_zero, List.getElem_cons_succ]
  refine wpAnyH_ready (rs := [12]) (by kernel_rfl) (by simp) ?_
  refine AllReadyH.cons rfl (fun K hK => ?_) AllReadyH.nil
  go_simp
  refine (C3.out a3 c3 _ hs3).mono ?_
  rintro e w4 ⟨rfl, hA⟩
  have KD3 := KD.drew.below hA KD.lt
  have hcA3 := (hA.cell (p := ⟨bA, oA + i, none⟩) hbA1).trans hcA1
  have hcS3 := (hA.cell (p := ⟨bS, oS + i, none⟩) hbS1).trans hcS1
  replace hB := hB.drew.trans (hA.mono hB.size)
  clear C3 hA
  try go_wp2_with fail
  refine hK.out _ _ (⟨KD3.cell (i := 6) rfl, KD3.cell (i := 7) rfl, hcA3, hcS3⟩) (fun hHeld => ?_)
  clear hK K
  try simp only [Act.put, List.setIfInBounds_toArray, List.set_cons_zero, List.set_cons_succ, List.getElem_toArray, List.getElem_cons_zero, List.getElem_cons_succ]
  refine wpAnyH_take (i := 13) (v := ?v137) rfl (by kernel_rfl) (by kernel_rfl) (by kernel_rfl) (fun _ _ _ h => h) (Or.inl ⟨by rfl, ?hy137⟩) hHeld ?rest137
  case hy137 => (intro w' hSw; (try dsimp only at hSw); go_simp; (try with_reducible rfl))
  try simp only [Act.put, List.setIfInBounds_toArray, List.set_cons_zero, List.set_cons_succ, List.getElem_toArray, List.getElem_cons_zero, List.getElem_cons_succ]
  refine wpAnyH_take (i := 14) (v := ?v138) rfl (by kernel_rfl) (by kernel_rfl) (by kernel_rfl) (fun _ _ _ h => h) (Or.inl ⟨by rfl, ?hy138⟩) hHeld ?rest138
  case hy138 => (intro w' hSw; (try dsimp only at hSw); go_simp; (try with_reducible rfl))
  try simp only [Act.put, List.setIfInBounds_toArray, List.set_cons_zero, List.set_cons_succ, List.getElem_toArray, List.getElem_cons_zero, List.getElem_cons_succ]
  refine wpAnyH_take (i := 15) (v := ?v139) rfl (by kernel_rfl) (by kernel_rfl) (by kernel_rfl) (fun _ _ _ h => h) (Or.inl ⟨by rfl, ?hy139⟩) hHeld ?rest139
  case hy139 => (intro w' hSw; (try dsimp only at hSw); go_simp; (try with_reducible rfl))
  try simp only [Act.put, List.setIfInBounds_toArray, List.set_cons_zero, List.set_cons_succ, List.getElem_toArray, List.getElem_cons_zero, List.getElem_cons_succ]
  refine wpAnyH_take (i := 16) (v := ?v140) rfl (by kernel_rfl) (by kernel_rfl) (by kernel_rfl) (fun _ _ _ h => h) (Or.inl ⟨by rfl, ?hy140⟩) hHeld ?rest140
  case hy140 => (intro w' hSw; (try dsimp only at hSw); go_simp; (try with_reducible rfl))
  try simp only [Act.put, List.setIfInBounds_toArray, List.set_cons_zero, List.set_cons_succ, List.getElem_toArray, List.getElem_cons_zero, List.getElem_cons_succ]
  refine wpAnyH_take (i := 17) (v := ?v141) rfl (by kernel_rfl) (by kernel_rfl) (by kernel_rfl) (fun _ _ _ h => h) (Or.inl ⟨by rfl, ?hy141⟩) hHeld ?rest141
  case hy141 => (intro w' hSw; (try dsimp only at hSw); go_simp; (try with_reducible rfl))
  try simp only [Act.put, List.setIfInBounds_toArray, List.set_cons_zero, List.set_cons_succ, List.getElem_toArray, List.getElem_cons_zero, List.getElem_cons_succ]
  refine wpAnyH_done (by kernel_rfl) ?_ _
  clear d6 d7 hcA3 hcS3 KD3
  go_wp2_with fail
  go_ret2
  exact ⟨[], 4, _, rfl, .inl ⟨HOK.out, rfl⟩, ⟨none, 0, 0, rfl⟩, fun h => by omega, hB⟩

set_option maxRecDepth 20000 in
set_option maxHeartbeats 6400000 in
theorem tile9_yes (W H i n9 L m s o sx sy X Y px py k : Nat) (cell ox oy : Int) (bs one : List Nat) (a : Option Addr) (cap : Nat) (aA aS : Option Addr) (cA cS : Nat) (As Ss : List Nat) (Rz : List Int → Int → Prop) (w : World) (hi : i < n9) (hn9 : n9 ≤ 256)
    (hS : Sl w 1 (.slice a L cap) L (u8s bs)) (hA : Sl w 1 (.slice aA n9 cA) n9 (ints As)) (hs : Sl w 1 (.slice aS n9 cS) n9 (ints Ss)) (hAl : As.length = n9) (hSl : Ss.length = n9) (ho : As[i]? = some o) (hsz : Ss[i]? = some s)
    (C1 : Hid (Ans 67 #[.int .i64 W, .int .i64 H] (.int .i64 n9)))
    (C2 : Hid (∀ wx, Sl wx 1 (.slice a L cap) L (u8s bs) → Calls Tryz.prog 104 #[.slice a L cap, .int .i64 o, .int .i64 s] wx fun e w' => ∃ a' cap', e = .returned (.slice a' s cap') ∧ Sl wx 1 (.slice a' s cap') s (u8s one) ∧ wx = w'))
    (C3 : Hid (∀ a' cap' wx, Sl wx 1 (.slice a' s cap') s (u8s one) → Calls Tryz.prog 80 #[.slice a' s cap'] wx fun e w' => ∃ v, e = .returned (.tuple #[v, .bool true]) ∧ w'.ownsRow wx.heap.size 5 1 v k (u8s (one.take k)) ∧ Below wx.heap.size wx w')) (HOK : Hid (okB one = true))
    (C4 : Hid (Ans 68 #[.int .i64 W, .int .i64 i] (pv X Y))) (C5 : Hid (Ans 71 #[.int .i64 W, .int .i64 H, pv X Y] (.tuple #[.int .i64 px, .int .i64 py, .int .i64 sx, .int .i64 sy])))
    (C6 : Hid (∀ a' cap' wx, Sl wx 1 (.slice a' k cap') k (u8s (one.take k)) → Calls Tryz.prog 105 #[.int .i64 sx, .int .i64 sy, .slice a' k cap'] wx (TAns Rz m wx))) :
    Calls Tryz.prog 76 #[.slice a L cap, dv W H (.slice none 0 0) cell ox oy (.slice aA n9 cA) (.slice aS n9 cS), .int .i64 i] w (TAns (fun zs c => (okB one = false ∧ c = 4) ∨ (okB one = true ∧ Rz zs c)) m w) := by
  obtain ⟨bA, oA, rfl, hbA, hcA⟩ := cell_ints hA i (by omega)
  obtain ⟨bS, oS, rfl, hbS, hcS⟩ := cell_ints hs i (by omega)
  rw [List.getElem?_eq_getElem (by omega)] at ho hsz
  have ho' : As[i]'(by omega) = o := by simpa using ho
  have hsz' : Ss[i]'(by omega) = s := by simpa using hsz
  rw [ho'] at hcA
  rw [hsz'] at hcS
  have hmA := hA.max
  have hmS := hs.max
  have HS := Lib.hid hS
  have hi0 : ¬ ((i : Int) < 0) := by omega
  have hge : ¬ ((n9 : Int) ≤ (i : Int)) := by omega
  obtain ⟨w1, hw1⟩ : ∃ w1, (w.alloc (.cells #[.int .i64 W, .int .i64 H, .slice none 0 0, .int .i64 cell, .int .i32 ox, .int .i32 oy, .slice (some ⟨bA, oA, none⟩) n9 cA, .slice (some ⟨bS, oS, none⟩) n9 cS] 101)).alloc (.cells #[.int .i64 W, .int .i64 H, .slice none 0 0] 26) = w1 := ⟨_, rfl⟩
  have hB : Below w.heap.size w w1 := by rw [← hw1]; exact ((Below.refl _ _).alloc (Nat.le_refl _) _).alloc (by simp) _
  have KD : Blk w1 w.heap.size 101 [.int .i64 W, .int .i64 H, .slice none 0 0, .int .i64 cell, .int .i32 ox, .int .i32 oy, .slice (some ⟨bA, oA, none⟩) n9 cA, .slice (some ⟨bS, oS, none⟩) n9 cS] := by rw [← hw1]; exact (Blk.new w _ _).alloc _
  have KF : Blk w1 (w.heap.size + 1) 26 [.int .i64 W, .int .i64 H, .slice none 0 0] := by
    rw [← hw1]
    have := Blk.new (w.alloc (.cells #[.int .i64 W, .int .i64 H, .slice none 0 0, .int .i64 cell, .int .i32 ox, .int .i32 oy, .slice (some ⟨bA, oA, none⟩) n9 cA, .slice (some ⟨bS, oS, none⟩) n9 cS] 101)) 26 [.int .i64 W, .int .i64 H, .slice none 0 0]
    rw [World.size_alloc] at this
    exact this
  have hcA1 := (hB.cell (p := ⟨bA, oA + i, none⟩) hbA).trans hcA
  have hcS1 := (hB.cell (p := ⟨bS, oS + i, none⟩) hbS).trans hcS
  have hbA1 : bA < w1.heap.size := Nat.lt_of_lt_of_le hbA hB.size
  have hbS1 : bS < w1.heap.size := Nat.lt_of_lt_of_le hbS hB.size
  clear hS hA hs ho hsz ho' hsz' hcA hcS hbA hbS hAl hSl
  have HW1 := Lib.hid hw1
  have hmin3 : ∀ (ts : Array TypeId) (t : TypeId) (wx : World), (Builtin.min_ ts t #[.int .i64 (n9 : Int), .int .i64 (n9 : Int), .int .i64 (n9 : Int)]).run Tryz.prog wx = .ok (.int .i64 (n9 : Int)) wx := fun ts t wx => by simp [Builtin.min_, Builtin.min2]
  clear hw1
  go_enter Tryz.func76, Tryz.ntmps76
  go_wp2_with fail
  rw [HW1.out]
  have d6 := KD.cell (i := 6) rfl
  have d7 := KD.cell (i := 7) rfl
  have f0 := KF.cell (i := 0) rfl
  have f1 := KF.cell (i := 1) rfl
  refine wp_region_held_drew (S := (fun w' : World => w'.cell? ⟨w.heap.size, 6, none⟩ = some (.slice (some ⟨bA, oA, none⟩) n9 cA) ∧ w'.cell? ⟨w.heap.size, 7, none⟩ = some (.slice (some ⟨bS, oS, none⟩) n9 cS) ∧ w'.cell? ⟨w.heap.size + 1, 0, none⟩ = some (.int .i64 W) ∧ w'.cell? ⟨w.heap.size + 1, 1, none⟩ = some (.int .i64 H))) (by kernel_rfl) (⟨d6, d7, f0, f1⟩) (fun hHeld => ?_)
  refine wpAnyH_take (i := 0) (v := ?v142) rfl (by kernel_rfl) (by kernel_rfl) (by kernel_rfl) (fun _ _ _ h => h) (Or.inl ⟨by rfl, ?hy142⟩) hHeld ?rest142
  case hy142 => (intro w' hSw; (try dsimp only at hSw); go_simp; (try with_reducible rfl))
  try simp only [Act.put, List.setIfInBounds_toArray, List.set_cons_zero, List.set_cons_succ, List.getElem_toArray, List.getElem_cons_zero, List.getElem_cons_succ]
  refine wpAnyH_take (i := 1) (v := ?v143) rfl (by kernel_rfl) (by kernel_rfl) (by kernel_rfl) (fun _ _ _ h => h) (Or.inl ⟨by rfl, ?hy143⟩) hHeld ?rest143
  case hy143 => (intro w' hSw; (try dsimp only at hSw); go_simp; (try with_reducible rfl))
  try simp only [Act.put, List.setIfInBounds_toArray, List.set_cons_zero, List.set_cons_succ, List.getElem_toArray, List.getElem_cons_zero, List.getElem_cons_succ]
  refine wpAnyH_take (i := 2) (v := ?v144) rfl (by kernel_rfl) (by kernel_rfl) (by kernel_rfl) (fun _ _ _ h => h) (Or.inl ⟨by rfl, ?hy144⟩) hHeld ?rest144
  case hy144 => (intro w' hSw; (try dsimp only at hSw); go_simp; (try with_reducible rfl))
  try simp only [Act.put, List.setIfInBounds_toArray, List.set_cons_zero, List.set_cons_succ, List.getElem_toArray, List.getElem_cons_zero, List.getElem_cons_succ]
  refine wpAnyH_take (i := 3) (v := ?v145) rfl (by kernel_rfl) (by kernel_rfl) (by kernel_rfl) (fun _ _ _ h => h) (Or.inl ⟨by rfl, ?hy145⟩) hHeld ?rest145
  case hy145 => (intro w' hSw; (try dsimp only at hSw); go_simp; (try with_reducible rfl))
  try simp only [Act.put, List.setIfInBounds_toArray, List.set_cons_zero, List.set_cons_succ, List.getElem_toArray, List.getElem_cons_zero, List.getElem_cons_succ]
  refine wpAnyH_take (i := 4) (v := ?v146) rfl (by kernel_rfl) (by kernel_rfl) (by kernel_rfl) (fun _ _ _ h => h) (Or.inl ⟨by rfl, ?hy146⟩) hHeld ?rest146
  case hy146 => (intro w' hSw; (try dsimp only at hSw); go_simp; (try with_reducible rfl))
  try simp only [Act.put, List.setIfInBounds_toArray, List.set_cons_zero, List.set_cons_succ, List.getElem_toArray, List.getElem_cons_zero, List.getElem_cons_succ]
  refine wpAnyH_take (i := 5) (v := ?v147) rfl (by kernel_rfl) (by kernel_rfl) (by kernel_rfl) (fun _ _ _ h => h) (Or.inl ⟨by rfl, ?hy147⟩) hHeld ?rest147
  case hy147 => (intro w' hSw; (try dsimp only at hSw); go_simp; (try with_reducible rfl))
  try simp only [Act.put, List.setIfInBounds_toArray, List.set_cons_zero, List.set_cons_succ, List.getElem_toArray, List.getElem_cons_zero, List.getElem_cons_succ]
  refine wpAnyH_take (i := 6) (v := ?v148) rfl (by kernel_rfl) (by kernel_rfl) (by kernel_rfl) (fun _ _ _ h => h) (Or.inl ⟨by rfl, ?hy148⟩) hHeld ?rest148
  case hy148 => (intro w' hSw; (try dsimp only at hSw); go_simp; (try with_reducible rfl))
  try simp only [Act.put, List.setIfInBounds_toArray, List.set_cons_zero, List.set_cons_succ, List.getElem_toArray, List.getElem_cons_zero, List.getElem_cons_succ]
  refine wpAnyH_take (i := 7) (v := ?v149) rfl (by kernel_rfl) (by kernel_rfl) (by kernel_rfl) (fun _ _ _ h => h) (Or.inl ⟨by rfl, ?hy149⟩) hHeld ?rest149
  case hy149 => (intro w' hSw; (try dsimp only at hSw); go_simp; (try with_reducible rfl))
  try simp only [Act.put, List.setIfInBounds_toArray, List.set_cons_zero, List.set_cons_succ, List.getElem_toArray, List.getElem_cons_zero, List.getElem_cons_succ]
  refine wpAnyH_take (i := 9) (v := ?v150) rfl (by kernel_rfl) (by kernel_rfl) (by kernel_rfl) (fun _ _ _ h => h) (Or.inl ⟨by rfl, ?hy150⟩) hHeld ?rest150
  case hy150 => (intro w' hSw; (try dsimp only at hSw); go_simp; (try with_reducible rfl))
  try simp only [Act.put, List.setIfInBounds_toArray, List.set_cons_zero, List.set_cons_succ, List.getElem_toArray, List.getElem_cons_zero, List.getElem_cons_succ]
  refine wpAnyH_take (i := 10) (v := ?v151) rfl (by kernel_rfl) (by kernel_rfl) (by kernel_rfl) (fun _ _ _ h => h) (Or.inl ⟨by rfl, ?hy151⟩) hHeld ?rest151
  case hy151 => (intro w' hSw; (try dsimp only at hSw); go_simp; (try with_reducible rfl))
  try simp only [Act.put, List.setIfInBounds_toArray, List.set_cons_zero, List.set_cons_succ, List.getElem_toArray, List.getElem_cons_zero, List.getElem_cons_succ]
  refine wpAnyH_take (i := 11) (v := ?v152) rfl (by kernel_rfl) (by kernel_rfl) (by kernel_rfl) (fun _ _ _ h => h) (Or.inl ⟨by rfl, ?hy152⟩) hHeld ?rest152
  case hy152 => (intro w' hSw; (try dsimp only at hSw); go_simp; (try with_reducible rfl))
  try simp only [Act.put, List.setIfInBounds_toArray, List.set_cons_zero, List.set_cons_succ, List.getElem_toArray, List.getElem_cons_zero, List.getElem_cons_succ]
  refine wpAnyH_take (i := 12) (v := ?v153) rfl (by kernel_rfl) (by kernel_rfl) (by kernel_rfl) (fun _ _ _ h => h) (Or.inl ⟨by rfl, ?hy153⟩) hHeld ?rest153
  case hy153 => (intro w' hSw; (try dsimp only at hSw); go_simp; (try with_reducible rfl))
  try simp only [Act.put, List.setIfInBounds_toArray, List.set_cons_zero, List.set_cons_succ, List.getElem_toArray, List.getElem_cons_zero, List.getElem_cons_succ]
  refine wpAnyH_take (i := 13) (v := ?v154) rfl (by kernel_rfl) (by kernel_rfl) (by kernel_rfl) (fun _ _ _ h => h) (Or.inl ⟨by rfl, ?hy154⟩) hHeld ?rest154
  case hy154 => (intro w' hSw; (try dsimp only at hSw); go_simp; (try with_reducible rfl))
  try simp only [Act.put, List.setIfInBounds_toArray, List.set_cons_zero, List.set_cons_succ, List.getElem_toArray, List.getElem_cons_zero, List.getElem_cons_succ]
  refine wpAnyH_take (i := 14) (v := ?v155) rfl (by kernel_rfl) (by kernel_rfl) (by kernel_rfl) (fun _ _ _ h => h) (Or.inl ⟨by rfl, ?hy155⟩) hHeld ?rest155
  case hy155 => (intro w' hSw; (try dsimp only at hSw); go_simp; (try with_reducible rfl))
  try simp only [Act.put, List.setIfInBounds_toArray, List.set_cons_zero, List.set_cons_succ, List.getElem_toArray, List.getElem_cons_zero, List.getElem_cons_succ]
  refine wpAnyH_ready (rs := [8]) (by kernel_rfl) (by simp) ?_
  refine AllReadyH.cons rfl (fun K hK => ?_) AllReadyH.nil
  go_simp
  refine (C1.out _).mono ?_
  rintro e w2 ⟨rfl, hA⟩
  replace KD := KD.drew.below hA KD.lt
  replace KF := KF.drew.below hA KF.lt
  replace hcA1 := (hA.cell (p := ⟨bA, oA + i, none⟩) hbA1).trans hcA1
  replace hcS1 := (hA.cell (p := ⟨bS, oS + i, none⟩) hbS1).trans hcS1
  replace hbA1 := Nat.lt_of_lt_of_le hbA1 hA.size
  replace hbS1 := Nat.lt_of_lt_of_le hbS1 hA.size
  replace hB := hB.drew.trans (hA.mono hB.size)
  clear C1 hA
  try go_wp2_with fail
  refine hK.out _ _ (⟨KD.cell (i := 6) rfl, KD.cell (i := 7) rfl, KF.cell (i := 0) rfl, KF.cell (i := 1) rfl⟩) (fun hHeld => ?_)
  clear hK K
  try simp only [Act.put, List.setIfInBounds_toArray, List.set_cons_zero, List.set_cons_succ, List.getElem_toArray, List.getElem_cons_zero, List.getElem_cons_succ]
  refine wpAnyH_take (i := 15) (v := ?v157) rfl (by kernel_rfl) (by kernel_rfl) (by kernel_rfl) (fun _ _ _ h => h) (Or.inl ⟨by rfl, ?hy157⟩) hHeld ?rest157
  case hy157 => (intro w' hSw; (try dsimp only at hSw); go_simp; (try with_reducible rfl))
  try simp only [Act.put, List.setIfInBounds_toArray, List.set_cons_zero, List.set_cons_succ, List.getElem_toArray, List.getElem_cons_zero, List.getElem_cons_succ]
  refine wpAnyH_take (i := 16) (v := ?v158) rfl (by kernel_rfl) (by kernel_rfl) (by kernel_rfl) (fun _ _ _ h => h) (Or.inl ⟨by rfl, ?hy158⟩) hHeld ?rest158
  case hy158 => (intro w' hSw; (try dsimp only at hSw); go_simp; (try with_reducible rfl))
  try simp only [Act.put, List.setIfInBounds_toArray, List.set_cons_zero, List.set_cons_succ, List.getElem_toArray, List.getElem_cons_zero, List.getElem_cons_succ]
  refine wpAnyH_take (i := 17) (v := ?v159) rfl (by kernel_rfl) (by kernel_rfl) (by kernel_rfl) (fun _ _ _ h => h) (Or.inl ⟨by rfl, ?hy159⟩) hHeld ?rest159
  case hy159 => (intro w' hSw; (try dsimp only at hSw); go_simp; (try with_reducible rfl))
  try simp only [Act.put, List.setIfInBounds_toArray, List.set_cons_zero, List.set_cons_succ, List.getElem_toArray, List.getElem_cons_zero, List.getElem_cons_succ]
  refine wpAnyH_done (by kernel_rfl) ?_ _
  clear d6 d7 f0 f1
  have d6 := KD.cell (i := 6) rfl
  have d7 := KD.cell (i := 7) rfl
  have D2 := Lib.hid (C2.out w2.drew (HS.out.below hB.drew))
  clear C2
  go_wp2_with fail
  refine wp_region_held_drew (S := (fun w' : World => w'.cell? ⟨w.heap.size, 6, none⟩ = some (.slice (some ⟨bA, oA, none⟩) n9 cA) ∧ w'.cell? ⟨w.heap.size, 7, none⟩ = some (.slice (some ⟨bS, oS, none⟩) n9 cS) ∧ w'.cell? ⟨bA, oA + i, none⟩ = some (.int .i64 o) ∧ w'.cell? ⟨bS, oS + i, none⟩ = some (.int .i64 s))) (by kernel_rfl) (⟨d6, d7, hcA1, hcS1⟩) (fun hHeld => ?_)
  refine wpAnyH_take (i := 0) (v := ?v160) rfl (by kernel_rfl) (by kernel_rfl) (by kernel_rfl) (fun _ _ _ h => h) (Or.inl ⟨by rfl, ?hy160⟩) hHeld ?rest160
  case hy160 => (intro w' hSw; (try dsimp only at hSw); go_simp; (try with_reducible rfl))
  try simp only [Act.put, List.setIfInBounds_toArray, List.set_cons_zero, List.set_cons_succ, List.getElem_toArray, List.getElem_cons_zero, List.getElem_cons_succ]
  refine wpAnyH_take (i := 1) (v := ?v161) rfl (by kernel_rfl) (by kernel_rfl) (by kernel_rfl) (fun _ _ _ h => h) (Or.inl ⟨by rfl, ?hy161⟩) hHeld ?rest161
  case hy161 => (intro w' hSw; (try dsimp only at hSw); go_simp; (try with_reducible rfl))
  try simp only [Act.put, List.setIfInBounds_toArray, List.set_cons_zero, List.set_cons_succ, List.getElem_toArray, List.getElem_cons_zero, List.getElem_cons_succ]
  refine wpAnyH_take (i := 2) (v := ?v162) rfl (by kernel_rfl) (by kernel_rfl) (by kernel_rfl) (fun _ _ _ h => h) (Or.inl ⟨by rfl, ?hy162⟩) hHeld ?rest162
  case hy162 => (intro w' hSw; (try dsimp only at hSw); go_simp; (try with_reducible rfl))
  try simp only [Act.put, List.setIfInBounds_toArray, List.set_cons_zero, List.set_cons_succ, List.getElem_toArray, List.getElem_cons_zero, List.getElem_cons_succ]
  refine wpAnyH_take (i := 3) (v := ?v163) rfl (by kernel_rfl) (by kernel_rfl) (by kernel_rfl) (fun _ _ _ h => h) (Or.inl ⟨by rfl, ?hy163⟩) hHeld ?rest163
  case hy163 => (intro w' hSw; (try dsimp only at hSw); go_simp; (try with_reducible rfl))
  try simp only [Act.put, List.setIfInBounds_toArray, List.set_cons_zero, List.set_cons_succ, List.getElem_toArray, List.getElem_cons_zero, List.getElem_cons_succ]
  refine wpAnyH_take (i := 4) (v := ?v164) rfl (by kernel_rfl) (by kernel_rfl) (by kernel_rfl) (fun _ _ _ h => h) (Or.inl ⟨by rfl, ?hy164⟩) hHeld ?rest164
  case hy164 => (intro w' hSw; (try dsimp only at hSw); go_simp; (try with_reducible rfl))
  try simp only [Act.put, List.setIfInBounds_toArray, List.set_cons_zero, List.set_cons_succ, List.getElem_toArray, List.getElem_cons_zero, List.getElem_cons_succ]
  refine wpAnyH_take (i := 5) (v := ?v165) rfl (by kernel_rfl) (by kernel_rfl) (by kernel_rfl) (fun _ _ _ h => h) (Or.inl ⟨by rfl, ?hy165⟩) hHeld ?rest165
  case hy165 => (intro w' hSw; (try dsimp only at hSw); go_simp; (try with_reducible rfl))
  try simp only [Act.put, List.setIfInBounds_toArray, List.set_cons_zero, List.set_cons_succ, List.getElem_toArray, List.getElem_cons_zero, List.getElem_cons_succ]
  refine wpAnyH_take (i := 6) (v := ?v166) rfl (by kernel_rfl) (by kernel_rfl) (by kernel_rfl) (fun _ _ _ h => h) (Or.inl ⟨by rfl, ?hy166⟩) hHeld ?rest166
  case hy166 => (intro w' hSw; (try dsimp only at hSw); go_simp; (try with_reducible rfl))
  try simp only [Act.put, List.setIfInBounds_toArray, List.set_cons_zero, List.set_cons_succ, List.getElem_toArray, List.getElem_cons_zero, List.getElem_cons_succ]
  refine wpAnyH_take (i := 7) (v := ?v167) rfl (by kernel_rfl) (by kernel_rfl) (by kernel_rfl) (fun _ _ _ h => h) (Or.inl ⟨by rfl, ?hy167⟩) hHeld ?rest167
  case hy167 => (intro w' hSw; (try dsimp only at hSw); go_simp; (try with_reducible rfl))
  try simp only [Act.put, List.setIfInBounds_toArray, List.set_cons_zero, List.set_cons_succ, List.getElem_toArray, List.getElem_cons_zero, List.getElem_cons_succ]
  refine wpAnyH_take (i := 8) (v := ?v168) rfl (by kernel_rfl) (by kernel_rfl) (by kernel_rfl) (fun _ _ _ h => h) (Or.inl ⟨by rfl, ?hy168⟩) hHeld ?rest168
  case hy168 => (intro w' hSw; (try dsimp only at hSw); go_simp; (try with_reducible rfl))
  try simp only [Act.put, List.setIfInBounds_toArray, List.set_cons_zero, List.set_cons_succ, List.getElem_toArray, List.getElem_cons_zero, List.getElem_cons_succ]
  refine wpAnyH_take (i := 9) (v := ?v169) rfl (by kernel_rfl) (by kernel_rfl) (by kernel_rfl) (fun _ _ _ h => h) (Or.inl ⟨by rfl, ?hy169⟩) hHeld ?rest169
  case hy169 => (intro w' hSw; (try dsimp only at hSw); go_simp; (try with_reducible rfl))
  try simp only [Act.put, List.setIfInBounds_toArray, List.set_cons_zero, List.set_cons_succ, List.getElem_toArray, List.getElem_cons_zero, List.getElem_cons_succ]
  refine wpAnyH_take (i := 10) (v := ?v170) rfl (by kernel_rfl) (by kernel_rfl) (by kernel_rfl) (fun _ _ _ h => h) (Or.inl ⟨by rfl, ?hy170⟩) hHeld ?rest170
  case hy170 => (intro w' hSw; (try dsimp only at hSw); go_simp; (try with_reducible rfl))
  try simp only [Act.put, List.setIfInBounds_toArray, List.set_cons_zero, List.set_cons_succ, List.getElem_toArray, List.getElem_cons_zero, List.getElem_cons_succ]
  refine wpAnyH_ready (rs := [11]) (by kernel_rfl) (by simp) ?_
  refine AllReadyH.cons rfl (fun K hK => ?_) AllReadyH.nil
  go_simp
  refine D2.out.mono ?_
  rintro e w3 ⟨a3, c3, rfl, hs3, rfl⟩
  clear D2
  try go_wp2_with fail
  refine hK.out _ _ (⟨KD.cell (i := 6) rfl, KD.cell (i := 7) rfl, hcA1, hcS1⟩) (fun hHeld => ?_)
  clear hK K
  try simp only [Act.put, List.setIfInBounds_toArray, List.set_cons_zero, List.set_cons_succ, List.getElem_toArray, List.getElem_cons_zero, List.getElem_cons_succ]
  refine wpAnyH_ready (rs := [12]) (by kernel_rfl) (by simp) ?_
  refine AllReadyH.cons rfl (fun K hK => ?_) AllReadyH.nil
  go_simp
  refine (C3.out a3 c3 _ hs3).mono ?_
  rintro e w4 ⟨v4, rfl, ho4, hA⟩
  obtain ⟨a4, c4, rfl, _, _⟩ := ownsRow_slice ho4
  have KD3 := KD.drew.below hA KD.lt
  have hcA3 := (hA.cell (p := ⟨bA, oA + i, none⟩) hbA1).trans hcA1
  have hcS3 := (hA.cell (p := ⟨bS, oS + i, none⟩) hbS1).trans hcS1
  replace KF := KF.drew.below hA KF.lt
  replace hB := hB.drew.trans (hA.mono hB.size)
  clear C3 hA
  try go_wp2_with fail
  refine hK.out _ _ (⟨KD3.cell (i := 6) rfl, KD3.cell (i := 7) rfl, hcA3, hcS3⟩) (fun hHeld => ?_)
  clear hK K
  try simp only [Act.put, List.setIfInBounds_toArray, List.set_cons_zero, List.set_cons_succ, List.getElem_toArray, List.getElem_cons_zero, List.getElem_cons_succ]
  refine wpAnyH_take (i := 13) (v := ?v173) rfl (by kernel_rfl) (by kernel_rfl) (by kernel_rfl) (fun _ _ _ h => h) (Or.inl ⟨by rfl, ?hy173⟩) hHeld ?rest173
  case hy173 => (intro w' hSw; (try dsimp only at hSw); go_simp; (try with_reducible rfl))
  try simp only [Act.put, List.setIfInBounds_toArray, List.set_cons_zero, List.set_cons_succ, List.getElem_toArray, List.getElem_cons_zero, List.getElem_cons_succ]
  refine wpAnyH_take (i := 14) (v := ?v174) rfl (by kernel_rfl) (by kernel_rfl) (by kernel_rfl) (fun _ _ _ h => h) (Or.inl ⟨by rfl, ?hy174⟩) hHeld ?rest174
  case hy174 => (intro w' hSw; (try dsimp only at hSw); go_simp; (try with_reducible rfl))
  try simp only [Act.put, List.setIfInBounds_toArray, List.set_cons_zero, List.set_cons_succ, List.getElem_toArray, List.getElem_cons_zero, List.getElem_cons_succ]
  refine wpAnyH_take (i := 15) (v := ?v175) rfl (by kernel_rfl) (by kernel_rfl) (by kernel_rfl) (fun _ _ _ h => h) (Or.inl ⟨by rfl, ?hy175⟩) hHeld ?rest175
  case hy175 => (intro w' hSw; (try dsimp only at hSw); go_simp; (try with_reducible rfl))
  try simp only [Act.put, List.setIfInBounds_toArray, List.set_cons_zero, List.set_cons_succ, List.getElem_toArray, List.getElem_cons_zero, List.getElem_cons_succ]
  refine wpAnyH_take (i := 16) (v := ?v176) rfl (by kernel_rfl) (by kernel_rfl) (by kernel_rfl) (fun _ _ _ h => h) (Or.inl ⟨by rfl, ?hy176⟩) hHeld ?rest176
  case hy176 => (intro w' hSw; (try dsimp only at hSw); go_simp; (try with_reducible rfl))
  try simp only [Act.put, List.setIfInBounds_toArray, List.set_cons_zero, List.set_cons_succ, List.getElem_toArray, List.getElem_cons_zero, List.getElem_cons_succ]
  refine wpAnyH_take (i := 17) (v := ?v177) rfl (by kernel_rfl) (by kernel_rfl) (by kernel_rfl) (fun _ _ _ h => h) (Or.inl ⟨by rfl, ?hy177⟩) hHeld ?rest177
  case hy177 => (intro w' hSw; (try dsimp only at hSw); go_simp; (try with_reducible rfl))
  try simp only [Act.put, List.setIfInBounds_toArray, List.set_cons_zero, List.set_cons_succ, List.getElem_toArray, List.getElem_cons_zero, List.getElem_cons_succ]
  refine wpAnyH_done (by kernel_rfl) ?_ _
  clear d6 d7 hcA3 hcS3 KD3 KD hcA1 hcS1 hs3
  have f0 := KF.cell (i := 0) rfl
  have f1 := KF.cell (i := 1) rfl
  go_wp2_with fail
  refine wp_region_held_drew (S := (fun w' : World => w'.cell? ⟨w.heap.size + 1, 0, none⟩ = some (.int .i64 W) ∧ w'.cell? ⟨w.heap.size + 1, 1, none⟩ = some (.int .i64 H))) (by kernel_rfl) (⟨f0, f1⟩) (fun hHeld => ?_)
  refine wpAnyH_take (i := 0) (v := ?v178) rfl (by kernel_rfl) (by kernel_rfl) (by kernel_rfl) (fun _ _ _ h => h) (Or.inl ⟨by rfl, ?hy178⟩) hHeld ?rest178
  case hy178 => (intro w' hSw; (try dsimp only at hSw); go_simp; (try with_reducible rfl))
  try simp only [Act.put, List.setIfInBounds_toArray, List.set_cons_zero, List.set_cons_succ, List.getElem_toArray, List.getElem_cons_zero, List.getElem_cons_succ]
  refine wpAnyH_take (i := 1) (v := ?v179) rfl (by kernel_rfl) (by kernel_rfl) (by kernel_rfl) (fun _ _ _ h => h) (Or.inl ⟨by rfl, ?hy179⟩) hHeld ?rest179
  case hy179 => (intro w' hSw; (try dsimp only at hSw); go_simp; (try with_reducible rfl))
  try simp only [Act.put, List.setIfInBounds_toArray, List.set_cons_zero, List.set_cons_succ, List.getElem_toArray, List.getElem_cons_zero, List.getElem_cons_succ]
  refine wpAnyH_take (i := 2) (v := ?v180) rfl (by kernel_rfl) (by kernel_rfl) (by kernel_rfl) (fun _ _ _ h => h) (Or.inl ⟨by rfl, ?hy180⟩) hHeld ?rest180
  case hy180 => (intro w' hSw; (try dsimp only at hSw); go_simp; (try with_reducible rfl))
  try simp only [Act.put, List.setIfInBounds_toArray, List.set_cons_zero, List.set_cons_succ, List.getElem_toArray, List.getElem_cons_zero, List.getElem_cons_succ]
  refine wpAnyH_take (i := 3) (v := ?v181) rfl (by kernel_rfl) (by kernel_rfl) (by kernel_rfl) (fun _ _ _ h => h) (Or.inl ⟨by rfl, ?hy181⟩) hHeld ?rest181
  case hy181 => (intro w' hSw; (try dsimp only at hSw); go_simp; (try with_reducible rfl))
  try simp only [Act.put, List.setIfInBounds_toArray, List.set_cons_zero, List.set_cons_succ, List.getElem_toArray, List.getElem_cons_zero, List.getElem_cons_succ]
  refine wpAnyH_take (i := 4) (v := ?v182) rfl (by kernel_rfl) (by kernel_rfl) (by kernel_rfl) (fun _ _ _ h => h) (Or.inl ⟨by rfl, ?hy182⟩) hHeld ?rest182
  case hy182 => (intro w' hSw; (try dsimp only at hSw); go_simp; (try with_reducible rfl))
  try simp only [Act.put, List.setIfInBounds_toArray, List.set_cons_zero, List.set_cons_succ, List.getElem_toArray, List.getElem_cons_zero, List.getElem_cons_succ]
  refine wpAnyH_take (i := 5) (v := ?v183) rfl (by kernel_rfl) (by kernel_rfl) (by kernel_rfl) (fun _ _ _ h => h) (Or.inl ⟨by rfl, ?hy183⟩) hHeld ?rest183
  case hy183 => (intro w' hSw; (try dsimp only at hSw); go_simp; (try with_reducible rfl))
  try simp only [Act.put, List.setIfInBounds_toArray, List.set_cons_zero, List.set_cons_succ, List.getElem_toArray, List.getElem_cons_zero, List.getElem_cons_succ]
  refine wpAnyH_take (i := 6) (v := ?v184) rfl (by kernel_rfl) (by kernel_rfl) (by kernel_rfl) (fun _ _ _ h => h) (Or.inl ⟨by rfl, ?hy184⟩) hHeld ?rest184
  case hy184 => (intro w' hSw; (try dsimp only at hSw); go_simp; (try with_reducible rfl))
  try simp only [Act.put, List.setIfInBounds_toArray, List.set_cons_zero, List.set_cons_succ, List.getElem_toArray, List.getElem_cons_zero, List.getElem_cons_succ]
  refine wpAnyH_ready (rs := [7]) (by kernel_rfl) (by simp) ?_
  refine AllReadyH.cons rfl (fun K hK => ?_) AllReadyH.nil
  go_simp
  refine (C4.out _).mono ?_
  rintro e w5 ⟨rfl, hA⟩
  replace KF := KF.drew.below hA KF.lt
  replace ho4 := ownsRow_below (w := w4.drew) ho4 hA
  replace hB := hB.drew.trans (hA.mono hB.size)
  clear C4 hA
  try go_wp2_with fail
  refine hK.out _ _ (⟨KF.cell (i := 0) rfl, KF.cell (i := 1) rfl⟩) (fun hHeld => ?_)
  clear hK K
  try simp only [Act.put, List.setIfInBounds_toArray, List.set_cons_zero, List.set_cons_succ, List.getElem_toArray, List.getElem_cons_zero, List.getElem_cons_succ]
  refine wpAnyH_ready (rs := [8]) (by kernel_rfl) (by simp) ?_
  refine AllReadyH.cons rfl (fun K hK => ?_) AllReadyH.nil
  go_simp
  refine (C5.out _).mono ?_
  rintro e w6 ⟨rfl, hA⟩
  replace KF := KF.below hA KF.lt
  replace ho4 := ownsRow_below ho4 hA
  replace hB := hB.trans (hA.mono hB.size)
  clear C5 hA
  try go_wp2_with fail
  refine hK.out _ _ (⟨KF.cell (i := 0) rfl, KF.cell (i := 1) rfl⟩) (fun hHeld => ?_)
  clear hK K
  try simp only [Act.put, List.setIfInBounds_toArray, List.set_cons_zero, List.set_cons_succ, List.getElem_toArray, List.getElem_cons_zero, List.getElem_cons_succ]
  refine wpAnyH_take (i := 9) (v := ?v187) rfl (by kernel_rfl) (by kernel_rfl) (by kernel_rfl) (fun _ _ _ h => h) (Or.inl ⟨by rfl, ?hy187⟩) hHeld ?rest187
  case hy187 => (intro w' hSw; (try dsimp only at hSw); go_simp; (try with_reducible rfl))
  try simp only [Act.put, List.setIfInBounds_toArray, List.set_cons_zero, List.set_cons_succ, List.getElem_toArray, List.getElem_cons_zero, List.getElem_cons_succ]
  refine wpAnyH_take (i := 10) (v := ?v188) rfl (by kernel_rfl) (by kernel_rfl) (by kernel_rfl) (fun _ _ _ h => h) (Or.inl ⟨by rfl, ?hy188⟩) hHeld ?rest188
  case hy188 => (intro w' hSw; (try dsimp only at hSw); go_simp; (try with_reducible rfl))
  try simp only [Act.put, List.setIfInBounds_toArray, List.set_cons_zero, List.set_cons_succ, List.getElem_toArray, List.getElem_cons_zero, List.getElem_cons_succ]
  refine wpAnyH_take (i := 11) (v := ?v189) rfl (by kernel_rfl) (by kernel_rfl) (by kernel_rfl) (fun _ _ _ h => h) (Or.inl ⟨by rfl, ?hy189⟩) hHeld ?rest189
  case hy189 => (intro w' hSw; (try dsimp only at hSw); go_simp; (try with_reducible rfl))
  try simp only [Act.put, List.setIfInBounds_toArray, List.set_cons_zero, List.set_cons_succ, List.getElem_toArray, List.getElem_cons_zero, List.getElem_cons_succ]
  refine wpAnyH_take (i := 12) (v := ?v190) rfl (by kernel_rfl) (by kernel_rfl) (by kernel_rfl) (fun _ _ _ h => h) (Or.inl ⟨by rfl, ?hy190⟩) hHeld ?rest190
  case hy190 => (intro w' hSw; (try dsimp only at hSw); go_simp; (try with_reducible rfl))
  try simp only [Act.put, List.setIfInBounds_toArray, List.set_cons_zero, List.set_cons_succ, List.getElem_toArray, List.getElem_cons_zero, List.getElem_cons_succ]
  refine wpAnyH_take (i := 13) (v := ?v191) rfl (by kernel_rfl) (by kernel_rfl) (by kernel_rfl) (fun _ _ _ h => h) (Or.inl ⟨by rfl, ?hy191⟩) hHeld ?rest191
  case hy191 => (intro w' hSw; (try dsimp only at hSw); go_simp; (try with_reducible rfl))
  try simp only [Act.put, List.setIfInBounds_toArray, List.set_cons_zero, List.set_cons_succ, List.getElem_toArray, List.getElem_cons_zero, List.getElem_cons_succ]
  refine wpAnyH_take (i := 14) (v := ?v192) rfl (by kernel_rfl) (by kernel_rfl) (by kernel_rfl) (fun _ _ _ h => h) (Or.inl ⟨by rfl, ?hy192⟩) hHeld ?rest192
  case hy192 => (intro w' hSw; (try dsimp only at hSw); go_simp; (try with_reducible rfl))
  try simp only [Act.put, List.setIfInBounds_toArray, List.set_cons_zero, List.set_cons_succ, List.getElem_toArray, List.getElem_cons_zero, List.getElem_cons_succ]
  refine wpAnyH_take (i := 15) (v := ?v193) rfl (by kernel_rfl) (by kernel_rfl) (by kernel_rfl) (fun _ _ _ h => h) (Or.inl ⟨by rfl, ?hy193⟩) hHeld ?rest193
  case hy193 => (intro w' hSw; (try dsimp only at hSw); go_simp; (try with_reducible rfl))
  try simp only [Act.put, List.setIfInBounds_toArray, List.set_cons_zero, List.set_cons_succ, List.getElem_toArray, List.getElem_cons_zero, List.getElem_cons_succ]
  refine wpAnyH_take (i := 16) (v := ?v194) rfl (by kernel_rfl) (by kernel_rfl) (by kernel_rfl) (fun _ _ _ h => h) (Or.inl ⟨by rfl, ?hy194⟩) hHeld ?rest194
  case hy194 => (intro w' hSw; (try dsimp only at hSw); go_simp; (try with_reducible rfl))
  try simp only [Act.put, List.setIfInBounds_toArray, List.set_cons_zero, List.set_cons_succ, List.getElem_toArray, List.getElem_cons_zero, List.getElem_cons_succ]
  refine wpAnyH_take (i := 17) (v := ?v195) rfl (by kernel_rfl) (by kernel_rfl) (by kernel_rfl) (fun _ _ _ h => h) (Or.inl ⟨by rfl, ?hy195⟩) hHeld ?rest195
  case hy195 => (intro w' hSw; (try dsimp only at hSw); go_simp; (try with_reducible rfl))
  try simp only [Act.put, List.setIfInBounds_toArray, List.set_cons_zero, List.set_cons_succ, List.getElem_toArray, List.getElem_cons_zero, List.getElem_cons_succ]
  refine wpAnyH_done (by kernel_rfl) ?_ _
  clear f0 f1 KF
  have D6 := Lib.hid (C6.out a4 c4 w6 (Sl.of_own ho4))
  clear C6 ho4
  go_wp2_with fail
  refine D6.out.mono ?_
  rintro e w7 ⟨zs, c, v7, rfl, hR, ⟨a7, n7, c7, rfl⟩, hz, hA⟩
  have HR := Lib.hid hR
  have HZ := Lib.hid hz
  have hsz := hB.size
  have hB7 := hB.trans (hA.mono hB.size)
  clear D6 hR hz hA
  go_wp2_with fail
  go_ret2
  exact ⟨zs, c, _, rfl, .inr ⟨HOK.out, HR.out⟩, ⟨_, _, _, rfl⟩, fun h => ⟨(HZ.out h).1, ownsRow_base (HZ.out h).2 (by omega)⟩, hB7⟩
end Go.Proofs.YtlkjcamjgaecgaaGreat

/-
  A tile that is none: the code's.
-/
namespace Go.Proofs.YtlkjcamjgaecgaaGreat
open Go Go.RowKit Go.Th Go.Th.Crc

set_option maxRecDepth 20000 in
set_option maxHeartbeats 3200000 in
theorem tile9_none (W H i n9 L : Nat) (cell ox oy : Int) (a : Option Addr) (cap : Nat) (aA aS : Option Addr) (cA cS : Nat) (w : World) (hi : n9 ≤ i) (hi2 : i ≤ 1000000)
    (hmA : n9 ≤ cA ∧ cA ≤ 9223372036854775807) (hmS : n9 ≤ cS ∧ cS ≤ 9223372036854775807) (C1 : Hid (Ans 67 #[.int .i64 W, .int .i64 H] (.int .i64 n9))) :
    Calls Tryz.prog 76 #[.slice a L cap, dv W H (.slice none 0 0) cell ox oy (.slice aA n9 cA) (.slice aS n9 cS), .int .i64 i] w fun e w' => e = .returned (.tuple #[.slice none 0 0, .int .i64 7]) ∧ Below w.heap.size w w' := by
  have hi0 : ¬ ((i : Int) < 0) := by omega
  have hge : (n9 : Int) ≤ (i : Int) := by omega
  obtain ⟨w1, hw1⟩ : ∃ w1, (w.alloc (.cells #[.int .i64 W, .int .i64 H, .slice none 0 0, .int .i64 cell, .int .i32 ox, .int .i32 oy, .slice aA n9 cA, .slice aS n9 cS] 101)).alloc (.cells #[.int .i64 W, .int .i64 H, .slice none 0 0] 26) = w1 := ⟨_, rfl⟩
  have hB : Below w.heap.size w w1 := by rw [← hw1]; exact ((Below.refl _ _).alloc (Nat.le_refl _) _).alloc (by simp) _
  have KD : Blk w1 w.heap.size 101 [.int .i64 W, .int .i64 H, .slice none 0 0, .int .i64 cell, .int .i32 ox, .int .i32 oy, .slice aA n9 cA, .slice aS n9 cS] := by rw [← hw1]; exact (Blk.new w _ _).alloc _
  have KF : Blk w1 (w.heap.size + 1) 26 [.int .i64 W, .int .i64 H, .slice none 0 0] := by
    rw [← hw1]
    have := Blk.new (w.alloc (.cells #[.int .i64 W, .int .i64 H, .slice none 0 0, .int .i64 cell, .int .i32 ox, .int .i32 oy, .slice aA n9 cA, .slice aS n9 cS] 101)) 26 [.int .i64 W, .int .i64 H, .slice none 0 0]
    rw [World.size_alloc] at this
    exact this
  have HW1 := Lib.hid hw1
  have hmin3 : ∀ (ts : Array TypeId) (t : TypeId) (wx : World), (Builtin.min_ ts t #[.int .i64 (n9 : Int), .int .i64 (n9 : Int), .int .i64 (n9 : Int)]).run Tryz.prog wx = .ok (.int .i64 (n9 : Int)) wx := fun ts t wx => by simp [Builtin.min_, Builtin.min2]
  clear hw1
  go_enter Tryz.func76, Tryz.ntmps76
  go_wp2_with fail
  rw [HW1.out]
  have d6 := KD.cell (i := 6) rfl
  have d7 := KD.cell (i := 7) rfl
  have f0 := KF.cell (i := 0) rfl
  have f1 := KF.cell (i := 1) rfl
  refine wp_region_held_drew (S := (fun w' : World => w'.cell? ⟨w.heap.size, 6, none⟩ = some (.slice aA n9 cA) ∧ w'.cell? ⟨w.heap.size, 7, none⟩ = some (.slice aS n9 cS) ∧ w'.cell? ⟨w.heap.size + 1, 0, none⟩ = some (.int .i64 W) ∧ w'.cell? ⟨w.heap.size + 1, 1, none⟩ = some (.int .i64 H))) (by kernel_rfl) (⟨d6, d7, f0, f1⟩) (fun hHeld => ?_)
  refine wpAnyH_take (i := 0) (v := ?v196) rfl (by kernel_rfl) (by kernel_rfl) (by kernel_rfl) (fun _ _ _ h => h) (Or.inl ⟨by rfl, ?hy196⟩) hHeld ?rest196
  case hy196 => (intro w' hSw; (try dsimp only at hSw); go_simp; (try with_reducible rfl))
  try simp only [Act.put, List.setIfInBounds_toArray, List.set_cons_zero, List.set_cons_succ, List.getElem_toArray, List.getElem_cons_zero, List.getElem_cons_succ]
  refine wpAnyH_take (i := 1) (v := ?v197) rfl (by kernel_rfl) (by kernel_rfl) (by kernel_rfl) (fun _ _ _ h => h) (Or.inl ⟨by rfl, ?hy197⟩) hHeld ?rest197
  case hy197 => (intro w' hSw; (try dsimp only at hSw); go_simp; (try with_reducible rfl))
  try simp only [Act.put, List.setIfInBounds_toArray, List.set_cons_zero, List.set_cons_succ, List.getElem_toArray, List.getElem_cons_zero, List.getElem_cons_succ]
  refine wpAnyH_take (i := 2) (v := ?v198) rfl (by kernel_rfl) (by kernel_rfl) (by kernel_rfl) (fun _ _ _ h => h) (Or.inl ⟨by rfl, ?hy198⟩) hHeld ?rest198
  case hy198 => (intro w' hSw; (try dsimp only at hSw); go_simp; (try with_reducible rfl))
  try simp only [Act.put, List.setIfInBounds_toArray, List.set_cons_zero, List.set_cons_succ, List.getElem_toArray, List.getElem_cons_zero, List.getElem_cons_succ]
  refine wpAnyH_take (i := 3) (v := ?v199) rfl (by kernel_rfl) (by kernel_rfl) (by kernel_rfl) (fun _ _ _ h => h) (Or.inl ⟨by rfl, ?hy199⟩) hHeld ?rest199
  case hy199 => (intro w' hSw; (try dsimp only at hSw); go_simp; (try with_reducible rfl))
  try simp only [Act.put, List.setIfInBounds_toArray, List.set_cons_zero, List.set_cons_succ, List.getElem_toArray, List.getElem_cons_zero, List.getElem_cons_succ]
  refine wpAnyH_take (i := 4) (v := ?v200) rfl (by kernel_rfl) (by kernel_rfl) (by kernel_rfl) (fun _ _ _ h => h) (Or.inl ⟨by rfl, ?hy200⟩) hHeld ?rest200
  case hy200 => (intro w' hSw; (try dsimp only at hSw); go_simp; (try with_reducible rfl))
  try simp only [Act.put, List.setIfInBounds_toArray, List.set_cons_zero, List.set_cons_succ, List.getElem_toArray, List.getElem_cons_zero, List.getElem_cons_succ]
  refine wpAnyH_take (i := 5) (v := ?v201) rfl (by kernel_rfl) (by kernel_rfl) (by kernel_rfl) (fun _ _ _ h => h) (Or.inl ⟨by rfl, ?hy201⟩) hHeld ?rest201
  case hy201 => (intro w' hSw; (try dsimp only at hSw); go_simp; (try with_reducible rfl))
  try simp only [Act.put, List.setIfInBounds_toArray, List.set_cons_zero, List.set_cons_succ, List.getElem_toArray, List.getElem_cons_zero, List.getElem_cons_succ]
  refine wpAnyH_take (i := 6) (v := ?v202) rfl (by kernel_rfl) (by kernel_rfl) (by kernel_rfl) (fun _ _ _ h => h) (Or.inl ⟨by rfl, ?hy202⟩) hHeld ?rest202
  case hy202 => (intro w' hSw; (try dsimp only at hSw); go_simp; (try with_reducible rfl))
  try simp only [Act.put, List.setIfInBounds_toArray, List.set_cons_zero, List.set_cons_succ, List.getElem_toArray, List.getElem_cons_zero, List.getElem_cons_succ]
  refine wpAnyH_take (i := 7) (v := ?v203) rfl (by kernel_rfl) (by kernel_rfl) (by kernel_rfl) (fun _ _ _ h => h) (Or.inl ⟨by rfl, ?hy203⟩) hHeld ?rest203
  case hy203 => (intro w' hSw; (try dsimp only at hSw); go_simp; (try with_reducible rfl))
  try simp only [Act.put, List.setIfInBounds_toArray, List.set_cons_zero, List.set_cons_succ, List.getElem_toArray, List.getElem_cons_zero, List.getElem_cons_succ]
  refine wpAnyH_take (i := 9) (v := ?v204) rfl (by kernel_rfl) (by kernel_rfl) (by kernel_rfl) (fun _ _ _ h => h) (Or.inl ⟨by rfl, ?hy204⟩) hHeld ?rest204
  case hy204 => (intro w' hSw; (try dsimp only at hSw); go_simp; (try with_reducible rfl))
  try simp only [Act.put, List.setIfInBounds_toArray, List.set_cons_zero, List.set_cons_succ, List.getElem_toArray, List.getElem_cons_zero, List.getElem_cons_succ]
  refine wpAnyH_take (i := 10) (v := ?v205) rfl (by kernel_rfl) (by kernel_rfl) (by kernel_rfl) (fun _ _ _ h => h) (Or.inl ⟨by rfl, ?hy205⟩) hHeld ?rest205
  case hy205 => (intro w' hSw; (try dsimp only at hSw); go_simp; (try with_reducible rfl))
  try simp only [Act.put, List.setIfInBounds_toArray, List.set_cons_zero, List.set_cons_succ, List.getElem_toArray, List.getElem_cons_zero, List.getElem_cons_succ]
  refine wpAnyH_take (i := 11) (v := ?v206) rfl (by kernel_rfl) (by kernel_rfl) (by kernel_rfl) (fun _ _ _ h => h) (Or.inl ⟨by rfl, ?hy206⟩) hHeld ?rest206
  case hy206 => (intro w' hSw; (try dsimp only at hSw); go_simp; (try with_reducible rfl))
  try simp only [Act.put, List.setIfInBounds_toArray, List.set_cons_zero, List.set_cons_succ, List.getElem_toArray, List.getElem_cons_zero, List.getElem_cons_succ]
  refine wpAnyH_take (i := 12) (v := ?v207) rfl (by kernel_rfl) (by kernel_rfl) (by kernel_rfl) (fun _ _ _ h => h) (Or.inl ⟨by rfl, ?hy207⟩) hHeld ?rest207
  case hy207 => (intro w' hSw; (try dsimp only at hSw); go_simp; (try with_reducible rfl))
  try simp only [Act.put, List.setIfInBounds_toArray, List.set_cons_zero, List.set_cons_succ, List.getElem_toArray, List.getElem_cons_zero, List.getElem_cons_succ]
  refine wpAnyH_take (i := 13) (v := ?v208) rfl (by kernel_rfl) (by kernel_rfl) (by kernel_rfl) (fun _ _ _ h => h) (Or.inl ⟨by rfl, ?hy208⟩) hHeld ?rest208
  case hy208 => (intro w' hSw; (try dsimp only at hSw); go_simp; (try with_reducible rfl))
  try simp only [Act.put, List.setIfInBounds_toArray, List.set_cons_zero, List.set_cons_succ, List.getElem_toArray, List.getElem_cons_zero, List.getElem_cons_succ]
  refine wpAnyH_take (i := 14) (v := ?v209) rfl (by kernel_rfl) (by kernel_rfl) (by kernel_rfl) (fun _ _ _ h => h) (Or.inl ⟨by rfl, ?hy209⟩) hHeld ?rest209
  case hy209 => (intro w' hSw; (try dsimp only at hSw); go_simp; (try with_reducible rfl))
  try simp only [Act.put, List.setIfInBounds_toArray, List.set_cons_zero, List.set_cons_succ, List.getElem_toArray, List.getElem_cons_zero, List.getElem_cons_succ]
  refine wpAnyH_ready (rs := [8]) (by kernel_rfl) (by simp) ?_
  refine AllReadyH.cons rfl (fun K hK => ?_) AllReadyH.nil
  go_simp
  refine (C1.out _).mono ?_
  rintro e w2 ⟨rfl, hA⟩
  replace KD := KD.drew.below hA KD.lt
  replace KF := KF.drew.below hA KF.lt
  replace hB := hB.drew.trans (hA.mono hB.size)
  clear C1 hA
  try go_wp2_with fail
  refine hK.out _ _ (⟨KD.cell (i := 6) rfl, KD.cell (i := 7) rfl, KF.cell (i := 0) rfl, KF.cell (i := 1) rfl⟩) (fun hHeld => ?_)
  clear hK K
  try simp only [Act.put, List.setIfInBounds_toArray, List.set_cons_zero, List.set_cons_succ, List.getElem_toArray, List.getElem_cons_zero, List.getElem_cons_succ]
  refine wpAnyH_take (i := 15) (v := ?v211) rfl (by kernel_rfl) (by kernel_rfl) (by kernel_rfl) (fun _ _ _ h => h) (Or.inl ⟨by rfl, ?hy211⟩) hHeld ?rest211
  case hy211 => (intro w' hSw; (try dsimp only at hSw); go_simp; (try with_reducible rfl))
  try simp only [Act.put, List.setIfInBounds_toArray, List.set_cons_zero, List.set_cons_succ, List.getElem_toArray, List.getElem_cons_zero, List.getElem_cons_succ]
  refine wpAnyH_take (i := 16) (v := ?v212) rfl (by kernel_rfl) (by kernel_rfl) (by kernel_rfl) (fun _ _ _ h => h) (Or.inl ⟨by rfl, ?hy212⟩) hHeld ?rest212
  case hy212 => (intro w' hSw; (try dsimp only at hSw); go_simp; (try with_reducible rfl))
  try simp only [Act.put, List.setIfInBounds_toArray, List.set_cons_zero, List.set_cons_succ, List.getElem_toArray, List.getElem_cons_zero, List.getElem_cons_succ]
  refine wpAnyH_take (i := 17) (v := ?v213) rfl (by kernel_rfl) (by kernel_rfl) (by kernel_rfl) (fun _ _ _ h => h) (Or.inl ⟨by rfl, ?hy213⟩) hHeld ?rest213
  case hy213 => (intro w' hSw; (try dsimp only at hSw); go_simp; (try with_reducible rfl))
  try simp only [Act.put, List.setIfInBounds_toArray, List.set_cons_zero, List.set_cons_succ, List.getElem_toArray, List.getElem_cons_zero, List.getElem_cons_succ]
  refine wpAnyH_done (by kernel_rfl) ?_ _
  clear d6 d7 f0 f1
  go_wp2_with fail
  go_ret2
  exact ⟨rfl, hB⟩
end Go.Proofs.YtlkjcamjgaecgaaGreat

/-
  A map read: the code's.
-/
namespace Go.Th
open Go Go.RowKit
abbrev set6 (w : World) (g : Nat) (v0 v1 v2 v3 v4 v5 : Value) : World :=
  (((((w.setCell ⟨g, 0, none⟩ v0).setCell ⟨g, 1, none⟩ v1).setCell ⟨g, 2, none⟩ v2).setCell ⟨g, 3, none⟩ v3).setCell ⟨g, 4, none⟩ v4).setCell ⟨g, 5, none⟩ v5
theorem blk_set6 {w : World} {g : Nat} {t : TypeId} {c0 c1 c2 c3 c4 c5 : Value} (K : Blk w g t [c0, c1, c2, c3, c4, c5]) (v0 v1 v2 v3 v4 v5 : Value) : Blk (set6 w g v0 v1 v2 v3 v4 v5) g t [v0, v1, v2, v3, v4, v5] :=
  (((((K.set 0 v0 (by simp)).set 1 v1 (by simp)).set 2 v2 (by simp)).set 3 v3 (by simp)).set 4 v4 (by simp)).set 5 v5 (by simp)
theorem turned_set6 (w : World) (g : Nat) (v0 v1 v2 v3 v4 v5 : Value) : Turned (fun k => k = g) w (set6 w g v0 v1 v2 v3 v4 v5) :=
  ((((((Turned.refl (fun k => k = g) w).setCell (.inl rfl) v0).setCell (.inl rfl) v1).setCell (.inl rfl) v2).setCell (.inl rfl) v3).setCell (.inl rfl) v4).setCell (.inl rfl) v5
end Go.Th
namespace Go.Proofs.YtlkjcamjgaecgaaGreat
open Go Go.RowKit Go.Th Go.Th.Crc

set_option maxRecDepth 20000 in
set_option maxHeartbeats 3200000 in
theorem get9_no (PC : Int → Prop) (c : Int) (L cap : Nat) (a : Option Addr) (w : World) (hc : c ≠ 0)
    (CO : ∀ wx, Below w.heap.size w wx → Calls Tryz.prog 52 #[.slice a L cap] wx fun e w' => ∃ c : Int, c ≠ 0 ∧ PC c ∧ e = .returned (.tuple #[dv 0 0 (.slice none 0 0) 0 0 0 (.slice none 0 0) (.slice none 0 0), .int .i64 c]) ∧ Below wx.heap.size wx w') :
    Calls Tryz.prog 51 #[.slice a L cap] w fun e w' => ∃ c : Int, c ≠ 0 ∧ PC c ∧ e = .returned (.tuple #[cv 0 0 (.slice none 0 0) 0 0 0, .int .i64 c]) ∧ Below w.heap.size w w' := by
  obtain ⟨w1, hw1⟩ : ∃ w1, w.alloc (.cells #[.int .i64 0, .int .i64 0, .slice none 0 0, .int .i64 0, .int .i32 0, .int .i32 0] 28) = w1 := ⟨_, rfl⟩
  have hB : Below w.heap.size w w1 := by rw [← hw1]; exact (Below.refl _ _).alloc (Nat.le_refl _) _
  have KR : Blk w1 w.heap.size 28 [.int .i64 0, .int .i64 0, .slice none 0 0, .int .i64 0, .int .i32 0, .int .i32 0] := by rw [← hw1]; exact Blk.new w _ _
  have C1 := Lib.hid (CO w1 hB)
  clear CO hc c
  go_enter Tryz.func51, Tryz.ntmps51
  go_wp2_with fail
  go_step3
  go_wp2_with fail
  clear hw1
  refine C1.out.mono ?_
  rintro e w2 ⟨c, hc, hpc, rfl, hA⟩
  have HPC := Lib.hid hpc
  have hne : (c != 0) = true := by simpa using hc
  replace KR := KR.below hA KR.lt
  replace hB := hB.trans (hA.mono hB.size)
  obtain ⟨w3, hw3⟩ : ∃ w3, w2.alloc (.cells #[.int .i64 0, .int .i64 0, .slice none 0 0, .int .i64 0, .int .i32 0, .int .i32 0, .slice none 0 0, .slice none 0 0] 101) = w3 := ⟨_, rfl⟩
  have hA3 : Below w2.heap.size w2 w3 := by rw [← hw3]; exact (Below.refl _ _).alloc (Nat.le_refl _) _
  replace KR := KR.below hA3 KR.lt
  replace hB := hB.trans (hA3.mono hB.size)
  have HW3 := Lib.hid hw3
  clear C1 hA hA3 hw3 hpc
  go_upto_region 2 with fail
  rw [HW3.out]
  have z0 := KR.cell (i := 0) rfl
  have z1 := KR.cell (i := 1) rfl
  have z2 := KR.cell (i := 2) rfl
  have z3 := KR.cell (i := 3) rfl
  have z4 := KR.cell (i := 4) rfl
  have z5 := KR.cell (i := 5) rfl
  have zf0 := KR.free 0
  have zf1 := KR.free 1
  have zf2 := KR.free 2
  have zf3 := KR.free 3
  have zf4 := KR.free 4
  have zf5 := KR.free 5
  go_wp2_with fail
  try rw [Exit.noGoto_ret]
  refine bodyPost_ret (v := .tuple #[cv 0 0 (.slice none 0 0) 0 0 0, .int .i64 c]) (res_blk_tmp rfl rfl (blk_set6 KR _ _ _ _ _ _) Tryz.underlying28 rfl (by kernel_rfl) rfl) rfl ?_
  have ht := turned_set6 w3 w.heap.size (.int .i64 0) (.int .i64 0) (.slice none 0 0) (.int .i64 0) (.int .i32 0) (.int .i32 0)
  exact ⟨c, hc, HPC.out, rfl, ht.old hB hB.size (by rintro k hk rfl; omega)⟩

/-- A map while its tiles are laid. -/
structure GetI (w W : World) (gR gD gC gz gp B D1 m n9 cp : Nat) (zs ds cs pl : List Value) (va vs : Value) (As Ss : List Nat) (G : List Int) : Prop where
  kR : Blk W gR 28 zs
  kD : Blk W gD 101 ds
  kC : Blk W gC 28 cs
  oz : W.ownsRow D1 51 1 (.slice (some ⟨gz, 0, none⟩) m m) m (i16s G)
  op : W.ownsRow B 92 2 (.slice (some ⟨gp, 0, none⟩) n9 cp) n9 pl
  oA : W.ownsRow w.heap.size 3 1 va n9 (ints As)
  oS : W.ownsRow w.heap.size 3 1 vs n9 (ints Ss)
  bel : Below w.heap.size w W
  le : w.heap.size ≤ gR ∧ w.heap.size ≤ gD ∧ w.heap.size ≤ gC ∧ gR < gD ∧ gD < gC ∧ gC < D1 ∧ D1 ≤ gz ∧ gz < B ∧ w.heap.size ≤ D1
  nA : ∀ j, va.ownBlock = some j → j < D1
  nS : ∀ j, vs.ownBlock = some j → j < D1
section
variable {w W W' : World} {gR gD gC gz gp B D1 m n9 cp : Nat} {zs ds cs pl : List Value} {va vs : Value} {As Ss : List Nat} {G G' : List Int}
theorem GetI.below (h : GetI w W gR gD gC gz gp B D1 m n9 cp zs ds cs pl va vs As Ss G) (hb : Below W.heap.size W W') : GetI w W' gR gD gC gz gp B D1 m n9 cp zs ds cs pl va vs As Ss G :=
  ⟨h.kR.below hb h.kR.lt, h.kD.below hb h.kD.lt, h.kC.below hb h.kC.lt, ownsRow_below h.oz hb, ownsRow_below h.op hb, ownsRow_below h.oA hb, ownsRow_below h.oS hb, h.bel.trans (hb.mono h.bel.size), h.le, h.nA, h.nS⟩
theorem GetI.lay (h : GetI w W gR gD gC gz gp B D1 m n9 cp zs ds cs pl va vs As Ss G) (ht : Turned (fun k => k = gz) W W') (ho : W'.ownsRow D1 51 1 (.slice (some ⟨gz, 0, none⟩) m m) m (i16s G')) : GetI w W' gR gD gC gz gp B D1 m n9 cp zs ds cs pl va vs As Ss G' :=
  ⟨h.kR.turned ht (fun e => by have := h.le; omega), h.kD.turned ht (fun e => by have := h.le; omega), h.kC.turned ht (fun e => by have := h.le; omega), ho,
    ht.own h.op (fun k hk e => by have := (h.op.lt k hk).1; have := h.le; omega), ht.own h.oA (fun k hk e => by have := h.nA k hk; have := h.le; omega), ht.own h.oS (fun k hk e => by have := h.nS k hk; have := h.le; omega),
    ht.old h.bel h.bel.size (fun k hk e => by have := h.le; omega), h.le, h.nA, h.nS⟩
end

set_option maxRecDepth 20000 in
set_option maxHeartbeats 6400000 in
theorem get9_go (W H n9 m L cell : Nat) (q4 q5 : Int) (bs As Ss : List Nat) (a : Option Addr) (cap : Nat) (P : Nat → List Int → Prop) (Rz : Nat → List Int → Int → Prop) (K : Nat → Nat) (Ly : Nat → List Int → List Int → List Int) (w : World)
    (hS : Sl w 1 (.slice a L cap) L (u8s bs)) (hW : W ≤ 256) (hH : H ≤ 256) (hm : m = W * H) (hn1 : 0 < n9) (hn9 : n9 ≤ 256)
    (CO : Hid (∀ wx, Below w.heap.size w wx → Calls Tryz.prog 52 #[.slice a L cap] wx fun e w' => ∃ va vs, e = .returned (.tuple #[dv W H (.slice none 0 0) cell q4 q5 va vs, .int .i64 0]) ∧ w'.ownsRow wx.heap.size 3 1 va n9 (ints As) ∧ w'.ownsRow wx.heap.size 3 1 vs n9 (ints Ss) ∧ Below wx.heap.size wx w'))
    (CP : Hid (∀ wx, Calls Tryz.prog 46 #[.int .i64 W, .int .i64 H] wx fun e w' => ∃ v, e = .returned v ∧ w'.ownsRow wx.heap.size 92 2 v n9 (plcs W n9) ∧ Below wx.heap.size wx w'))
    (CT : Hid (∀ i, i < n9 → ∀ aA cA aS cS wx, Sl wx 1 (.slice a L cap) L (u8s bs) → Sl wx 1 (.slice aA n9 cA) n9 (ints As) → Sl wx 1 (.slice aS n9 cS) n9 (ints Ss) →
      Calls Tryz.prog 76 #[.slice a L cap, dv W H (.slice none 0 0) cell q4 q5 (.slice aA n9 cA) (.slice aS n9 cS), .int .i64 i] wx (TAns (Rz i) (K i) wx)))
    (CL : Hid (∀ i, i < n9 → ∀ g D1 G zs az cz wx, G.length = m → zs.length = K i → wx.ownsRow D1 51 1 (.slice (some ⟨g, 0, none⟩) m m) m (i16s G) → Sl wx 1 (.slice az (K i) cz) (K i) (i16s zs) →
      Calls Tryz.prog 77 #[hv W H (.slice (some ⟨g, 0, none⟩) m m), pv ((i % cnt W : Nat) : Int) ((i / cnt W : Nat) : Int), .slice az (K i) cz] wx fun e w' => e = .returned (.bool true) ∧ w'.ownsRow D1 51 1 (.slice (some ⟨g, 0, none⟩) m m) m (i16s (Ly i G zs)) ∧ Turned (fun k => k = g) wx w'))
    (HP0 : Hid (P 0 (List.replicate m 0))) (HPn : Hid (∀ i G zs, i < n9 → G.length = m → P i G → Rz i zs 0 → zs.length = K i → P (i + 1) (Ly i G zs) ∧ (Ly i G zs).length = m)) :
    Calls Tryz.prog 51 #[.slice a L cap] w fun e w' =>
      (∃ G v, P n9 G ∧ G.length = m ∧ e = .returned (.tuple #[cv W H v cell q4 q5, .int .i64 0]) ∧ w'.ownsRow w.heap.size 51 1 v m (i16s G) ∧ Below w.heap.size w w') ∨
      (∃ i c zs G, i < n9 ∧ c ≠ 0 ∧ P i G ∧ Rz i zs c ∧ e = .returned (.tuple #[cv 0 0 (.slice none 0 0) 0 0 0, .int .i64 c]) ∧ Below w.heap.size w w') := by
  have HS := Lib.hid hS
  have hmul : (W : Int) * (H : Int) = (m : Int) := by rw [hm]; simp
  have hm2 : m ≤ 256 * 256 := by rw [hm]; exact Nat.mul_le_mul hW hH
  have HM := Lib.hid hm
  have hmx := hS.max
  clear hS hm
  obtain ⟨w1, hw1⟩ : ∃ w1, w.alloc (.cells #[.int .i64 0, .int .i64 0, .slice none 0 0, .int .i64 0, .int .i32 0, .int .i32 0] 28) = w1 := ⟨_, rfl⟩
  have hB : Below w.heap.size w w1 := by rw [← hw1]; exact (Below.refl _ _).alloc (Nat.le_refl _) _
  have KR : Blk w1 w.heap.size 28 [.int .i64 0, .int .i64 0, .slice none 0 0, .int .i64 0, .int .i32 0, .int .i32 0] := by rw [← hw1]; exact Blk.new w _ _
  have C1 := Lib.hid (CO.out w1 hB)
  have hz1 : w1.heap.size = w.heap.size + 1 := by rw [← hw1]; simp
  have HZ1 := Lib.hid hz1
  clear CO hz1
  go_enter Tryz.func51, Tryz.ntmps51
  go_wp2_with fail
  go_step3
  go_wp2_with fail
  clear hw1
  refine C1.out.mono ?_
  rintro e w2 ⟨va, vs, rfl, hoA, hoS, hA⟩
  obtain ⟨aA, cA, rfl, _, _⟩ := ownsRow_slice hoA
  obtain ⟨aS, cS, rfl, _, _⟩ := ownsRow_slice hoS
  have hw12 : w.heap.size + 1 ≤ w2.heap.size := by rw [← HZ1.out]; exact hA.size
  replace hoA := ownsRow_base hoA hB.size
  replace hoS := ownsRow_base hoS hB.size
  have hnA : ∀ j, (Value.slice aA n9 cA).ownBlock = some j → j < w2.heap.size := fun j h => (hoA.lt j h).2
  have hnS : ∀ j, (Value.slice aS n9 cS).ownBlock = some j → j < w2.heap.size := fun j h => (hoS.lt j h).2
  have HNA := Lib.hid hnA
  have HNS := Lib.hid hnS
  replace KR := KR.below hA KR.lt
  replace hB := hB.trans (hA.mono hB.size)
  obtain ⟨w4, hw4⟩ : ∃ w4, (w2.alloc (.cells #[.int .i64 W, .int .i64 H, .slice none 0 0, .int .i64 cell, .int .i32 q4, .int .i32 q5, .slice aA n9 cA, .slice aS n9 cS] 101)).alloc (.cells #[.int .i64 W, .int .i64 H, .slice none 0 0, .int .i64 cell, .int .i32 q4, .int .i32 q5] 28) = w4 := ⟨_, rfl⟩
  have hA4 : Below w2.heap.size w2 w4 := by rw [← hw4]; exact ((Below.refl _ _).alloc (Nat.le_refl _) _).alloc (by simp) _
  have KD : Blk w4 w2.heap.size 101 [.int .i64 W, .int .i64 H, .slice none 0 0, .int .i64 cell, .int .i32 q4, .int .i32 q5, .slice aA n9 cA, .slice aS n9 cS] := by rw [← hw4]; exact (Blk.new w2 _ _).alloc _
  have KC : Blk w4 (w2.heap.size + 1) 28 [.int .i64 W, .int .i64 H, .slice none 0 0, .int .i64 cell, .int .i32 q4, .int .i32 q5] := by
    rw [← hw4]
    have := Blk.new (w2.alloc (.cells #[.int .i64 W, .int .i64 H, .slice none 0 0, .int .i64 cell, .int .i32 q4, .int .i32 q5, .slice aA n9 cA, .slice aS n9 cS] 101)) 28 [.int .i64 W, .int .i64 H, .slice none 0 0, .int .i64 cell, .int .i32 q4, .int .i32 q5]
    rw [World.size_alloc] at this
    exact this
  replace KR := KR.below hA4 KR.lt
  replace hoA := ownsRow_below hoA hA4
  replace hoS := ownsRow_below hoS hA4
  replace hB := hB.trans (hA4.mono hB.size)
  have HW4 := Lib.hid hw4
  clear C1 hA hA4 hw4 hnA hnS
  go_upto_region 5 with fail
  rw [HW4.out]
  have k0 := KC.cell (i := 0) rfl
  have k1 := KC.cell (i := 1) rfl
  have k2 := KC.cell (i := 2) rfl
  have k3 := KC.cell (i := 3) rfl
  have k4 := KC.cell (i := 4) rfl
  have k5 := KC.cell (i := 5) rfl
  have kf0 := KC.free 0
  have kf1 := KC.free 1
  have kf2 := KC.free 2
  have kf3 := KC.free 3
  have kf4 := KC.free 4
  have kf5 := KC.free 5
  go_wp2_with (refine wpList_mk (t := 22) (e := 51) (z := .int .i16 0) (bytes := 2) Tryz.underlying22 (by kernel_rfl) rfl rfl _ _ rfl w4.heap.size m _ _ rfl rfl (by omega) (by unfold maxLen; omega) (Nat.le_refl _) ?_)
  intro w5 ho5 hg5
  have hA5 := grown_below hg5
  have hgC4 := KC.lt
  replace KC := KC.below hA5 KC.lt
  replace KD := KD.below hA5 KD.lt
  replace KR := KR.below hA5 KR.lt
  replace hoA := ownsRow_below hoA hA5
  replace hoS := ownsRow_below hoS hA5
  replace hB := hB.trans (hA5.mono hB.size)
  have hz4 : w2.heap.size ≤ w4.heap.size := by omega
  have hgz := (ho5.lt _ rfl).2
  obtain ⟨gz, hgze⟩ : ∃ g, g = w4.heap.size := ⟨_, rfl⟩
  obtain ⟨D1, hD1⟩ : ∃ g, g = w4.heap.size := ⟨_, rfl⟩
  have HGZ := Lib.hid hgze
  have HD1 := Lib.hid hD1
  clear hgze hD1
  have ht6 : Turned (fun k => k = w2.heap.size + 1) w5 (w5.setCell ⟨w2.heap.size + 1, 2, none⟩ (.slice (some ⟨w4.heap.size, 0, none⟩) m m)) := (Turned.refl (fun k => k = w2.heap.size + 1) w5).setCell (.inl rfl) _
  have K6 := KC.set 2 (.slice (some ⟨w4.heap.size, 0, none⟩) m m) (by simp)
  have kc2 := KC.cell (i := 2) rfl
  have kg2 := KC.free 2
  obtain ⟨w6, hw6⟩ : ∃ w6, w5.setCell ⟨w2.heap.size + 1, 2, none⟩ (.slice (some ⟨w4.heap.size, 0, none⟩) m m) = w6 := ⟨_, rfl⟩
  rw [hw6] at ht6 K6
  replace KD := KD.turned ht6 (by omega)
  replace KR := KR.turned ht6 (by omega)
  replace hoA := ht6.own hoA (fun k hk e => by have := HNA.out k hk; omega)
  replace hoS := ht6.own hoS (fun k hk e => by have := HNS.out k hk; omega)
  have hoz := ht6.own ho5 (fun k hk e => by
    have h1 : k = w4.heap.size := by simpa [Value.ownBlock] using hk.symm
    omega)
  replace hB := ht6.old hB hB.size (fun k hk e => by omega)
  have hz6 := ht6.size
  have b0 := K6.cell (i := 0) rfl
  have b1 := K6.cell (i := 1) rfl
  have D6 := Lib.hid (CP.out w6)
  clear CP KC ho5 hg5 hA5 ht6 k0 k1 k2 k3 k4 k5 kf0 kf1 kf2 kf3 kf4 kf5
  go_wp2_with fail
  go_step3
  go_wp2_with fail
  clear hw6
  refine D6.out.mono ?_
  rintro e w7 ⟨v7, rfl, hop, hA⟩
  obtain ⟨gp, cp, rfl, _, _, _, _⟩ := ownsRow_val hop hn1
  obtain ⟨B, hBe⟩ : ∃ B, B = w6.heap.size := ⟨_, rfl⟩
  have hI0 : GetI w w7 w.heap.size w2.heap.size (w2.heap.size + 1) gz gp B D1 m n9 cp [.int .i64 0, .int .i64 0, .slice none 0 0, .int .i64 0, .int .i32 0, .int .i32 0] [.int .i64 W, .int .i64 H, .slice none 0 0, .int .i64 cell, .int .i32 q4, .int .i32 q5, .slice aA n9 cA, .slice aS n9 cS] [.int .i64 W, .int .i64 H, .slice (some ⟨gz, 0, none⟩) m m, .int .i64 cell, .int .i32 q4, .int .i32 q5] (plcs W n9) (.slice aA n9 cA) (.slice aS n9 cS) As Ss (List.replicate m 0) := by
    refine ⟨KR.below hA KR.lt, KD.below hA KD.lt, ?_, ?_, by rw [hBe]; exact hop, ownsRow_below hoA hA, ownsRow_below hoS hA, hB.trans (hA.mono hB.size), ?_, fun j h => ?_, fun j h => ?_⟩
    · rw [HGZ.out]; exact K6.below hA K6.lt
    · rw [HGZ.out, HD1.out, show i16s (List.replicate m 0) = List.replicate m (.int .i16 0) by simp [i16s]]
      exact ownsRow_below hoz hA
    · rw [HGZ.out, HD1.out, hBe]; omega
    · have := HNA.out j h; rw [HD1.out]; omega
    · have := HNS.out j h; rw [HD1.out]; omega
  clear D6 KR KD K6 hoA hoS hoz hB hA hop b0 b1 kc2 kg2
  rw [← HGZ.out]
  clear HGZ HD1 hBe HW4 HNA HNS hz4 hgz hz6 hgC4 hw12 HZ1
  go_wp2_with fail
  go_loopw [5, 39] (fun c5 c wx => ∃ (i : Nat) (G : List Int), i ≤ n9 ∧ c = .int .i64 i ∧ c5 = .int .i64 0 ∧ Hid (P i G) ∧ Hid (G.length = m) ∧ GetI w wx w.heap.size w2.heap.size (w2.heap.size + 1) gz gp B D1 m n9 cp [.int .i64 0, .int .i64 0, .slice none 0 0, .int .i64 0, .int .i32 0, .int .i32 0] [.int .i64 W, .int .i64 H, .slice none 0 0, .int .i64 cell, .int .i32 q4, .int .i32 q5, .slice aA n9 cA, .slice aS n9 cS] [.int .i64 W, .int .i64 H, .slice (some ⟨gz, 0, none⟩) m m, .int .i64 cell, .int .i32 q4, .int .i32 q5] (plcs W n9) (.slice aA n9 cA) (.slice aS n9 cS) As Ss G) (fun _ c _ => n9 - (intOf c).toNat)
  case atStart => exact ⟨0, _, Nat.zero_le _, rfl, rfl, HP0, Lib.hid (by simp), hI0⟩
  case round =>
    clear hI0
    obtain ⟨i, G, hi, rfl, rfl, hP, hG, hI⟩ := hrel
    by_cases hlt : i < n9
    · have p0 := hI.op.cells (g := gp) rfl _ _ (plcs_at W n9 i hlt).1
      have p1 := hI.op.cells (g := gp) rfl _ _ (plcs_at W n9 i hlt).2
      rw [add_none, Nat.zero_add] at p0 p1
      have LY := fun gz D1 G zs az cz wx h1 h2 h3 h4 => CL.out i hlt gz D1 G zs az cz wx h1 h2 h3 h4
      obtain ⟨X, hX⟩ : ∃ X, X = i % cnt W := ⟨_, rfl⟩
      obtain ⟨Y, hY⟩ : ∃ Y, Y = i / cnt W := ⟨_, rfl⟩
      rw [← hX] at p0 LY
      rw [← hY] at p1 LY
      have LY := Lib.hid LY
      obtain ⟨w9, hw9⟩ : ∃ w9, wr.alloc (.cells #[.int .i64 X, .int .i64 Y] 92) = w9 := ⟨_, rfl⟩
      have hA9 : Below wr.heap.size wr w9 := by rw [← hw9]; exact (Below.refl _ _).alloc (Nat.le_refl _) _
      have KP : Blk w9 wr.heap.size 92 [.int .i64 X, .int .i64 Y] := by rw [← hw9]; exact Blk.new wr _ _
      have hgpz : gz < wr.heap.size := (hI.oz.lt _ rfl).2
      replace hI := hI.below hA9
      have d0 := hI.kD.cell (i := 0) rfl
      have d1 := hI.kD.cell (i := 1) rfl
      have d2 := hI.kD.cell (i := 2) rfl
      have d3 := hI.kD.cell (i := 3) rfl
      have d4 := hI.kD.cell (i := 4) rfl
      have d5 := hI.kD.cell (i := 5) rfl
      have d6 := hI.kD.cell (i := 6) rfl
      have d7 := hI.kD.cell (i := 7) rfl
      have D := Lib.hid (CT.out i hlt aA cA aS cS w9 (HS.out.below hI.bel) (Sl.of_own hI.oA) (Sl.of_own hI.oS))
      clear hX hY hA9
      go_wp2_with fail
      clear hw9
      refine D.out.mono ?_
      rintro e w10 ⟨zs, c, v, rfl, hR, ⟨az, nz, cz, rfl⟩, hz, hA⟩
      replace hI := hI.below hA
      replace KP := KP.below hA KP.lt
      have HR := Lib.hid hR
      have HZ := Lib.hid hz
      clear D hR hz hA p0 p1 d0 d1 d2 d3 d4 d5 d6 d7
      by_cases hc : c = 0
      · subst hc
        obtain ⟨hzl, hoz⟩ := HZ.out rfl
        obtain ⟨a', c', he, _, _⟩ := ownsRow_slice hoz
        cases he
        have D := Lib.hid (LY.out gz D1 G zs az cz w10 hG.out hzl hI.oz (Sl.of_own hoz))
        have hnx := HPn.out i G zs hlt hG.out hP.out HR.out hzl
        have HX1 := Lib.hid hnx.1
        have HX2 := Lib.hid hnx.2
        clear hzl hoz HZ HR hnx
        have b0 := hI.kC.cell (i := 0) rfl
        have b1 := hI.kC.cell (i := 1) rfl
        have b2 := hI.kC.cell (i := 2) rfl
        have q0 := KP.cell (i := 0) rfl
        have q1 := KP.cell (i := 1) rfl
        go_wp2_with fail
        refine D.out.mono ?_
        rintro e w11 ⟨rfl, ho, hT⟩
        replace hI := hI.lay hT ho
        clear D ho hT KP b0 b1 b2 q0 q1
        go_wp2_with fail
        go_roundw
        case rel => exact ⟨i + 1, _, by omega, by go_num, rfl, HX1, HX2, hI⟩
        case measure => simp [intOf]; omega
      · have hne : (c == 0) = false := by simpa using hc
        have b0 := hI.kC.cell (i := 0) rfl
        have b1 := hI.kC.cell (i := 1) rfl
        have b2 := hI.kC.cell (i := 2) rfl
        have b3 := hI.kC.cell (i := 3) rfl
        have b4 := hI.kC.cell (i := 4) rfl
        have b5 := hI.kC.cell (i := 5) rfl
        have bf0 := hI.kC.free 0
        have bf1 := hI.kC.free 1
        have bf2 := hI.kC.free 2
        have bf3 := hI.kC.free 3
        have bf4 := hI.kC.free 4
        have bf5 := hI.kC.free 5
        go_upto_region 16 with fail
        obtain ⟨w12, hw12⟩ : ∃ w12, ((((((w10.setCell ⟨w2.heap.size + 1, 0, none⟩ (.int .i64 0)).setCell ⟨w2.heap.size + 1, 1, none⟩ (.int .i64 0)).setCell ⟨w2.heap.size + 1, 2, none⟩ (.slice none 0 0)).setCell ⟨w2.heap.size + 1, 3, none⟩ (.int .i64 0)).setCell ⟨w2.heap.size + 1, 4, none⟩ (.int .i32 0)).setCell ⟨w2.heap.size + 1, 5, none⟩ (.int .i32 0)) = w12 := ⟨_, rfl⟩
        have K9 : Blk w12 (w2.heap.size + 1) 28 [.int .i64 0, .int .i64 0, .slice none 0 0, .int .i64 0, .int .i32 0, .int .i32 0] := by rw [← hw12]; exact blk_set6 hI.kC _ _ _ _ _ _
        have ht9 : Turned (fun k => k = w2.heap.size + 1) w10 w12 := by rw [← hw12]; exact turned_set6 w10 (w2.heap.size + 1) (.int .i64 0) (.int .i64 0) (.slice none 0 0) (.int .i64 0) (.int .i32 0) (.int .i32 0)
        have hle := hI.le
        have KR := hI.kR.turned ht9 (by omega)
        have hB12 := ht9.old hI.bel hI.bel.size (by rintro k hk rfl; omega)
        rw [hw12]
        clear hw12 b0 b1 b2 b3 b4 b5 bf0 bf1 bf2 bf3 bf4 bf5 hI KP ht9
        have b0 := K9.cell (i := 0) rfl
        have b1 := K9.cell (i := 1) rfl
        have b2 := K9.cell (i := 2) rfl
        have b3 := K9.cell (i := 3) rfl
        have b4 := K9.cell (i := 4) rfl
        have b5 := K9.cell (i := 5) rfl
        have z0 := KR.cell (i := 0) rfl
        have z1 := KR.cell (i := 1) rfl
        have z2 := KR.cell (i := 2) rfl
        have z3 := KR.cell (i := 3) rfl
        have z4 := KR.cell (i := 4) rfl
        have z5 := KR.cell (i := 5) rfl
        have zf0 := KR.free 0
        have zf1 := KR.free 1
        have zf2 := KR.free 2
        have zf3 := KR.free 3
        have zf4 := KR.free 4
        have zf5 := KR.free 5
        go_wp2_with fail
        try rw [Exit.noGoto_ret]
        refine bodyPost_ret (v := .tuple #[cv 0 0 (.slice none 0 0) 0 0 0, .int .i64 c]) (res_blk_tmp rfl rfl (blk_set6 KR _ _ _ _ _ _) Tryz.underlying28 rfl (by kernel_rfl) rfl) rfl ?_
        have ht := turned_set6 w12 w.heap.size (.int .i64 0) (.int .i64 0) (.slice none 0 0) (.int .i64 0) (.int .i32 0) (.int .i32 0)
        exact .inr ⟨i, c, zs, G, hlt, hc, hP.out, HR.out, rfl, ht.old hB12 hB12.size (by rintro k hk rfl; omega)⟩
    · obtain rfl : i = n9 := by omega
      have b0 := hI.kC.cell (i := 0) rfl
      have b1 := hI.kC.cell (i := 1) rfl
      have b2 := hI.kC.cell (i := 2) rfl
      have b3 := hI.kC.cell (i := 3) rfl
      have b4 := hI.kC.cell (i := 4) rfl
      have b5 := hI.kC.cell (i := 5) rfl
      have z0 := hI.kR.cell (i := 0) rfl
      have z1 := hI.kR.cell (i := 1) rfl
      have z2 := hI.kR.cell (i := 2) rfl
      have z3 := hI.kR.cell (i := 3) rfl
      have z4 := hI.kR.cell (i := 4) rfl
      have z5 := hI.kR.cell (i := 5) rfl
      have zf0 := hI.kR.free 0
      have zf1 := hI.kR.free 1
      have zf2 := hI.kR.free 2
      have zf3 := hI.kR.free 3
      have zf4 := hI.kR.free 4
      have zf5 := hI.kR.free 5
      go_wp2_with fail
      try rw [Exit.noGoto_ret]
      refine bodyPost_ret (v := .tuple #[cv W H (.slice (some ⟨gz, 0, none⟩) m m) cell q4 q5, .int .i64 0]) (res_blk_tmp rfl rfl (blk_set6 hI.kR _ _ _ _ _ _) Tryz.underlying28 rfl (by kernel_rfl) rfl) rfl ?_
      have ht := turned_set6 wr w.heap.size (.int .i64 W) (.int .i64 H) (.slice (some ⟨gz, 0, none⟩) m m) (.int .i64 cell) (.int .i32 q4) (.int .i32 q5)
      exact .inl ⟨G, _, hP.out, hG.out, rfl, ownsRow_base (ht.own hI.oz (fun k hk e => by have := (hI.oz.lt k hk).1; have := hI.le; omega)) hI.le.2.2.2.2.2.2.2.2, ht.old hI.bel hI.bel.size (by rintro k hk rfl; omega)⟩
end Go.Proofs.YtlkjcamjgaecgaaGreat

/-
  Tile and Get of any bytes, of a map's bytes, and of spoilt ones: the code's.
-/
namespace Go.Proofs.YtlkjcamjgaecgaaGreat
open Go Go.RowKit Go.Th Go.Th.Crc

theorem offs_mono {bs : List Nat} {W H i j : Nat} (h : i ≤ j) : offs bs W H i ≤ offs bs W H j := by
  induction j with
  | zero => obtain rfl : i = 0 := by omega
            exact Nat.le_refl _
  | succ j ih =>
    by_cases e : i = j + 1
    · subst e; exact Nat.le_refl _
    · have := ih (by omega)
      rw [offs]; omega
theorem tb_fits {bs : List Nat} {W H cell : Nat} (h : Opens bs W H cell) (i : Nat) (hi : i < nT W H) : offs bs W H i + rd bs (18 + 6 * i + 4) 2 ≤ bs.length := by
  have h1 : offs bs W H (i + 1) ≤ offs bs W H (nT W H) := offs_mono hi
  rw [h.last, offs] at h1
  exact h1
theorem tb_length {bs : List Nat} {W H cell : Nat} (h : Opens bs W H cell) (i : Nat) (hi : i < nT W H) : (tb bs W H i).length = rd bs (18 + 6 * i + 4) 2 := by
  have := tb_fits h i hi
  unfold tb
  rw [List.length_take, List.length_drop]; omega
theorem range_map_at (f : Nat → Nat) (n i : Nat) (h : i < n) : ((List.range n).map f)[i]? = some (f i) := by
  rw [List.getElem?_map, List.getElem?_range h]; rfl
theorem isF_opens {bs : List Nat} {W H cell : Nat} (h : Opens bs W H cell) : isF W H = true := isF_of (by have := h.wr; have := h.hr; omega)

theorem tile9_any (bs : List Nat) (W H cell0 L : Nat) (hO : Opens bs W H cell0) (hL : L = bs.length) (hL2 : L ≤ 1000000) (hb : ∀ x ∈ bs, x < 256) (i m : Nat) (hi : i < nT W H) (cell ox oy : Int) (Rz : List Int → Int → Prop)
    (CG : okB (tb bs W H i) = true → ∀ a' cap' k wx, k = (tb bs W H i).length - 4 → Sl wx 1 (.slice a' k cap') k (u8s ((tb bs W H i).take k)) → Calls Tryz.prog 105 #[.int .i64 (side W (i % cnt W) : Nat), .int .i64 (side H (i / cnt W) : Nat), .slice a' k cap'] wx (TAns Rz m wx))
    (a : Option Addr) (cap : Nat) (aA : Option Addr) (cA : Nat) (aS : Option Addr) (cS : Nat) (w : World) (hS : Sl w 1 (.slice a L cap) L (u8s bs))
    (hA : Sl w 1 (.slice aA (nT W H) cA) (nT W H) (ints ((List.range (nT W H)).map (offs bs W H)))) (hs : Sl w 1 (.slice aS (nT W H) cS) (nT W H) (ints ((List.range (nT W H)).map (fun i => rd bs (18 + 6 * i + 4) 2)))) :
    Calls Tryz.prog 76 #[.slice a L cap, dv W H (.slice none 0 0) cell ox oy (.slice aA (nT W H) cA) (.slice aS (nT W H) cS), .int .i64 i] w (TAns (fun zs c => (okB (tb bs W H i) = false ∧ c = 4) ∨ (okB (tb bs W H i) = true ∧ Rz zs c)) m w) := by
  have hF := isF_opens hO
  have hw := hO.wr
  have hh := hO.hr
  have hn := nT_le (W := W) (H := H) (by omega) (by omega)
  have hfit := tb_fits hO i hi
  have hlen := tb_length hO i hi
  obtain ⟨hX, hY, _⟩ := tile_xy W H i hi
  have hblt : ∀ x ∈ tb bs W H i, x < 256 := fun x hx => hb x (List.mem_of_mem_drop (List.mem_of_mem_take hx))
  have CP := fun wx hs' => piece9_any a L cap bs (offs bs W H i) (rd bs (18 + 6 * i + 4) 2) hL (by omega) (by omega) wx hs'
  cases hok : okB (tb bs W H i)
  · have := tile9_no W H i (nT W H) L m (rd bs (18 + 6 * i + 4) 2) (offs bs W H i) 0 0 0 0 0 0 0 cell ox oy bs (tb bs W H i) a cap aA aS cA cS _ _ Rz w hi hn hS hA hs (by simp) (by simp) (range_map_at _ _ _ hi) (range_map_at _ _ _ hi) (Lib.hid (count9_any W H hF)) (Lib.hid CP)
      (Lib.hid (fun a' cap' wx hs' => crcGet_bad (.slice a' _ cap') (tb bs W H i) wx (by rw [hlen]; exact hs') (by rw [hlen]; omega) hblt hok)) (Lib.hid hok)
    rwa [hok] at this
  · have h4 : 4 ≤ (tb bs W H i).length := by
      unfold okB at hok
      simp only [Bool.and_eq_true, decide_eq_true_eq] at hok
      exact hok.1
    have C5 := fun wx => box_yes W H (i % cnt W) (i / cnt W) hF hX hY wx
    have C3 := fun a' cap' wx (hs' : Sl wx 1 (.slice a' (rd bs (18 + 6 * i + 4) 2) cap') (rd bs (18 + 6 * i + 4) 2) (u8s (tb bs W H i))) => crcGet_yes (.slice a' _ cap') (tb bs W H i) wx (by rw [hlen]; exact hs') (by rw [hlen]; omega) hblt h4 hok
    have := tile9_yes W H i (nT W H) L m (rd bs (18 + 6 * i + 4) 2) (offs bs W H i) (side W (i % cnt W)) (side H (i / cnt W)) (i % cnt W) (i / cnt W) (16 * (i % cnt W)) (16 * (i / cnt W)) ((tb bs W H i).length - 4) cell ox oy bs (tb bs W H i) a cap aA aS cA cS _ _ Rz w hi hn hS hA hs (by simp) (by simp) (range_map_at _ _ _ hi) (range_map_at _ _ _ hi) (Lib.hid (count9_any W H hF)) (Lib.hid CP)
      (Lib.hid C3) (Lib.hid hok) (Lib.hid (place_any W i (by omega) (by omega) (by omega))) (Lib.hid C5) (Lib.hid (fun a' cap' wx hs' => CG hok a' cap' _ wx rfl hs'))
    rwa [hok] at this

/-- The heights of a tile of which there are these bytes. -/
theorem tget_tile (F : List Int) (W H i : Nat) (hF : isF W H = true) (hFl : F.length = W * H) (h16 : ∀ u ∈ F, In16 u) (hi : i < nT W H) (a' : Option Addr) (cap' k : Nat) (wx : World) (hk : k = (tileB F W H i).length - 4) (hs : Sl wx 1 (.slice a' k cap') k (u8s ((tileB F W H i).take k))) :
    Calls Tryz.prog 105 #[.int .i64 (side W (i % cnt W) : Nat), .int .i64 (side H (i / cnt W) : Nat), .slice a' k cap'] wx (TAns (fun zs c => c = 0 ∧ zs = tileAt F W H i) (side W (i % cnt W) * side H (i / cnt W)) wx) := by
  obtain ⟨hX, hY, _⟩ := tile_xy W H i hi
  have p1 := (side_pos W _).2 hX
  have p2 := (side_pos H _).2 hY
  have s1 := side_le W (i % cnt W)
  have s2 := side_le H (i / cnt W)
  have hAl := tileAt_length F W H i hFl hi
  rw [Nat.mul_comm] at hAl
  have e1 : tileB F W H i = putB (pack (row (deltas (side W (i % cnt W)) (tileAt F W H i)))) := rfl
  obtain ⟨L, hL⟩ : ∃ L, L = pack (row (deltas (side W (i % cnt W)) (tileAt F W H i))) := ⟨_, rfl⟩
  have hkl : k = L.length := by rw [hk, e1, ← hL, putB_length]; omega
  have et : (tileB F W H i).take k = L := by rw [e1, ← hL, hkl]; unfold putB; rw [List.take_append_of_le_length (Nat.le_refl _), List.take_length]
  rw [et] at hs
  have h16' : ∀ u ∈ tileAt F W H i, In16 u := fun u hu => h16 u (mem_tileTo hu)
  refine tget_back' _ _ _ (isT_of (by omega)) rfl _ (tileAt F W H i) hAl h16' wx ?_
  rw [← hL, ← hkl]
  exact hs
theorem tget_any9 (bs : List Nat) (W H cell i : Nat) (hO : Opens bs W H cell) (hb : ∀ x ∈ bs, x < 256) (hi : i < nT W H) (a' : Option Addr) (cap' k : Nat) (wx : World) (hk : k = (tb bs W H i).length - 4) (hs : Sl wx 1 (.slice a' k cap') k (u8s ((tb bs W H i).take k))) :
    Calls Tryz.prog 105 #[.int .i64 (side W (i % cnt W) : Nat), .int .i64 (side H (i / cnt W) : Nat), .slice a' k cap'] wx (TAns (fun _ _ => True) (side W (i % cnt W) * side H (i / cnt W)) wx) := by
  obtain ⟨hX, hY, _⟩ := tile_xy W H i hi
  have p1 := (side_pos W _).2 hX
  have p2 := (side_pos H _).2 hY
  have s1 := side_le W (i % cnt W)
  have s2 := side_le H (i / cnt W)
  have hl := tb_length hO i hi
  have hr := rd_lt2 bs (18 + 6 * i + 4) hb
  have hkl : ((tb bs W H i).take k).length = k := by rw [List.length_take]; omega
  refine tget_some _ _ _ (isT_of (by omega)) rfl _ ((tb bs W H i).take k) (by omega) (fun x hx => hb x (List.mem_of_mem_drop (List.mem_of_mem_take (List.mem_of_mem_take hx)))) wx ?_
  rw [hkl]
  exact hs

/-- What Open answers, as Get asks it. -/
theorem open9_yes (bs : List Nat) (W H cell L : Nat) (hO : Opens bs W H cell) (hL : L = bs.length) (hL2 : L ≤ 1000000) (hb : ∀ x ∈ bs, x < 256) (a : Option Addr) (cap : Nat) (wx : World) (hS : Sl wx 1 (.slice a L cap) L (u8s bs)) :
    Calls Tryz.prog 52 #[.slice a L cap] wx fun e w' => ∃ va vs, e = .returned (.tuple #[dv W H (.slice none 0 0) cell (IntKind.i32.wrap (rd bs 10 4 : Nat)) (IntKind.i32.wrap (rd bs 14 4 : Nat)) va vs, .int .i64 0]) ∧
      w'.ownsRow wx.heap.size 3 1 va (nT W H) (ints ((List.range (nT W H)).map (offs bs W H))) ∧ w'.ownsRow wx.heap.size 3 1 vs (nT W H) (ints ((List.range (nT W H)).map (fun i => rd bs (18 + 6 * i + 4) 2))) ∧ Below wx.heap.size wx w' := by
  refine (open9_any L bs a cap hL (by omega) hb wx hS).mono ?_
  rintro e w' (⟨W', H', cell', va, vs, hO', he, h1, h2, hB⟩ | ⟨hno, _⟩)
  · obtain ⟨rfl, rfl, rfl⟩ := hO.only hO'
    exact ⟨va, vs, he, h1, h2, hB⟩
  · exact absurd hO (hno W H cell)

/-- Get, where header and directory are right: by what each tile answers. -/
theorem get9_by (bs : List Nat) (W H cell L : Nat) (hO : Opens bs W H cell) (hL : L = bs.length) (hL2 : L ≤ 1000000) (hb : ∀ x ∈ bs, x < 256) (P : Nat → List Int → Prop) (Rz : Nat → List Int → Int → Prop)
    (CG : ∀ i, i < nT W H → okB (tb bs W H i) = true → ∀ a' cap' k wx, k = (tb bs W H i).length - 4 → Sl wx 1 (.slice a' k cap') k (u8s ((tb bs W H i).take k)) → Calls Tryz.prog 105 #[.int .i64 (side W (i % cnt W) : Nat), .int .i64 (side H (i / cnt W) : Nat), .slice a' k cap'] wx (TAns (Rz i) (side W (i % cnt W) * side H (i / cnt W)) wx))
    (HP0 : P 0 (List.replicate (W * H) 0))
    (HPn : ∀ i G zs, i < nT W H → G.length = W * H → P i G → okB (tb bs W H i) = true → Rz i zs 0 → zs.length = side W (i % cnt W) * side H (i / cnt W) → P (i + 1) (layTo G W (16 * (i % cnt W)) (16 * (i / cnt W)) (side W (i % cnt W)) zs (side H (i / cnt W))))
    (a : Option Addr) (cap : Nat) (w : World) (hS : Sl w 1 (.slice a L cap) L (u8s bs)) :
    Calls Tryz.prog 51 #[.slice a L cap] w fun e w' =>
      (∃ G v, P (nT W H) G ∧ G.length = W * H ∧ e = .returned (.tuple #[cv W H v cell (IntKind.i32.wrap (rd bs 10 4 : Nat)) (IntKind.i32.wrap (rd bs 14 4 : Nat)), .int .i64 0]) ∧ w'.ownsRow w.heap.size 51 1 v (W * H) (i16s G) ∧ Below w.heap.size w w') ∨
      (∃ i c zs G, i < nT W H ∧ c ≠ 0 ∧ P i G ∧ ((okB (tb bs W H i) = false ∧ c = 4) ∨ (okB (tb bs W H i) = true ∧ Rz i zs c)) ∧ e = .returned (.tuple #[cv 0 0 (.slice none 0 0) 0 0 0, .int .i64 c]) ∧ Below w.heap.size w w') := by
  have hF := isF_opens hO
  have hw := hO.wr
  have hh := hO.hr
  have hn := nT_le (W := W) (H := H) (by omega) (by omega)
  have hn1 := nT_pos (W := W) (H := H) (by omega) (by omega)
  refine get9_go W H (nT W H) (W * H) L cell _ _ bs _ _ a cap P (fun i zs c => (okB (tb bs W H i) = false ∧ c = 4) ∨ (okB (tb bs W H i) = true ∧ Rz i zs c)) (fun i => side W (i % cnt W) * side H (i / cnt W))
    (fun i G zs => layTo G W (16 * (i % cnt W)) (16 * (i / cnt W)) (side W (i % cnt W)) zs (side H (i / cnt W))) w hS (by omega) (by omega) rfl hn1 hn
    (Lib.hid (fun wx hB => open9_yes bs W H cell L hO hL hL2 hb a cap wx (hS.below hB))) (Lib.hid (fun wx => places_any W H hF wx))
    (Lib.hid (fun i hi aA cA aS cS wx h1 h2 h3 => tile9_any bs W H cell L hO hL hL2 hb i _ hi cell _ _ (Rz i) (CG i hi) a cap aA cA aS cS wx h1 h2 h3)) (Lib.hid ?_) (Lib.hid HP0) (Lib.hid ?_)
  · intro i hi g D1 G zs az cz wx hG hz ho hs
    obtain ⟨hX, hY, _⟩ := tile_xy W H i hi
    exact lay_yes W H _ _ (W * H) g (W * H) D1 G zs az _ cz hF rfl hX hY hG hz rfl wx ho hs
  · intro i G zs hi hG hP hR hz
    obtain ⟨hX, hY, _⟩ := tile_xy W H i hi
    have f1 := side_fits W _ hX
    have f2 := side_fits H _ hY
    have hR' : okB (tb bs W H i) = true ∧ Rz i zs 0 := by
      rcases hR with ⟨_, h⟩ | h
      · omega
      · exact h
    exact ⟨HPn i G zs hi hG hP hR'.1 hR'.2 hz, layTo_length G W H _ _ _ _ zs hG hz f1 f2 _ (Nat.le_refl _)⟩

/-- There and back. -/
theorem get9_back (F : List Int) (W H cell : Nat) (ox oy : Int) (hF : isF W H = true) (hc : isC cell = true) (hl : F.length = W * H) (h16 : ∀ u ∈ F, In16 u) (h1 : In32' ox) (h2 : In32' oy) (L : Nat) (hL : L = (chartB F W H cell ox oy).length) (hL2 : L ≤ 1000000)
    (a : Option Addr) (cap : Nat) (w : World) (hS : Sl w 1 (.slice a L cap) L (u8s (chartB F W H cell ox oy))) :
    Calls Tryz.prog 51 #[.slice a L cap] w fun e w' => ∃ v, e = .returned (.tuple #[cv W H v cell ox oy, .int .i64 0]) ∧ w'.ownsRow w.heap.size 51 1 v (W * H) (i16s F) ∧ Below w.heap.size w w' := by
  obtain ⟨i1, i2, i3, i4⟩ := isF_yes hF
  obtain ⟨i5, i6⟩ := isC_yes hc
  have hO := opens_chart (ox := ox) (oy := oy) (F := F) (W := W) (H := H) (cell := cell) hl (by omega) (by omega) (by omega)
  obtain ⟨r, hr⟩ := chartB_more F W H cell ox oy 0 (Nat.zero_le _)
  obtain ⟨_, _, _, _, r5, r6⟩ := rd_head (ox := ox) (oy := oy) (W := W) (H := H) (cell := cell) (by omega) (by omega) (by omega) hr
  have hok : ∀ i, i < nT W H → okB (tb (chartB F W H cell ox oy) W H i) = true := fun i hi => by rw [tb_chart hl (by omega) (by omega) i hi]; exact okB_putB _
  refine (get9_by (chartB F W H cell ox oy) W H cell L hO hL hL2 (chartB_lt F W H cell ox oy) (fun i G => G = mix F (laid9 W i)) (fun i zs c => c = 0 ∧ zs = tileAt F W H i) ?_ ?_ ?_ a cap w hS).mono ?_
  · intro i hi _ a' cap' k wx hk hs
    rw [tb_chart hl (by omega) (by omega) i hi] at hk hs
    exact tget_tile F W H i hF hl h16 hi a' cap' k wx hk hs
  · rw [laid9_none W (W * H) F hl]
  · rintro i G zs hi _ rfl _ ⟨_, rfl⟩ _
    exact laid9_next W H i F hl hi (by omega)
  · rintro e w' (⟨G, v, rfl, _, he, ho, hB⟩ | ⟨i, c, zs, G, hi, hc', _, hR, _⟩)
    · rw [laid9_all W H F hl (by omega)] at ho
      rw [r5, r6, u32_back h1, u32_back h2] at he
      exact ⟨v, he, ho, hB⟩
    · rcases hR with ⟨h, _⟩ | ⟨_, h, _⟩
      · rw [hok i hi] at h; cases h
      · exact absurd h hc'

/-- No map: a code. -/
theorem get9_ne (bs : List Nat) (L : Nat) (hL : L = bs.length) (hL2 : L ≤ 1000000) (hb : ∀ x ∈ bs, x < 256) (hno : ¬ Gets bs) (a : Option Addr) (cap : Nat) (w : World) (hS : Sl w 1 (.slice a L cap) L (u8s bs)) :
    Calls Tryz.prog 51 #[.slice a L cap] w fun e w' => ∃ c : Int, c ≠ 0 ∧ e = .returned (.tuple #[cv 0 0 (.slice none 0 0) 0 0 0, .int .i64 c]) ∧ Below w.heap.size w w' := by
  by_cases hO : ∃ W H cell, Opens bs W H cell
  · obtain ⟨W, H, cell, hO⟩ := hO
    refine (get9_by bs W H cell L hO hL hL2 hb (fun i _ => ∀ j, j < i → okB (tb bs W H j) = true) (fun _ _ _ => True) ?_ ?_ ?_ a cap w hS).mono ?_
    · intro i hi _ a' cap' k wx hk hs
      exact tget_any9 bs W H cell i hO hb hi a' cap' k wx hk hs
    · intro j hj; omega
    · intro i G zs hi _ hP hok _ _ j hj
      by_cases e : j = i
      · subst e; exact hok
      · exact hP j (by omega)
    · rintro e w' (⟨G, v, hP, _⟩ | ⟨i, c, zs, G, hi, hc', _, _, he, hB⟩)
      · exact absurd ⟨W, H, cell, hO, hP⟩ hno
      · exact ⟨c, hc', he, hB⟩
  · have hO' : ∀ W H cell, ¬ Opens bs W H cell := fun W H cell h => hO ⟨W, H, cell, h⟩
    refine (get9_no (fun _ => True) 1 L cap a w (by decide) (fun wx hB => (open9_any L bs a cap hL (by omega) hb wx (hS.below hB)).mono ?_)).mono ?_
    · rintro e w' (⟨W', H', cell', va, vs, h, _⟩ | ⟨_, c, hc, _, he, hB'⟩)
      · exact absurd h (hO' _ _ _)
      · exact ⟨c, hc, trivial, he, hB'⟩
    · rintro e w' ⟨c, hc, _, he, hB⟩
      exact ⟨c, hc, he, hB⟩

/-- A tile with a wrong sum, all ahead of it being right: ErrSum. -/
theorem get9_sum (F : List Int) (bs : List Nat) (W H cell L k : Nat) (hO : Opens bs W H cell) (hL : L = bs.length) (hL2 : L ≤ 1000000) (hb : ∀ x ∈ bs, x < 256) (hk : k < nT W H) (hl : F.length = W * H) (h16 : ∀ u ∈ F, In16 u) (hbad : okB (tb bs W H k) = false) (hgood : ∀ i, i < k → tb bs W H i = tileB F W H i)
    (a : Option Addr) (cap : Nat) (w : World) (hS : Sl w 1 (.slice a L cap) L (u8s bs)) :
    Calls Tryz.prog 51 #[.slice a L cap] w fun e w' => e = .returned (.tuple #[cv 0 0 (.slice none 0 0) 0 0 0, .int .i64 4]) ∧ Below w.heap.size w w' := by
  refine (get9_by bs W H cell L hO hL hL2 hb (fun i _ => i ≤ k) (fun i _ c => i < k → c = 0) ?_ (Nat.zero_le _) ?_ a cap w hS).mono ?_
  · intro i hi _ a' cap' q wx hq hs
    by_cases hik : i < k
    · rw [hgood i hik] at hq hs
      refine (tget_tile F W H i (isF_opens hO) hl h16 hi a' cap' q wx hq hs).mono ?_
      rintro e w' ⟨zs, c, v, he, ⟨rfl, _⟩, h1, h2, hB⟩
      exact ⟨zs, 0, v, he, fun _ => rfl, h1, h2, hB⟩
    · refine (tget_any9 bs W H cell i hO hb hi a' cap' q wx hq hs).mono ?_
      rintro e w' ⟨zs, c, v, he, _, h1, h2, hB⟩
      exact ⟨zs, c, v, he, fun h => absurd h hik, h1, h2, hB⟩
  · intro i G zs hi _ hP hok _ _
    by_cases e : i = k
    · subst e; rw [hbad] at hok; cases hok
    · show i + 1 ≤ k
      have : i ≤ k := hP
      omega
  · rintro e w' (⟨G, v, hP, _⟩ | ⟨i, c, zs, G, hi, hc', hP, hR, he, hB⟩)
    · have : nT W H ≤ k := hP
      omega
    · have hP' : i ≤ k := hP
      rcases hR with ⟨_, rfl⟩ | ⟨hok, h⟩
      · exact ⟨he, hB⟩
      · by_cases e' : i = k
        · subst e'; rw [hbad] at hok; cases hok
        · exact absurd (h (by omega)) hc'

/-- Sides that no field has: ErrRange. -/
theorem get9_range (bs : List Nat) (L : Nat) (hL : L = bs.length) (hL2 : L ≤ 1000000) (hb : ∀ x ∈ bs, x < 256) (h18 : 18 ≤ bs.length) (hm : rd bs 0 4 = 1296978516) (hF : isF (rd bs 4 2 : Nat) (rd bs 6 2 : Nat) = false) (a : Option Addr) (cap : Nat) (w : World) (hS : Sl w 1 (.slice a L cap) L (u8s bs)) :
    Calls Tryz.prog 51 #[.slice a L cap] w fun e w' => e = .returned (.tuple #[cv 0 0 (.slice none 0 0) 0 0 0, .int .i64 2]) ∧ Below w.heap.size w w' := by
  refine (get9_no (fun c => c = 2) 1 L cap a w (by decide) (fun wx hB => (open9_any L bs a cap hL (by omega) hb wx (hS.below hB)).mono ?_)).mono ?_
  · rintro e w' (⟨W', H', cell', va, vs, h, _⟩ | ⟨_, c, hc, h2, he, hB'⟩)
    · have := isF_opens h
      rw [← h.w, ← h.h, hF] at this
      cases this
    · exact ⟨c, hc, h2.range h18 hm hF, he, hB'⟩
  · rintro e w' ⟨c, _, rfl, he, hB⟩
    exact ⟨he, hB⟩
end Go.Proofs.YtlkjcamjgaecgaaGreat

/-
  The law's maps; two maps held against each other.
-/
namespace Go.Proofs.YtlkjcamjgaecgaaGreat
open Go Go.RowKit Go.Th Go.Th.Crc

/-- The law's field: the heights that are told, and then halves of them, again and again. -/
def fldAt (z : List Int) (i : Nat) : Int := if i < z.length then z.getD i 0 else (z.getD (i % z.length) 0).tdiv 2

set_option maxRecDepth 20000 in
set_option maxHeartbeats 3200000 in
theorem field9_any (p q n : Nat) (a : Option Addr) (cap : Nat) (z : List Int) (hp : p < 256) (hq : q < 256) (hz : z.length = n) (hn : n ≤ 2000) (h16 : ∀ u ∈ z, In16 u) (w : World) (hS : Sl w 1 (.slice a n cap) n (i16s z)) :
    Calls Tryz.prog 26 #[.int .u8 p, .int .u8 q, .slice a n cap] w fun e w' => ∃ (x y : Nat) (v : Value) (F : List Int), (x = 2 + p % 39 ∧ y = 2 + q % 39) ∧ (0 < n → F = (List.range (x * y)).map (fldAt z)) ∧ e = .returned (hv x y v) ∧ isF x y = true ∧ x ≤ 40 ∧ y ≤ 40 ∧ F.length = x * y ∧ (∀ u ∈ F, In16 u) ∧ w'.ownsRow w.heap.size 51 1 v (x * y) (i16s F) ∧ Below w.heap.size w w' := by
  obtain ⟨x, hx⟩ : ∃ x, x = 2 + p % 39 := ⟨_, rfl⟩
  obtain ⟨y, hy⟩ : ∃ y, y = 2 + q % 39 := ⟨_, rfl⟩
  have hx1 : 2 ≤ x ∧ x ≤ 40 := by omega
  have hy1 : 2 ≤ y ∧ y ≤ 40 := by omega
  have ex : (2 : Int) + (p : Int) % 39 = (x : Int) := by omega
  have ey : (2 : Int) + (q : Int) % 39 = (y : Int) := by omega
  have hle : x * y ≤ 40 * 40 := Nat.mul_le_mul hx1.2 hy1.2
  obtain ⟨m, hm⟩ : ∃ m, m = x * y := ⟨_, rfl⟩
  have hmul : (x : Int) * (y : Int) = (m : Int) := by rw [hm]; simp
  rw [← hm] at hle
  have HXY := Lib.hid (And.intro hx hy)
  have HM := Lib.hid hm
  have HX1 := Lib.hid hx1
  have HY1 := Lib.hid hy1
  have H16 := Lib.hid h16
  have HZ := Lib.hid hz
  have HS := Lib.hid hS
  have hmx := hS.max
  clear hx hy hm hx1 hy1 h16 hz hS
  go_enter Tryz.func26, Tryz.ntmps26
  go_wp2_with fail
  obtain ⟨w2, hw2⟩ : ∃ w2, (w.alloc (.cells #[.int .i64 0, .int .i64 0, .slice none 0 0] 26)).alloc (.cells #[.int .i64 x, .int .i64 y, .slice none 0 0] 26) = w2 := ⟨_, rfl⟩
  have hB2 : Below w.heap.size w w2 := by rw [← hw2]; exact ((Below.refl _ _).alloc (Nat.le_refl _) _).alloc (by simp) _
  have KA : Blk w2 w.heap.size 26 [.int .i64 0, .int .i64 0, .slice none 0 0] := by rw [← hw2]; exact (Blk.new w _ _).alloc _
  have K1 : Blk w2 (w.heap.size + 1) 26 [.int .i64 x, .int .i64 y, .slice none 0 0] := by
    rw [← hw2]
    have := Blk.new (w.alloc (.cells #[.int .i64 0, .int .i64 0, .slice none 0 0] 26)) 26 [.int .i64 x, .int .i64 y, .slice none 0 0]
    rw [World.size_alloc] at this
    exact this
  rw [hw2]
  clear hw2
  obtain ⟨D, hD⟩ : ∃ D, w2.heap.size = D := ⟨_, rfl⟩
  have hz2 := K1.lt
  have hz3 := hB2.size
  rw [hD] at hz2 hz3
  have hown : w2.ownsRow D 51 1 (.slice none 0 0) 0 (i16s []) := World.ownsRow_nil _ _ _ _
  have hDle : D ≤ w2.heap.size := by omega
  clear hD
  go_loopw [8] (fun c wx => ∃ (i : Nat) (v : Value) (l : List Int), i ≤ m ∧ c = .int .i64 i ∧ Hid (0 < n → l = (List.range i).map (fldAt z)) ∧ Hid (l.length = i) ∧ Hid (∀ u ∈ l, In16 u) ∧ wx.ownsRow D 51 1 v i (i16s l) ∧ Blk wx (w.heap.size + 1) 26 [.int .i64 x, .int .i64 y, v] ∧ Blk wx w.heap.size 26 [.int .i64 0, .int .i64 0, .slice none 0 0] ∧ Below w.heap.size w wx ∧ D ≤ wx.heap.size) (fun c _ => m - (intOf c).toNat)
  case atStart => exact ⟨0, _, [], Nat.zero_le _, rfl, Lib.hid (fun _ => rfl), Lib.hid rfl, Lib.hid (by intro u hu; cases hu), hown, K1, KA, hB2, hDle⟩
  case round =>
    clear hown K1 KA hB2 hDle
    obtain ⟨i, v, l, hi, rfl, hfl, hl, hl16, ho, K1, KA, hB, hDle⟩ := hrel
    have c0 := K1.cell (i := 0) rfl
    have c1 := K1.cell (i := 1) rfl
    have c2 := K1.cell (i := 2) rfl
    by_cases hlt : i < m
    · have fin : ∀ (u : Int) (w3 : World) (v2 : Value) (o : Obj), In16 u → (0 < n → u = fldAt z i) → w3.ownsRow D 51 1 v2 (i + 1) (i16s l ++ [.int .i16 u]) → (wr.alloc o).grownBy w3 v.ownBlock →
          w3.cell? ⟨w.heap.size + 1, 2, none⟩ = some v ∧ w3.frozen? ⟨w.heap.size + 1, 2, none⟩ = false ∧
          ∃ l2 : List Int, Hid (0 < n → l2 = (List.range (i + 1)).map (fldAt z)) ∧ Hid (l2.length = i + 1) ∧ Hid (∀ u ∈ l2, In16 u) ∧ (w3.setCell ⟨w.heap.size + 1, 2, none⟩ v2).ownsRow D 51 1 v2 (i + 1) (i16s l2) ∧ Blk (w3.setCell ⟨w.heap.size + 1, 2, none⟩ v2) (w.heap.size + 1) 26 [.int .i64 x, .int .i64 y, v2] ∧
          Blk (w3.setCell ⟨w.heap.size + 1, 2, none⟩ v2) w.heap.size 26 [.int .i64 0, .int .i64 0, .slice none 0 0] ∧ Below w.heap.size w (w3.setCell ⟨w.heap.size + 1, 2, none⟩ v2) ∧ D ≤ (w3.setCell ⟨w.heap.size + 1, 2, none⟩ v2).heap.size := by
        intro u w3 v2 o hu huf ho3 hg3
        have hA := app_below ho hDle hg3
        have K3 := K1.below hA hz2
        have KA3 := KA.below hA (by omega)
        have hB3 := hB.trans (hA.mono (by omega))
        refine ⟨K3.cell (i := 2) rfl, K3.free 2, l ++ [u], Lib.hid (fun h0 => by rw [List.range_succ, List.map_append, List.map_singleton, ← huf h0, ← hfl.out h0]), Lib.hid (by rw [List.length_append, hl.out]; rfl), Lib.hid ?_, ?_, K3.set 2 v2 (by simp), KA3.other _ _ (by simp), hB3.setCell (by simp) _, ?_⟩
        · intro t ht
          rcases List.mem_append.1 ht with ht | ht
          · exact hl16.out t ht
          · simp at ht; rw [ht]; exact hu
        · rw [i16s_snoc]
          refine ownsRow_setCell_other ho3 ?_ _
          intro e
          have := (ho3.lt _ e).1
          simp at this
          omega
        · have := hA.size; simp [World.setCell]; omega
      have FIN := Lib.hid fin
      clear fin
      by_cases hin : i < n
      · obtain ⟨b, o, rfl, hbl, hc⟩ := cell_i16D HS.out i (by rw [HZ.out]; exact hin)
        have hc' := (hB.cell (p := ⟨b, o + i, none⟩) hbl).trans hc
        have hu := getD_in16 H16.out i
        have huf : z.getD i 0 = fldAt z i := by unfold fldAt; rw [if_pos (by rw [HZ.out]; exact hin)]
        obtain ⟨u, huu⟩ : ∃ u, u = z.getD i 0 := ⟨_, rfl⟩
        rw [← huu] at huf
        have HUF := Lib.hid huf
        clear huf
        rw [← huu] at hc' hu
        clear hc huu
        go_wp2_with (at_builtin; refine wpList_app E16 rfl (.tmp 51) (.tmp 53) rfl D rfl (ho.alloc _) rfl (Sl.one _ _ _) (by intro u hu; simp at hu; subst hu; rfl) (by unfold maxLen; omega) (by omega) (by simp; omega) ?_)
        intro v2 w3 ho3 hg3 _
        obtain ⟨a2, cap2, rfl, _, _⟩ := ownsRow_slice ho3
        obtain ⟨d2, e2, l2, r0, r1, r2, r3, r4, r5, r6, r7⟩ := FIN.out u w3 _ _ hu (fun _ => HUF.out) ho3 hg3
        clear ho hg3 hB c0 c1 c2 K1 KA
        go_wp2_with fail
        go_roundw
        case rel => exact ⟨i + 1, _, l2, by omega, by go_num, r0, r1, r2, r3, r4, r5, r6, r7⟩
        case measure => simp [intOf]; omega
      · by_cases h0 : 0 < n
        · have hk : i % n < n := Nat.mod_lt _ h0
          obtain ⟨b, o, rfl, hbl, hc⟩ := cell_i16D HS.out (i % n) (by rw [HZ.out]; exact hk)
          have hc' := (hB.cell (p := ⟨b, o + i % n, none⟩) hbl).trans hc
          have hu := getD_in16 H16.out (i % n)
          obtain ⟨u, huu⟩ : ∃ u, u = z.getD (i % n) 0 := ⟨_, rfl⟩
          rw [← huu] at hc' hu
          have ht := tdiv_in16 hu
          obtain ⟨u1, u2⟩ := in16_def hu
          obtain ⟨s, hs⟩ : ∃ s, u.tdiv 2 = s := ⟨_, rfl⟩
          rw [hs] at ht
          have HSF : Hid (s = fldAt z i) := by show _ = _; unfold fldAt; rw [if_neg (by rw [HZ.out]; exact hin), HZ.out, ← huu, hs]
          have hsw : IntKind.i16.wrap s = s := by
            obtain ⟨s1, s2⟩ := in16_def ht
            simp [IntKind.wrap, IntKind.bits, IntKind.signed]; omega
          have hik : (i : Int) % (n : Int) = ((i % n : Nat) : Int) := by simp
          obtain ⟨k, hkk⟩ : ∃ k, k = i % n := ⟨_, rfl⟩
          rw [← hkk] at hc' hk hik
          clear hc huu hkk hu
          go_wp2_with (at_builtin; refine wpList_app E16 rfl (.tmp 51) (.tmp 53) rfl D rfl (ho.alloc _) rfl (Sl.one _ _ _) (by intro u hu; simp at hu; subst hu; rfl) (by unfold maxLen; omega) (by omega) (by simp; omega) ?_)
          intro v2 w3 ho3 hg3 _
          obtain ⟨a2, cap2, rfl, _, _⟩ := ownsRow_slice ho3
          obtain ⟨d2, e2, l2, r0, r1, r2, r3, r4, r5, r6, r7⟩ := FIN.out s w3 _ _ ht (fun _ => HSF.out) ho3 hg3
          clear ho hg3 hB c0 c1 c2 K1 KA
          go_wp2_with fail
          go_roundw
          case rel => exact ⟨i + 1, _, l2, by omega, by go_num, r0, r1, r2, r3, r4, r5, r6, r7⟩
          case measure => simp [intOf]; omega
        · have hn0 : ¬ (0 : Int) < (n : Int) := by omega
          go_wp2_with (at_builtin; refine wpList_app E16 rfl (.tmp 51) (.tmp 53) rfl D rfl (ho.alloc _) rfl (Sl.one _ _ _) (by intro u hu; simp at hu; subst hu; rfl) (by unfold maxLen; omega) (by omega) (by simp; omega) ?_)
          intro v2 w3 ho3 hg3 _
          obtain ⟨a2, cap2, rfl, _, _⟩ := ownsRow_slice ho3
          obtain ⟨d2, e2, l2, r0, r1, r2, r3, r4, r5, r6, r7⟩ := FIN.out _ w3 _ _ ⟨by omega, by omega⟩ (fun h => by omega) ho3 hg3
          clear ho hg3 hB c0 c1 c2 K1 KA
          go_wp2_with fail
          go_roundw
          case rel => exact ⟨i + 1, _, l2, by omega, by go_num, r0, r1, r2, r3, r4, r5, r6, r7⟩
          case measure => simp [intOf]; omega
    · obtain rfl : i = m := by omega
      obtain ⟨av, cv, rfl, _, _⟩ := ownsRow_slice ho
      have a0 := KA.cell (i := 0) rfl
      have a1 := KA.cell (i := 1) rfl
      have a2 := KA.cell (i := 2) rfl
      have b0 := KA.free 0
      have b1 := KA.free 1
      have b2 := KA.free 2
      have KB := ((KA.set 0 (.int .i64 x) (by simp)).set 1 (.int .i64 y) (by simp)).set 2 (.slice av i cv) (by simp)
      obtain ⟨q1, q2⟩ := HX1.out
      obtain ⟨q3, q4⟩ := HY1.out
      go_wp2_with fail
      refine bodyPost_ret (v := hv x y (.slice av i cv)) (res_blk rfl rfl KB Tryz.underlying26 rfl (by kernel_rfl)) rfl ?_
      refine ⟨x, y, _, l, HXY.out, fun h => by rw [← HM.out]; exact hfl.out h, rfl, isF_of (by omega), q2, q4, by rw [hl.out, HM.out], hl16.out, ?_, ?_⟩
      · rw [← HM.out]
        refine ownsRow_base ?_ (by omega : w.heap.size ≤ D)
        refine ownsRow_setCell_other (ownsRow_setCell_other (ownsRow_setCell_other ho ?_ _) ?_ _) ?_ _
        all_goals (intro e; have := (ho.lt _ e).1; simp at this; omega)
      · exact ((hB.setCell (Nat.le_refl _) _).setCell (Nat.le_refl _) _).setCell (Nat.le_refl _) _

set_option maxRecDepth 20000 in
set_option maxHeartbeats 3200000 in
theorem made9_any (p q n k c : Nat) (ox oy : Int) (a : Option Addr) (cap : Nat) (z : List Int) (hp : p < 256) (hq : q < 256) (hk : k < 65536) (hc : c = 1 + k % 1000) (hz : z.length = n) (hn : n ≤ 2000) (h16 : ∀ u ∈ z, In16 u) (w : World) (hS : Sl w 1 (.slice a n cap) n (i16s z)) :
    Calls Tryz.prog 9 #[.int .u8 p, .int .u8 q, .slice a n cap, .int .u16 k, .int .i32 ox, .int .i32 oy] w fun e w' => ∃ (x y : Nat) (v : Value) (F : List Int), e = .returned (cv x y v c ox oy) ∧ isF x y = true ∧ x ≤ 40 ∧ y ≤ 40 ∧ F.length = x * y ∧ (∀ u ∈ F, In16 u) ∧ w'.ownsRow w.heap.size 51 1 v (x * y) (i16s F) ∧ Below w.heap.size w w' := by
  obtain ⟨w1, hw1⟩ : ∃ w1, w.alloc (.cells #[.int .i64 0, .int .i64 0, .slice none 0 0, .int .i64 0, .int .i32 0, .int .i32 0] 28) = w1 := ⟨_, rfl⟩
  have hB1 : Below w.heap.size w w1 := by rw [← hw1]; exact (Below.refl _ _).alloc (Nat.le_refl _) _
  have KA : Blk w1 w.heap.size 28 [.int .i64 0, .int .i64 0, .slice none 0 0, .int .i64 0, .int .i32 0, .int .i32 0] := by rw [← hw1]; exact Blk.new w _ _
  have C1 := Lib.hid (field_any p q n a cap z hp hq hz hn h16 w1 (hS.below hB1))
  have hci : 1 + (k : Int) % 1000 = (c : Int) := by omega
  clear hp hq hz hn h16 hS hc
  go_enter Tryz.func9, Tryz.ntmps9
  go_wp2_with fail
  clear hw1
  refine C1.out.mono ?_
  rintro e w2 ⟨x, y, v, F, rfl, hF, hx, hy, hl, hF16, ho, hA⟩
  obtain ⟨av, cw, rfl, _, _⟩ := ownsRow_slice ho
  have hga : w.heap.size < w1.heap.size := KA.lt
  replace KA := KA.below hA KA.lt
  have hz1 := hB1.size
  have hB2 := hB1.trans (hA.mono hB1.size)
  clear C1 hA hB1
  have a0 := KA.cell (i := 0) rfl
  have a1 := KA.cell (i := 1) rfl
  have a2 := KA.cell (i := 2) rfl
  have a3 := KA.cell (i := 3) rfl
  have a4 := KA.cell (i := 4) rfl
  have a5 := KA.cell (i := 5) rfl
  have f0 := KA.free 0
  have f1 := KA.free 1
  have f2 := KA.free 2
  have f3 := KA.free 3
  have f4 := KA.free 4
  have f5 := KA.free 5
  have HF := Lib.hid hF
  have HL := Lib.hid hl
  have H16 := Lib.hid hF16
  have HO := Lib.hid ho
  clear hF hl hF16 ho
  go_wp2_with fail
  refine bodyPost_ret (v := cv x y (.slice av (x * y) cw) c ox oy) (res_blk rfl rfl (blk_set6 KA _ _ _ _ _ _) Tryz.underlying28 rfl (by kernel_rfl)) rfl ?_
  have ht := turned_set6 w2 w.heap.size (.int .i64 x) (.int .i64 y) (.slice av (x * y) cw) (.int .i64 c) (.int .i32 ox) (.int .i32 oy)
  exact ⟨x, y, _, F, rfl, HF.out, hx, hy, HL.out, H16.out, ownsRow_base (ht.own HO.out (by rintro j hj rfl; have := (HO.out.lt _ hj).1; omega)) hz1, ht.old hB2 hB2.size (by rintro j hj rfl; omega)⟩

end Go.Proofs.YtlkjcamjgaecgaaGreat
