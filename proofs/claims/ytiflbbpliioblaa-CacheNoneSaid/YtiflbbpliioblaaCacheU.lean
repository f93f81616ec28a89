/-
  The reference's use of a tile.
-/
import Derived.Test.YtiflbbpliioblaaCacheR
import Derived.Test.YtiflbbpliioblaaPackBits
set_option linter.unusedVariables false
set_option linter.unusedSimpArgs false
namespace Go.Proofs.Ytiflbbpliioblaa
open Go Go.RowKit Go.Th Go.Th.Crc

/-- Tiles ahead of the cut. -/
def outL (n : Nat) (l : List Nat) : List Nat := n :: l.filter (fun m => !(m == n))
theorem outL_yes {n x : Nat} (l : List Nat) (h : x = n) : outL n (l ++ [x]) = outL n l := by
  unfold outL
  rw [List.filter_append, List.filter_cons_of_neg (by simp [h]), List.filter_nil, List.append_nil]
theorem outL_no {n x : Nat} (l : List Nat) (h : x ≠ n) : outL n (l ++ [x]) = outL n l ++ [x] := by
  unfold outL
  rw [List.filter_append, List.filter_cons_of_pos (by simpa using h), List.filter_nil, List.cons_append]
theorem outL_le (n : Nat) (l : List Nat) : (outL n l).length ≤ l.length + 1 := by
  unfold outL
  rw [List.length_cons]
  have := List.length_filter_le (fun m => !(m == n)) l
  omega

/-- The reference's cache while a tile is used. -/
structure UseI (w W : World) (g2 g4 g5 B room k : Nat) (a : Option Addr) (cap met miss : Nat) (v : Value) (j : Nat) (xs : List Nat) (m' s' : Nat) : Prop where
  k2 : Blk W g2 44 [.int .i64 room, .slice a k cap, .int .i64 met, .int .i64 miss]
  k4 : Blk W g4 44 [.int .i64 0, .slice none 0 0, .int .i64 0, .int .i64 0]
  k5 : Blk W g5 44 [.int .i64 room, v, .int .i64 m', .int .i64 s']
  ow : W.ownsRow B 3 1 v j (ints xs)
  bel : Below w.heap.size w W
  le : w.heap.size ≤ B ∧ B ≤ W.heap.size ∧ w.heap.size ≤ g5 ∧ w.heap.size ≤ g4 ∧ g2 ≠ g5 ∧ g4 ≠ g5
section
variable {w W W' : World} {g2 g4 g5 B room k : Nat} {a : Option Addr} {cap met miss : Nat} {v v' : Value} {j j' : Nat} {xs xs' : List Nat} {m' s' : Nat}
theorem UseI.below (h : UseI w W g2 g4 g5 B room k a cap met miss v j xs m' s') (hb : Below W.heap.size W W') : UseI w W' g2 g4 g5 B room k a cap met miss v j xs m' s' :=
  ⟨h.k2.below hb h.k2.lt, h.k4.below hb h.k4.lt, h.k5.below hb h.k5.lt, ownsRow_below h.ow hb, h.bel.trans (hb.mono h.bel.size), by have := h.le; have := hb.size; omega⟩
theorem UseI.drew (h : UseI w W g2 g4 g5 B room k a cap met miss v j xs m' s') : UseI w W.drew g2 g4 g5 B room k a cap met miss v j xs m' s' := ⟨h.k2, h.k4, h.k5, h.ow, h.bel.drew, h.le⟩
theorem UseI.setM (h : UseI w W g2 g4 g5 B room k a cap met miss v j xs m' s') (q : Nat) : UseI w (W.setCell ⟨g5, 2, none⟩ (.int .i64 (q : Int))) g2 g4 g5 B room k a cap met miss v j xs q s' := by
  have ht : Turned (fun j => j = g5) W (W.setCell ⟨g5, 2, none⟩ (.int .i64 (q : Int))) := (Turned.refl (fun j => j = g5) W).setCell (.inl rfl) _
  exact ⟨h.k2.turned ht h.le.2.2.2.2.1, h.k4.turned ht h.le.2.2.2.2.2, h.k5.set 2 _ (by simp), ht.own h.ow (own_ne h.k5 h.ow (by decide)), ht.old h.bel h.bel.size (fun j hj hs => by have := h.le; omega), by have := h.le; have := ht.size; omega⟩
theorem UseI.setS (h : UseI w W g2 g4 g5 B room k a cap met miss v j xs m' s') (q : Nat) : UseI w (W.setCell ⟨g5, 3, none⟩ (.int .i64 (q : Int))) g2 g4 g5 B room k a cap met miss v j xs m' q := by
  have ht : Turned (fun j => j = g5) W (W.setCell ⟨g5, 3, none⟩ (.int .i64 (q : Int))) := (Turned.refl (fun j => j = g5) W).setCell (.inl rfl) _
  exact ⟨h.k2.turned ht h.le.2.2.2.2.1, h.k4.turned ht h.le.2.2.2.2.2, h.k5.set 3 _ (by simp), ht.own h.ow (own_ne h.k5 h.ow (by decide)), ht.old h.bel h.bel.size (fun j hj hs => by have := h.le; omega), by have := h.le; have := ht.size; omega⟩
theorem grown_turned10 {w w' : World} {row : Option Nat} (hg : w.grownBy w' row) : Turned (fun j => row = some j) w w' := (Turned.refl _ w).grown hg (fun j hj _ => hj)
/-- A tile more, and stored. -/
theorem UseI.app (h : UseI w W g2 g4 g5 B room k a cap met miss v j xs m' s') (hg : W.grownBy W' v.ownBlock) (ho : W'.ownsRow B 3 1 v' j' (ints xs')) : UseI w (W'.setCell ⟨g5, 1, none⟩ v') g2 g4 g5 B room k a cap met miss v' j' xs' m' s' := by
  have h1 := grown_turned10 hg
  have n2 := own_ne h.k2 h.ow (by decide)
  have n4 := own_ne h.k4 h.ow (by decide)
  have n5 := own_ne h.k5 h.ow (by decide)
  have k5 := h.k5.turned h1 (fun e => n5 _ e rfl)
  have ht : Turned (fun j => j = g5) W' (W'.setCell ⟨g5, 1, none⟩ v') := (Turned.refl (fun j => j = g5) W').setCell (.inl rfl) _
  have hb := h1.old h.bel h.bel.size (fun j hj hs => by have := (h.ow.lt j hs).1; have := h.le; omega)
  exact ⟨(h.k2.turned h1 (fun e => n2 _ e rfl)).turned ht h.le.2.2.2.2.1, (h.k4.turned h1 (fun e => n4 _ e rfl)).turned ht h.le.2.2.2.2.2, k5.set 1 _ (by simp), ht.own ho (own_ne k5 ho (by decide)), ht.old hb hb.size (fun j hj hs => by have := h.le; omega), by have := h.le; have := ht.size; have := h1.size; omega⟩
end

theorem take_next {L : List Nat} {i x : Nat} (h : L[i]? = some x) : L.take (i + 1) = L.take i ++ [x] := by
  rw [List.take_add_one, h]; rfl
theorem own_one (w : World) (u : Value) (t : TypeId) : (w.alloc (.cells #[u] t)).ownsRow w.heap.size t 1 (.slice (some ⟨w.heap.size, 0, none⟩) 1 1) 1 [u] :=
  ⟨rfl, .inr ⟨w.heap.size, 1, #[u], rfl, Nat.le_refl _, heap_alloc_new w _, Nat.le_refl _, by unfold maxLen; omega, rfl, rfl⟩⟩

/-- Four cells stored, one behind the other. -/
abbrev set4 (w : World) (g : Nat) (v0 v1 v2 v3 : Value) : World := (((w.setCell ⟨g, 0, none⟩ v0).setCell ⟨g, 1, none⟩ v1).setCell ⟨g, 2, none⟩ v2).setCell ⟨g, 3, none⟩ v3
theorem blk_set4 {w : World} {g : Nat} {t : TypeId} {c0 c1 c2 c3 : Value} (K : Blk w g t [c0, c1, c2, c3]) (v0 v1 v2 v3 : Value) : Blk (set4 w g v0 v1 v2 v3) g t [v0, v1, v2, v3] :=
  (((K.set 0 v0 (by simp)).set 1 v1 (by simp)).set 2 v2 (by simp)).set 3 v3 (by simp)
theorem turned_set4 (w : World) (g : Nat) (v0 v1 v2 v3 : Value) : Turned (fun k => k = g) w (set4 w g v0 v1 v2 v3) :=
  ((((Turned.refl (fun k => k = g) w).setCell (.inl rfl) v0).setCell (.inl rfl) v1).setCell (.inl rfl) v2).setCell (.inl rfl) v3

set_option maxRecDepth 20000 in
set_option maxHeartbeats 3200000 in
theorem refUse_go (room k n met miss : Nat) (L : List Nat) (a : Option Addr) (cap : Nat) (hk : L.length = k) (hkr : k ≤ room) (hr : room ≤ 1000) (hr0 : 0 < room) (hm : met ≤ 1000000) (hs : miss ≤ 1000000) (M S : Nat) (HMe : Hid (M = if n ∈ L then met + 1 else met)) (HSe : Hid (S = if n ∈ L then miss else miss + 1)) (w : World) (hS : Sl w 1 (.slice a k cap) k (ints L)) :
    Calls Try.prog 12 #[.agg #[.int .i64 room, .slice a k cap, .int .i64 met, .int .i64 miss], .int .i64 n] w fun e w' => ∃ a' k' cap', e = .returned (.agg #[.int .i64 room, .slice a' k' cap', .int .i64 M, .int .i64 S]) ∧
      k' = (useL room L n).length ∧ Sl w' 1 (.slice a' k' cap') k' (ints (useL room L n)) ∧ (∀ x, a' = some x → w.heap.size ≤ x.block) ∧ Below w.heap.size w w' := by
  obtain ⟨w1, hw1⟩ : ∃ w1, (w.alloc (.cells #[.int .i64 room, .slice a k cap, .int .i64 met, .int .i64 miss] 44)).alloc (.cells #[.int .i64 0, .slice none 0 0, .int .i64 0, .int .i64 0] 44) = w1 := ⟨_, rfl⟩
  have hB1 : Below w.heap.size w w1 := by rw [← hw1]; exact ((Below.refl _ _).alloc (Nat.le_refl _) _).alloc (by simp) _
  have K2 : Blk w1 w.heap.size 44 [.int .i64 room, .slice a k cap, .int .i64 met, .int .i64 miss] := by rw [← hw1]; exact (Blk.new w _ _).alloc _
  have K4 : Blk w1 (w.heap.size + 1) 44 [.int .i64 0, .slice none 0 0, .int .i64 0, .int .i64 0] := by
    rw [← hw1]
    have := Blk.new (w.alloc (.cells #[.int .i64 room, .slice a k cap, .int .i64 met, .int .i64 miss] 44)) 44 [.int .i64 0, .slice none 0 0, .int .i64 0, .int .i64 0]
    rw [World.size_alloc] at this
    exact this
  have hz1 : w1.heap.size = w.heap.size + 2 := by rw [← hw1]; simp
  have HZ1 := Lib.hid hz1
  have HW1 := Lib.hid hw1
  have HS := Lib.hid hS
  have HK := Lib.hid hk
  have c0 := K2.cell (i := 0) rfl
  have c2 := K2.cell (i := 2) rfl
  have c3 := K2.cell (i := 3) rfl
  clear hw1 hz1 hS hk
  go_enter Try.func12, Try.ntmps12
  go_upto_region 1 with fail
  rw [HW1.out]
  go_wp2_with fail
  obtain ⟨B, hB⟩ : ∃ B, w1.heap.size = B := ⟨_, rfl⟩
  have hI : UseI w ((w1.alloc (.cells #[.int .i64 n] 3)).alloc (.cells #[.int .i64 room, .slice (some ⟨B, 0, none⟩) 1 1, .int .i64 met, .int .i64 ((miss : Int) + 1)] 44)) w.heap.size (w.heap.size + 1) (B + 1) B room k a cap met miss (.slice (some ⟨B, 0, none⟩) 1 1) 1 (outL n []) met (miss + 1) := by
    have hz := HZ1.out
    have hA : Below w1.heap.size w1 ((w1.alloc (.cells #[.int .i64 n] 3)).alloc (.cells #[.int .i64 room, .slice (some ⟨B, 0, none⟩) 1 1, .int .i64 met, .int .i64 ((miss : Int) + 1)] 44)) := ((Below.refl _ _).alloc (Nat.le_refl _) _).alloc (by simp) _
    have ho : (w1.alloc (.cells #[.int .i64 n] 3)).ownsRow B 3 1 (.slice (some ⟨B, 0, none⟩) 1 1) 1 (ints (outL n [])) := by rw [← hB]; exact own_one w1 _ _
    have hK := Blk.new (w1.alloc (.cells #[.int .i64 n] 3)) 44 [.int .i64 room, .slice (some ⟨B, 0, none⟩) 1 1, .int .i64 met, .int .i64 ((miss : Int) + 1)]
    rw [World.size_alloc, hB] at hK
    exact ⟨K2.below hA K2.lt, K4.below hA K4.lt, hK, ho.alloc _, hB1.trans (hA.mono hB1.size), by have := hA.size; omega⟩
  obtain ⟨w2, hw2⟩ : ∃ w2, ((w1.alloc (.cells #[.int .i64 n] 3)).alloc (.cells #[.int .i64 room, .slice (some ⟨B, 0, none⟩) 1 1, .int .i64 met, .int .i64 ((miss : Int) + 1)] 44)) = w2 := ⟨_, rfl⟩
  obtain ⟨g5, hg5⟩ : ∃ g5, B + 1 = g5 := ⟨_, rfl⟩
  obtain ⟨g4, hg4⟩ : ∃ g4, w.heap.size + 1 = g4 := ⟨_, rfl⟩
  obtain ⟨g2, hg2⟩ : ∃ g2, w.heap.size = g2 := ⟨_, rfl⟩
  have HG2 := Lib.hid hg2
  rw [hB, hw2]
  rw [hw2] at hI
  rw [hg5, hg4]
  rw [hg5, hg4] at hI
  have hI' : UseI w w2 g2 g4 g5 B room k a cap met miss (.slice (some ⟨B, 0, none⟩) 1 1) 1 (outL n []) met (miss + 1) := by rw [← hg2]; exact hI
  rw [hg2]
  clear hw2 hg5 hg4 hg2 c0 c2 c3 K2 K4 hB1 HZ1 HW1 hI hB
  go_loopw [6] (fun q wx => ∃ (i j : Nat) (v : Value) (xs : List Nat) (m' s' : Nat), i ≤ k ∧ q = .int .i64 i ∧ Hid (xs = outL n (L.take i)) ∧ Hid (m' = if n ∈ L.take i then met + 1 else met) ∧ Hid (s' = if n ∈ L.take i then miss else miss + 1) ∧ j ≤ i + 1 ∧ UseI w wx g2 g4 g5 B room k a cap met miss v j xs m' s') (fun q _ => k - (intOf q).toNat)
  case atStart => exact ⟨0, 1, _, _, _, _, Nat.zero_le _, rfl, Lib.hid rfl, Lib.hid (by simp), Lib.hid (by simp), by omega, hI'⟩
  case round =>
    clear hI'
    obtain ⟨i, j, v, xs, m', s', hi, rfl, hxs, hm', hs', hj, hI⟩ := hrel
    obtain ⟨av, capv, rfl, hcv1, hcv2⟩ := ownsRow_slice hI.ow
    have c0 := hI.k2.cell (i := 0) rfl
    have c1 := hI.k2.cell (i := 1) rfl
    have c2 := hI.k2.cell (i := 2) rfl
    have c3 := hI.k2.cell (i := 3) rfl
    have d0 := hI.k5.cell (i := 0) rfl
    have d1 := hI.k5.cell (i := 1) rfl
    have d2 := hI.k5.cell (i := 2) rfl
    have d3 := hI.k5.cell (i := 3) rfl
    have e0 := hI.k5.free 0
    have e1 := hI.k5.free 1
    have e2 := hI.k5.free 2
    have e3 := hI.k5.free 3
    by_cases hlt : i < k
    · have hSl := HS.out.below hI.bel
      obtain ⟨x, hx⟩ : ∃ x, L[i]? = some x := ⟨L[i]'(by rw [HK.out]; exact hlt), List.getElem?_eq_getElem _⟩
      have hcl : ∃ b o, a = some ⟨b, o, none⟩ ∧ b < wr.heap.size ∧ wr.cell? ⟨b, o + i, none⟩ = some (.int .i64 (x : Int)) := by
        obtain ⟨b, o, h1, h2, h3⟩ := cell_ints hSl i (by rw [HK.out]; exact hlt)
        refine ⟨b, o, h1, h2, ?_⟩
        rw [h3]
        rw [List.getElem?_eq_getElem (by rw [HK.out]; exact hlt)] at hx
        simp at hx
        rw [hx]
      obtain ⟨b, o, rfl, hb, hcx⟩ := hcl
      have htk := take_next hx
      have hmx := hSl.max
      have HTK := Lib.hid htk
      clear hSl hx htk
      by_cases hxn : x = n
      · have hI2 := (hI.setM (met + 1)).setS miss
        have hxs2 : xs = outL n (L.take (i + 1)) := by rw [HTK.out, outL_yes _ hxn]; exact hxs.out
        have hmem : n ∈ L.take (i + 1) := by rw [HTK.out, hxn]; simp
        have HX2 : Hid (xs = outL n (L.take (i + 1))) := Lib.hid hxs2
        have HM2 : Hid (met + 1 = if n ∈ L.take (i + 1) then met + 1 else met) := Lib.hid (by rw [if_pos hmem])
        have HS2 : Hid (miss = if n ∈ L.take (i + 1) then miss else miss + 1) := Lib.hid (by rw [if_pos hmem])
        have HI2 := Lib.hid hI2
        have hxe : (x : Int) = (n : Int) := by omega
        clear hxs2 hmem hI2 hxs hm' hs' hI hxn
        go_wp2_with fail
        go_roundw
        case rel => exact ⟨i + 1, j, _, xs, met + 1, miss, by omega, by go_num, HX2, HM2, HS2, by omega, HI2.out⟩
        case measure => simp [intOf]; omega
      · have hxs2 : outL n (L.take (i + 1)) = xs ++ [x] := by rw [HTK.out, outL_no _ hxn, ← hxs.out]
        have hmem : n ∈ L.take (i + 1) ↔ n ∈ L.take i := by
          rw [HTK.out]
          simp only [List.mem_append, List.mem_singleton]
          exact ⟨fun h => h.resolve_right (fun e => hxn e.symm), .inl⟩
        have HX2 : Hid (outL n (L.take (i + 1)) = xs ++ [x]) := Lib.hid hxs2
        have HM2 : Hid (m' = if n ∈ L.take (i + 1) then met + 1 else met) := Lib.hid (by simp only [hmem]; exact hm'.out)
        have HS2 : Hid (s' = if n ∈ L.take (i + 1) then miss else miss + 1) := Lib.hid (by simp only [hmem]; exact hs'.out)
        have hxe : ¬ ((x : Int) = (n : Int)) := by omega
        have HI := Lib.hid hI
        have hb0 : b < w.heap.size := by
          obtain ⟨b', o', h1, h2, _⟩ := cell_ints HS.out i (by rw [HK.out]; exact hlt)
          cases h1
          exact h2
        clear hxs2 hmem hxs hm' hs' hxn
        go_wp2_with fail
        refine wp_region_N_drew (S := (fun w' : World => w'.cell? ⟨g5, 1, none⟩ = some (.slice av j capv) ∧ w'.cell? ⟨g2, 1, none⟩ = some (.slice (some ⟨b, o, none⟩) k cap) ∧ w'.cell? ⟨b, o + i, none⟩ = some (.int .i64 (x : Int)))) 10 (by kernel_rfl) ?_
        have hHeld : (fun w' : World => w'.cell? ⟨g5, 1, none⟩ = some (.slice av j capv) ∧ w'.cell? ⟨g2, 1, none⟩ = some (.slice (some ⟨b, o, none⟩) k cap) ∧ w'.cell? ⟨b, o + i, none⟩ = some (.int .i64 (x : Int))) wr.drew := ⟨d1, c1, hcx⟩
        refine wpAnyN_takeY (i := 0) (v := ?v1) rfl (by kernel_rfl) (by kernel_rfl) (by kernel_rfl) (fun _ _ _ h => h) rfl (Or.inl ⟨by rfl, ?hy1⟩) (fun _ => hHeld) ?rest1
        case hy1 => (intro w' _; go_simp; (try with_reducible rfl))
        try simp only [Act.put, List.setIfInBounds_toArray, List.set_cons_zero, List.set_cons_succ, List.getElem_toArray, List.getElem_cons_zero, List.getElem_cons_succ]
        refine wpAnyN_takeY (i := 2) (v := ?v2) rfl (by kernel_rfl) (by kernel_rfl) (by kernel_rfl) (fun _ _ _ h => h) rfl (Or.inl ⟨by rfl, ?hy2⟩) (fun _ => hHeld) ?rest2
        case hy2 => (intro w' _; go_simp; (try with_reducible rfl))
        try simp only [Act.put, List.setIfInBounds_toArray, List.set_cons_zero, List.set_cons_succ, List.getElem_toArray, List.getElem_cons_zero, List.getElem_cons_succ]
        refine wpAnyN_takeY (i := 4) (v := ?v3) rfl (by kernel_rfl) (by kernel_rfl) (by kernel_rfl) (fun _ _ _ h => h) rfl (Or.inl ⟨by rfl, ?hy3⟩) (fun _ => hHeld) ?rest3
        case hy3 => (intro w' _; go_simp; (try with_reducible rfl))
        try simp only [Act.put, List.setIfInBounds_toArray, List.set_cons_zero, List.set_cons_succ, List.getElem_toArray, List.getElem_cons_zero, List.getElem_cons_succ]
        refine wpAnyN_take (i := 1) (v := ?v4) rfl (by kernel_rfl) (by kernel_rfl) (by kernel_rfl) (fun _ _ _ h => h) rfl (by kernel_rfl) (by kernel_rfl) (Or.inl ⟨by rfl, ?hy4⟩) hHeld ?rest4
        case hy4 => (intro w' hSw; (try dsimp only at hSw); go_simp; (try with_reducible rfl))
        try simp only [Act.put, List.setIfInBounds_toArray, List.set_cons_zero, List.set_cons_succ, List.getElem_toArray, List.getElem_cons_zero, List.getElem_cons_succ]
        refine wpAnyN_take (i := 3) (v := ?v5) rfl (by kernel_rfl) (by kernel_rfl) (by kernel_rfl) (fun _ _ _ h => h) rfl (by kernel_rfl) (by kernel_rfl) (Or.inl ⟨by rfl, ?hy5⟩) hHeld ?rest5
        case hy5 => (intro w' hSw; (try dsimp only at hSw); go_simp; (try with_reducible rfl))
        try simp only [Act.put, List.setIfInBounds_toArray, List.set_cons_zero, List.set_cons_succ, List.getElem_toArray, List.getElem_cons_zero, List.getElem_cons_succ]
        refine wpAnyN_takeY (i := 5) (v := ?v6) rfl (by kernel_rfl) (by kernel_rfl) (by kernel_rfl) (fun _ _ _ h => h) rfl (Or.inl ⟨by rfl, ?hy6⟩) (fun _ => hHeld) ?rest6
        case hy6 => (intro w' _; go_simp; (try with_reducible rfl))
        try simp only [Act.put, List.setIfInBounds_toArray, List.set_cons_zero, List.set_cons_succ, List.getElem_toArray, List.getElem_cons_zero, List.getElem_cons_succ]
        refine wpAnyN_take (i := 6) (v := ?v7) rfl (by kernel_rfl) (by kernel_rfl) (by kernel_rfl) (fun _ _ _ h => h) rfl (by kernel_rfl) (by kernel_rfl) (Or.inl ⟨by rfl, ?hy7⟩) hHeld ?rest7
        case hy7 => (intro w' hSw; (try dsimp only at hSw); go_simp; (try with_reducible rfl))
        try simp only [Act.put, List.setIfInBounds_toArray, List.set_cons_zero, List.set_cons_succ, List.getElem_toArray, List.getElem_cons_zero, List.getElem_cons_succ]
        refine wpAnyN_ready (rs := [7]) (by kernel_rfl) (by simp) ?_
        refine AllReadyN.cons rfl (fun K hK => ?_) AllReadyN.nil
        go_simp
        obtain ⟨w8, hw8⟩ : ∃ w8, (wr.alloc (.cells #[.int .i64 x] 3)).drew = w8 := ⟨_, rfl⟩
        have hA : Below wr.heap.size wr w8 := by rw [← hw8]; exact ((Below.refl _ _).alloc (Nat.le_refl _) _).drew
        have p8 : Sl w8 1 (.slice (some ⟨wr.heap.size, 0, none⟩) 1 1) 1 [.int .i64 (x : Int)] := by rw [← hw8]; exact Sl.one wr _ _
        have hI8 := HI.out.below hA
        have hcx8 := (hA.cell (p := ⟨b, o + i, none⟩) hb).trans hcx
        have hb8 : b < w8.heap.size := Nat.lt_of_lt_of_le hb hA.size
        (try simp only [hw8])
        clear hw8 hA
        try go_wp2_with fail
        replace hHeld : (fun w' : World => w'.cell? ⟨g5, 1, none⟩ = some (.slice av j capv) ∧ w'.cell? ⟨g2, 1, none⟩ = some (.slice (some ⟨b, o, none⟩) k cap) ∧ w'.cell? ⟨b, o + i, none⟩ = some (.int .i64 (x : Int))) _ := ⟨hI8.k5.cell (i := 1) rfl, hI8.k2.cell (i := 1) rfl, hcx8⟩
        refine hK.out _ _ (fun _ => hHeld) ?_
        clear hK K
        try simp only [Act.put, List.setIfInBounds_toArray, List.set_cons_zero, List.set_cons_succ, List.getElem_toArray, List.getElem_cons_zero, List.getElem_cons_succ]
        refine wpAnyN_ready (rs := [8]) (by kernel_rfl) (by simp) ?_
        refine AllReadyN.cons rfl (fun K hK => ?_) AllReadyN.nil
        rw [if_pos (by rfl)]
        refine wp_app Eint (.tmp 39) (.tmp 45) rfl B rfl hI8.ow rfl p8 (by intro u hu; simp at hu; subst hu; rfl) (by unfold maxLen; omega) (by omega) hI8.le.2.1 ?_
        intro v9 w9 ho9 hg9 _
        have hT9 := grown_turned10 hg9
        have n2 := own_ne hI8.k2 hI8.ow (by decide)
        have n5 := own_ne hI8.k5 hI8.ow (by decide)
        have k29 := hI8.k2.turned hT9 (fun e => n2 _ e rfl)
        have k59 := hI8.k5.turned hT9 (fun e => n5 _ e rfl)
        have hcx9 := (hT9.cell (p := ⟨b, o + i, none⟩) hb8 (fun e => by have := (hI8.ow.lt b e).1; have := hI8.le; omega)).trans hcx8
        have ho9' : w9.ownsRow B 3 1 v9 (j + 1) (ints (xs ++ [x])) := by rw [ints_snoc]; exact ho9
        obtain ⟨a9, c9, rfl, _, _⟩ := ownsRow_slice ho9
        have hI9 := hI8.app hg9 ho9'
        rw [← HX2.out] at hI9
        have HI9 := Lib.hid hI9
        have r1 := k59.cell (i := 1) rfl
        have f1 := k59.free 1
        clear hI9 ho9' ho9 hT9 n2 n5 hg9 p8 hI8
        replace hHeld : (fun w' : World => w'.cell? ⟨g5, 1, none⟩ = some (.slice av j capv) ∧ w'.cell? ⟨g2, 1, none⟩ = some (.slice (some ⟨b, o, none⟩) k cap) ∧ w'.cell? ⟨b, o + i, none⟩ = some (.int .i64 (x : Int))) _ := ⟨k59.cell (i := 1) rfl, k29.cell (i := 1) rfl, hcx9⟩
        refine hK.out _ _ (fun _ => hHeld) ?_
        clear hK K
        try simp only [Act.put, List.setIfInBounds_toArray, List.set_cons_zero, List.set_cons_succ, List.getElem_toArray, List.getElem_cons_zero, List.getElem_cons_succ]
        refine wpAnyN_takeY (i := 9) (v := ?v10) rfl (by kernel_rfl) (by kernel_rfl) (by kernel_rfl) (fun _ _ _ h => h) rfl (Or.inl ⟨by rfl, ?hy10⟩) (fun _ => hHeld) ?rest10
        case hy10 => (intro w' _; go_simp; (try with_reducible rfl))
        try simp only [Act.put, List.setIfInBounds_toArray, List.set_cons_zero, List.set_cons_succ, List.getElem_toArray, List.getElem_cons_zero, List.getElem_cons_succ]
        refine wpAnyN_ready (rs := [10]) (by kernel_rfl) (by simp) ?_
        refine AllReadyN.cons rfl (fun K hK => ?_) AllReadyN.nil
        go_simp
        try go_wp2_with fail
        refine hK.out _ _ (fun h => by have h' : (true : Bool) = false := h; cases h') ?_
        clear hK K
        try simp only [Act.put, List.setIfInBounds_toArray, List.set_cons_zero, List.set_cons_succ, List.getElem_toArray, List.getElem_cons_zero, List.getElem_cons_succ]
        refine wpAnyN_done (by kernel_rfl) ?_ _
        clear r1 f1 k59 k29 hcx9
        obtain ⟨w10, hw10⟩ : ∃ w10, w9.setCell ⟨g5, 1, none⟩ (.slice a9 (j + 1) c9) = w10 := ⟨_, rfl⟩
        rw [hw10] at HI9 ⊢
        clear hw10
        go_wp2_with fail
        go_roundw
        case rel => exact ⟨i + 1, j + 1, _, _, m', s', by omega, by go_num, Lib.hid rfl, HM2, HS2, by omega, HI9.out⟩
        case measure => simp [intOf]; omega
    · obtain rfl : i = k := by omega
      have hall : L.take i = L := List.take_of_length_le (by rw [HK.out]; exact Nat.le_refl _)
      have hxl : xs.length = j := by
        have h := hI.ow.1
        simp [ints] at h
        exact h
      rw [hall] at hxs hm' hs'
      have huse : useL room L n = xs.take room := by rw [hxs.out]; rfl
      have hav : ∀ x, av = some x → w.heap.size ≤ x.block := by
        rintro x rfl
        have := (hI.ow.lt x.block (by simp [Value.ownBlock])).1
        have := hI.le
        omega
      have q0 := hI.k4.cell (i := 0) rfl
      have q1 := hI.k4.cell (i := 1) rfl
      have q2 := hI.k4.cell (i := 2) rfl
      have q3 := hI.k4.cell (i := 3) rfl
      have p0 := hI.k4.free 0
      have p1 := hI.k4.free 1
      have p2 := hI.k4.free 2
      have p3 := hI.k4.free 3
      have hne : g4 ≠ g5 := hI.le.2.2.2.2.2
      have HI := Lib.hid hI
      have HU := Lib.hid huse
      have HXL := Lib.hid hxl
      have HAV := Lib.hid hav
      clear hall hxl huse hav hxs hI
      by_cases hcut : room < j
      · obtain ⟨hr1, _⟩ := Sl.cut_to Eint (Sl.of_own HI.out.ow) room (by omega)
        have k5' := HI.out.k5.set 1 (.slice av room capv) (by simp)
        have t5 : Turned (fun q => q = g5) wr (wr.setCell ⟨g5, 1, none⟩ (.slice av room capv)) := (Turned.refl (fun q => q = g5) wr).setCell (.inl rfl) _
        have k4' := HI.out.k4.turned t5 hne
        have H4 := Lib.hid k4'
        have H5 := Lib.hid t5
        clear k5' t5 k4'
        go_wp2_with fail
        refine bodyPost_ret (v := .agg #[.int .i64 room, .slice av room capv, .int .i64 (m' : Nat), .int .i64 (s' : Nat)]) (res_blk rfl rfl (blk_set4 H4.out (.int .i64 room) (.slice av room capv) (.int .i64 (m' : Nat)) (.int .i64 (s' : Nat))) Try.underlying44 rfl (by kernel_rfl)) rfl ?_
        have ht := (H5.out.mono (S' := fun q => q = g5 ∨ q = g4) (fun _ _ h => .inl h)).trans (turned_set4 (wr.setCell ⟨g5, 1, none⟩ (.slice av room capv)) g4 (.int .i64 room) (.slice av room capv) (.int .i64 (m' : Nat)) (.int .i64 (s' : Nat))) (fun _ _ h => .inr h)
        have ho := ht.own HI.out.ow (fun q hq e => by
          rcases e with e | e
          · exact own_ne HI.out.k5 HI.out.ow (by decide) q hq e
          · exact own_ne HI.out.k4 HI.out.ow (by decide) q hq e)
        have hsl := (Sl.cut_to Eint (Sl.of_own ho) room (by omega)).2
        have hl : (useL room L n).length = room := by rw [HU.out, List.length_take, HXL.out]; omega
        refine ⟨av, room, capv, by rw [hm'.out, hs'.out, HMe.out, HSe.out], hl.symm, ?_, HAV.out, ht.old HI.out.bel HI.out.bel.size (fun q hq e => by have := HI.out.le; omega)⟩
        rw [HU.out]
        have e : (ints xs).take room = ints (xs.take room) := by simp [ints, List.map_take]
        rw [← e]
        exact hsl
      · have hcut' : ¬ ((room : Int) < (j : Int)) := by omega
        go_wp2_with fail
        refine bodyPost_ret (v := .agg #[.int .i64 room, .slice av j capv, .int .i64 (m' : Nat), .int .i64 (s' : Nat)]) (res_blk rfl rfl (blk_set4 HI.out.k4 (.int .i64 room) (.slice av j capv) (.int .i64 (m' : Nat)) (.int .i64 (s' : Nat))) Try.underlying44 rfl (by kernel_rfl)) rfl ?_
        have ht := turned_set4 wr g4 (.int .i64 room) (.slice av j capv) (.int .i64 (m' : Nat)) (.int .i64 (s' : Nat))
        have ho := ht.own HI.out.ow (own_ne HI.out.k4 HI.out.ow (by decide))
        have hu2 : useL room L n = xs := by rw [HU.out]; exact List.take_of_length_le (by rw [HXL.out]; omega)
        refine ⟨av, j, capv, by rw [hm'.out, hs'.out, HMe.out, HSe.out], by rw [hu2, HXL.out], by rw [hu2]; exact Sl.of_own ho, HAV.out, ht.old HI.out.bel HI.out.bel.size (fun q hq e => by have := HI.out.le; omega)⟩
end Go.Proofs.Ytiflbbpliioblaa
