/-
  TerrainRough: heights that are all raised are no rougher.
-/
import Derived.Test.YtlkjcamjgaecgaaGreatLaw11a
import Derived.Test.YtlkjcamjgaecgaaGreatRef11F
set_option linter.unusedVariables false
set_option linter.unusedSimpArgs false
namespace Go.Proofs.YtlkjcamjgaecgaaGreat
open Go Go.RowKit Go.Th Go.Th.Crc

/-- A height that has room to be raised. -/
def nrm (v : Int) : Int := if v = -32768 ∨ 32000 < v ∨ v < -32000 then 0 else v
theorem nrm_rng (v : Int) : -32000 ≤ nrm v ∧ nrm v ≤ 32000 := by unfold nrm; split <;> omega
def lowF (F : List Int) : List Int := F.map nrm
def highF (F : List Int) (u : Int) : List Int := F.map fun v => nrm v + u
theorem getD_map0 (F : List Int) (f : Int → Int) (i : Nat) (h : i < F.length) : (F.map f).getD i 0 = f (F.getD i 0) := by
  rw [List.getD, List.getD, List.getElem?_map, List.getElem?_eq_getElem h]; rfl
theorem idx_lt {W H : Nat} {c r : Int} (h : inF W H c r) : r.toNat * W + c.toNat < W * H := by
  obtain ⟨h1, h2, h3, h4⟩ := h
  have a : r.toNat + 1 ≤ H := by omega
  have b := Nat.mul_le_mul_right W a
  rw [Nat.add_mul, Nat.one_mul, Nat.mul_comm H W] at b
  omega
theorem tC_low {F : List Int} {W H : Nat} (hl : F.length = W * H) (c r : Int) : tC (lowF F) W H c r = if inF W H c r then 0 else 9 := by
  unfold tC
  by_cases h : inF W H c r
  · rw [if_pos h, if_pos h, lowF, getD_map0 F nrm _ (by rw [hl]; exact idx_lt h)]
    have := nrm_rng (F.getD (r.toNat * W + c.toNat) 0)
    unfold ccT
    rw [if_neg (by omega)]
  · rw [if_neg h, if_neg h]
theorem tC_high {F : List Int} {W H : Nat} (hl : F.length = W * H) {u : Int} (hu : -128 ≤ u ∧ u ≤ 127) (c r : Int) : tC (highF F u) W H c r = if inF W H c r then 0 else 9 := by
  unfold tC
  by_cases h : inF W H c r
  · rw [if_pos h, if_pos h, highF, getD_map0 F _ _ (by rw [hl]; exact idx_lt h)]
    have := nrm_rng (F.getD (r.toNat * W + c.toNat) 0)
    unfold ccT
    rw [if_neg (by omega)]
  · rw [if_neg h, if_neg h]
theorem tZ_high {F : List Int} {W H : Nat} (hl : F.length = W * H) {u : Int} (hu : -128 ≤ u ∧ u ≤ 127) {c r : Int} (h : inF W H c r) : tZ (highF F u) W H c r = tZ (lowF F) W H c r + u := by
  unfold tZ
  rw [if_pos h, if_pos h, highF, lowF, getD_map0 F _ _ (by rw [hl]; exact idx_lt h), getD_map0 F nrm _ (by rw [hl]; exact idx_lt h)]
  have := nrm_rng (F.getD (r.toNat * W + c.toNat) 0)
  unfold czT
  rw [if_neg (by omega), if_neg (by omega)]
theorem wN_high {F : List Int} {W H : Nat} (hl : F.length = W * H) {u : Int} (hu : -128 ≤ u ∧ u ≤ 127) (c r : Int) : wN (highF F u) W H c r = wN (lowF F) W H c r := by
  rw [wN_eq, wN_eq, tC_low hl, tC_high hl hu]
theorem wS_high {F : List Int} {W H : Nat} (hl : F.length = W * H) {u : Int} (hu : -128 ≤ u ∧ u ≤ 127) (c r : Int) : wS (highF F u) W H c r = wS (lowF F) W H c r + u * wN (lowF F) W H c r := by
  rw [wS_eq, wS_eq, wN_eq, tC_low hl, tC_high hl hu]
  by_cases h : inF W H c r
  · rw [if_pos h, if_pos rfl, if_pos rfl, if_pos rfl, tZ_high hl hu h]; omega
  · rw [if_neg h, if_neg (by decide), if_neg (by decide), if_neg (by decide)]; omega
theorem wQ_high {F : List Int} {W H : Nat} (hl : F.length = W * H) {u : Int} (hu : -128 ≤ u ∧ u ≤ 127) (c r : Int) : wQ (highF F u) W H c r = (wQ (lowF F) W H c r + 2 * u * wS (lowF F) W H c r) + u * u * wN (lowF F) W H c r := by
  rw [wQ_eq, wQ_eq, wS_eq, wN_eq, tC_low hl, tC_high hl hu]
  by_cases h : inF W H c r
  · rw [if_pos h, if_pos rfl, if_pos rfl, if_pos rfl, if_pos rfl, tZ_high hl hu h, Int.add_mul, Int.mul_add, Int.mul_add, Int.mul_comm (tZ (lowF F) W H c r) u, Int.mul_assoc 2 u]
    omega
  · rw [if_neg h, if_neg (by decide), if_neg (by decide), if_neg (by decide), if_neg (by decide)]; omega
theorem rgh_high {F : List Int} {W H : Nat} (hl : F.length = W * H) {u : Int} (hu : -128 ≤ u ∧ u ≤ 127) (x y far : Int) : rgh (highF F u) W H x y far = rgh (lowF F) W H x y far := by
  unfold rgh
  split
  · have e1 := rect_congr (wN_high hl hu) (x - farT far) (y - farT far) (2 * farT far + 1) (2 * farT far + 1)
    have e2 := rect_congr (wS_high hl hu) (x - farT far) (y - farT far) (2 * farT far + 1) (2 * farT far + 1)
    have e3 := rect_congr (wQ_high hl hu) (x - farT far) (y - farT far) (2 * farT far + 1) (2 * farT far + 1)
    rw [rect_lin (wS (lowF F) W H) (wN (lowF F) W H) u] at e2
    rw [rect_lin (fun c r => wQ (lowF F) W H c r + 2 * u * wS (lowF F) W H c r) (wN (lowF F) W H) (u * u), rect_lin (wQ (lowF F) W H) (wS (lowF F) W H) (2 * u)] at e3
    rw [e1, e2, e3]
    unfold rough
    rw [rough_shift]
  · rfl

/-! ### Rows whose first cells are others -/
def mxr (A B : List Int) (i : Nat) : List Int := A.take i ++ B.drop i
theorem mxr_0 (A B : List Int) : mxr A B 0 = B := by simp [mxr]
theorem mxr_all {A B : List Int} (h : A.length = B.length) : mxr A B B.length = A := by simp [mxr, ← h]
theorem mxr_length {A B : List Int} (h : A.length = B.length) (i : Nat) : (mxr A B i).length = B.length := by simp [mxr]; omega
theorem mxr_at {A B : List Int} (h : A.length = B.length) {i : Nat} (hi : i < B.length) : (mxr A B i)[i]? = some B[i] := by
  unfold mxr
  rw [List.getElem?_append_right (by rw [List.length_take]; omega), List.length_take, List.getElem?_drop, show i + (i - min i A.length) = i by omega, List.getElem?_eq_getElem hi]
theorem mxr_set {A B : List Int} (h : A.length = B.length) {i : Nat} (hi : i < B.length) (z : Int) (hz : A[i]? = some z) : (mxr A B i).set i z = mxr A B (i + 1) := by
  apply List.ext_getElem?
  intro j
  unfold mxr
  have hiA : i < A.length := by omega
  rw [List.getElem?_set]
  by_cases hj : i = j
  · subst hj
    rw [if_pos rfl, if_pos (by simp; omega), List.getElem?_append_left (by rw [List.length_take]; omega), List.getElem?_take_of_lt (by omega), hz]
  · rw [if_neg hj]
    by_cases hlt : j < i
    · rw [List.getElem?_append_left (by rw [List.length_take]; omega), List.getElem?_append_left (by rw [List.length_take]; omega), List.getElem?_take_of_lt hlt, List.getElem?_take_of_lt (by omega)]
    · rw [List.getElem?_append_right (by rw [List.length_take]; omega), List.getElem?_append_right (by rw [List.length_take]; omega), List.length_take, List.length_take, List.getElem?_drop, List.getElem?_drop]
      congr 1
      omega
theorem set_same {l : List Int} {i : Nat} {z : Int} (h : l[i]? = some z) : l.set i z = l := by
  apply List.ext_getElem?
  intro j
  rw [List.getElem?_set]
  by_cases hj : i = j
  · subst hj
    obtain ⟨hl, _⟩ := List.getElem?_eq_some_iff.1 h
    rw [if_pos rfl, if_pos hl, h]
  · rw [if_neg hj]
theorem mxr_same {A B : List Int} (h : A.length = B.length) {i : Nat} (hi : i < B.length) (hz : A[i]? = some B[i]) : mxr A B (i + 1) = mxr A B i := by
  rw [← mxr_set h hi B[i] hz]
  exact set_same (mxr_at h hi)
theorem mxr_past {A B : List Int} (h : A.length = B.length) {i : Nat} (hi : i < B.length) (z : Int) (hz : A[i]? = some z) : (mxr A B (i + 1))[i]? = some z := by
  rw [← mxr_set h hi z hz, List.getElem?_set, if_pos rfl, if_pos (by rw [mxr_length h]; exact hi)]
theorem i16s_set (xs : List Int) (i : Nat) (z : Int) : (i16s xs).set i (.int .i16 z) = i16s (xs.set i z) := by simp [i16s, List.map_set]
theorem low_at {F : List Int} {i : Nat} (hi : i < F.length) : (lowF F)[i]? = some (nrm F[i]) := by simp [lowF, hi]
theorem high_at {F : List Int} {u : Int} {i : Nat} (hi : i < F.length) : (highF F u)[i]? = some (nrm F[i] + u) := by simp [highF, hi]

/-- What the law keeps while it lays the heights: two maps and their rows. -/
structure LayI (w wx : World) (gC gD gz gd : Nat) (A C : List Int) (W H m cz cd : Nat) : Prop where
  KC : Blk wx gC 28 [.int .i64 W, .int .i64 H, .slice (some ⟨gz, 0, none⟩) m cz, .int .i64 31, .int .i32 0, .int .i32 0]
  KD : Blk wx gD 28 [.int .i64 W, .int .i64 H, .slice (some ⟨gd, 0, none⟩) m cd, .int .i64 31, .int .i32 0, .int .i32 0]
  hc : wx.ownsRow w.heap.size 51 1 (.slice (some ⟨gz, 0, none⟩) m cz) m (i16s A)
  hd : wx.ownsRow w.heap.size 51 1 (.slice (some ⟨gd, 0, none⟩) m cd) m (i16s C)
  B : Below w.heap.size w wx
  ne : gz ≠ gd
section
variable {w wx w' : World} {gC gD gz gd : Nat} {A C : List Int} {W H m cz cd : Nat}
theorem LayI.below (h : LayI w wx gC gD gz gd A C W H m cz cd) (hb : Below wx.heap.size wx w') : LayI w w' gC gD gz gd A C W H m cz cd :=
  ⟨h.KC.below hb h.KC.lt, h.KD.below hb h.KD.lt, ownsRow_below h.hc hb, ownsRow_below h.hd hb, h.B.trans (hb.mono h.B.size), h.ne⟩
theorem LayI.setC (h : LayI w wx gC gD gz gd A C W H m cz cd) {i : Nat} (hi : i < m) (z : Int) : LayI w (wx.setCell ⟨gz, i, none⟩ (.int .i16 z)) gC gD gz gd (A.set i z) C W H m cz cd := by
  have ht : Turned (fun k => k = gz) wx (wx.setCell ⟨gz, i, none⟩ (.int .i16 z)) := (Turned.refl (fun k => k = gz) wx).setCell (.inl rfl) _
  have n1 := own_ne h.KC h.hc (by decide) gz rfl
  have n2 := own_ne h.KD h.hc (by decide) gz rfl
  have hlt := h.hc.lt gz rfl
  have hs := ownsRow_set h.hc i hi (.int .i16 z)
  rw [i16s_set] at hs
  exact ⟨h.KC.turned ht (fun e => n1 e.symm), h.KD.turned ht (fun e => n2 e.symm), hs, ht.own h.hd (by rintro k hk rfl; simp [Value.ownBlock] at hk; exact h.ne hk.symm), ht.old h.B h.B.size (by rintro k hk rfl; omega), h.ne⟩
theorem LayI.setD (h : LayI w wx gC gD gz gd A C W H m cz cd) {i : Nat} (hi : i < m) (z : Int) : LayI w (wx.setCell ⟨gd, i, none⟩ (.int .i16 z)) gC gD gz gd A (C.set i z) W H m cz cd := by
  have ht : Turned (fun k => k = gd) wx (wx.setCell ⟨gd, i, none⟩ (.int .i16 z)) := (Turned.refl (fun k => k = gd) wx).setCell (.inl rfl) _
  have n1 := own_ne h.KC h.hd (by decide) gd rfl
  have n2 := own_ne h.KD h.hd (by decide) gd rfl
  have hlt := h.hd.lt gd rfl
  have hs := ownsRow_set h.hd i hi (.int .i16 z)
  rw [i16s_set] at hs
  exact ⟨h.KC.turned ht (fun e => n1 e.symm), h.KD.turned ht (fun e => n2 e.symm), ht.own h.hc (by rintro k hk rfl; simp [Value.ownBlock] at hk; exact h.ne hk), hs, ht.old h.B h.B.size (by rintro k hk rfl; omega), h.ne⟩
end
end Go.Proofs.YtlkjcamjgaecgaaGreat
