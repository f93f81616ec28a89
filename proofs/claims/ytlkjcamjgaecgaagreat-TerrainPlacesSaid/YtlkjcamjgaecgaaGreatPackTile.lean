/-
  Texts in one: TileSpec, TileA, TileB, TileR, TileG, TileC, TileD, TileX, TileE, TileF, TileV, TileH, TileI.
-/
import Derived.Test.YtlkjcamjgaecgaaGreatPackRice
import Derived.Test.YtlkjcamjgaecgaaGreatPackBits
import Derived.Test.YtlkjcamjgaecgaaGreatRows
import Derived.OwnWalk
import Derived.Laws.OwnMore
import Derived.Deep.QuietTactic
import Derived.BigQuiet
import Derived.IntWalk
set_option linter.unusedVariables false
set_option linter.unusedSimpArgs false

/-
  Heights told by those beside them; tiles cut out of a field, and laid into one: plain.
-/
namespace Go.Th

/-! ### Heights, each by the one beside it -/
def In16 (x : Int) : Prop := -32768 ≤ x ∧ x ≤ 32767
theorem in16_def {x : Int} (h : In16 x) : -32768 ≤ x ∧ x ≤ 32767 := h
/-- The height by which the one in place i is told. -/
def bes (w : Nat) (z : List Int) (i : Nat) : Int := if i = 0 then 0 else if i % w = 0 then z.getD (i - w) 0 else z.getD (i - 1) 0
def delta (w : Nat) (z : List Int) (i : Nat) : Int := z.getD i 0 - bes w z i
def deltas (w : Nat) (z : List Int) : List Int := (List.range z.length).map (delta w z)
theorem deltas_length (w : Nat) (z : List Int) : (deltas w z).length = z.length := by simp [deltas]
theorem deltas_at (w : Nat) (z : List Int) (i : Nat) (h : i < z.length) : (deltas w z)[i]? = some (delta w z i) := by simp [deltas, h]
theorem deltas_take (w : Nat) (z : List Int) (i : Nat) (h : i < z.length) : (deltas w z).take (i + 1) = (deltas w z).take i ++ [delta w z i] := by
  rw [List.take_add_one, deltas_at w z i h]; rfl
theorem getD_in16 {z : List Int} (h : ∀ x ∈ z, In16 x) (i : Nat) : In16 (z.getD i 0) := by
  rw [List.getD]
  by_cases hi : i < z.length
  · rw [List.getElem?_eq_getElem hi]; exact h _ (List.getElem_mem hi)
  · rw [List.getElem?_eq_none (by omega)]; exact ⟨by decide, by decide⟩
theorem bes_in16 {z : List Int} (h : ∀ x ∈ z, In16 x) (w i : Nat) : In16 (bes w z i) := by
  unfold bes
  split
  · exact ⟨by decide, by decide⟩
  · split
    · exact getD_in16 h _
    · exact getD_in16 h _
theorem delta_room {z : List Int} (h : ∀ x ∈ z, In16 x) (w i : Nat) : Rm (delta w z i) := by
  have h1 := in16_def (getD_in16 h i)
  have h2 := in16_def (bes_in16 h w i)
  unfold delta Rm
  omega
theorem deltas_room {z : List Int} (h : ∀ x ∈ z, In16 x) (w : Nat) : ∀ x ∈ deltas w z, Rm x := by
  intro x hx
  obtain ⟨i, _, rfl⟩ := List.mem_map.1 hx
  exact delta_room h w i
theorem bes_same (w : Nat) (hw : 0 < w) (l m : List Int) (i : Nat) (h : ∀ j, j < i → l.getD j 0 = m.getD j 0) : bes w l i = bes w m i := by
  unfold bes
  split
  · rfl
  · split
    · exact h _ (by omega)
    · exact h _ (by omega)
theorem getD_take (l : List Int) (i j : Nat) (h : j < i) : (l.take i).getD j 0 = l.getD j 0 := by
  simp only [List.getD, List.getElem?_take, if_pos h]
theorem getD_app (l m : List Int) (j : Nat) (h : j < l.length) : (l ++ m).getD j 0 = l.getD j 0 := by
  simp only [List.getD, List.getElem?_append_left h]
theorem getD_app_at (l m : List Int) (x : Int) : (l ++ x :: m).getD l.length 0 = x := by
  simp [List.getD]

/-- The heights of which so many numbers tell by how much each is above the one beside it. -/
def raise (w : Nat) (d : List Int) : Nat → List Int
  | 0 => []
  | i + 1 => raise w d i ++ [bes w (raise w d i) i + d.getD i 0]
theorem raise_length (w : Nat) (d : List Int) (i : Nat) : (raise w d i).length = i := by
  induction i with
  | zero => rfl
  | succ i ih => simp [raise, ih]
theorem raise_deltas (w : Nat) (hw : 0 < w) (z : List Int) (i : Nat) (h : i ≤ z.length) : raise w (deltas w z) i = z.take i := by
  induction i with
  | zero => rfl
  | succ i ih =>
    have hi : i < z.length := by omega
    have e : (deltas w z).getD i 0 = delta w z i := by rw [List.getD, deltas_at w z i hi]; rfl
    rw [raise, ih (by omega), take_snoc z i hi, e, bes_same w hw (z.take i) z i (fun j hj => getD_take z i j hj)]
    congr 1
    have : z.getD i 0 = z[i] := by rw [List.getD, List.getElem?_eq_getElem hi]; rfl
    unfold delta
    rw [this]
    congr 1
    omega
theorem raise_prefix (w : Nat) (d : List Int) (i j n : Nat) (hj : j < i) (hi : i ≤ n) : (raise w d n).getD j 0 = (raise w d i).getD j 0 := by
  induction n with
  | zero => omega
  | succ n ih =>
    by_cases e : i = n + 1
    · rw [e]
    · rw [raise, getD_app _ _ _ (by rw [raise_length]; omega)]
      exact ih (by omega)
theorem deltas_raise (w : Nat) (hw : 0 < w) (d : List Int) (n : Nat) (hn : d.length = n) : deltas w (raise w d n) = d := by
  subst hn
  apply List.ext_getElem?
  intro j
  by_cases hj : j < d.length
  · rw [deltas_at _ _ _ (by rw [raise_length]; exact hj), List.getElem?_eq_getElem hj]
    unfold delta
    have e1 : (raise w d d.length).getD j 0 = bes w (raise w d j) j + d.getD j 0 := by
      rw [raise_prefix w d (j + 1) j d.length (by omega) (by omega), raise]
      have := getD_app_at (raise w d j) [] (bes w (raise w d j) j + d.getD j 0)
      rwa [raise_length] at this
    have e2 : bes w (raise w d d.length) j = bes w (raise w d j) j := bes_same w hw _ _ j (fun k hk => raise_prefix w d j k d.length hk (by omega))
    have e3 : d.getD j 0 = d[j] := by rw [List.getD, List.getElem?_eq_getElem hj]; rfl
    rw [e1, e2, e3]
    congr 1
    omega
  · rw [List.getElem?_eq_none (by rw [deltas_length, raise_length]; omega), List.getElem?_eq_none (by omega)]

/-! ### Bytes that have just these bits -/
theorem byte_of_bits (a b : Nat) (ha : a < 256) (hb : b < 256) (h : ∀ k, k < 8 → (a / 2 ^ (7 - k) % 2 == 1) = (b / 2 ^ (7 - k) % 2 == 1)) : a = b := by
  have h' : ∀ k, k < 8 → a / 2 ^ (7 - k) % 2 = b / 2 ^ (7 - k) % 2 := by
    intro k hk
    have := h k hk
    rw [Bool.eq_iff_iff, beq_iff_eq, beq_iff_eq] at this
    have h1 := Nat.mod_lt (a / 2 ^ (7 - k)) (y := 2) (by decide)
    have h2 := Nat.mod_lt (b / 2 ^ (7 - k)) (y := 2) (by decide)
    omega
  have e0 := h' 0 (by decide); have e1 := h' 1 (by decide); have e2 := h' 2 (by decide); have e3 := h' 3 (by decide)
  have e4 := h' 4 (by decide); have e5 := h' 5 (by decide); have e6 := h' 6 (by decide); have e7 := h' 7 (by decide)
  simp only [show 2 ^ (7 - 0) = 128 by decide, show 2 ^ (7 - 1) = 64 by decide, show 2 ^ (7 - 2) = 32 by decide, show 2 ^ (7 - 3) = 16 by decide, show 2 ^ (7 - 4) = 8 by decide, show 2 ^ (7 - 5) = 4 by decide, show 2 ^ (7 - 6) = 2 by decide, show 2 ^ (7 - 7) = 1 by decide] at e0 e1 e2 e3 e4 e5 e6 e7
  omega
theorem bytes_of_bits (a b : List Nat) (hl : a.length = b.length) (ha : ∀ x ∈ a, x < 256) (hb : ∀ x ∈ b, x < 256) (h : ∀ j, j < 8 * a.length → bitAt a j = bitAt b j) : a = b := by
  apply List.ext_getElem hl
  intro i h1 h2
  refine byte_of_bits _ _ (ha _ (List.getElem_mem h1)) (hb _ (List.getElem_mem h2)) fun k hk => ?_
  have := h (8 * i + k) (by omega)
  unfold bitAt at this
  rw [show (8 * i + k) / 8 = i by omega, show (8 * i + k) % 8 = k by omega, List.getD, List.getD, List.getElem?_eq_getElem h1, List.getElem?_eq_getElem h2] at this
  exact this
theorem valAt_nought (bs : List Nat) (at_ k : Nat) (hk : k ≤ 64) (h : valAt bs at_ k = 0) : ∀ j, j < k → bitAt bs (at_ + j) = false := by
  have e := bits_valAt bs at_ k hk
  rw [h] at e
  intro j hj
  have h1 := seg_get bs at_ k j hj
  rw [← e] at h1
  simp [numBits, hj] at h1
  exact h1
theorem valAt_of_noughts (bs : List Nat) (at_ k : Nat) (hk : k ≤ 64) (h : ∀ j, j < k → bitAt bs (at_ + j) = false) : valAt bs at_ k = 0 := by
  have e := bits_valAt bs at_ k hk
  refine numBits_only (valAt_small bs at_ k hk) (Nat.pow_pos (by decide)) ?_
  rw [e]
  apply List.ext_getElem?
  intro j
  by_cases hj : j < k
  · rw [seg_get _ _ _ _ hj, h j hj]; simp [numBits, hj]
  · rw [List.getElem?_eq_none (by rw [seg_length]; omega), List.getElem?_eq_none (by rw [numBits_length]; omega)]

/-! ### Fields -/
/-- The first column of a tile, and how many it has, of w columns. -/
def side (w : Nat) (t : Nat) : Nat := min (16 * t + 16) w - 16 * t
def cnt (n : Nat) : Nat := (n + 15) / 16
theorem side_le (w t : Nat) : side w t ≤ 16 := by unfold side; omega
theorem side_pos (w t : Nat) : 0 < side w t ↔ t < cnt w := by unfold side cnt; omega
theorem side_fits (w t : Nat) (h : t < cnt w) : 16 * t + side w t ≤ w := by unfold side cnt at *; omega
theorem side_min (w t : Nat) (h : t < cnt w) : side w t = min 16 (w - 16 * t) := by unfold side cnt at *; omega
theorem side_none (w t : Nat) (h : ¬ t < cnt w) : side w t = 0 := by unfold side cnt at *; omega
theorem cnt_le (w : Nat) : 16 * cnt w ≤ w + 15 := by unfold cnt; omega
theorem cnt_ge (w : Nat) : w ≤ 16 * cnt w := by unfold cnt; omega

/-- So many rows of a tile. -/
def tileTo (F : List Int) (W x y w : Nat) : Nat → List Int
  | 0 => []
  | r + 1 => tileTo F W x y w r ++ (F.drop ((y + r) * W + x)).take w
theorem row_len (F : List Int) (W H x y w r : Nat) (hF : F.length = W * H) (hx : x + w ≤ W) (hy : y + r < H) : ((F.drop ((y + r) * W + x)).take w).length = w := by
  rw [List.length_take, List.length_drop, hF]
  have : (y + r + 1) * W ≤ H * W := Nat.mul_le_mul_right _ hy
  rw [Nat.add_mul, Nat.one_mul] at this
  rw [Nat.mul_comm H W] at this
  omega
theorem tileTo_length (F : List Int) (W H x y w r : Nat) (hF : F.length = W * H) (hx : x + w ≤ W) (hy : y + r ≤ H) : (tileTo F W x y w r).length = r * w := by
  induction r with
  | zero => simp [tileTo]
  | succ r ih =>
    rw [tileTo, List.length_append, ih (by omega), row_len F W H x y w r hF hx (by omega), Nat.add_mul, Nat.one_mul]
theorem tileTo_row (F : List Int) (W H x y w h r : Nat) (hF : F.length = W * H) (hx : x + w ≤ W) (hy : y + h ≤ H) (hr : r < h) : ((tileTo F W x y w h).drop (r * w)).take w = (F.drop ((y + r) * W + x)).take w := by
  induction h with
  | zero => omega
  | succ h ih =>
    have hl := tileTo_length F W H x y w h hF hx (by omega)
    rw [tileTo]
    by_cases e : r = h
    · subst e
      rw [List.drop_append, hl, Nat.sub_self, List.drop_eq_nil_of_le (by rw [hl]; exact Nat.le_refl _), List.nil_append, List.drop_zero, List.take_take, Nat.min_self]
    · have hle : (r + 1) * w ≤ h * w := Nat.mul_le_mul_right _ (by omega)
      rw [Nat.add_mul, Nat.one_mul] at hle
      rw [List.drop_append_of_le_length (by rw [hl]; omega), List.take_append_of_le_length (by rw [List.length_drop, hl]; omega)]
      exact ih (by omega) (by omega)
theorem mem_tileTo {F : List Int} {W x y w r : Nat} {z : Int} (h : z ∈ tileTo F W x y w r) : z ∈ F := by
  induction r with
  | zero => simp [tileTo] at h
  | succ r ih =>
    rw [tileTo] at h
    rcases List.mem_append.1 h with h | h
    · exact ih h
    · exact List.mem_of_mem_drop (List.mem_of_mem_take h)

theorem over_get {α : Type} (L : List α) (off : Nat) (cs : List α) (h : off + cs.length ≤ L.length) (j : Nat) : (over L off cs)[j]? = if off ≤ j ∧ j < off + cs.length then cs[j - off]? else L[j]? := by
  unfold over splice
  by_cases h1 : j < off
  · rw [if_neg (by omega), List.getElem?_append_left (by rw [List.length_take]; omega), List.getElem?_take, if_pos h1]
  · rw [List.getElem?_append_right (by rw [List.length_take]; omega), List.length_take, Nat.min_eq_left (by omega)]
    by_cases h2 : j < off + cs.length
    · rw [if_pos ⟨by omega, h2⟩, List.getElem?_append_left (by omega)]
    · rw [if_neg (by omega), List.getElem?_append_right (by omega), List.getElem?_drop]
      congr 1; omega
/-- Behind so many rows of a tile that is laid. -/
def layTo (G : List Int) (W x y w : Nat) (z : List Int) : Nat → List Int
  | 0 => G
  | r + 1 => over (layTo G W x y w z r) ((y + r) * W + x) ((z.drop (r * w)).take w)
theorem zrow_len (z : List Int) (w h r : Nat) (hz : z.length = w * h) (hr : r < h) : ((z.drop (r * w)).take w).length = w := by
  rw [List.length_take, List.length_drop, hz]
  have : (r + 1) * w ≤ h * w := Nat.mul_le_mul_right _ hr
  rw [Nat.add_mul, Nat.one_mul, Nat.mul_comm h w] at this
  omega
theorem place_fits (W H x y w r : Nat) (hx : x + w ≤ W) (hy : y + r < H) : (y + r) * W + x + w ≤ W * H := by
  have : (y + r + 1) * W ≤ H * W := Nat.mul_le_mul_right _ hy
  rw [Nat.add_mul, Nat.one_mul, Nat.mul_comm H W] at this
  omega
theorem layTo_length (G : List Int) (W H x y w h : Nat) (z : List Int) (hG : G.length = W * H) (hz : z.length = w * h) (hx : x + w ≤ W) (hy : y + h ≤ H) (r : Nat) (hr : r ≤ h) : (layTo G W x y w z r).length = W * H := by
  induction r with
  | zero => exact hG
  | succ r ih =>
    have e := zrow_len z w h r hz (by omega)
    have p := place_fits W H x y w r hx (by omega)
    rw [layTo, over_length _ _ _ (by rw [ih (by omega), e]; exact p), ih (by omega)]

/-- The heights of these places, and 0 elsewhere. -/
def mix (F : List Int) (q : Nat → Bool) : List Int := (List.range F.length).map fun j => if q j then F.getD j 0 else 0
theorem mix_length (F : List Int) (q : Nat → Bool) : (mix F q).length = F.length := by simp [mix]
theorem mix_get (F : List Int) (q : Nat → Bool) (j : Nat) (h : j < F.length) : (mix F q)[j]? = some (if q j then F.getD j 0 else 0) := by simp [mix, h]
theorem mix_congr (F : List Int) (q q' : Nat → Bool) (h : ∀ j, j < F.length → q j = q' j) : mix F q = mix F q' := by
  unfold mix
  refine List.map_congr_left fun j hj => ?_
  rw [h j (List.mem_range.1 hj)]
theorem mix_all (F : List Int) (q : Nat → Bool) (h : ∀ j, j < F.length → q j = true) : mix F q = F := by
  apply List.ext_getElem?
  intro j
  by_cases hj : j < F.length
  · rw [mix_get F q j hj, h j hj, if_pos rfl, List.getElem?_eq_getElem hj, List.getD, List.getElem?_eq_getElem hj]; rfl
  · rw [List.getElem?_eq_none (by rw [mix_length]; omega), List.getElem?_eq_none (by omega)]
theorem mix_none (F : List Int) (q : Nat → Bool) (h : ∀ j, j < F.length → q j = false) : mix F q = List.replicate F.length 0 := by
  apply List.ext_getElem?
  intro j
  by_cases hj : j < F.length
  · rw [mix_get F q j hj, h j hj]; simp [hj]
  · rw [List.getElem?_eq_none (by rw [mix_length]; omega), List.getElem?_eq_none (by simp; omega)]
theorem over_mix (F : List Int) (q : Nat → Bool) (off w : Nat) (h : off + w ≤ F.length) : over (mix F q) off ((F.drop off).take w) = mix F (fun j => q j || decide (off ≤ j ∧ j < off + w)) := by
  have hl : ((F.drop off).take w).length = w := by rw [List.length_take, List.length_drop]; omega
  apply List.ext_getElem?
  intro j
  rw [over_get _ _ _ (by rw [hl, mix_length]; exact h), hl]
  by_cases hj : j < F.length
  · rw [mix_get F (fun j => q j || decide (off ≤ j ∧ j < off + w)) j hj]
    by_cases c : off ≤ j ∧ j < off + w
    · have e : (q j || decide (off ≤ j ∧ j < off + w)) = true := by simp [c]
      have e2 : F.getD j 0 = F[j] := by rw [List.getD, List.getElem?_eq_getElem hj]; rfl
      rw [if_pos c, List.getElem?_take, if_pos (by omega), List.getElem?_drop, show off + (j - off) = j by omega, List.getElem?_eq_getElem hj, if_pos e, e2]
    · have e : (q j || decide (off ≤ j ∧ j < off + w)) = q j := by simp [c]
      rw [if_neg c, mix_get F q j hj, e]
  · rw [List.getElem?_eq_none (l := mix F (fun j => q j || decide (off ≤ j ∧ j < off + w))) (by rw [mix_length]; omega), if_neg (by omega), List.getElem?_eq_none (by rw [mix_length]; omega)]
theorem place_iff (W x w k j : Nat) (hW : x + w ≤ W) (hw : 0 < w) : (k * W + x ≤ j ∧ j < k * W + x + w) ↔ (j / W = k ∧ x ≤ j % W ∧ j % W < x + w) := by
  have hp : 0 < W := by omega
  have hd := Nat.div_add_mod j W
  have hm := Nat.mod_lt j hp
  constructor
  · rintro ⟨h1, h2⟩
    have e : j / W = k := by
      refine Nat.div_eq_of_lt_le ?_ ?_
      · omega
      · rw [Nat.add_mul, Nat.one_mul]; omega
    rw [e, Nat.mul_comm W k] at hd
    exact ⟨e, by omega, by omega⟩
  · rintro ⟨e, h1, h2⟩
    rw [e, Nat.mul_comm W k] at hd
    exact ⟨by omega, by omega⟩
/-- A tile of a field, laid where it lay. -/
theorem layTo_mix (F : List Int) (W H x y w h : Nat) (q : Nat → Bool) (hF : F.length = W * H) (hx : x + w ≤ W) (hw : 0 < w) (hy : y + h ≤ H) (r : Nat) (hr : r ≤ h) :
    layTo (mix F q) W x y w (tileTo F W x y w h) r = mix F (fun j => q j || decide (x ≤ j % W ∧ j % W < x + w ∧ y ≤ j / W ∧ j / W < y + r)) := by
  induction r with
  | zero =>
    rw [layTo]
    refine mix_congr F _ _ fun j _ => ?_
    have : decide (x ≤ j % W ∧ j % W < x + w ∧ y ≤ j / W ∧ j / W < y + 0) = false := by rw [decide_eq_false_iff_not]; omega
    rw [this, Bool.or_false]
  | succ r ih =>
    rw [layTo, ih (by omega), tileTo_row F W H x y w h r hF hx hy (by omega), over_mix F _ _ w (by rw [hF]; exact place_fits W H x y w r hx (by omega))]
    refine mix_congr F _ _ fun j _ => ?_
    have e := place_iff W x w (y + r) j hx hw
    rw [Bool.or_assoc]
    congr 1
    rw [Bool.eq_iff_iff, Bool.or_eq_true, decide_eq_true_iff, decide_eq_true_iff, decide_eq_true_iff, e]
    generalize j / W = a
    generalize j % W = b
    omega

/-! ### The reference's way: all heights are gone through -/
/-- The heights of a row's first n columns that are asked for. -/
def pickRow (F : List Int) (p : Nat → Bool) (at_ n : Nat) : List Int := ((List.range n).filter p).map fun x => F.getD (at_ + x) 0
theorem pickRow_yes (F : List Int) (p : Nat → Bool) (at_ n : Nat) (h : p n = true) : pickRow F p at_ (n + 1) = pickRow F p at_ n ++ [F.getD (at_ + n) 0] := by
  simp [pickRow, List.range_succ, List.filter_append, h]
theorem pickRow_no (F : List Int) (p : Nat → Bool) (at_ n : Nat) (h : p n = false) : pickRow F p at_ (n + 1) = pickRow F p at_ n := by
  simp [pickRow, List.range_succ, List.filter_append, h]
theorem pickRow_le (F : List Int) (p : Nat → Bool) (at_ n : Nat) : (pickRow F p at_ n).length ≤ n := by
  unfold pickRow
  rw [List.length_map]
  exact Nat.le_trans (List.length_filter_le _ _) (by simp)
/-- So many rows; how many columns the last one had that had any; how many had any. -/
def pick (F : List Int) (p : Nat → Nat → Bool) (W : Nat) : Nat → List Int
  | 0 => []
  | y + 1 => pick F p W y ++ pickRow F (p y) (y * W) W
def pickW (F : List Int) (p : Nat → Nat → Bool) (W : Nat) : Nat → Nat
  | 0 => 0
  | y + 1 => if 0 < (pickRow F (p y) (y * W) W).length then (pickRow F (p y) (y * W) W).length else pickW F p W y
def pickH (F : List Int) (p : Nat → Nat → Bool) (W : Nat) : Nat → Nat
  | 0 => 0
  | y + 1 => if 0 < (pickRow F (p y) (y * W) W).length then pickH F p W y + 1 else pickH F p W y
theorem pick_le (F : List Int) (p : Nat → Nat → Bool) (W y : Nat) : (pick F p W y).length ≤ y * W := by
  induction y with
  | zero => simp [pick]
  | succ y ih =>
    have := pickRow_le F (p y) (y * W) W
    rw [pick, List.length_append, Nat.add_mul, Nat.one_mul]
    omega
theorem pickW_le (F : List Int) (p : Nat → Nat → Bool) (W y : Nat) : pickW F p W y ≤ W := by
  induction y with
  | zero => simp [pickW]
  | succ y ih =>
    have := pickRow_le F (p y) (y * W) W
    rw [pickW]
    split <;> omega
theorem pickH_le (F : List Int) (p : Nat → Nat → Bool) (W y : Nat) : pickH F p W y ≤ y := by
  induction y with
  | zero => simp [pickH]
  | succ y ih => rw [pickH]; split <;> omega
/-- Does a height lie in a tile? -/
def inT (X Y : Int) (y x : Nat) : Bool := decide (0 ≤ X ∧ 0 ≤ Y ∧ 16 * X ≤ x ∧ (x : Int) < 16 * X + 16 ∧ 16 * Y ≤ y ∧ (y : Int) < 16 * Y + 16)
theorem pick_off (F : List Int) (p : Nat → Nat → Bool) (W n : Nat) (h : ∀ y x, y < n → x < W → p y x = false) : pick F p W n = [] ∧ pickW F p W n = 0 ∧ pickH F p W n = 0 := by
  induction n with
  | zero => exact ⟨rfl, rfl, rfl⟩
  | succ n ih =>
    obtain ⟨h1, h2, h3⟩ := ih (fun y x hy hx => h y x (by omega) hx)
    have e : pickRow F (p n) (n * W) W = [] := by
      unfold pickRow
      rw [List.filter_eq_nil_iff.2 (fun x hx => by rw [h n x (by omega) (List.mem_range.1 hx)]; decide)]
      rfl
    rw [pick, pickW, pickH, e]
    exact ⟨by rw [h1]; rfl, by simp [h2], by simp [h3]⟩
theorem filter_side (X : Nat) (n : Nat) (p : Nat → Bool) (h : ∀ x, x < n → p x = decide (16 * X ≤ x ∧ x < 16 * X + 16)) : (List.range n).filter p = (List.range (side n X)).map (16 * X + ·) := by
  induction n with
  | zero => simp [side]
  | succ n ih =>
    rw [List.range_succ, List.filter_append, ih (fun x hx => h x (by omega))]
    by_cases c : 16 * X ≤ n ∧ n < 16 * X + 16
    · have e : side (n + 1) X = side n X + 1 := by unfold side; omega
      have e2 : 16 * X + side n X = n := by unfold side; omega
      have hp : p n = true := by rw [h n (by omega)]; simpa using c
      rw [e, List.range_succ, List.map_append, List.map_singleton, e2]
      simp [hp]
    · have e : side (n + 1) X = side n X := by unfold side; omega
      have hp : p n = false := by rw [h n (by omega)]; simpa using fun h1 => by omega
      rw [e]
      simp [hp]
theorem pickRow_in (F : List Int) (W H X Y y : Nat) (hF : F.length = W * H) (hy : y < H) (hy1 : 16 * Y ≤ y) (hy2 : y < 16 * Y + 16) : pickRow F (inT X Y y) (y * W) W = (F.drop (y * W + 16 * X)).take (side W X) := by
  unfold pickRow
  rw [filter_side X W (inT X Y y) (by
    intro x hx
    unfold inT
    rw [Bool.eq_iff_iff, decide_eq_true_iff, decide_eq_true_iff]
    omega), List.map_map]
  by_cases hc : X < cnt W
  · have hs := side_fits W X hc
    have hfit := place_fits W H (16 * X) 0 (side W X) y hs (by omega)
    rw [Nat.zero_add] at hfit
    apply List.ext_getElem?
    intro j
    by_cases hj : j < side W X
    · rw [List.getElem?_take, if_pos hj, List.getElem?_drop, List.getElem?_map, List.getElem?_range hj, List.getElem?_eq_getElem (by omega)]
      simp only [Option.map_some, Function.comp_def, Option.some.injEq]
      rw [← Nat.add_assoc, List.getD, List.getElem?_eq_getElem (by omega)]; rfl
    · rw [List.getElem?_eq_none (by simp; omega), List.getElem?_eq_none (by simp; omega)]
  · rw [side_none W X hc]; simp
theorem pickRow_out (F : List Int) (W X Y y : Nat) (h : ¬ (16 * Y ≤ y ∧ y < 16 * Y + 16)) : pickRow F (inT X Y y) (y * W) W = [] := by
  unfold pickRow
  rw [List.filter_eq_nil_iff.2 (fun x hx => by unfold inT; simp; omega)]
  rfl
theorem pick_tile (F : List Int) (W H X Y : Nat) (hF : F.length = W * H) (hX : X < cnt W) (n : Nat) (hn : n ≤ H) :
    pick F (inT X Y) W n = tileTo F W (16 * X) (16 * Y) (side W X) (side n Y) ∧ pickH F (inT X Y) W n = side n Y ∧ pickW F (inT X Y) W n = if 0 < side n Y then side W X else 0 := by
  have hs := (side_pos W X).2 hX
  induction n with
  | zero => simp [pick, pickW, pickH, side, tileTo]
  | succ n ih =>
    obtain ⟨h1, h2, h3⟩ := ih (by omega)
    rw [pick, pickW, pickH]
    by_cases c : 16 * Y ≤ n ∧ n < 16 * Y + 16
    · have e : side (n + 1) Y = side n Y + 1 := by unfold side; omega
      have e2 : 16 * Y + side n Y = n := by unfold side; omega
      have hr := pickRow_in F W H X Y n hF (by omega) c.1 c.2
      have hl := row_len F W H (16 * X) (16 * Y) (side W X) (side n Y) hF (side_fits W X hX) (by omega)
      rw [e2] at hl
      rw [hr, hl, if_pos hs, if_pos hs, e, h1, h2, tileTo, e2]
      exact ⟨rfl, rfl, by rw [if_pos (by omega)]⟩
    · have e : side (n + 1) Y = side n Y := by unfold side; omega
      rw [pickRow_out F W X Y n c, e]
      exact ⟨by rw [List.append_nil]; exact h1, by simpa using h2, by simpa using h3⟩
end Go.Th

/-
  Rows of 16 bits; whether a tile, a field may be so; how many tiles; the height beside: the code's.
-/
namespace Go.Proofs.YtlkjcamjgaecgaaGreat
open Go Go.RowKit Go.Th

theorem E16 : ElemOf Tryz.prog 22 51 1 2 := ElemOf.mk' Tryz.underlying22 (z := .int .i16 0) (by kernel_rfl) rfl (by decide)
def i16s (xs : List Int) : List Value := xs.map (.int .i16)
theorem i16s_length (xs : List Int) : (i16s xs).length = xs.length := by simp [i16s]
theorem i16s_at (xs : List Int) (i : Nat) (h : i < xs.length) : (i16s xs)[i]? = some (.int .i16 xs[i]) := by simp [i16s, h]
theorem i16s_snoc (xs : List Int) (x : Int) : i16s (xs ++ [x]) = i16s xs ++ [.int .i16 x] := by simp [i16s]
theorem oneCell_i16s (l : List Int) : ∀ u ∈ i16s l, u.oneCell' = true := by
  intro u hu
  obtain ⟨x, _, rfl⟩ := List.mem_map.1 hu
  rfl
theorem cell_i16 {w : World} {a : Option Addr} {n cap : Nat} {m : List Int} (hS : Sl w 1 (.slice a n cap) n (i16s m)) (i : Nat) (hi : i < m.length) :
    ∃ b o, a = some ⟨b, o, none⟩ ∧ b < w.heap.size ∧ w.cell? ⟨b, o + i, none⟩ = some (.int .i16 m[i]) := by
  obtain ⟨a', c', he, _, _, _, _, h5⟩ := hS
  cases he
  obtain ⟨b, o, e, hc⟩ := h5 i _ (i16s_at m i hi)
  exact ⟨b, o, e, by have := World.block_lt_of_cell? w _ hc; simpa using this, hc⟩
theorem cell_i16D {w : World} {a : Option Addr} {n cap : Nat} {m : List Int} (hS : Sl w 1 (.slice a n cap) n (i16s m)) (i : Nat) (hi : i < m.length) :
    ∃ b o, a = some ⟨b, o, none⟩ ∧ b < w.heap.size ∧ w.cell? ⟨b, o + i, none⟩ = some (.int .i16 (m.getD i 0)) := by
  obtain ⟨b, o, e, hb, hc⟩ := cell_i16 hS i hi
  exact ⟨b, o, e, hb, by rw [hc, List.getD, List.getElem?_eq_getElem hi]; rfl⟩

/-! ### Which may be -/
def isT (w h : Int) : Bool := decide (1 ≤ w ∧ w ≤ 16 ∧ 1 ≤ h ∧ h ≤ 16)
def isF (w h : Int) : Bool := decide (2 ≤ w ∧ w ≤ 256 ∧ 2 ≤ h ∧ h ≤ 256)
theorem isT_yes {w h : Int} (e : isT w h = true) : 1 ≤ w ∧ w ≤ 16 ∧ 1 ≤ h ∧ h ≤ 16 := by unfold isT at e; exact of_decide_eq_true e
theorem isF_yes {w h : Int} (e : isF w h = true) : 2 ≤ w ∧ w ≤ 256 ∧ 2 ≤ h ∧ h ≤ 256 := by unfold isF at e; exact of_decide_eq_true e
theorem isT_of {w h : Int} (e : 1 ≤ w ∧ w ≤ 16 ∧ 1 ≤ h ∧ h ≤ 16) : isT w h = true := by unfold isT; exact decide_eq_true e
theorem isF_of {w h : Int} (e : 2 ≤ w ∧ w ≤ 256 ∧ 2 ≤ h ∧ h ≤ 256) : isF w h = true := by unfold isF; exact decide_eq_true e
theorem isT_not {w h : Int} (e : ¬ (1 ≤ w ∧ w ≤ 16 ∧ 1 ≤ h ∧ h ≤ 16)) : isT w h = false := by unfold isT; exact decide_eq_false e
theorem isF_not {w h : Int} (e : ¬ (2 ≤ w ∧ w ≤ 256 ∧ 2 ≤ h ∧ h ≤ 256)) : isF w h = false := by unfold isF; exact decide_eq_false e

theorem isTile_go (w h : Int) : Pure 99 #[.int .i64 w, .int .i64 h] (.bool (isT w h)) := by
  intro W
  by_cases a : 1 ≤ w
  · by_cases b : w ≤ 16
    · by_cases c : 1 ≤ h
      · by_cases d : h ≤ 16
        · rw [isT_of ⟨a, b, c, d⟩]
          go_enter Tryz.func99, Tryz.ntmps99
          go_wp2
          go_ret
          exact ⟨rfl, rfl⟩
        · rw [isT_not (fun e => d e.2.2.2)]
          go_enter Tryz.func99, Tryz.ntmps99
          go_wp2
          go_ret
          exact ⟨rfl, rfl⟩
      · rw [isT_not (fun e => c e.2.2.1)]
        go_enter Tryz.func99, Tryz.ntmps99
        go_wp2
        go_ret
        exact ⟨rfl, rfl⟩
    · rw [isT_not (fun e => b e.2.1)]
      go_enter Tryz.func99, Tryz.ntmps99
      go_wp2
      go_ret
      exact ⟨rfl, rfl⟩
  · rw [isT_not (fun e => a e.1)]
    go_enter Tryz.func99, Tryz.ntmps99
    go_wp2
    go_ret
    exact ⟨rfl, rfl⟩

theorem isField_go (w h : Int) : Pure 97 #[.int .i64 w, .int .i64 h] (.bool (isF w h)) := by
  intro W
  by_cases a : 2 ≤ w
  · by_cases b : w ≤ 256
    · by_cases c : 2 ≤ h
      · by_cases d : h ≤ 256
        · rw [isF_of ⟨a, b, c, d⟩]
          go_enter Tryz.func97, Tryz.ntmps97
          go_wp2
          go_ret
          exact ⟨rfl, rfl⟩
        · rw [isF_not (fun e => d e.2.2.2)]
          go_enter Tryz.func97, Tryz.ntmps97
          go_wp2
          go_ret
          exact ⟨rfl, rfl⟩
      · rw [isF_not (fun e => c e.2.2.1)]
        go_enter Tryz.func97, Tryz.ntmps97
        go_wp2
        go_ret
        exact ⟨rfl, rfl⟩
    · rw [isF_not (fun e => b e.2.1)]
      go_enter Tryz.func97, Tryz.ntmps97
      go_wp2
      go_ret
      exact ⟨rfl, rfl⟩
  · rw [isF_not (fun e => a e.1)]
    go_enter Tryz.func97, Tryz.ntmps97
    go_wp2
    go_ret
    exact ⟨rfl, rfl⟩

theorem count_go (n : Nat) (h0 : 0 < n) (h : n ≤ 1000000) : Pure 83 #[.int .i64 n] (.int .i64 (cnt n : Nat)) := by
  intro W
  have hc : cnt n = (n - 1) / 16 + 1 := by unfold cnt; omega
  have HC := Lib.hid hc; clear hc
  go_enter Tryz.func83, Tryz.ntmps83
  go_wp2
  go_ret
  exact ⟨ret_int (by rw [HC.out]; omega), rfl⟩

set_option maxRecDepth 20000 in
theorem beside_go (a : Option Addr) (n cap w i : Nat) (z : List Int) (hz : z.length = n) (hw : 0 < w) (hw2 : w ≤ 1000) (hi : i < n) (h16 : ∀ x ∈ z, In16 x) (w0 : World) (hS : Sl w0 1 (.slice a n cap) n (i16s z)) :
    Calls Tryz.prog 100 #[.slice a n cap, .int .i64 w, .int .i64 i] w0 fun e w' => e = .returned (.int .i32 (bes w z i)) ∧ w0 = w' := by
  have hmx := hS.max
  by_cases h0 : i = 0
  · subst h0
    have e : bes w z 0 = 0 := by unfold bes; rw [if_pos rfl]
    rw [e]
    go_enter Tryz.func100, Tryz.ntmps100
    go_wp2
    go_ret
    exact ⟨rfl, rfl⟩
  · by_cases h1 : i % w = 0
    · have hwi : w ≤ i := Nat.le_of_dvd (by omega) (Nat.dvd_of_mod_eq_zero h1)
      have e : bes w z i = z.getD (i - w) 0 := by unfold bes; rw [if_neg h0, if_pos h1]
      obtain ⟨b, o, rfl, hb, hc⟩ := cell_i16D hS (i - w) (by omega)
      have hy16 := in16_def (getD_in16 h16 (i - w))
      rw [e]
      obtain ⟨y, hy⟩ : ∃ y, y = z.getD (i - w) 0 := ⟨_, rfl⟩
      rw [← hy] at hc hy16 ⊢
      clear hy e
      obtain ⟨k, hk⟩ : ∃ k, k = i - w := ⟨_, rfl⟩
      rw [← hk] at hc
      have hki : (i : Int) - (w : Int) = (k : Int) := by omega
      have hkn : k < n := by omega
      have hmod : ((i : Int) % (w : Int)) = 0 := by omega
      have hz0 : ¬ ((i : Int) = 0) := by omega
      clear hk hz h16
      go_enter Tryz.func100, Tryz.ntmps100
      go_wp2
      go_ret
      exact ⟨rfl, rfl⟩
    · have e : bes w z i = z.getD (i - 1) 0 := by unfold bes; rw [if_neg h0, if_neg h1]
      obtain ⟨b, o, rfl, hb, hc⟩ := cell_i16D hS (i - 1) (by omega)
      have hy16 := in16_def (getD_in16 h16 (i - 1))
      rw [e]
      obtain ⟨y, hy⟩ : ∃ y, y = z.getD (i - 1) 0 := ⟨_, rfl⟩
      rw [← hy] at hc hy16 ⊢
      clear hy e
      obtain ⟨k, rfl⟩ : ∃ k, i = k + 1 := ⟨i - 1, by omega⟩
      rw [Nat.add_sub_cancel] at hc
      have hkn : k < n := by omega
      have hmod : ¬ (((k : Int) + 1) % (w : Int) = 0) := fun e => h1 (by exact_mod_cast e)
      clear h1 hz h16
      go_enter Tryz.func100, Tryz.ntmps100
      go_wp2
      go_ret
      exact ⟨rfl, rfl⟩
end Go.Proofs.YtlkjcamjgaecgaaGreat

/-
  A tile's heights as bytes: the code's, and the reference's.
-/
namespace Go.Th
open Go Go.RowKit

/-- A slice of noughts is made. -/
theorem wpList_mk {P : Program} {w : World} {ops : Array Oper} {rest : List Oper} {o : Oper} {a : Act} {Q : Exit → Act → World → Prop} {t e : TypeId} {z : Value} {bytes : Nat}
    (hU : P.underlying t = some (.slice e)) (hI : (P.info? e).map (fun i => (i.zero, i.size, i.bytes)) = some (some z, 1, bytes)) (hz : z.cells = #[z])
    (hg : o.guard = none) (l c : Operand) (hop : o.op = Op.makeSlice t l c) (base n : Nat) (kl kc : IntKind) (hl : a.eval l = .int kl (n : Int)) (hc : a.eval c = .int kc (n : Int))
    (b2 : bytes * n ≤ 281474976710656) (b3 : n ≤ maxLen) (b4 : base ≤ w.heap.size)
    (hK : ∀ w', w'.ownsRow base e 1 (.slice (some ⟨w.heap.size, 0, none⟩) n n) n (List.replicate n z) → w.grownBy w' none → wpList P ops Q rest (a.put o.dst (.slice (some ⟨w.heap.size, 0, none⟩) n n)) w') : wpList P ops Q (o :: rest) a w := by
  obtain ⟨i, hi, h1, h2, h3⟩ := info_parts hI
  refine wpList_make_full w hg l c t hop base e i z 1 hU hi h1 h2 kl kc n n n hl hc rfl rfl (by rw [h3]; exact b2) b3 b4 fun w' h hg => ?_
  rw [hz, Nat.mul_one, toList_madeCells_one] at h
  exact hK w' h hg
theorem set_next {α : Type} (X : List α) (k i : Nat) (u v : α) (hi : X.length = i) : (X ++ List.replicate (k + 1) u).set i v = (X ++ [v]) ++ List.replicate k u := by
  subst hi
  rw [List.set_append_right _ _ (Nat.le_refl _), Nat.sub_self, List.replicate_succ, List.set_cons_zero, List.append_assoc]; rfl
theorem grown_below {w w' : World} (h : w.grownBy w' none) : Below w.heap.size w w' := (Below.refl _ _).grown h (Nat.le_refl _) (fun j hj => by cases hj)
end Go.Th
namespace Go.Proofs.YtlkjcamjgaecgaaGreat
open Go Go.RowKit Go.Th

theorem tput_bad (w h : Int) (a : Option Addr) (n cap : Nat) (W : World) (hS : n ≤ 1000000) (H : isT w h = false ∨ (isT w h = true ∧ ((n : Int) = w * h) = False)) :
    Calls Tryz.prog 72 #[.int .i64 w, .int .i64 h, .slice a n cap] W fun e w' => e = .returned (.tuple #[.slice none 0 0, .int .i64 5]) ∧ W = w' := by
  have C1 := isTile_go w h
  rcases H with e | ⟨e, hn⟩
  · rw [e] at C1
    have C1 := Lib.hid C1
    clear e
    go_enter Tryz.func72, Tryz.ntmps72
    go_wp2_with fail
    refine (C1.out _).mono ?_
    rintro e wx ⟨rfl, rfl⟩
    go_wp2_with fail
    go_ret2
    exact ⟨rfl, rfl⟩
  · obtain ⟨h1, h2, h3, h4⟩ := isT_yes e
    rw [e] at C1
    have C1 := Lib.hid C1
    obtain ⟨x, rfl⟩ := Int.eq_ofNat_of_zero_le (by omega : 0 ≤ w)
    obtain ⟨y, rfl⟩ := Int.eq_ofNat_of_zero_le (by omega : 0 ≤ h)
    have hle : x * y ≤ 16 * 16 := Nat.mul_le_mul (by omega) (by omega)
    obtain ⟨p, hp⟩ : ∃ p, p = x * y := ⟨_, rfl⟩
    have hm : (x : Int) * (y : Int) = (p : Int) := by rw [hp]; simp
    rw [← hp] at hle
    rw [hm] at hn
    have hnp : n ≠ p := fun e => by rw [e] at hn; simp at hn
    have hq : ((n : Int) != (p : Int)) = true := by simp; omega
    clear hp e hn
    go_enter Tryz.func72, Tryz.ntmps72
    go_wp2_with fail
    refine (C1.out _).mono ?_
    rintro e wx ⟨rfl, rfl⟩
    go_wp2_with fail
    go_ret2
    exact ⟨rfl, rfl⟩

set_option maxRecDepth 20000 in
set_option maxHeartbeats 3200000 in
theorem tput_any (x y n : Nat) (a : Option Addr) (cap : Nat) (z : List Int) (hz : z.length = n) (hn : n = x * y) (h16 : ∀ v ∈ z, In16 v) (hT : isT x y = true) (w : World) (hS : Sl w 1 (.slice a n cap) n (i16s z)) :
    Calls Tryz.prog 72 #[.int .i64 x, .int .i64 y, .slice a n cap] w fun e w' => ∃ v, e = .returned (.tuple #[v, .int .i64 0]) ∧ w'.ownsRow w.heap.size 5 1 v (pack (row (deltas x z))).length (u8s (pack (row (deltas x z)))) ∧ Below w.heap.size w w' := by
  have C1 := isTile_go x y
  obtain ⟨h1, h2, h3, h4⟩ := isT_yes hT
  have hle : x * y ≤ 16 * 16 := Nat.mul_le_mul (by omega) (by omega)
  have hm : (x : Int) * (y : Int) = (n : Int) := by rw [hn]; simp
  rw [← hn] at hle
  rw [hT] at C1
  have C1 := Lib.hid C1
  have hx1 : 0 < x := by omega
  have hx2 : x ≤ 1000 := by omega
  have CB := Lib.hid (fun i hi wx hs => beside_go a n cap x i z hz hx1 hx2 hi h16 wx hs)
  have hdl := deltas_length x z
  have hdr := deltas_room h16 x
  obtain ⟨D, hD⟩ : ∃ D, D = deltas x z := ⟨_, rfl⟩
  have hstep : ∀ i, i < n → D.take (i + 1) = D.take i ++ [z.getD i 0 - bes x z i] := fun i hi => by rw [hD]; exact deltas_take x z i (by omega)
  have hb16 : ∀ i, In16 (bes x z i) := fun i => bes_in16 h16 x i
  have hg16 : ∀ i, In16 (z.getD i 0) := fun i => getD_in16 h16 i
  rw [← hD] at hdl hdr ⊢
  obtain ⟨L, hL⟩ : ∃ L, L = row D := ⟨_, rfl⟩
  rw [← hL]
  have HL := Lib.hid hL; clear hL
  have HD := Lib.hid hdl
  have HR := Lib.hid hdr
  have HST := Lib.hid hstep
  have HB16 := Lib.hid hb16
  have HG16 := Lib.hid hg16
  have HS := Lib.hid hS
  have HZ := Lib.hid hz
  have hnn : ((n : Int) != (n : Int)) = false := by simp
  have hmx := hS.max
  clear hD hdl hdr hstep hb16 hg16 hS hz hn h16 hT
  go_enter Tryz.func72, Tryz.ntmps72
  go_wp2_with fail
  refine (C1.out _).mono ?_
  rintro e wx ⟨rfl, rfl⟩
  clear C1
  go_wp2_with (refine wpList_mk (t := 162) (e := 21) (z := .int .i32 0) (bytes := 4) Tryz.underlying162 (by kernel_rfl) rfl rfl _ _ rfl w.heap.size n _ _ rfl rfl (by omega) (by unfold maxLen; omega) (Nat.le_refl _) ?_)
  intro w1 ho1 hg1
  have hB1 := grown_below hg1
  clear hg1
  go_wp2_with fail
  go_loopw [29] (fun c wx => ∃ i : Nat, i ≤ n ∧ c = .int .i64 i ∧ wx.ownsRow w.heap.size 21 1 (.slice (some ⟨w.heap.size, 0, none⟩) n n) n (i32s (D.take i) ++ List.replicate (n - i) (.int .i32 0)) ∧ Below w.heap.size w wx) (fun c _ => n - (intOf c).toNat)
  case atStart => exact ⟨0, Nat.zero_le _, rfl, by simpa [i32s] using ho1, hB1⟩
  case round =>
    clear ho1 hB1
    obtain ⟨i, hi, rfl, ho, hB⟩ := hrel
    have hsz := hB.size
    by_cases hlt : i < n
    · obtain ⟨b, o, rfl, hbl, hc⟩ := cell_i16D HS.out i (by rw [HZ.out]; exact hlt)
      have hc' := (hB.cell (p := ⟨b, o + i, none⟩) hbl).trans hc
      have hts := HST.out i hlt
      have hC := Lib.hid (CB.out i hlt wr (HS.out.below hB))
      obtain ⟨g1, g2⟩ := in16_def (HG16.out i)
      obtain ⟨b1, b2⟩ := in16_def (HB16.out i)
      obtain ⟨u, hu⟩ : ∃ u, u = z.getD i 0 := ⟨_, rfl⟩
      obtain ⟨s, hs⟩ : ∃ s, s = bes x z i := ⟨_, rfl⟩
      rw [← hu] at hc' hts g1 g2
      rw [← hs] at hts hC b1 b2
      clear hu hs hc
      have hil : (i32s (D.take i)).length = i := by rw [i32s_length, List.length_take, HD.out, HZ.out]; omega
      have hnxt := set_next (i32s (D.take i)) (n - (i + 1)) i (.int .i32 0) (.int .i32 (u - s)) hil
      rw [show n - (i + 1) + 1 = n - i by omega, ← i32s_snoc, ← hts] at hnxt
      have hcell : wr.cell? ⟨w.heap.size, i, none⟩ = some (.int .i32 0) := by
        refine ownsRow_cell ho ?_
        rw [List.getElem?_append_right (by omega), hil, Nat.sub_self, List.getElem?_replicate, if_pos (by omega)]
      have hfree := ownsRow_free ho i
      have HN := Lib.hid hnxt
      have HIL := Lib.hid hil
      clear hnxt hts hil
      go_wp2_with fail
      refine hC.out.mono ?_
      rintro e wx ⟨rfl, rfl⟩
      clear hC
      go_wp2_with fail
      go_roundw
      case rel =>
        refine ⟨i + 1, by omega, by go_num, ?_, hB.setCell (Nat.le_refl _) _⟩
        have := ownsRow_set ho i hlt (.int .i32 (u - s))
        rwa [HN.out] at this
      case measure => simp [intOf]; omega
    · obtain rfl : i = n := by omega
      rw [Nat.sub_self, List.replicate_zero, List.append_nil, List.take_of_length_le (by rw [HD.out, HZ.out]; exact Nat.le_refl _)] at ho
      obtain ⟨xs, hxs⟩ := exists_i32 D (fun v hv => rm_32 (HR.out v hv))
      have hxl : i = xs.length := by have := congrArg List.length hxs; rw [List.length_map, HD.out, HZ.out] at this; omega
      have hrl := row_length D
      have hsl := sizes_le D (best D) (best_le D)
      have CROW := fun pb base v wx h hb hs hA => row_any (some ⟨w.heap.size, 0, none⟩) i i xs hxl (by omega) pb 0 base v [] wx h (by simp) hb hs hA
      rw [hxs] at CROW
      have hll : (row D).length ≤ 70000 := by rw [hrl]; rw [HD.out, HZ.out] at hsl; omega
      rw [← HL.out] at CROW hll
      have CROW := Lib.hid CROW
      have hob := (ho.lt w.heap.size (by simp [Value.ownBlock])).2
      clear hxs hxl hrl hsl
      have hV3 := winv_new wr
      have hA3 : Below wr.heap.size wr (wr.alloc (.cells #[.slice none 0 0, .int .i64 0] 165)) := (Below.refl _ _).alloc (Nat.le_refl _) _
      go_wp2_with fail
      obtain ⟨w3, hw3⟩ : ∃ w3, wr.alloc (.cells #[.slice none 0 0, .int .i64 0] 165) = w3 := ⟨_, rfl⟩
      rw [hw3] at hV3 hA3 ⊢
      clear hw3
      replace ho := ownsRow_below ho hA3
      have hB3 := hB.trans (hA3.mono hB.size)
      have hz3 := hA3.size
      have hVl := hV3.lt
      obtain ⟨A, hA⟩ : ∃ A, wr.heap.size = A := ⟨_, rfl⟩
      rw [hA] at hV3 hz3 hVl hob hsz ⊢
      clear hA hA3 hB
      refine (CROW.out A A _ w3 hV3 hz3 (Sl.of_own ho) (fun p hp h0 => by cases hp; exact ⟨hob, by simp; omega⟩)).mono ?_
      rintro e w4 ⟨rfl, v4, hV4, hG4⟩
      rw [List.nil_append] at hV4
      have hB4 := hG4.turned.old hB3 hB3.size (by
        rintro q hq (e | e)
        · omega
        · simp [Value.ownBlock] at e)
      clear hV3 hG4 hB3 CROW ho
      have C7 := Lib.hid (bytes_any _ _ _ _ _ _ hV4 (by omega))
      go_wp2_with fail
      refine C7.out.mono ?_
      rintro e w6 ⟨v6, rfl, ho6, hA6⟩
      clear C7
      go_wp2_with fail
      go_ret2
      exact ⟨v6, rfl, ownsRow_base ho6 hB4.size, hB4.trans (hA6.mono hB4.size)⟩
end Go.Proofs.YtlkjcamjgaecgaaGreat

/-
  The reference's differences and bytes of a tile; heights held against each other.
-/
namespace Go.Proofs.YtlkjcamjgaecgaaGreat
open Go Go.RowKit Go.Th

end Go.Proofs.YtlkjcamjgaecgaaGreat

/-
  A tile's heights of their bytes: the code's.
-/
namespace Go.Th
theorem pack_closes_valAt (l : List Bool) : valAt (pack l) l.length (8 * (pack l).length - l.length) = 0 := by
  refine valAt_of_noughts _ _ _ (by rw [pack_length]; omega) fun j hj => ?_
  have hl : (l.length + j) / 8 < (pack l).length := by omega
  have h : (pack l).getD ((l.length + j) / 8) 0 = byteAt l ((l.length + j) / 8) := by
    simp only [pack, List.getD, List.getElem?_map]
    rw [List.getElem?_range (by simpa [pack] using hl)]
    rfl
  rw [bitAt, h, byteAt_bit l _ _ (by omega), List.getD, List.getElem?_eq_none (by omega)]
  rfl
/-- Where these bits come first, and nothing but noughts is left, the bytes are these bits. -/
theorem pack_only (bs : List Nat) (l : List Bool) (hb : ∀ x ∈ bs, x < 256) (h : Here bs 0 l) (h8 : 8 * bs.length - l.length < 8) (hv : valAt bs l.length (8 * bs.length - l.length) = 0) : bs = pack l := by
  have h1 := h.1
  have hl : bs.length = (pack l).length := by rw [pack_length]; omega
  refine bytes_of_bits bs (pack l) hl hb (pack_lt l) fun j hj => ?_
  by_cases hjl : j < l.length
  · have := here_get h j hjl
    rw [Nat.zero_add] at this
    rw [this, bitAt_pack l j hjl, List.getD, List.getElem?_eq_getElem hjl]; rfl
  · have e1 := valAt_nought bs l.length _ (by omega) hv (j - l.length) (by omega)
    have e2 := valAt_nought (pack l) l.length _ (by omega) (pack_closes_valAt l) (j - l.length) (by omega)
    rw [show l.length + (j - l.length) = j by omega] at e1 e2
    rw [e1, e2]
end Go.Th
namespace Go.Proofs.YtlkjcamjgaecgaaGreat
open Go Go.RowKit Go.Th
theorem closes_pack (l : List Bool) : closes (pack l) l.length false = true := by
  have h1 : 8 * (pack l).length - l.length < 8 := by rw [pack_length]; omega
  simp [closes, h1, pack_closes_valAt l]
theorem pack_of_closes (bs : List Nat) (l : List Bool) (hb : ∀ x ∈ bs, x < 256) (h : Here bs 0 l) (hc : closes bs l.length false = true) : bs = pack l := by
  simp only [closes, Bool.not_false, Bool.true_and, Bool.and_eq_true, decide_eq_true_eq, beq_iff_eq] at hc
  exact pack_only bs l hb h hc.1 hc.2

/-- Bytes that are no row of so many numbers. -/
def NoRow (bs : List Nat) (n : Nat) : Prop := ∀ m : List Int, m.length = n → (∀ x ∈ m, Rm x) → bs ≠ pack (row m)

theorem get_size (w h : Int) (v : Value) (W : World) (H : isT w h = false) :
    Calls Tryz.prog 105 #[.int .i64 w, .int .i64 h, v] W fun e w' => e = .returned (.tuple #[.slice none 0 0, .int .i64 5]) ∧ W = w' := by
  have C1 := isTile_go w h
  rw [H] at C1
  have C1 := Lib.hid C1
  clear H
  go_enter Tryz.func105, Tryz.ntmps105
  go_wp2_with fail
  refine (C1.out _).mono ?_
  rintro e wx ⟨rfl, rfl⟩
  go_wp2_with fail
  go_ret2
  exact ⟨rfl, rfl⟩

set_option maxRecDepth 20000 in
set_option maxHeartbeats 3200000 in
theorem tget_no (x y n : Nat) (hT : isT x y = true) (hn : n = x * y) (v : Value) (bs : List Nat) (hl : bs.length ≤ 1000000) (hb : ∀ u ∈ bs, u < 256) (w : World) (hS : Sl w 1 v bs.length (u8s bs)) (H : NoRow bs n) :
    Calls Tryz.prog 105 #[.int .i64 x, .int .i64 y, v] w fun e w' => e = .returned (.tuple #[.slice none 0 0, .int .i64 3]) ∧ Below w.heap.size w w' := by
  have C1 := isTile_go x y
  obtain ⟨h1, h2, h3, h4⟩ := isT_yes hT
  have hle : x * y ≤ 16 * 16 := Nat.mul_le_mul (by omega) (by omega)
  have hm : (x : Int) * (y : Int) = (n : Int) := by rw [hn]; simp
  rw [← hn] at hle
  rw [hT] at C1
  have C1 := Lib.hid C1
  have C2 := Lib.hid (read_any v bs w hS (by omega) hb)
  clear hT hn hS
  by_cases hr : ∃ m, RowAt bs 0 n m
  · obtain ⟨m, hr⟩ := hr
    have hcl : closes bs (row m).length false = false := by
      rw [Bool.eq_false_iff]
      intro hc
      exact H m hr.len hr.room (pack_of_closes bs _ hb hr.here hc)
    have CI := Lib.hid (fun pb base vr wx h => isrow_yes n (by omega) m pb 0 base vr bs 0 wx h hr)
    have CC := Lib.hid (fun pb base vr wx h => close_any pb 0 base vr bs (0 + (row m).length) false wx h)
    rw [Nat.zero_add, hcl] at CC
    rw [Nat.zero_add] at CI
    clear H hb hr hcl
    go_enter Tryz.func105, Tryz.ntmps105
    go_wp2_with fail
    refine (C1.out _).mono ?_
    rintro e wx ⟨rfl, rfl⟩
    clear C1
    go_wp2_with fail
    refine C2.out.mono ?_
    rintro e w1 ⟨rb, vr, rfl, hrb, hR1, hB1⟩
    clear C2
    have C3 := Lib.hid (CI.out rb _ vr w1 hR1)
    clear CI
    go_wp2_with fail
    refine C3.out.mono ?_
    rintro e w2 ⟨v2, rfl, ho2, hR2, hT2⟩
    clear C3
    have hB2 := hT2.old hB1 hB1.size (by rintro q hq rfl; omega)
    have C4 := Lib.hid (CC.out rb _ vr w2 hR2)
    clear CC hR1 hR2 hT2 hB1
    go_wp2_with fail
    refine C4.out.mono ?_
    rintro e w3 ⟨rfl, _, hT3⟩
    have hB3 := hT3.old hB2 hB2.size (by rintro q hq rfl; omega)
    go_wp2_with fail
    go_ret2
    exact ⟨rfl, hB3⟩
  · have CI := Lib.hid (fun pb base vr wx h => isrow_no n (by omega) pb 0 base vr bs 0 wx h (fun m hm => hr ⟨m, hm⟩))
    clear H hb hr
    go_enter Tryz.func105, Tryz.ntmps105
    go_wp2_with fail
    refine (C1.out _).mono ?_
    rintro e wx ⟨rfl, rfl⟩
    clear C1
    go_wp2_with fail
    refine C2.out.mono ?_
    rintro e w1 ⟨rb, vr, rfl, hrb, hR1, hB1⟩
    clear C2
    have C3 := Lib.hid (CI.out rb _ vr w1 hR1)
    clear CI
    go_wp2_with fail
    refine C3.out.mono ?_
    rintro e w2 ⟨rfl, hT2⟩
    have hB2 := hT2.old hB1 hB1.size (by rintro q hq rfl; omega)
    go_wp2_with fail
    go_ret2
    exact ⟨rfl, hB2⟩

/-- What so many numbers make: the heights, or that one of them is none. -/
def Made (w0 : World) (x n : Nat) (m : List Int) (e : Ending) (w' : World) : Prop :=
  ((∀ u ∈ raise x m n, In16 u) ∧ ∃ v, e = .returned (.tuple #[v, .int .i64 0]) ∧ w'.ownsRow w0.heap.size 51 1 v n (i16s (raise x m n)) ∧ Below w0.heap.size w0 w') ∨
  (¬ (∀ u ∈ raise x m n, In16 u) ∧ e = .returned (.tuple #[.slice none 0 0, .int .i64 2]) ∧ Below w0.heap.size w0 w')
theorem raise_mem (x : Nat) (m : List Int) (i n : Nat) (h : i ≤ n) : ∀ u ∈ raise x m i, u ∈ raise x m n := by
  induction n with
  | zero => obtain rfl : i = 0 := by omega
            exact fun u h => h
  | succ n ih =>
    by_cases e : i = n + 1
    · subst e; exact fun u h => h
    · intro u hu
      rw [raise]
      exact List.mem_append_left _ (ih (by omega) u hu)

set_option maxRecDepth 20000 in
set_option maxHeartbeats 3200000 in
theorem tget_row (x y n : Nat) (hT : isT x y = true) (hn : n = x * y) (v : Value) (m : List Int) (hml : m.length = n) (hmr : ∀ u ∈ m, Rm u) (w : World) (hS : Sl w 1 v (pack (row m)).length (u8s (pack (row m)))) :
    Calls Tryz.prog 105 #[.int .i64 x, .int .i64 y, v] w (Made w x n m) := by
  have C1 := isTile_go x y
  obtain ⟨h1, h2, h3, h4⟩ := isT_yes hT
  have hle : x * y ≤ 16 * 16 := Nat.mul_le_mul (by omega) (by omega)
  have hm : (x : Int) * (y : Int) = (n : Int) := by rw [hn]; simp
  rw [← hn] at hle
  rw [hT] at C1
  have C1 := Lib.hid C1
  have hsl := sizes_le m (best m) (best_le m)
  have hrl := row_length m
  have C2 := Lib.hid (read_any v (pack (row m)) w hS (by rw [pack_length]; omega) (pack_lt _))
  have CI := Lib.hid (fun pb base vr wx h => isrow_yes n (by omega) m pb 0 base vr (pack (row m)) 0 wx h (rowAt_pack m n hml hmr))
  have CC := Lib.hid (fun pb base vr wx h => close_any pb 0 base vr (pack (row m)) (0 + (row m).length) false wx h)
  rw [Nat.zero_add, closes_pack] at CC
  rw [Nat.zero_add] at CI
  obtain ⟨bs, hbs⟩ : ∃ bs, bs = pack (row m) := ⟨_, rfl⟩
  rw [← hbs] at C2 CI CC
  have hx1 : 0 < x := by omega
  have hx2 : x ≤ 1000 := by omega
  have CB := Lib.hid (fun a cap i z hz hi h16 wx hs => beside_go a n cap x i z hz hx1 hx2 hi h16 wx hs)
  have HML := Lib.hid hml
  have HMR := Lib.hid hmr
  clear hT hn hS hbs hrl hsl hml hmr
  go_enter Tryz.func105, Tryz.ntmps105
  go_wp2_with fail
  refine (C1.out _).mono ?_
  rintro e wx ⟨rfl, rfl⟩
  clear C1
  go_wp2_with fail
  refine C2.out.mono ?_
  rintro e w1 ⟨rb, vr, rfl, hrb, hR1, hB1⟩
  clear C2
  have C3 := Lib.hid (CI.out rb _ vr w1 hR1)
  clear CI
  go_wp2_with fail
  refine C3.out.mono ?_
  rintro e w2 ⟨v2, rfl, ho2, hR2, hT2⟩
  clear C3
  obtain ⟨a2, cap2, rfl, hc1, hc2⟩ := ownsRow_slice ho2
  have hB2 := hT2.old hB1 hB1.size (by rintro q hq rfl; omega)
  have C4 := Lib.hid (CC.out rb _ vr w2 hR2)
  have hrb1 := hR1.lt
  clear CC hR1 hR2 hT2
  go_wp2_with fail
  refine C4.out.mono ?_
  rintro e w3 ⟨rfl, _, hT3⟩
  clear C4
  have hB3 := hT3.old hB2 hB2.size (by rintro q hq rfl; omega)
  replace ho2 := hT3.own ho2 (by rintro q hq rfl; have := (ho2.lt _ hq).1; omega)
  clear hT3 hB2 hB1 hrb1
  have HS := Lib.hid (Sl.of_own ho2)
  clear ho2
  go_wp2_with (refine wpList_mk (t := 22) (e := 51) (z := .int .i16 0) (bytes := 2) Tryz.underlying22 (by kernel_rfl) rfl rfl _ _ rfl w3.heap.size n _ _ rfl rfl (by omega) (by unfold maxLen; omega) (Nat.le_refl _) ?_)
  intro w4 ho4 hg4
  have hB4 := grown_below hg4
  have hs3 := hB3.size
  clear hg4
  go_wp2_with fail
  go_loopw [41] (fun c wx => ∃ i : Nat, i ≤ n ∧ c = .int .i64 i ∧ Hid (∀ u ∈ raise x m i, In16 u) ∧ wx.ownsRow w3.heap.size 51 1 (.slice (some ⟨w3.heap.size, 0, none⟩) n n) n (i16s (raise x m i ++ List.replicate (n - i) 0)) ∧ Below w3.heap.size w3 wx) (fun c _ => n - (intOf c).toNat)
  case atStart => exact ⟨0, Nat.zero_le _, rfl, Lib.hid (fun u hu => by simp [raise] at hu), by simpa [raise, i16s] using ho4, hB4⟩
  case round =>
    clear ho4 hB4
    obtain ⟨i, hi, rfl, hall, ho, hB⟩ := hrel
    have hsz := hB.size
    by_cases hlt : i < n
    · have him : i < m.length := by rw [HML.out]; exact hlt
      obtain ⟨b, o, rfl, hbl, hc⟩ := cell_i32 HS.out i him
      have hc' := (hB.cell (p := ⟨b, o + i, none⟩) hbl).trans hc
      have hrm := rm_def (HMR.out m[i] (List.getElem_mem him))
      have hgd : m.getD i 0 = m[i] := by rw [List.getD, List.getElem?_eq_getElem him]; rfl
      have hl16 : ∀ u ∈ raise x m i ++ List.replicate (n - i) 0, In16 u := by
        intro u hu
        rcases List.mem_append.1 hu with hu | hu
        · exact hall.out u hu
        · rw [List.eq_of_mem_replicate hu]; exact ⟨by decide, by decide⟩
      have hrl := raise_length x m i
      have hC := CB.out (some ⟨w3.heap.size, 0, none⟩) n i (raise x m i ++ List.replicate (n - i) 0) (by rw [List.length_append, hrl, List.length_replicate]; omega) hlt hl16 wr (Sl.of_own ho)
      rw [bes_same x hx1 _ (raise x m i) i (fun j hj => getD_app _ _ j (by rw [hrl]; exact hj))] at hC
      have hb16 := in16_def (bes_in16 hall.out x i)
      have hnx : raise x m (i + 1) = raise x m i ++ [bes x (raise x m i) i + m[i]] := by rw [raise, hgd]
      obtain ⟨d, hd⟩ : ∃ d, d = m[i] := ⟨_, rfl⟩
      obtain ⟨s, hs⟩ : ∃ s, s = bes x (raise x m i) i := ⟨_, rfl⟩
      rw [← hd] at hc' hrm hnx
      rw [← hs] at hC hb16 hnx
      have hil : (i16s (raise x m i)).length = i := by rw [i16s_length, hrl]
      have e0 : i16s (raise x m i ++ List.replicate (n - i) 0) = i16s (raise x m i) ++ List.replicate (n - (i + 1) + 1) (.int .i16 0) := by
        rw [show n - (i + 1) + 1 = n - i by omega]; simp [i16s]
      have hnxt := set_next (i16s (raise x m i)) (n - (i + 1)) i (.int .i16 0) (.int .i16 (s + d)) hil
      rw [← i16s_snoc, ← hnx] at hnxt
      have e1 : i16s (raise x m (i + 1)) ++ List.replicate (n - (i + 1)) (.int .i16 0) = i16s (raise x m (i + 1) ++ List.replicate (n - (i + 1)) 0) := by simp [i16s]
      rw [e1, ← e0] at hnxt
      have hcell : wr.cell? ⟨w3.heap.size, i, none⟩ = some (.int .i16 0) := by
        refine ownsRow_cell ho ?_
        rw [e0, List.getElem?_append_right (by omega), hil, Nat.sub_self]; rfl
      have hfree := ownsRow_free ho i
      have hC := Lib.hid hC
      have HN := Lib.hid hnxt
      have HX := Lib.hid hnx
      obtain ⟨r1, r2⟩ := hrm
      obtain ⟨b1, b2⟩ := hb16
      clear hd hs hc hgd hl16 hrl hil e0 e1 hnx hnxt
      by_cases hin : In16 (s + d)
      · obtain ⟨q1, q2⟩ := in16_def hin
        have hall' : ∀ u ∈ raise x m (i + 1), In16 u := by
          intro u hu
          rw [HX.out] at hu
          rcases List.mem_append.1 hu with hu | hu
          · exact hall.out u hu
          · simp at hu; rw [hu]; exact hin
        have HA := Lib.hid hall'
        clear hall' hin
        go_wp2_with fail
        refine hC.out.mono ?_
        rintro e wx ⟨rfl, rfl⟩
        clear hC
        go_wp2_with fail
        go_roundw
        case rel =>
          refine ⟨i + 1, by omega, by go_num, HA, ?_, hB.setCell (Nat.le_refl _) _⟩
          have := ownsRow_set ho i hlt (.int .i16 (s + d))
          rwa [HN.out] at this
        case measure => simp [intOf]; omega
      · have hno : ¬ (∀ u ∈ raise x m n, In16 u) := by
          intro hA
          exact hin (hA _ (raise_mem x m (i + 1) n (by omega) _ (by rw [HX.out]; simp)))
        have HNO := Lib.hid hno
        clear hno
        have hBn := hB3.trans (hB.mono hs3)
        by_cases hlow : s + d < -32768
        · clear hin
          go_wp2_with fail
          refine hC.out.mono ?_
          rintro e wx ⟨rfl, rfl⟩
          clear hC
          go_wp2_with fail
          go_ret2
          exact .inr ⟨HNO.out, rfl, hBn⟩
        · have hhi : 32767 < s + d := by
            rcases Int.lt_or_le 32767 (s + d) with h | h
            · exact h
            · exact absurd ⟨by omega, h⟩ hin
          clear hin
          go_wp2_with fail
          refine hC.out.mono ?_
          rintro e wx ⟨rfl, rfl⟩
          clear hC
          go_wp2_with fail
          go_ret2
          exact .inr ⟨HNO.out, rfl, hBn⟩
    · obtain rfl : i = n := by omega
      rw [Nat.sub_self, List.replicate_zero, List.append_nil] at ho
      have hBn := hB3.trans (hB.mono hs3)
      go_wp2_with fail
      go_ret2
      exact .inl ⟨hall.out, _, rfl, ownsRow_base ho hs3, hBn⟩
end Go.Proofs.YtlkjcamjgaecgaaGreat

/-
  Fields: checked; where a tile lies; a part of a row; a copy of heights: the code's.
-/
namespace Go.Proofs.YtlkjcamjgaecgaaGreat
open Go Go.RowKit Go.Th

abbrev hv (W H : Int) (v : Value) : Value := .agg #[.int .i64 W, .int .i64 H, v]
abbrev pv (X Y : Int) : Value := .agg #[.int .i64 X, .int .i64 Y]
theorem quiet_pure {f : Nat} {args : Array Value} {v : Value} (h : Pure f args v) (w : World) (n : Nat) : Calls Tryz.prog f args (w.drewN n) fun e w' => e = .returned v ∧ w' = w.drewN n :=
  (h _).mono fun _ _ ⟨a, b⟩ => ⟨a, b.symm⟩

theorem ret4 {a b c d a' b' c' d' : Int} (h1 : a = a') (h2 : b = b') (h3 : c = c') (h4 : d = d') : Ending.returned (.tuple #[.int .i64 a, .int .i64 b, .int .i64 c, .int .i64 d]) = .returned (.tuple #[.int .i64 a', .int .i64 b', .int .i64 c', .int .i64 d']) := by rw [h1, h2, h3, h4]

theorem check_ok (x y n : Nat) (a : Option Addr) (cap : Nat) (hF : isF x y = true) (hn : n = x * y) (w : World) :
    Calls Tryz.prog 64 #[hv x y (.slice a n cap)] w fun e w' => e = .returned (.int .i64 0) ∧ Below w.heap.size w w' := by
  have C1 := isField_go x y
  obtain ⟨h1, h2, h3, h4⟩ := isF_yes hF
  have hle : x * y ≤ 256 * 256 := Nat.mul_le_mul (by omega) (by omega)
  have hm : (x : Int) * (y : Int) = (n : Int) := by rw [hn]; simp
  rw [← hn] at hle
  rw [hF] at C1
  have C1 := Lib.hid C1
  have hnn : ((n : Int) != (n : Int)) = false := by simp
  clear hF hn
  go_enter Tryz.func64, Tryz.ntmps64
  go_wp2_with fail
  refine (C1.out _).mono ?_
  rintro e wx ⟨rfl, rfl⟩
  go_wp2_with fail
  go_ret
  exact ⟨rfl, (Below.refl _ _).alloc (Nat.le_refl _) _⟩

theorem check_size (x y n p : Nat) (a : Option Addr) (cap : Nat) (hF : isF x y = true) (hp : p = x * y) (hn : n ≠ p) (hb : n ≤ 1000000000) (w : World) :
    Calls Tryz.prog 64 #[hv x y (.slice a n cap)] w fun e w' => e = .returned (.int .i64 5) ∧ Below w.heap.size w w' := by
  have C1 := isField_go x y
  obtain ⟨h1, h2, h3, h4⟩ := isF_yes hF
  have hle : x * y ≤ 256 * 256 := Nat.mul_le_mul (by omega) (by omega)
  have hm : (x : Int) * (y : Int) = (p : Int) := by rw [hp]; simp
  rw [← hp] at hle
  rw [hF] at C1
  have C1 := Lib.hid C1
  have hnn : ((n : Int) != (p : Int)) = true := by simp; omega
  clear hF hp hn
  go_enter Tryz.func64, Tryz.ntmps64
  go_wp2_with fail
  refine (C1.out _).mono ?_
  rintro e wx ⟨rfl, rfl⟩
  go_wp2_with fail
  go_ret
  exact ⟨rfl, (Below.refl _ _).alloc (Nat.le_refl _) _⟩

theorem check_range (x y : Int) (v : Value) (hF : isF x y = false) (w : World) (hv1 : ∃ a n cap, v = .slice a n cap) :
    Calls Tryz.prog 64 #[hv x y v] w fun e w' => e = .returned (.int .i64 2) ∧ Below w.heap.size w w' := by
  obtain ⟨a, n, cap, rfl⟩ := hv1
  have C1 := isField_go x y
  rw [hF] at C1
  have C1 := Lib.hid C1
  clear hF
  go_enter Tryz.func64, Tryz.ntmps64
  go_wp2_with fail
  refine (C1.out _).mono ?_
  rintro e wx ⟨rfl, rfl⟩
  go_wp2_with fail
  go_ret
  exact ⟨rfl, (Below.refl _ _).alloc (Nat.le_refl _) _⟩

set_option maxRecDepth 20000 in
theorem piece_any (W H x y k n : Nat) (a : Option Addr) (cap : Nat) (z : List Int) (hx : x + k ≤ W) (hy : y < H) (hW : W ≤ 256) (hH : H ≤ 256) (hn : n = W * H) (w : World) (hS : Sl w 1 (.slice a n cap) n (i16s z)) :
    Calls Tryz.prog 103 #[hv W H (.slice a n cap), .int .i64 x, .int .i64 y, .int .i64 k] w fun e w' => ∃ a' cap', e = .returned (.slice a' k cap') ∧ Sl w 1 (.slice a' k cap') k (i16s ((z.drop (y * W + x)).take k)) ∧
      (∀ p, a' = some p → ∃ q, a = some q ∧ q.block = p.block) ∧ (∀ b o, a = some ⟨b, o, none⟩ → 0 < k → a' = some ⟨b, o + (y * W + x), none⟩) ∧ Below w.heap.size w w' := by
  have hfit := place_fits W H x 0 k y hx (by omega)
  rw [Nat.zero_add] at hfit
  have hyW : y * W ≤ 256 * 256 := Nat.mul_le_mul (by omega) (by omega)
  have hWH : W * H ≤ 256 * 256 := Nat.mul_le_mul (by omega) (by omega)
  obtain ⟨p, hp⟩ : ∃ p, p = y * W := ⟨_, rfl⟩
  have hm : (y : Int) * (W : Int) = (p : Int) := by rw [hp]; simp
  rw [← hn] at hfit hWH
  rw [← hp] at hfit hyW ⊢
  obtain ⟨a', cap', hr, hs, hb1, hb2⟩ := Sl.cut_mid E16 hS (p + x) k (by omega) ((p : Int) + (x : Int)) ((p : Int) + (x : Int) + (k : Int)) (by omega) (by omega)
  have hs' : Sl w 1 (.slice a' k cap') k (i16s ((z.drop (p + x)).take k)) := by
    have e : i16s ((z.drop (p + x)).take k) = ((i16s z).drop (p + x)).take k := by simp [i16s, List.map_take, List.map_drop]
    rw [e]; exact hs
  have HS := Lib.hid hs'
  have HB1 := Lib.hid hb1
  have HB2 := Lib.hid hb2
  have hmx := hS.max
  clear hs hs' hb1 hb2 hp hn hS
  go_enter Tryz.func103, Tryz.ntmps103
  go_wp2_with fail
  go_ret
  exact ⟨a', cap', rfl, HS.out, HB1.out, HB2.out, (Below.refl _ _).alloc (Nat.le_refl _) _⟩

/-- A copy of heights. -/
theorem clone16_any (vx : Value) (z : List Int) (w : World) (h : Sl w 1 vx z.length (i16s z)) (hl : z.length ≤ 1000000) :
    Calls Tryz.prog 106 #[vx] w fun e w' => ∃ v, e = .returned v ∧ w'.ownsRow w.heap.size 51 1 v z.length (i16s z) ∧ Below w.heap.size w w' := by
  have hs := h
  obtain ⟨a, cap, rfl, h1, h2, h3, h4, h5⟩ := h
  cases a with
  | none =>
    obtain ⟨h0, rfl⟩ := h4 rfl
    have hnil : z = [] := List.eq_nil_of_length_eq_zero h0
    subst hnil
    have hq : ∀ wx : World, (binOp .eql 22 (.slice none 0 0) (.slice none 0 0)).run Tryz.prog wx = .ok (.bool true) wx := fun wx => Lib.run_eql_slice_nil wx 22 51 none _ _ 0 0 Tryz.underlying22
    go_enter Tryz.func106, Tryz.ntmps106
    go_wp2
    go_ret
    exact ⟨_, rfl, World.ownsRow_nil _ _ _ _, Below.refl _ _⟩
  | some ad =>
    have hx : Sl (w.alloc (.cells #[] 51)) 1 (.slice (some ad) z.length cap) z.length (i16s z) := hs.below ((Below.refl _ _).alloc (Nat.le_refl _) _)
    have hown := World.ownsRow_made (base := w.heap.size) (e := 51) (size := 1) w #[] 0 (Nat.le_refl _) (Nat.zero_le _) rfl
    have hq : ∀ wx : World, (binOp .eql 22 (.slice (some ad) z.length cap) (.slice none 0 0)).run Tryz.prog wx = .ok (.bool false) wx := fun wx => Lib.run_eql_slice_nil wx 22 51 (some ad) _ _ 0 0 Tryz.underlying22
    go_enter Tryz.func106, Tryz.ntmps106
    go_wp2_with (at_builtin; refine wpList_app E16 rfl (.tmp 5) (.tmp 6) rfl w.heap.size rfl hown rfl hx (oneCell_i16s _) (by unfold maxLen; omega) (by omega) (by simp) ?_)
    intro v' w' hown' hgrow _
    go_wp2
    go_ret
    exact ⟨_, rfl, by simpa using hown', ((Below.refl _ _).alloc (Nat.le_refl _) _).grown hgrow (by simp) (fun k hk => by simp [Value.ownBlock] at hk; omega)⟩
end Go.Proofs.YtlkjcamjgaecgaaGreat

/-
  Where a tile lies: the code's.
-/
namespace Go.Proofs.YtlkjcamjgaecgaaGreat
open Go Go.RowKit Go.Th

set_option maxRecDepth 20000 in
set_option maxHeartbeats 1600000 in
theorem box_no (x y : Nat) (X Y : Int) (hF : isF x y = true) (hn : ¬ (0 ≤ X ∧ 0 ≤ Y ∧ X < (cnt x : Nat) ∧ Y < (cnt y : Nat))) (w : World) :
    Calls Tryz.prog 71 #[.int .i64 x, .int .i64 y, pv X Y] w fun e w' => e = .returned (.tuple #[.int .i64 0, .int .i64 0, .int .i64 0, .int .i64 0]) ∧ Below w.heap.size w w' := by
  have C1 := isField_go x y
  obtain ⟨h1, h2, h3, h4⟩ := isF_yes hF
  have C2 := count_go x (by omega) (by omega)
  have C3 := count_go y (by omega) (by omega)
  rw [hF] at C1
  obtain ⟨cx, hcx⟩ : ∃ c, c = cnt x := ⟨_, rfl⟩
  obtain ⟨cy, hcy⟩ : ∃ c, c = cnt y := ⟨_, rfl⟩
  rw [← hcx] at C2 hn
  rw [← hcy] at C3 hn
  clear hF hcx hcy
  by_cases a1 : 0 ≤ X
  · have d1 : decide (X < 0) = false := by rw [decide_eq_false_iff_not]; omega
    by_cases a2 : 0 ≤ Y
    · have d2 : decide (Y < 0) = false := by rw [decide_eq_false_iff_not]; omega
      by_cases a3 : X < (cx : Int)
      · have d3 : decide ((cx : Int) ≤ X) = false := by rw [decide_eq_false_iff_not]; omega
        have d4 : decide ((cy : Int) ≤ Y) = true := by rw [decide_eq_true_iff]; rcases Int.lt_or_le Y cy with h | h; · exact absurd ⟨a1, a2, a3, h⟩ hn
                                                       · exact h
        clear hn
        go_enter Tryz.func71, Tryz.ntmps71
        go_wp2_with fail
        go_quiet ((first | exact Calls.quiet_of_same (quiet_pure C1 _ _) | exact Calls.quiet_of_same (quiet_pure C2 _ _) | exact Calls.quiet_of_same (quiet_pure C3 _ _)))
        go_wp2_with fail
        refine bodyPost_ret (results_tmp4 rfl _ _ _) rfl ⟨rfl, below_dN ((Below.refl _ _).alloc (Nat.le_refl _) _) _⟩
      · have d3 : decide ((cx : Int) ≤ X) = true := by rw [decide_eq_true_iff]; omega
        clear hn
        go_enter Tryz.func71, Tryz.ntmps71
        go_wp2_with fail
        go_quiet ((first | exact Calls.quiet_of_same (quiet_pure C1 _ _) | exact Calls.quiet_of_same (quiet_pure C2 _ _) | exact Calls.quiet_of_same (quiet_pure C3 _ _)))
        go_wp2_with fail
        refine bodyPost_ret (results_tmp4 rfl _ _ _) rfl ⟨rfl, below_dN ((Below.refl _ _).alloc (Nat.le_refl _) _) _⟩
    · have d2 : decide (Y < 0) = true := by rw [decide_eq_true_iff]; omega
      clear hn
      go_enter Tryz.func71, Tryz.ntmps71
      go_wp2_with fail
      go_quiet ((first | exact Calls.quiet_of_same (quiet_pure C1 _ _) | exact Calls.quiet_of_same (quiet_pure C2 _ _) | exact Calls.quiet_of_same (quiet_pure C3 _ _)))
      go_wp2_with fail
      refine bodyPost_ret (results_tmp4 rfl _ _ _) rfl ⟨rfl, below_dN ((Below.refl _ _).alloc (Nat.le_refl _) _) _⟩
  · have d1 : decide (X < 0) = true := by rw [decide_eq_true_iff]; omega
    clear hn
    go_enter Tryz.func71, Tryz.ntmps71
    go_wp2_with fail
    go_quiet ((first | exact Calls.quiet_of_same (quiet_pure C1 _ _) | exact Calls.quiet_of_same (quiet_pure C2 _ _) | exact Calls.quiet_of_same (quiet_pure C3 _ _)))
    go_wp2_with fail
    refine bodyPost_ret (results_tmp4 rfl _ _ _) rfl ⟨rfl, below_dN ((Below.refl _ _).alloc (Nat.le_refl _) _) _⟩

end Go.Proofs.YtlkjcamjgaecgaaGreat

/-
  Where a tile lies: the code's.
-/
namespace Go.Proofs.YtlkjcamjgaecgaaGreat
open Go Go.RowKit Go.Th

set_option maxRecDepth 20000 in
set_option maxHeartbeats 1600000 in
theorem box_yes (x y X Y : Nat) (hF : isF x y = true) (hX : X < cnt x) (hY : Y < cnt y) (w : World) :
    Calls Tryz.prog 71 #[.int .i64 x, .int .i64 y, pv X Y] w fun e w' => e = .returned (.tuple #[.int .i64 ((16 * X : Nat) : Int), .int .i64 ((16 * Y : Nat) : Int), .int .i64 (side x X : Nat), .int .i64 (side y Y : Nat)]) ∧ Below w.heap.size w w' := by
  have C1 := isField_go x y
  obtain ⟨h1, h2, h3, h4⟩ := isF_yes hF
  have C2 := count_go x (by omega) (by omega)
  have C3 := count_go y (by omega) (by omega)
  have e1 := side_min x X hX
  have e2 := side_min y Y hY
  have l1 := cnt_le x
  have l2 := cnt_le y
  have f1 := side_fits x X hX
  have f2 := side_fits y Y hY
  have p1 := (side_pos x X).2 hX
  have p2 := (side_pos y Y).2 hY
  rw [hF] at C1
  obtain ⟨cx, hcx⟩ : ∃ c, c = cnt x := ⟨_, rfl⟩
  obtain ⟨cy, hcy⟩ : ∃ c, c = cnt y := ⟨_, rfl⟩
  rw [← hcx] at C2 l1 hX
  rw [← hcy] at C3 l2 hY
  obtain ⟨sx, hsx⟩ : ∃ s, s = side x X := ⟨_, rfl⟩
  obtain ⟨sy, hsy⟩ : ∃ s, s = side y Y := ⟨_, rfl⟩
  rw [← hsx] at e1 f1 p1 ⊢
  rw [← hsy] at e2 f2 p2 ⊢
  have m1 : min (16 : Int) ((x : Int) - (X : Int) * 16) = (sx : Int) := by omega
  have m2 : min (16 : Int) ((y : Int) - (Y : Int) * 16) = (sy : Int) := by omega
  have b1 : (16 : Int) * (X : Int) ≤ 256 := by omega
  have b2 : (16 : Int) * (Y : Int) ≤ 256 := by omega
  have g1 : (X : Int) * 16 ≤ 256 := by omega
  have g2 : (Y : Int) * 16 ≤ 256 := by omega
  have M1 := Lib.hid m1
  have M2 := Lib.hid m2
  have d1 : decide ((X : Int) < 0) = false := by rw [decide_eq_false_iff_not]; omega
  have d2 : decide ((Y : Int) < 0) = false := by rw [decide_eq_false_iff_not]; omega
  have d3 : decide (cx ≤ X) = false := by rw [decide_eq_false_iff_not]; omega
  have d4 : decide (cy ≤ Y) = false := by rw [decide_eq_false_iff_not]; omega
  have d5 : decide ((cx : Int) ≤ (X : Int)) = false := by rw [decide_eq_false_iff_not]; omega
  have d6 : decide ((cy : Int) ≤ (Y : Int)) = false := by rw [decide_eq_false_iff_not]; omega
  clear hF hcx hcy hsx hsy e1 e2 m1 m2
  go_enter Tryz.func71, Tryz.ntmps71
  go_wp2_with fail
  go_quiet ((first | exact Calls.quiet_of_same (quiet_pure C1 _ _) | exact Calls.quiet_of_same (quiet_pure C2 _ _) | exact Calls.quiet_of_same (quiet_pure C3 _ _)))
  go_wp2_with fail
  go_quiet (fail)
  go_wp2_with fail
  all_goals
    have n1 := M1.out
    have n2 := M2.out
    first
      | exact bodyPost_ret (v := .tuple #[.int .i64 ((X : Int) * 16), .int .i64 ((Y : Int) * 16), .int .i64 (min 16 ((x : Int) - (X : Int) * 16)), .int .i64 (min 16 ((y : Int) - (Y : Int) * 16))]) (results_tmp4 (t := 6) (u := 7) (v := 8) (x := 9) rfl _ _ _) rfl ⟨ret4 (by omega) (by omega) n1 n2, below_dN ((Below.refl _ _).alloc (Nat.le_refl _) _) _⟩
      | exact bodyPost_ret (v := .tuple #[.int .i64 ((X : Int) * 16), .int .i64 ((Y : Int) * 16), .int .i64 16, .int .i64 16]) (results_tmp4 (t := 6) (u := 7) (v := 8) (x := 9) rfl _ _ _) rfl ⟨ret4 (by omega) (by omega) (by omega) (by omega), below_dN ((Below.refl _ _).alloc (Nat.le_refl _) _) _⟩
      | exact bodyPost_ret (v := .tuple #[.int .i64 ((X : Int) * 16), .int .i64 ((Y : Int) * 16), .int .i64 ((x : Int) - (X : Int) * 16), .int .i64 16]) (results_tmp4 (t := 6) (u := 7) (v := 8) (x := 9) rfl _ _ _) rfl ⟨ret4 (by omega) (by omega) (by omega) (by omega), below_dN ((Below.refl _ _).alloc (Nat.le_refl _) _) _⟩
      | exact bodyPost_ret (v := .tuple #[.int .i64 ((X : Int) * 16), .int .i64 ((Y : Int) * 16), .int .i64 16, .int .i64 ((y : Int) - (Y : Int) * 16)]) (results_tmp4 (t := 6) (u := 7) (v := 8) (x := 9) rfl _ _ _) rfl ⟨ret4 (by omega) (by omega) (by omega) (by omega), below_dN ((Below.refl _ _).alloc (Nat.le_refl _) _) _⟩
      | exact bodyPost_ret (v := .tuple #[.int .i64 ((X : Int) * 16), .int .i64 ((Y : Int) * 16), .int .i64 ((x : Int) - (X : Int) * 16), .int .i64 ((y : Int) - (Y : Int) * 16)]) (results_tmp4 (t := 6) (u := 7) (v := 8) (x := 9) rfl _ _ _) rfl ⟨ret4 (by omega) (by omega) (by omega) (by omega), below_dN ((Below.refl _ _).alloc (Nat.le_refl _) _) _⟩
end Go.Proofs.YtlkjcamjgaecgaaGreat

/-
  Tiles cut out of a field, and laid into one: the code's.
-/
namespace Go.Th
theorem over_next {α : Type} (A R : List α) (k q : Nat) (u : α) (hq : A.length = q) : over (A ++ List.replicate (k + R.length) u) q R = (A ++ R) ++ List.replicate k u := by
  subst hq
  unfold over splice
  rw [List.take_append_of_le_length (Nat.le_refl _), List.take_length, List.drop_append, List.drop_eq_nil_of_le (by omega), List.nil_append, List.drop_replicate, List.append_assoc]
  congr 3
  congr 1
  omega
end Go.Th
namespace Go.Proofs.YtlkjcamjgaecgaaGreat
open Go Go.RowKit Go.Th

theorem i64_nat (q : Nat) (h : q ≤ 1000000000) : IntKind.i64.wrap (q : Int) = (q : Int) := IntWalk.i64_in _ (by omega)

set_option maxRecDepth 20000 in
set_option maxHeartbeats 3200000 in
theorem cut_yes (x y X Y n : Nat) (a : Option Addr) (cap : Nat) (F : List Int) (hF : isF x y = true) (hn : n = x * y) (hX : X < cnt x) (hY : Y < cnt y) (hl : F.length = n) (w : World) (hS : Sl w 1 (.slice a n cap) n (i16s F)) :
    Calls Tryz.prog 73 #[hv x y (.slice a n cap), pv X Y] w fun e w' => ∃ v, e = .returned v ∧ w'.ownsRow w.heap.size 51 1 v (side y Y * side x X) (i16s (tileTo F x (16 * X) (16 * Y) (side x X) (side y Y))) ∧ Below w.heap.size w w' := by
  obtain ⟨h1, h2, h3, h4⟩ := isF_yes hF
  have f1 := side_fits x X hX
  have f2 := side_fits y Y hY
  have p1 := (side_pos x X).2 hX
  have p2 := (side_pos y Y).2 hY
  have s1 := side_le x X
  have s2 := side_le y Y
  have C1 := fun wx => check_ok x y n a cap hF hn wx
  have C2 := fun wx => box_yes x y X Y hF hX hY wx
  have hFl : F.length = x * y := by rw [hl, hn]
  obtain ⟨px, hpx⟩ : ∃ p, p = 16 * X := ⟨_, rfl⟩
  obtain ⟨py, hpy⟩ : ∃ p, p = 16 * Y := ⟨_, rfl⟩
  obtain ⟨sx, hsx⟩ : ∃ s, s = side x X := ⟨_, rfl⟩
  obtain ⟨sy, hsy⟩ : ∃ s, s = side y Y := ⟨_, rfl⟩
  rw [← hpx, ← hsx] at f1
  rw [← hpy, ← hsy] at f2
  rw [← hsx] at p1 s1
  rw [← hsy] at p2 s2
  rw [← hpx, ← hpy, ← hsx, ← hsy] at C2 ⊢
  have CP := fun r (hr : r < sy) wx hs => piece_any x y px (py + r) sx n a cap F f1 (by omega) (by omega) (by omega) hn wx hs
  have hTl : ∀ r, r ≤ sy → (tileTo F x px py sx r).length = r * sx := fun r hr => tileTo_length F x y px py sx r hFl f1 (by omega)
  have hRl : ∀ r, r < sy → ((F.drop ((py + r) * x + px)).take sx).length = sx := fun r hr => row_len F x y px py sx r hFl f1 (by omega)
  have hTn : ∀ r, tileTo F x px py sx (r + 1) = tileTo F x px py sx r ++ (F.drop ((py + r) * x + px)).take sx := fun r => rfl
  have hT0 : tileTo F x px py sx 0 = [] := rfl
  have hqs : ∀ r, r < sy → r * sx + sx ≤ sy * sx := fun r hr => by
    have := Nat.mul_le_mul_right sx (Nat.succ_le_of_lt hr)
    rwa [Nat.succ_mul] at this
  have hmle : sy * sx ≤ 16 * 16 := Nat.mul_le_mul s2 s1
  obtain ⟨T, hT⟩ : ∃ T, T = tileTo F x px py sx := ⟨_, rfl⟩
  rw [← hT] at hTl hTn hT0 ⊢
  obtain ⟨m, hm⟩ : ∃ m, m = sy * sx := ⟨_, rfl⟩
  have hmul : (sx : Int) * (sy : Int) = (m : Int) := by rw [hm, Nat.mul_comm sy sx]; simp
  have hqe : ∀ r : Nat, (r : Int) * (sx : Int) = ((r * sx : Nat) : Int) := fun r => by simp
  rw [← hm] at hqs hmle ⊢
  have C1 := Lib.hid C1
  have C2 := Lib.hid C2
  have CP := Lib.hid CP
  have HTL := Lib.hid hTl
  have HRL := Lib.hid hRl
  have HTN := Lib.hid hTn
  have HT0 := Lib.hid hT0
  have HQS := Lib.hid hqs
  have HQE := Lib.hid hqe
  have HM := Lib.hid hm
  have HS := Lib.hid hS
  have hmx := hS.max
  clear hF hn hX hY hl hS hFl hpx hpy hsx hsy hTl hRl hTn hT0 hqs hT hm hqe
  go_enter Tryz.func73, Tryz.ntmps73
  go_wp2_with fail
  obtain ⟨w2, hw2⟩ : ∃ w2, (w.alloc (.cells #[.int .i64 x, .int .i64 y, .slice a n cap] 26)).alloc (.cells #[.int .i64 X, .int .i64 Y] 92) = w2 := ⟨_, rfl⟩
  have hB2 : Below w.heap.size w w2 := by rw [← hw2]; exact ((Below.refl _ _).alloc (Nat.le_refl _) _).alloc (by simp) _
  have K1 : Blk w2 w.heap.size 26 [.int .i64 x, .int .i64 y, .slice a n cap] := by rw [← hw2]; exact (Blk.new w _ _).alloc _
  have K2 : Blk w2 (w.heap.size + 1) 92 [.int .i64 X, .int .i64 Y] := by
    rw [← hw2]
    have := Blk.new (w.alloc (.cells #[.int .i64 x, .int .i64 y, .slice a n cap] 26)) 92 [.int .i64 X, .int .i64 Y]
    rw [World.size_alloc] at this
    exact this
  rw [hw2]
  clear hw2
  refine (C1.out w2).mono ?_
  rintro e w3 ⟨rfl, hA3⟩
  clear C1
  have hB3 := hB2.trans (hA3.mono hB2.size)
  replace K1 := K1.below hA3 K1.lt
  replace K2 := K2.below hA3 K2.lt
  clear hB2 hA3
  have c0 := K1.cell (i := 0) rfl
  have c1 := K1.cell (i := 1) rfl
  have d0 := K2.cell (i := 0) rfl
  have d1 := K2.cell (i := 1) rfl
  go_wp2_with fail
  refine (C2.out w3).mono ?_
  rintro e w4 ⟨rfl, hA4⟩
  clear C2 c0 c1 d0 d1
  have hB4 := hB3.trans (hA4.mono hB3.size)
  replace K1 := K1.below hA4 K1.lt
  clear hB3 hA4 K2
  have hz4 := hB4.size
  have hk4 := K1.lt
  go_wp2_with (refine wpList_mk (t := 22) (e := 51) (z := .int .i16 0) (bytes := 2) Tryz.underlying22 (by kernel_rfl) rfl rfl _ _ rfl w4.heap.size m _ _ rfl rfl (by omega) (by unfold maxLen; omega) (Nat.le_refl _) ?_)
  intro w5 ho5 hg5
  have hA5 := grown_below hg5
  replace K1 := K1.below hA5 hk4
  have hB5 := hB4.trans (hA5.mono hz4)
  obtain ⟨G, hG⟩ : ∃ G, w4.heap.size = G := ⟨_, rfl⟩
  rw [hG] at ho5 hk4 hz4 ⊢
  clear hg5 hA5 hG hB4
  go_wp2_with fail
  go_loopw [30] (fun c wx => ∃ r : Nat, r ≤ sy ∧ c = .int .i64 r ∧ wx.ownsRow G 51 1 (.slice (some ⟨G, 0, none⟩) m m) m (i16s (T r ++ List.replicate (m - r * sx) 0)) ∧ Blk wx w.heap.size 26 [.int .i64 x, .int .i64 y, .slice a n cap] ∧ Below w.heap.size w wx) (fun c _ => sy - (intOf c).toNat)
  case atStart => exact ⟨0, Nat.zero_le _, rfl, by rw [HT0.out, Nat.zero_mul]; simpa [i16s] using ho5, K1, hB5⟩
  case round =>
    clear ho5 K1 hB5
    obtain ⟨r, hr, rfl, ho, K1, hB⟩ := hrel
    by_cases hlt : r < sy
    · have hq1 := HQS.out r hlt
      have hq2 := HQE.out r
      have hTl := HTL.out r hr
      have hRl := HRL.out r hlt
      have hTn := HTN.out r
      have hCP := CP.out r hlt wr.drew (HS.out.below hB.drew)
      obtain ⟨q, hq⟩ : ∃ q, q = r * sx := ⟨_, rfl⟩
      have hq3 : (r + 1) * sx = q + sx := by rw [hq, Nat.succ_mul]
      obtain ⟨s, hs⟩ : ∃ s, s = py + r := ⟨_, rfl⟩
      rw [← hs] at hRl hTn hCP
      obtain ⟨R, hR⟩ : ∃ R, R = (F.drop (s * x + px)).take sx := ⟨_, rfl⟩
      rw [← hR] at hRl hTn hCP
      rw [← hq] at ho hq1 hq2 hTl
      have hs1 : IntKind.i64.wrap ((py : Int) + (r : Int)) = (s : Int) := by
        have := i64_nat s (by omega)
        rw [hs] at this ⊢
        simpa using this
      have hs2 : (py : Int) + (r : Int) = (s : Int) := by omega
      have hqw := i64_nat q (by omega)
      have hsw := i64_nat s (by omega)
      obtain ⟨a1, cap1, hcut, _, _, hca⟩ := Sl.cut_off E16 (Sl.of_own ho) q (by omega) (q : Int) rfl
      have ea := hca G 0 rfl (by omega)
      rw [Nat.zero_add] at ea
      subst ea
      have hnext := over_next (i16s (T r)) (i16s R) (m - (r + 1) * sx) q (.int .i16 0) (by rw [i16s_length, hTl])
      have e1 : i16s (T r ++ List.replicate (m - q) 0) = i16s (T r) ++ List.replicate (m - (r + 1) * sx + (i16s R).length) (.int .i16 0) := by
        rw [i16s_length, hRl, hq3, show m - (q + sx) + sx = m - q by omega]; simp [i16s]
      have e2 : (i16s (T r) ++ i16s R) ++ List.replicate (m - (r + 1) * sx) (.int .i16 0) = i16s (T (r + 1) ++ List.replicate (m - (r + 1) * sx) 0) := by rw [hTn]; simp [i16s]
      rw [← e1, e2] at hnext
      have hRt : (i16s R).take sx = i16s R := List.take_of_length_le (by rw [i16s_length, hRl]; exact Nat.le_refl _)
      have HNX := Lib.hid hnext
      have HRT := Lib.hid hRt
      have HCP := Lib.hid hCP
      have HS2 := Lib.hid hs2
      have c0 := K1.cell (i := 0) rfl
      have c1 := K1.cell (i := 1) rfl
      have c2 := K1.cell (i := 2) rfl
      have hgl := K1.lt
      clear hnext hRt hCP hca e1 e2 hTl hRl hTn hq3 hq hR hs hs2
      go_wp2_with fail
      refine wp_region_held_drew (S := (fun w' : World => w'.cell? ⟨w.heap.size, 0, none⟩ = some (.int .i64 x) ∧ w'.cell? ⟨w.heap.size, 1, none⟩ = some (.int .i64 y) ∧ w'.cell? ⟨w.heap.size, 2, none⟩ = some (.slice a n cap))) (by kernel_rfl) (⟨c0, c1, c2⟩) (fun hHeld => ?_)
      refine wpAnyH_take (i := 0) (v := ?v41) rfl (by kernel_rfl) (by kernel_rfl) (by kernel_rfl) (fun _ _ _ h => h) (Or.inl ⟨by rfl, ?hy41⟩) hHeld ?rest41
      case hy41 => (intro w' hSw; (try dsimp only at hSw); go_simp; (try with_reducible rfl))
      try simp only [Act.put, List.setIfInBounds_toArray, List.set_cons_zero, List.set_cons_succ, List.getElem_toArray, List.getElem_cons_zero, List.getElem_cons_succ]
      refine wpAnyH_take (i := 1) (v := ?v42) rfl (by kernel_rfl) (by kernel_rfl) (by kernel_rfl) (fun _ _ _ h => h) (Or.inl ⟨by rfl, ?hy42⟩) hHeld ?rest42
      case hy42 => (intro w' hSw; (try dsimp only at hSw); go_simp; (try with_reducible rfl))
      try simp only [Act.put, List.setIfInBounds_toArray, List.set_cons_zero, List.set_cons_succ, List.getElem_toArray, List.getElem_cons_zero, List.getElem_cons_succ]
      refine wpAnyH_take (i := 2) (v := ?v43) rfl (by kernel_rfl) (by kernel_rfl) (by kernel_rfl) (fun _ _ _ h => h) (Or.inl ⟨by rfl, ?hy43⟩) hHeld ?rest43
      case hy43 => (intro w' hSw; (try dsimp only at hSw); go_simp; (try with_reducible rfl))
      try simp only [Act.put, List.setIfInBounds_toArray, List.set_cons_zero, List.set_cons_succ, List.getElem_toArray, List.getElem_cons_zero, List.getElem_cons_succ]
      refine wpAnyH_take (i := 3) (v := ?v44) rfl (by kernel_rfl) (by kernel_rfl) (by kernel_rfl) (fun _ _ _ h => h) (Or.inl ⟨by rfl, ?hy44⟩) hHeld ?rest44
      case hy44 => (intro w' hSw; (try dsimp only at hSw); go_simp; (try with_reducible rfl))
      try simp only [Act.put, List.setIfInBounds_toArray, List.set_cons_zero, List.set_cons_succ, List.getElem_toArray, List.getElem_cons_zero, List.getElem_cons_succ]
      refine wpAnyH_take (i := 4) (v := ?v45) rfl (by kernel_rfl) (by kernel_rfl) (by kernel_rfl) (fun _ _ _ h => h) (Or.inl ⟨by rfl, ?hy45⟩) hHeld ?rest45
      case hy45 => (intro w' hSw; (try dsimp only at hSw); go_simp; (try with_reducible rfl))
      try simp only [Act.put, List.setIfInBounds_toArray, List.set_cons_zero, List.set_cons_succ, List.getElem_toArray, List.getElem_cons_zero, List.getElem_cons_succ]
      refine wpAnyH_take (i := 5) (v := ?v46) rfl (by kernel_rfl) (by kernel_rfl) (by kernel_rfl) (fun _ _ _ h => h) (Or.inl ⟨by rfl, ?hy46⟩) hHeld ?rest46
      case hy46 => (intro w' hSw; (try dsimp only at hSw); go_simp; (try with_reducible rfl))
      try simp only [Act.put, List.setIfInBounds_toArray, List.set_cons_zero, List.set_cons_succ, List.getElem_toArray, List.getElem_cons_zero, List.getElem_cons_succ]
      refine wpAnyH_take (i := 6) (v := ?v47) rfl (by kernel_rfl) (by kernel_rfl) (by kernel_rfl) (fun _ _ _ h => h) (Or.inl ⟨by rfl, ?hy47⟩) hHeld ?rest47
      case hy47 => (intro w' hSw; (try dsimp only at hSw); go_simp; (try with_reducible rfl))
      try simp only [Act.put, List.setIfInBounds_toArray, List.set_cons_zero, List.set_cons_succ, List.getElem_toArray, List.getElem_cons_zero, List.getElem_cons_succ]
      refine wpAnyH_take (i := 7) (v := ?v48) rfl (by kernel_rfl) (by kernel_rfl) (by kernel_rfl) (fun _ _ _ h => h) (Or.inl ⟨by rfl, ?hy48⟩) hHeld ?rest48
      case hy48 => (intro w' hSw; (try dsimp only at hSw); go_simp; (try with_reducible rfl))
      try simp only [Act.put, List.setIfInBounds_toArray, List.set_cons_zero, List.set_cons_succ, List.getElem_toArray, List.getElem_cons_zero, List.getElem_cons_succ]
      refine wpAnyH_take (i := 8) (v := ?v49) rfl (by kernel_rfl) (by kernel_rfl) (by kernel_rfl) (fun _ _ _ h => h) (Or.inl ⟨by rfl, ?hy49⟩) hHeld ?rest49
      case hy49 => (intro w' hSw; (try dsimp only at hSw); go_simp; (try with_reducible rfl))
      try simp only [Act.put, List.setIfInBounds_toArray, List.set_cons_zero, List.set_cons_succ, List.getElem_toArray, List.getElem_cons_zero, List.getElem_cons_succ]
      refine wpAnyH_take (i := 9) (v := ?v50) rfl (by kernel_rfl) (by kernel_rfl) (by kernel_rfl) (fun _ _ _ h => h) (Or.inl ⟨by rfl, ?hy50⟩) hHeld ?rest50
      case hy50 => (intro w' hSw; (try dsimp only at hSw); go_simp; (try with_reducible rfl))
      try simp only [Act.put, List.setIfInBounds_toArray, List.set_cons_zero, List.set_cons_succ, List.getElem_toArray, List.getElem_cons_zero, List.getElem_cons_succ]
      refine wpAnyH_take (i := 10) (v := ?v51) rfl (by kernel_rfl) (by kernel_rfl) (by kernel_rfl) (fun _ _ _ h => h) (Or.inl ⟨by rfl, ?hy51⟩) hHeld ?rest51
      case hy51 => (intro w' hSw; (try dsimp only at hSw); go_simp; (try with_reducible rfl))
      try simp only [Act.put, List.setIfInBounds_toArray, List.set_cons_zero, List.set_cons_succ, List.getElem_toArray, List.getElem_cons_zero, List.getElem_cons_succ]
      refine wpAnyH_ready (rs := [11]) (by kernel_rfl) (by simp) ?_
      refine AllReadyH.cons rfl (fun K hK => ?_) AllReadyH.nil
      go_simp
      refine (HCP.out).mono ?_
      rintro e w6 ⟨a6, cap6, rfl, hs6, _, _, hB6⟩
      try go_wp2_with fail
      refine hK.out _ _ (⟨(hB6.cell (p := ⟨_, _, none⟩) hgl).trans c0, (hB6.cell (p := ⟨_, _, none⟩) hgl).trans c1, (hB6.cell (p := ⟨_, _, none⟩) hgl).trans c2⟩) (fun hHeld => ?_)
      clear hK K
      try simp only [Act.put, List.setIfInBounds_toArray, List.set_cons_zero, List.set_cons_succ, List.getElem_toArray, List.getElem_cons_zero, List.getElem_cons_succ]
      refine wpAnyH_ready (rs := [12]) (by kernel_rfl) (by simp) ?_
      refine AllReadyH.cons rfl (fun K hK => ?_) AllReadyH.nil
      rw [if_pos (by rfl)]
      refine wp_copy_at E16 (.tmp 37) (.tmp 44) rfl sx rfl rfl (ownsRow_below (w := wr.drew) ho hB6) (hs6.below hB6) (by show sx = min sx (m - q); omega) p1 (by omega) (oneCell_i16s _) ?_
      intro w7 ho7 hT7
      refine hK.out _ _ (⟨(hT7.cell (p := ⟨w.heap.size, 0, none⟩) (by have := hB6.size; simp at this ⊢; omega) (by simp; omega)).trans ((hB6.cell (p := ⟨_, _, none⟩) hgl).trans c0), (hT7.cell (p := ⟨w.heap.size, 1, none⟩) (by have := hB6.size; simp at this ⊢; omega) (by simp; omega)).trans ((hB6.cell (p := ⟨_, _, none⟩) hgl).trans c1), (hT7.cell (p := ⟨w.heap.size, 2, none⟩) (by have := hB6.size; simp at this ⊢; omega) (by simp; omega)).trans ((hB6.cell (p := ⟨_, _, none⟩) hgl).trans c2)⟩) (fun hHeld => ?_)
      clear hK K
      try simp only [Act.put, List.setIfInBounds_toArray, List.set_cons_zero, List.set_cons_succ, List.getElem_toArray, List.getElem_cons_zero, List.getElem_cons_succ]
      refine wpAnyH_done (by kernel_rfl) ?_ _
      have hB7 : Below w.heap.size w w7 := hT7.old (hB.drew.trans (hB6.mono hB.size)) (by have := hB6.size; have := hB.size; simp at *; omega) (by rintro j hj rfl; omega)
      have K7 := (K1.drew.below hB6 hgl).turned hT7 (by omega)
      rw [HRT.out, HNX.out] at ho7
      clear c0 c1 c2 K1 hB hT7 hB6 ho
      go_wp2_with fail
      go_roundw
      case rel => exact ⟨r + 1, by omega, by go_num, ho7, K7, hB7⟩
      case measure => simp [intOf]; omega
    · obtain rfl : r = sy := by omega
      rw [← HM.out, Nat.sub_self, List.replicate_zero, List.append_nil] at ho
      go_wp2_with fail
      go_ret
      exact ⟨_, rfl, ownsRow_base ho hz4, hB⟩
end Go.Proofs.YtlkjcamjgaecgaaGreat

/-
  No tile is cut out where there is none; a tile is laid: the code's.
-/
namespace Go.Proofs.YtlkjcamjgaecgaaGreat
open Go Go.RowKit Go.Th

set_option maxRecDepth 20000 in
set_option maxHeartbeats 3200000 in
theorem cut_no (x y n : Nat) (X Y : Int) (a : Option Addr) (cap : Nat) (hF : isF x y = true) (hn : n = x * y) (hno : ¬ (0 ≤ X ∧ 0 ≤ Y ∧ X < (cnt x : Nat) ∧ Y < (cnt y : Nat))) (w : World) :
    Calls Tryz.prog 73 #[hv x y (.slice a n cap), pv X Y] w fun e w' => ∃ v, e = .returned v ∧ w'.ownsRow w.heap.size 51 1 v 0 [] ∧ Below w.heap.size w w' := by
  have C1 := Lib.hid (fun wx => check_ok x y n a cap hF hn wx)
  have C2 := Lib.hid (fun wx => box_no x y X Y hF hno wx)
  clear hF hn hno
  go_enter Tryz.func73, Tryz.ntmps73
  go_wp2_with fail
  obtain ⟨w2, hw2⟩ : ∃ w2, (w.alloc (.cells #[.int .i64 x, .int .i64 y, .slice a n cap] 26)).alloc (.cells #[.int .i64 X, .int .i64 Y] 92) = w2 := ⟨_, rfl⟩
  have hB2 : Below w.heap.size w w2 := by rw [← hw2]; exact ((Below.refl _ _).alloc (Nat.le_refl _) _).alloc (by simp) _
  have K1 : Blk w2 w.heap.size 26 [.int .i64 x, .int .i64 y, .slice a n cap] := by rw [← hw2]; exact (Blk.new w _ _).alloc _
  have K2 : Blk w2 (w.heap.size + 1) 92 [.int .i64 X, .int .i64 Y] := by
    rw [← hw2]
    have := Blk.new (w.alloc (.cells #[.int .i64 x, .int .i64 y, .slice a n cap] 26)) 92 [.int .i64 X, .int .i64 Y]
    rw [World.size_alloc] at this
    exact this
  rw [hw2]
  clear hw2
  refine (C1.out w2).mono ?_
  rintro e w3 ⟨rfl, hA3⟩
  clear C1
  have hB3 := hB2.trans (hA3.mono hB2.size)
  replace K1 := K1.below hA3 K1.lt
  replace K2 := K2.below hA3 K2.lt
  clear hB2 hA3
  have c0 := K1.cell (i := 0) rfl
  have c1 := K1.cell (i := 1) rfl
  have d0 := K2.cell (i := 0) rfl
  have d1 := K2.cell (i := 1) rfl
  go_wp2_with fail
  refine (C2.out w3).mono ?_
  rintro e w4 ⟨rfl, hA4⟩
  clear C2 c0 c1 d0 d1
  have hB4 := hB3.trans (hA4.mono hB3.size)
  clear hB3 hA4 K2 K1
  have hz4 := hB4.size
  go_wp2_with (refine wpList_mk (t := 22) (e := 51) (z := .int .i16 0) (bytes := 2) Tryz.underlying22 (by kernel_rfl) rfl rfl _ _ rfl w4.heap.size 0 _ _ rfl rfl (by omega) (by unfold maxLen; omega) (Nat.le_refl _) ?_)
  intro w5 ho5 hg5
  have hA5 := grown_below hg5
  have hB5 := hB4.trans (hA5.mono hz4)
  clear hg5 hA5 hB4
  go_wp2_with fail
  go_loopw [30] (fun c wx => c = .int .i64 0 ∧ wx = w5) (fun c _ => 1 - (intOf c).toNat)
  case atStart => exact ⟨rfl, rfl⟩
  case round =>
    obtain ⟨rfl, rfl⟩ := hrel
    go_wp2_with fail
    go_ret
    exact ⟨_, rfl, ownsRow_base (by simpa using ho5) hz4, hB5⟩

set_option maxRecDepth 20000 in
set_option maxHeartbeats 3200000 in
theorem lay_yes (x y X Y n g cap base : Nat) (F z : List Int) (az : Option Addr) (nz capz : Nat) (hF : isF x y = true) (hn : n = x * y) (hX : X < cnt x) (hY : Y < cnt y) (hl : F.length = n) (hz : z.length = nz) (hnz : nz = side x X * side y Y) (w : World)
    (hown : w.ownsRow base 51 1 (.slice (some ⟨g, 0, none⟩) n cap) n (i16s F)) (hS : Sl w 1 (.slice az nz capz) nz (i16s z)) :
    Calls Tryz.prog 77 #[hv x y (.slice (some ⟨g, 0, none⟩) n cap), pv X Y, .slice az nz capz] w fun e w' => e = .returned (.bool true) ∧ w'.ownsRow base 51 1 (.slice (some ⟨g, 0, none⟩) n cap) n (i16s (layTo F x (16 * X) (16 * Y) (side x X) z (side y Y))) ∧ Turned (fun k => k = g) w w' := by
  obtain ⟨h1, h2, h3, h4⟩ := isF_yes hF
  have f1 := side_fits x X hX
  have f2 := side_fits y Y hY
  have p1 := (side_pos x X).2 hX
  have p2 := (side_pos y Y).2 hY
  have s1 := side_le x X
  have s2 := side_le y Y
  have C1 := fun wx => check_ok x y n (some ⟨g, 0, none⟩) cap hF hn wx
  have C2 := fun wx => box_yes x y X Y hF hX hY wx
  have hFl : F.length = x * y := by rw [hl, hn]
  obtain ⟨px, hpx⟩ : ∃ p, p = 16 * X := ⟨_, rfl⟩
  obtain ⟨py, hpy⟩ : ∃ p, p = 16 * Y := ⟨_, rfl⟩
  obtain ⟨sx, hsx⟩ : ∃ s, s = side x X := ⟨_, rfl⟩
  obtain ⟨sy, hsy⟩ : ∃ s, s = side y Y := ⟨_, rfl⟩
  rw [← hpx, ← hsx] at f1
  rw [← hpy, ← hsy] at f2
  rw [← hsx] at p1 s1
  rw [← hsy] at p2 s2
  rw [← hsx, ← hsy] at hnz
  rw [← hpx, ← hpy, ← hsx, ← hsy] at C2 ⊢
  have hzl : z.length = sx * sy := by rw [hz, hnz]
  have hLl : ∀ r, r ≤ sy → (layTo F x px py sx z r).length = n := fun r hr => by rw [layTo_length F x y px py sx sy z hFl hzl f1 f2 r hr, hn]
  have CP := fun r (hr : r < sy) L (hL : L.length = n) wx hs => piece_any x y px (py + r) sx n (some ⟨g, 0, none⟩) cap L f1 (by omega) (by omega) (by omega) hn wx hs
  have hZl : ∀ r, r < sy → ((z.drop (r * sx)).take sx).length = sx := fun r hr => zrow_len z sx sy r hzl hr
  have hLn : ∀ r, layTo F x px py sx z (r + 1) = over (layTo F x px py sx z r) ((py + r) * x + px) ((z.drop (r * sx)).take sx) := fun r => rfl
  have hL0 : layTo F x px py sx z 0 = F := rfl
  have hfit : ∀ r, r < sy → (py + r) * x + px + sx ≤ n := fun r hr => by rw [hn]; exact place_fits x y px py sx r f1 (by omega)
  have hqs : ∀ r, r < sy → r * sx + sx ≤ nz := fun r hr => by
    have := Nat.mul_le_mul_right sx (Nat.succ_le_of_lt hr)
    rw [hnz, Nat.mul_comm sx sy]
    rwa [Nat.succ_mul] at this
  have hmle : nz ≤ 16 * 16 := by rw [hnz]; exact Nat.mul_le_mul s1 s2
  have hmul : (sx : Int) * (sy : Int) = (nz : Int) := by rw [hnz]; simp
  have hqe : ∀ r : Nat, (r : Int) * (sx : Int) = ((r * sx : Nat) : Int) := fun r => by simp
  obtain ⟨T, hT⟩ : ∃ T, T = layTo F x px py sx z := ⟨_, rfl⟩
  rw [← hT] at hLl hLn hL0 ⊢
  have hg := (hown.lt g (by simp [Value.ownBlock])).2
  have hnn : ((nz : Int) != (nz : Int)) = false := by simp
  have hx0 : ((sx : Int) == 0) = false := by simp; omega
  have CL := Lib.hid (fun wx hs => clone16_any (.slice az nz capz) z wx hs (by omega))
  have C1 := Lib.hid C1
  have C2 := Lib.hid C2
  have CP := Lib.hid CP
  have HLL := Lib.hid hLl
  have HZL := Lib.hid hZl
  have HLN := Lib.hid hLn
  have HL0 := Lib.hid hL0
  have HQS := Lib.hid hqs
  have HQE := Lib.hid hqe
  have HFIT := Lib.hid hfit
  have HS := Lib.hid hS
  have HZ := Lib.hid hz
  have hmx := hS.max
  clear hF hn hX hY hl hS hFl hpx hpy hsx hsy hLl hZl hLn hL0 hqs hT hqe hz hnz hzl hfit
  go_enter Tryz.func77, Tryz.ntmps77
  go_wp2_with fail
  obtain ⟨w2, hw2⟩ : ∃ w2, (w.alloc (.cells #[.int .i64 x, .int .i64 y, .slice (some ⟨g, 0, none⟩) n cap] 26)).alloc (.cells #[.int .i64 X, .int .i64 Y] 92) = w2 := ⟨_, rfl⟩
  have hB2 : Below w.heap.size w w2 := by rw [← hw2]; exact ((Below.refl _ _).alloc (Nat.le_refl _) _).alloc (by simp) _
  have K1 : Blk w2 w.heap.size 26 [.int .i64 x, .int .i64 y, .slice (some ⟨g, 0, none⟩) n cap] := by rw [← hw2]; exact (Blk.new w _ _).alloc _
  have K2 : Blk w2 (w.heap.size + 1) 92 [.int .i64 X, .int .i64 Y] := by
    rw [← hw2]
    have := Blk.new (w.alloc (.cells #[.int .i64 x, .int .i64 y, .slice (some ⟨g, 0, none⟩) n cap] 26)) 92 [.int .i64 X, .int .i64 Y]
    rw [World.size_alloc] at this
    exact this
  rw [hw2]
  clear hw2
  refine (C1.out w2).mono ?_
  rintro e w3 ⟨rfl, hA3⟩
  clear C1
  have hB3 := hB2.trans (hA3.mono hB2.size)
  replace K1 := K1.below hA3 K1.lt
  replace K2 := K2.below hA3 K2.lt
  clear hB2 hA3
  have c0 := K1.cell (i := 0) rfl
  have c1 := K1.cell (i := 1) rfl
  have d0 := K2.cell (i := 0) rfl
  have d1 := K2.cell (i := 1) rfl
  go_wp2_with fail
  refine (C2.out w3).mono ?_
  rintro e w4 ⟨rfl, hA4⟩
  clear C2 c0 c1 d0 d1
  have hB4 := hB3.trans (hA4.mono hB3.size)
  replace K1 := K1.below hA4 K1.lt
  clear hB3 hA4 K2
  have hz4 := hB4.size
  have hk4 := K1.lt
  have CL2 := Lib.hid (CL.out w4 (by rw [HZ.out]; exact HS.out.below hB4))
  clear CL
  go_wp2_with fail
  refine CL2.out.mono ?_
  rintro e w5 ⟨v5, rfl, ho5, hA5⟩
  clear CL2
  rw [HZ.out] at ho5
  obtain ⟨a5, cap5, rfl, hc51, hc52⟩ := ownsRow_slice ho5
  replace K1 := K1.below hA5 hk4
  have hB5 := hB4.trans (hA5.mono hz4)
  obtain ⟨D, hD⟩ : ∃ D, w4.heap.size = D := ⟨_, rfl⟩
  rw [hD] at ho5 hk4 hz4
  clear hA5 hD hB4
  replace hown := ownsRow_below hown hB5
  go_wp2_with fail
  go_loopw [39] (fun c wx => ∃ r : Nat, r ≤ sy ∧ c = .int .i64 r ∧ wx.ownsRow base 51 1 (.slice (some ⟨g, 0, none⟩) n cap) n (i16s (T r)) ∧ wx.ownsRow D 51 1 (.slice a5 nz cap5) nz (i16s z) ∧ Blk wx w.heap.size 26 [.int .i64 x, .int .i64 y, .slice (some ⟨g, 0, none⟩) n cap] ∧ Turned (fun k => k = g) w wx) (fun c _ => sy - (intOf c).toNat)
  case atStart => exact ⟨0, Nat.zero_le _, rfl, by rw [HL0.out]; exact hown, ho5, K1, Turned.below hB5⟩
  case round =>
    clear ho5 K1 hB5 hown
    obtain ⟨r, hr, rfl, ho, hoz, K1, hTu⟩ := hrel
    have hgl := K1.lt
    by_cases hlt : r < sy
    · have hq1 := HQS.out r hlt
      have hq2 := HQE.out r
      have hZl := HZL.out r hlt
      have hLn := HLN.out r
      have hfit := HFIT.out r hlt
      have hCP := CP.out r hlt (T r) (HLL.out r hr) wr.drew (Sl.of_own (ho : wr.drew.ownsRow base 51 1 (.slice (some ⟨g, 0, none⟩) n cap) n (i16s (T r))))
      obtain ⟨q, hq⟩ : ∃ q, q = r * sx := ⟨_, rfl⟩
      obtain ⟨s, hs⟩ : ∃ s, s = py + r := ⟨_, rfl⟩
      rw [← hs] at hLn hCP hfit
      rw [← hq] at hq1 hq2 hZl hLn
      have hs1 : IntKind.i64.wrap ((py : Int) + (r : Int)) = (s : Int) := by
        have := i64_nat s (by omega)
        rw [hs] at this ⊢
        simpa using this
      have hs2 : (py : Int) + (r : Int) = (s : Int) := by omega
      have hqw := i64_nat q (by omega)
      have hsw := i64_nat s (by omega)
      obtain ⟨O, hO⟩ : ∃ O, O = s * x + px := ⟨_, rfl⟩
      rw [← hO] at hCP hLn hfit
      obtain ⟨a1, cap1, hcut, hs7, _, _⟩ := Sl.cut_off E16 (Sl.of_own hoz) q (by omega) (q : Int) rfl
      have e1 : ((i16s z).drop q).take sx = i16s ((z.drop q).take sx) := by simp [i16s, List.map_take, List.map_drop]
      have e2 : over (i16s (T r)) O (i16s ((z.drop q).take sx)) = i16s (T (r + 1)) := by rw [hLn]; exact over_map _ _ _ _
      have HE1 := Lib.hid e1
      have HE2 := Lib.hid e2
      have HCP := Lib.hid hCP
      have HS7 := Lib.hid hs7
      have HOZ := Lib.hid hoz
      have h16 : ∀ u ∈ (i16s z).drop q, u.oneCell' = true := fun u hu => oneCell_i16s z u (List.mem_of_mem_drop hu)
      have H16 := Lib.hid h16
      have c0 := K1.cell (i := 0) rfl
      have c1 := K1.cell (i := 1) rfl
      have c2 := K1.cell (i := 2) rfl
      clear hCP e1 e2 hZl hLn hq hO hs hs2 hs7 hoz h16
      go_wp2_with fail
      refine wp_region_held_drew (S := (fun w' : World => w'.cell? ⟨w.heap.size, 0, none⟩ = some (.int .i64 x) ∧ w'.cell? ⟨w.heap.size, 1, none⟩ = some (.int .i64 y) ∧ w'.cell? ⟨w.heap.size, 2, none⟩ = some (.slice (some ⟨g, 0, none⟩) n cap))) (by kernel_rfl) (⟨c0, c1, c2⟩) (fun hHeld => ?_)
      refine wpAnyH_take (i := 0) (v := ?v54) rfl (by kernel_rfl) (by kernel_rfl) (by kernel_rfl) (fun _ _ _ h => h) (Or.inl ⟨by rfl, ?hy54⟩) hHeld ?rest54
      case hy54 => (intro w' hSw; (try dsimp only at hSw); go_simp; (try with_reducible rfl))
      try simp only [Act.put, List.setIfInBounds_toArray, List.set_cons_zero, List.set_cons_succ, List.getElem_toArray, List.getElem_cons_zero, List.getElem_cons_succ]
      refine wpAnyH_take (i := 1) (v := ?v55) rfl (by kernel_rfl) (by kernel_rfl) (by kernel_rfl) (fun _ _ _ h => h) (Or.inl ⟨by rfl, ?hy55⟩) hHeld ?rest55
      case hy55 => (intro w' hSw; (try dsimp only at hSw); go_simp; (try with_reducible rfl))
      try simp only [Act.put, List.setIfInBounds_toArray, List.set_cons_zero, List.set_cons_succ, List.getElem_toArray, List.getElem_cons_zero, List.getElem_cons_succ]
      refine wpAnyH_take (i := 2) (v := ?v56) rfl (by kernel_rfl) (by kernel_rfl) (by kernel_rfl) (fun _ _ _ h => h) (Or.inl ⟨by rfl, ?hy56⟩) hHeld ?rest56
      case hy56 => (intro w' hSw; (try dsimp only at hSw); go_simp; (try with_reducible rfl))
      try simp only [Act.put, List.setIfInBounds_toArray, List.set_cons_zero, List.set_cons_succ, List.getElem_toArray, List.getElem_cons_zero, List.getElem_cons_succ]
      refine wpAnyH_take (i := 3) (v := ?v57) rfl (by kernel_rfl) (by kernel_rfl) (by kernel_rfl) (fun _ _ _ h => h) (Or.inl ⟨by rfl, ?hy57⟩) hHeld ?rest57
      case hy57 => (intro w' hSw; (try dsimp only at hSw); go_simp; (try with_reducible rfl))
      try simp only [Act.put, List.setIfInBounds_toArray, List.set_cons_zero, List.set_cons_succ, List.getElem_toArray, List.getElem_cons_zero, List.getElem_cons_succ]
      refine wpAnyH_take (i := 4) (v := ?v58) rfl (by kernel_rfl) (by kernel_rfl) (by kernel_rfl) (fun _ _ _ h => h) (Or.inl ⟨by rfl, ?hy58⟩) hHeld ?rest58
      case hy58 => (intro w' hSw; (try dsimp only at hSw); go_simp; (try with_reducible rfl))
      try simp only [Act.put, List.setIfInBounds_toArray, List.set_cons_zero, List.set_cons_succ, List.getElem_toArray, List.getElem_cons_zero, List.getElem_cons_succ]
      refine wpAnyH_take (i := 5) (v := ?v59) rfl (by kernel_rfl) (by kernel_rfl) (by kernel_rfl) (fun _ _ _ h => h) (Or.inl ⟨by rfl, ?hy59⟩) hHeld ?rest59
      case hy59 => (intro w' hSw; (try dsimp only at hSw); go_simp; (try with_reducible rfl))
      try simp only [Act.put, List.setIfInBounds_toArray, List.set_cons_zero, List.set_cons_succ, List.getElem_toArray, List.getElem_cons_zero, List.getElem_cons_succ]
      refine wpAnyH_take (i := 7) (v := ?v60) rfl (by kernel_rfl) (by kernel_rfl) (by kernel_rfl) (fun _ _ _ h => h) (Or.inl ⟨by rfl, ?hy60⟩) hHeld ?rest60
      case hy60 => (intro w' hSw; (try dsimp only at hSw); go_simp; (try with_reducible rfl))
      try simp only [Act.put, List.setIfInBounds_toArray, List.set_cons_zero, List.set_cons_succ, List.getElem_toArray, List.getElem_cons_zero, List.getElem_cons_succ]
      refine wpAnyH_take (i := 8) (v := ?v61) rfl (by kernel_rfl) (by kernel_rfl) (by kernel_rfl) (fun _ _ _ h => h) (Or.inl ⟨by rfl, ?hy61⟩) hHeld ?rest61
      case hy61 => (intro w' hSw; (try dsimp only at hSw); go_simp; (try with_reducible rfl))
      try simp only [Act.put, List.setIfInBounds_toArray, List.set_cons_zero, List.set_cons_succ, List.getElem_toArray, List.getElem_cons_zero, List.getElem_cons_succ]
      refine wpAnyH_take (i := 9) (v := ?v62) rfl (by kernel_rfl) (by kernel_rfl) (by kernel_rfl) (fun _ _ _ h => h) (Or.inl ⟨by rfl, ?hy62⟩) hHeld ?rest62
      case hy62 => (intro w' hSw; (try dsimp only at hSw); go_simp; (try with_reducible rfl))
      try simp only [Act.put, List.setIfInBounds_toArray, List.set_cons_zero, List.set_cons_succ, List.getElem_toArray, List.getElem_cons_zero, List.getElem_cons_succ]
      refine wpAnyH_take (i := 10) (v := ?v63) rfl (by kernel_rfl) (by kernel_rfl) (by kernel_rfl) (fun _ _ _ h => h) (Or.inl ⟨by rfl, ?hy63⟩) hHeld ?rest63
      case hy63 => (intro w' hSw; (try dsimp only at hSw); go_simp; (try with_reducible rfl))
      try simp only [Act.put, List.setIfInBounds_toArray, List.set_cons_zero, List.set_cons_succ, List.getElem_toArray, List.getElem_cons_zero, List.getElem_cons_succ]
      refine wpAnyH_take (i := 11) (v := ?v64) rfl (by kernel_rfl) (by kernel_rfl) (by kernel_rfl) (fun _ _ _ h => h) (Or.inl ⟨by rfl, ?hy64⟩) hHeld ?rest64
      case hy64 => (intro w' hSw; (try dsimp only at hSw); go_simp; (try with_reducible rfl))
      try simp only [Act.put, List.setIfInBounds_toArray, List.set_cons_zero, List.set_cons_succ, List.getElem_toArray, List.getElem_cons_zero, List.getElem_cons_succ]
      refine wpAnyH_ready (rs := [6]) (by kernel_rfl) (by simp) ?_
      refine AllReadyH.cons rfl (fun K hK => ?_) AllReadyH.nil
      go_simp
      refine (HCP.out).mono ?_
      rintro e w6 ⟨a6, cap6, rfl, hs6, _, had, hB6⟩
      have ea := had g 0 rfl p1
      rw [Nat.zero_add] at ea
      subst ea
      clear had
      try go_wp2_with fail
      refine hK.out _ _ (⟨(hB6.cell (p := ⟨_, _, none⟩) hgl).trans c0, (hB6.cell (p := ⟨_, _, none⟩) hgl).trans c1, (hB6.cell (p := ⟨_, _, none⟩) hgl).trans c2⟩) (fun hHeld => ?_)
      clear hK K
      try simp only [Act.put, List.setIfInBounds_toArray, List.set_cons_zero, List.set_cons_succ, List.getElem_toArray, List.getElem_cons_zero, List.getElem_cons_succ]
      refine wpAnyH_ready (rs := [12]) (by kernel_rfl) (by simp) ?_
      refine AllReadyH.cons rfl (fun K hK => ?_) AllReadyH.nil
      rw [if_pos (by rfl)]
      refine wp_copy_at E16 (.tmp 48) (.tmp 53) rfl sx rfl rfl (ownsRow_below (w := wr.drew) ho hB6) (HS7.out.below (w := wr.drew) hB6) (by show sx = min (nz - q) sx; omega) p1 hfit H16.out ?_
      intro w7 ho7 hT7
      refine hK.out _ _ (⟨(hT7.cell (p := ⟨w.heap.size, 0, none⟩) (by have := hB6.size; simp at this ⊢; omega) (by simp; omega)).trans ((hB6.cell (p := ⟨_, _, none⟩) hgl).trans c0), (hT7.cell (p := ⟨w.heap.size, 1, none⟩) (by have := hB6.size; simp at this ⊢; omega) (by simp; omega)).trans ((hB6.cell (p := ⟨_, _, none⟩) hgl).trans c1), (hT7.cell (p := ⟨w.heap.size, 2, none⟩) (by have := hB6.size; simp at this ⊢; omega) (by simp; omega)).trans ((hB6.cell (p := ⟨_, _, none⟩) hgl).trans c2)⟩) (fun hHeld => ?_)
      clear hK K
      try simp only [Act.put, List.setIfInBounds_toArray, List.set_cons_zero, List.set_cons_succ, List.getElem_toArray, List.getElem_cons_zero, List.getElem_cons_succ]
      refine wpAnyH_done (by kernel_rfl) ?_ _
      have hT6 : Turned (fun k => k = g) w w7 := (hTu.drew.trans (Turned.below hB6) (fun _ _ h => h)).trans hT7 (fun _ _ h => h)
      have K7 := (K1.drew.below hB6 hgl).turned hT7 (by omega)
      have hoz7 := hT7.own (ownsRow_below (w := wr.drew) HOZ.out hB6) (by rintro j hj rfl; have := (HOZ.out.lt _ hj).1; omega)
      rw [HE1.out, HE2.out] at ho7
      clear c0 c1 c2 K1 hTu hT7 hB6 ho
      go_wp2_with fail
      go_roundw
      case rel => exact ⟨r + 1, by omega, by go_num, ho7, hoz7, K7, hT6⟩
      case measure => simp [intOf]; omega
    · obtain rfl : r = sy := by omega
      go_wp2_with fail
      go_ret
      exact ⟨rfl, ho, hTu⟩
end Go.Proofs.YtlkjcamjgaecgaaGreat

/-
  Heights there and back; literal heights, and noughts; a field of nothing.
-/
namespace Go.Proofs.YtlkjcamjgaecgaaGreat
open Go Go.RowKit Go.Th

theorem Sl.i16 {w : World} (m : List Int) (t : TypeId) (n : Nat) (hn : n = m.length) (hm : n ≤ maxLen) : Sl (w.alloc (.cells (i16s m).toArray t)) 1 (.slice (some ⟨w.heap.size, 0, none⟩) n n) n (i16s m) := by
  subst hn
  refine ⟨_, _, rfl, by simp [i16s], Nat.le_refl _, hm, fun h => (by cases h), ?_⟩
  intro j u hu
  refine ⟨_, _, rfl, ?_⟩
  rw [World.cell?_alloc_at _ _ _ _ rfl]
  simpa using hu

/-- There and back. -/
theorem tget_back (x y n : Nat) (hT : isT x y = true) (hn : n = x * y) (v : Value) (z : List Int) (hz : z.length = n) (h16 : ∀ u ∈ z, In16 u) (w : World) (hS : Sl w 1 v (pack (row (deltas x z))).length (u8s (pack (row (deltas x z))))) :
    Calls Tryz.prog 105 #[.int .i64 x, .int .i64 y, v] w fun e w' => ∃ v, e = .returned (.tuple #[v, .int .i64 0]) ∧ w'.ownsRow w.heap.size 51 1 v n (i16s z) ∧ Below w.heap.size w w' := by
  obtain ⟨h1, h2, h3, h4⟩ := isT_yes hT
  have hr : raise x (deltas x z) n = z := by rw [raise_deltas x (by omega) z n (by omega), List.take_of_length_le (by omega)]
  refine (tget_row x y n hT hn v (deltas x z) (by rw [deltas_length, hz]) (deltas_room h16 x) w hS).mono ?_
  rintro e w' (⟨_, v', he, ho, hB⟩ | ⟨hno, _⟩)
  · rw [hr] at ho; exact ⟨v', he, ho, hB⟩
  · rw [hr] at hno; exact absurd h16 hno
theorem noRow_nil (n : Nat) : NoRow [] n := by
  intro m hm hr e
  have h1 := congrArg List.length e
  rw [pack_length, row_length] at h1
  simp at h1
  omega

theorem built_h0 : Tryz.prog.built 26 [] = some #[.int .i64 0, .int .i64 0, .slice none 0 0] := by kernel_rfl
/-- A field of nothing is built, behind a guard. -/
theorem wpH_0g {ops : Array Oper} {rest : List Oper} {o : Oper} {a : Act} {w : World} {Q : Exit → Act → World → Prop} (ho : o.op = .build 26 #[]) (hw : Region.wanted o (yielded ops a.tmps) = true)
    (h : wpList Tryz.prog ops Q rest (a.put o.dst (hv 0 0 (.slice none 0 0))) w) : wpList Tryz.prog ops Q (o :: rest) a w :=
  wpList_step fun K hK => by
    rw [if_pos hw]
    exact wp_bd (cs := [.int .i64 0, .int .i64 0, .slice none 0 0]) ho (by simpa using built_h0) (hK _ _ h)

/-- What the second reading answers: nothing, with a code, or heights of which the bytes are those that were read. -/
def Again (w0 : World) (x n : Nat) (bs : List Nat) (e : Ending) (w' : World) : Prop :=
  (∃ d v, e = .returned (.tuple #[v, .int .i64 0]) ∧ d.length = n ∧ (∀ u ∈ d, In16 u) ∧ bs = pack (row (deltas x d)) ∧ w'.ownsRow w0.heap.size 51 1 v n (i16s d) ∧ Below w0.heap.size w0 w') ∨
  (∃ c : Int, (c = 3 ∨ c = 2) ∧ e = .returned (.tuple #[.slice none 0 0, .int .i64 c]) ∧ Below w0.heap.size w0 w')
theorem tget_again (x y n : Nat) (hT : isT x y = true) (hn : n = x * y) (v : Value) (bs : List Nat) (hl : bs.length ≤ 1000000) (hb : ∀ u ∈ bs, u < 256) (w : World) (hS : Sl w 1 v bs.length (u8s bs)) :
    Calls Tryz.prog 105 #[.int .i64 x, .int .i64 y, v] w (Again w x n bs) := by
  by_cases H : NoRow bs n
  · exact (tget_no x y n hT hn v bs hl hb w hS H).mono fun e w' ⟨he, hB⟩ => .inr ⟨3, .inl rfl, he, hB⟩
  · have H' : ∃ m : List Int, m.length = n ∧ (∀ u ∈ m, Rm u) ∧ bs = pack (row m) := by
      refine Classical.byContradiction fun h => H fun m h1 h2 h3 => h ⟨m, h1, h2, h3⟩
    obtain ⟨m, hm, hr, rfl⟩ := H'
    have hx : 0 < x := by have := (isT_yes hT).1; omega
    refine (tget_row x y n hT hn v m hm hr w hS).mono ?_
    rintro e w' (⟨h16, v', he, ho, hB⟩ | ⟨_, he, hB⟩)
    · exact .inl ⟨raise x m n, v', he, raise_length x m n, h16, by rw [deltas_raise x hx m n hm], ho, hB⟩
    · exact .inr ⟨2, .inr rfl, he, hB⟩

set_option maxRecDepth 20000 in
theorem run_mk16 (m : Nat) (hm : m ≤ 1000000) (wx : World) : (Instr.makeSlice 22 (.int .i64 (m : Int)) (.int .i64 (m : Int))).run Tryz.prog wx = .ok (.slice (some ⟨wx.heap.size, 0, none⟩) m m) (wx.alloc (.cells (List.replicate m (Value.int .i16 0)).toArray 51)) := by
  obtain ⟨i, hi, h1, h2, h3⟩ := info_parts (P := Tryz.prog) (e := 51) (z := .int .i16 0) (size := 1) (bytes := 2) (by kernel_rfl)
  have hr := run_make (P := Tryz.prog) wx 22 51 i (.int .i16 0) Tryz.underlying22 hi h1 .i64 .i64 (m : Int) (m : Int) (by omega) (Int.le_refl _) (by rw [h3]; omega) (by omega)
  rw [hr, h2, Nat.mul_one]
  simp only [Int.toNat_natCast]
  congr 4
  apply Array.ext'
  exact toList_madeCells_one _ _
set_option maxRecDepth 20000 in
theorem made16 (w : World) (m base : Nat) (hm : m ≤ maxLen) (hb : base ≤ w.heap.size) : (w.alloc (.cells (Array.replicate m (Value.int .i16 0)) 51)).ownsRow base 51 1 (.slice (some ⟨w.heap.size, 0, none⟩) m m) m (List.replicate m (.int .i16 0)) := by
  have := World.ownsRow_lit (base := base) (e := 51) (size := 1) w (Array.replicate m (Value.int .i16 0)) m hb hm (by simp)
  simpa using this
end Go.Proofs.YtlkjcamjgaecgaaGreat

/-
  The reference's tiles: how many; which heights lie in one; cut out of a field.
-/
namespace Go.Proofs.YtlkjcamjgaecgaaGreat
open Go Go.RowKit Go.Th

end Go.Proofs.YtlkjcamjgaecgaaGreat

/-
  The law's fields.
-/
namespace Go.Proofs.YtlkjcamjgaecgaaGreat
open Go Go.RowKit Go.Th

/-- A struct that is handed back out of its block. -/
theorem res_blk {P : Program} {fn : Func} {p : Tmp} {ty : TypeId} (h : fn.results = #[.cell p ty]) {tmps : Array Value} {w : World} {g : Nat} {t : TypeId} {cs : List Value} {d : TypeDesc}
    (hp : tmps.getD p undef = .pointer (some ⟨g, 0, none⟩)) (K : Blk w g t cs) (hu : P.underlying ty = some d) (hd : (match d with | .struct _ | .array _ _ => true | _ => false) = true) (hi : (P.info? ty).map (·.size) = some cs.length) :
    (results fn tmps).run P w = .ok (.agg cs.toArray) w :=
  results_cell_row h tmps w g t cs.toArray (0, 0) d hp K hu hd (by simpa using hi)
theorem tdiv_in16 {y : Int} (h : In16 y) : In16 (y.tdiv 2) := by
  obtain ⟨h1, h2⟩ := h
  constructor
  · have := Int.tdiv_le_tdiv (a := -32768) (b := y) (c := 2) (by omega) (by omega)
    have e : (-32768 : Int).tdiv 2 = -16384 := by decide
    omega
  · have := Int.tdiv_le_tdiv (a := y) (b := 32767) (c := 2) (by omega) (by omega)
    have e : (32767 : Int).tdiv 2 = 16383 := by decide
    omega

set_option maxRecDepth 20000 in
set_option maxHeartbeats 3200000 in
theorem field_any (p q n : Nat) (a : Option Addr) (cap : Nat) (z : List Int) (hp : p < 256) (hq : q < 256) (hz : z.length = n) (hn : n ≤ 2000) (h16 : ∀ u ∈ z, In16 u) (w : World) (hS : Sl w 1 (.slice a n cap) n (i16s z)) :
    Calls Tryz.prog 26 #[.int .u8 p, .int .u8 q, .slice a n cap] w fun e w' => ∃ (x y : Nat) (v : Value) (F : List Int), e = .returned (hv x y v) ∧ isF x y = true ∧ x ≤ 40 ∧ y ≤ 40 ∧ F.length = x * y ∧ (∀ u ∈ F, In16 u) ∧ w'.ownsRow w.heap.size 51 1 v (x * y) (i16s F) ∧ Below w.heap.size w w' := by
  obtain ⟨x, hx⟩ : ∃ x, x = 2 + p % 39 := ⟨_, rfl⟩
  obtain ⟨y, hy⟩ : ∃ y, y = 2 + q % 39 := ⟨_, rfl⟩
  have hx1 : 2 ≤ x ∧ x ≤ 40 := by omega
  have hy1 : 2 ≤ y ∧ y ≤ 40 := by omega
  have ex : (2 : Int) + (p : Int) % 39 = (x : Int) := by omega
  have ey : (2 : Int) + (q : Int) % 39 = (y : Int) := by omega
  have hle : x * y ≤ 40 * 40 := Nat.mul_le_mul hx1.2 hy1.2
  obtain ⟨m, hm⟩ : ∃ m, m = x * y := ⟨_, rfl⟩
  have hmul : (x : Int) * (y : Int) = (m : Int) := by rw [hm]; simp
  rw [← hm] at hle
  have HM := Lib.hid hm
  have HX1 := Lib.hid hx1
  have HY1 := Lib.hid hy1
  have H16 := Lib.hid h16
  have HZ := Lib.hid hz
  have HS := Lib.hid hS
  have hmx := hS.max
  clear hx hy hm hx1 hy1 h16 hz hS
  go_enter Tryz.func26, Tryz.ntmps26
  go_wp2_with fail
  obtain ⟨w2, hw2⟩ : ∃ w2, (w.alloc (.cells #[.int .i64 0, .int .i64 0, .slice none 0 0] 26)).alloc (.cells #[.int .i64 x, .int .i64 y, .slice none 0 0] 26) = w2 := ⟨_, rfl⟩
  have hB2 : Below w.heap.size w w2 := by rw [← hw2]; exact ((Below.refl _ _).alloc (Nat.le_refl _) _).alloc (by simp) _
  have KA : Blk w2 w.heap.size 26 [.int .i64 0, .int .i64 0, .slice none 0 0] := by rw [← hw2]; exact (Blk.new w _ _).alloc _
  have K1 : Blk w2 (w.heap.size + 1) 26 [.int .i64 x, .int .i64 y, .slice none 0 0] := by
    rw [← hw2]
    have := Blk.new (w.alloc (.cells #[.int .i64 0, .int .i64 0, .slice none 0 0] 26)) 26 [.int .i64 x, .int .i64 y, .slice none 0 0]
    rw [World.size_alloc] at this
    exact this
  rw [hw2]
  clear hw2
  obtain ⟨D, hD⟩ : ∃ D, w2.heap.size = D := ⟨_, rfl⟩
  have hz2 := K1.lt
  have hz3 := hB2.size
  rw [hD] at hz2 hz3
  have hown : w2.ownsRow D 51 1 (.slice none 0 0) 0 (i16s []) := World.ownsRow_nil _ _ _ _
  have hDle : D ≤ w2.heap.size := by omega
  clear hD
  go_loopw [8] (fun c wx => ∃ (i : Nat) (v : Value) (l : List Int), i ≤ m ∧ c = .int .i64 i ∧ Hid (l.length = i) ∧ Hid (∀ u ∈ l, In16 u) ∧ wx.ownsRow D 51 1 v i (i16s l) ∧ Blk wx (w.heap.size + 1) 26 [.int .i64 x, .int .i64 y, v] ∧ Blk wx w.heap.size 26 [.int .i64 0, .int .i64 0, .slice none 0 0] ∧ Below w.heap.size w wx ∧ D ≤ wx.heap.size) (fun c _ => m - (intOf c).toNat)
  case atStart => exact ⟨0, _, [], Nat.zero_le _, rfl, Lib.hid rfl, Lib.hid (by intro u hu; cases hu), hown, K1, KA, hB2, hDle⟩
  case round =>
    clear hown K1 KA hB2 hDle
    obtain ⟨i, v, l, hi, rfl, hl, hl16, ho, K1, KA, hB, hDle⟩ := hrel
    have c0 := K1.cell (i := 0) rfl
    have c1 := K1.cell (i := 1) rfl
    have c2 := K1.cell (i := 2) rfl
    by_cases hlt : i < m
    · have fin : ∀ (u : Int) (w3 : World) (v2 : Value) (o : Obj), In16 u → w3.ownsRow D 51 1 v2 (i + 1) (i16s l ++ [.int .i16 u]) → (wr.alloc o).grownBy w3 v.ownBlock →
          w3.cell? ⟨w.heap.size + 1, 2, none⟩ = some v ∧ w3.frozen? ⟨w.heap.size + 1, 2, none⟩ = false ∧
          ∃ l2 : List Int, Hid (l2.length = i + 1) ∧ Hid (∀ u ∈ l2, In16 u) ∧ (w3.setCell ⟨w.heap.size + 1, 2, none⟩ v2).ownsRow D 51 1 v2 (i + 1) (i16s l2) ∧ Blk (w3.setCell ⟨w.heap.size + 1, 2, none⟩ v2) (w.heap.size + 1) 26 [.int .i64 x, .int .i64 y, v2] ∧
          Blk (w3.setCell ⟨w.heap.size + 1, 2, none⟩ v2) w.heap.size 26 [.int .i64 0, .int .i64 0, .slice none 0 0] ∧ Below w.heap.size w (w3.setCell ⟨w.heap.size + 1, 2, none⟩ v2) ∧ D ≤ (w3.setCell ⟨w.heap.size + 1, 2, none⟩ v2).heap.size := by
        intro u w3 v2 o hu ho3 hg3
        have hA := app_below ho hDle hg3
        have K3 := K1.below hA hz2
        have KA3 := KA.below hA (by omega)
        have hB3 := hB.trans (hA.mono (by omega))
        refine ⟨K3.cell (i := 2) rfl, K3.free 2, l ++ [u], Lib.hid (by rw [List.length_append, hl.out]; rfl), Lib.hid ?_, ?_, K3.set 2 v2 (by simp), KA3.other _ _ (by simp), hB3.setCell (by simp) _, ?_⟩
        · intro t ht
          rcases List.mem_append.1 ht with ht | ht
          · exact hl16.out t ht
          · simp at ht; rw [ht]; exact hu
        · rw [i16s_snoc]
          refine ownsRow_setCell_other ho3 ?_ _
          intro e
          have := (ho3.lt _ e).1
          simp at this
          omega
        · have := hA.size; simp [World.setCell]; omega
      have FIN := Lib.hid fin
      clear fin
      by_cases hin : i < n
      · obtain ⟨b, o, rfl, hbl, hc⟩ := cell_i16D HS.out i (by rw [HZ.out]; exact hin)
        have hc' := (hB.cell (p := ⟨b, o + i, none⟩) hbl).trans hc
        have hu := getD_in16 H16.out i
        obtain ⟨u, huu⟩ : ∃ u, u = z.getD i 0 := ⟨_, rfl⟩
        rw [← huu] at hc' hu
        clear hc huu
        go_wp2_with (at_builtin; refine wpList_app E16 rfl (.tmp 51) (.tmp 53) rfl D rfl (ho.alloc _) rfl (Sl.one _ _ _) (by intro u hu; simp at hu; subst hu; rfl) (by unfold maxLen; omega) (by omega) (by simp; omega) ?_)
        intro v2 w3 ho3 hg3 _
        obtain ⟨a2, cap2, rfl, _, _⟩ := ownsRow_slice ho3
        obtain ⟨d2, e2, l2, r1, r2, r3, r4, r5, r6, r7⟩ := FIN.out u w3 _ _ hu ho3 hg3
        clear ho hg3 hB c0 c1 c2 K1 KA
        go_wp2_with fail
        go_roundw
        case rel => exact ⟨i + 1, _, l2, by omega, by go_num, r1, r2, r3, r4, r5, r6, r7⟩
        case measure => simp [intOf]; omega
      · by_cases h0 : 0 < n
        · have hk : i % n < n := Nat.mod_lt _ h0
          obtain ⟨b, o, rfl, hbl, hc⟩ := cell_i16D HS.out (i % n) (by rw [HZ.out]; exact hk)
          have hc' := (hB.cell (p := ⟨b, o + i % n, none⟩) hbl).trans hc
          have hu := getD_in16 H16.out (i % n)
          obtain ⟨u, huu⟩ : ∃ u, u = z.getD (i % n) 0 := ⟨_, rfl⟩
          rw [← huu] at hc' hu
          have ht := tdiv_in16 hu
          obtain ⟨u1, u2⟩ := in16_def hu
          obtain ⟨s, hs⟩ : ∃ s, u.tdiv 2 = s := ⟨_, rfl⟩
          rw [hs] at ht
          have hsw : IntKind.i16.wrap s = s := by
            obtain ⟨s1, s2⟩ := in16_def ht
            simp [IntKind.wrap, IntKind.bits, IntKind.signed]; omega
          have hik : (i : Int) % (n : Int) = ((i % n : Nat) : Int) := by simp
          obtain ⟨k, hkk⟩ : ∃ k, k = i % n := ⟨_, rfl⟩
          rw [← hkk] at hc' hk hik
          clear hc huu hkk hu
          go_wp2_with (at_builtin; refine wpList_app E16 rfl (.tmp 51) (.tmp 53) rfl D rfl (ho.alloc _) rfl (Sl.one _ _ _) (by intro u hu; simp at hu; subst hu; rfl) (by unfold maxLen; omega) (by omega) (by simp; omega) ?_)
          intro v2 w3 ho3 hg3 _
          obtain ⟨a2, cap2, rfl, _, _⟩ := ownsRow_slice ho3
          obtain ⟨d2, e2, l2, r1, r2, r3, r4, r5, r6, r7⟩ := FIN.out s w3 _ _ ht ho3 hg3
          clear ho hg3 hB c0 c1 c2 K1 KA
          go_wp2_with fail
          go_roundw
          case rel => exact ⟨i + 1, _, l2, by omega, by go_num, r1, r2, r3, r4, r5, r6, r7⟩
          case measure => simp [intOf]; omega
        · have hn0 : ¬ (0 : Int) < (n : Int) := by omega
          go_wp2_with (at_builtin; refine wpList_app E16 rfl (.tmp 51) (.tmp 53) rfl D rfl (ho.alloc _) rfl (Sl.one _ _ _) (by intro u hu; simp at hu; subst hu; rfl) (by unfold maxLen; omega) (by omega) (by simp; omega) ?_)
          intro v2 w3 ho3 hg3 _
          obtain ⟨a2, cap2, rfl, _, _⟩ := ownsRow_slice ho3
          obtain ⟨d2, e2, l2, r1, r2, r3, r4, r5, r6, r7⟩ := FIN.out _ w3 _ _ ⟨by omega, by omega⟩ ho3 hg3
          clear ho hg3 hB c0 c1 c2 K1 KA
          go_wp2_with fail
          go_roundw
          case rel => exact ⟨i + 1, _, l2, by omega, by go_num, r1, r2, r3, r4, r5, r6, r7⟩
          case measure => simp [intOf]; omega
    · obtain rfl : i = m := by omega
      obtain ⟨av, cv, rfl, _, _⟩ := ownsRow_slice ho
      have a0 := KA.cell (i := 0) rfl
      have a1 := KA.cell (i := 1) rfl
      have a2 := KA.cell (i := 2) rfl
      have b0 := KA.free 0
      have b1 := KA.free 1
      have b2 := KA.free 2
      have KB := ((KA.set 0 (.int .i64 x) (by simp)).set 1 (.int .i64 y) (by simp)).set 2 (.slice av i cv) (by simp)
      obtain ⟨q1, q2⟩ := HX1.out
      obtain ⟨q3, q4⟩ := HY1.out
      go_wp2_with fail
      refine bodyPost_ret (v := hv x y (.slice av i cv)) (res_blk rfl rfl KB Tryz.underlying26 rfl (by kernel_rfl)) rfl ?_
      refine ⟨x, y, _, l, rfl, isF_of (by omega), q2, q4, by rw [hl.out, HM.out], hl16.out, ?_, ?_⟩
      · rw [← HM.out]
        refine ownsRow_base ?_ (by omega : w.heap.size ≤ D)
        refine ownsRow_setCell_other (ownsRow_setCell_other (ownsRow_setCell_other ho ?_ _) ?_ _) ?_ _
        all_goals (intro e; have := (ho.lt _ e).1; simp at this; omega)
      · exact ((hB.setCell (Nat.le_refl _) _).setCell (Nat.le_refl _) _).setCell (Nat.le_refl _) _
end Go.Proofs.YtlkjcamjgaecgaaGreat
