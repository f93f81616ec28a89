/-
  Heights told by those beside them; tiles cut out of a field, and laid into one: plain.
-/
import Derived.Test.YtapheokmoebgfaaRiceSpec
import Derived.Test.YtapheokmoebgfaaBitsPack
import Derived.Test.YtapheokmoebgfaaCopy
set_option linter.unusedVariables false
set_option linter.unusedSimpArgs false
namespace Go.Th

/-! ### Heights, each by the one beside it -/
def In16 (x : Int) : Prop := -32768 ≤ x ∧ x ≤ 32767
theorem in16_def {x : Int} (h : In16 x) : -32768 ≤ x ∧ x ≤ 32767 := h
/-- The height by which the one in place i is told. -/
def bes (w : Nat) (z : List Int) (i : Nat) : Int := if i = 0 then 0 else if i % w = 0 then z.getD (i - w) 0 else z.getD (i - 1) 0
def delta (w : Nat) (z : List Int) (i : Nat) : Int := z.getD i 0 - bes w z i
def deltas (w : Nat) (z : List Int) : List Int := (List.range z.length).map (delta w z)
theorem deltas_length (w : Nat) (z : List Int) : (deltas w z).length = z.length := by simp [deltas]
theorem deltas_at (w : Nat) (z : List Int) (i : Nat) (h : i < z.length) : (deltas w z)[i]? = some (delta w z i) := by simp [deltas, h]
theorem deltas_take (w : Nat) (z : List Int) (i : Nat) (h : i < z.length) : (deltas w z).take (i + 1) = (deltas w z).take i ++ [delta w z i] := by
  rw [List.take_add_one, deltas_at w z i h]; rfl
theorem getD_in16 {z : List Int} (h : ∀ x ∈ z, In16 x) (i : Nat) : In16 (z.getD i 0) := by
  rw [List.getD]
  by_cases hi : i < z.length
  · rw [List.getElem?_eq_getElem hi]; exact h _ (List.getElem_mem hi)
  · rw [List.getElem?_eq_none (by omega)]; exact ⟨by decide, by decide⟩
theorem bes_in16 {z : List Int} (h : ∀ x ∈ z, In16 x) (w i : Nat) : In16 (bes w z i) := by
  unfold bes
  split
  · exact ⟨by decide, by decide⟩
  · split
    · exact getD_in16 h _
    · exact getD_in16 h _
theorem delta_room {z : List Int} (h : ∀ x ∈ z, In16 x) (w i : Nat) : Rm (delta w z i) := by
  have h1 := in16_def (getD_in16 h i)
  have h2 := in16_def (bes_in16 h w i)
  unfold delta Rm
  omega
theorem deltas_room {z : List Int} (h : ∀ x ∈ z, In16 x) (w : Nat) : ∀ x ∈ deltas w z, Rm x := by
  intro x hx
  obtain ⟨i, _, rfl⟩ := List.mem_map.1 hx
  exact delta_room h w i
theorem bes_same (w : Nat) (hw : 0 < w) (l m : List Int) (i : Nat) (h : ∀ j, j < i → l.getD j 0 = m.getD j 0) : bes w l i = bes w m i := by
  unfold bes
  split
  · rfl
  · split
    · exact h _ (by omega)
    · exact h _ (by omega)
theorem getD_take (l : List Int) (i j : Nat) (h : j < i) : (l.take i).getD j 0 = l.getD j 0 := by
  simp only [List.getD, List.getElem?_take, if_pos h]
theorem getD_app (l m : List Int) (j : Nat) (h : j < l.length) : (l ++ m).getD j 0 = l.getD j 0 := by
  simp only [List.getD, List.getElem?_append_left h]
theorem getD_app_at (l m : List Int) (x : Int) : (l ++ x :: m).getD l.length 0 = x := by
  simp [List.getD]

/-- The heights of which so many numbers tell by how much each is above the one beside it. -/
def raise (w : Nat) (d : List Int) : Nat → List Int
  | 0 => []
  | i + 1 => raise w d i ++ [bes w (raise w d i) i + d.getD i 0]
theorem raise_length (w : Nat) (d : List Int) (i : Nat) : (raise w d i).length = i := by
  induction i with
  | zero => rfl
  | succ i ih => simp [raise, ih]
theorem raise_deltas (w : Nat) (hw : 0 < w) (z : List Int) (i : Nat) (h : i ≤ z.length) : raise w (deltas w z) i = z.take i := by
  induction i with
  | zero => rfl
  | succ i ih =>
    have hi : i < z.length := by omega
    have e : (deltas w z).getD i 0 = delta w z i := by rw [List.getD, deltas_at w z i hi]; rfl
    rw [raise, ih (by omega), take_snoc z i hi, e, bes_same w hw (z.take i) z i (fun j hj => getD_take z i j hj)]
    congr 1
    have : z.getD i 0 = z[i] := by rw [List.getD, List.getElem?_eq_getElem hi]; rfl
    unfold delta
    rw [this]
    congr 1
    omega
theorem raise_prefix (w : Nat) (d : List Int) (i j n : Nat) (hj : j < i) (hi : i ≤ n) : (raise w d n).getD j 0 = (raise w d i).getD j 0 := by
  induction n with
  | zero => omega
  | succ n ih =>
    by_cases e : i = n + 1
    · rw [e]
    · rw [raise, getD_app _ _ _ (by rw [raise_length]; omega)]
      exact ih (by omega)
theorem deltas_raise (w : Nat) (hw : 0 < w) (d : List Int) (n : Nat) (hn : d.length = n) : deltas w (raise w d n) = d := by
  subst hn
  apply List.ext_getElem?
  intro j
  by_cases hj : j < d.length
  · rw [deltas_at _ _ _ (by rw [raise_length]; exact hj), List.getElem?_eq_getElem hj]
    unfold delta
    have e1 : (raise w d d.length).getD j 0 = bes w (raise w d j) j + d.getD j 0 := by
      rw [raise_prefix w d (j + 1) j d.length (by omega) (by omega), raise]
      have := getD_app_at (raise w d j) [] (bes w (raise w d j) j + d.getD j 0)
      rwa [raise_length] at this
    have e2 : bes w (raise w d d.length) j = bes w (raise w d j) j := bes_same w hw _ _ j (fun k hk => raise_prefix w d j k d.length hk (by omega))
    have e3 : d.getD j 0 = d[j] := by rw [List.getD, List.getElem?_eq_getElem hj]; rfl
    rw [e1, e2, e3]
    congr 1
    omega
  · rw [List.getElem?_eq_none (by rw [deltas_length, raise_length]; omega), List.getElem?_eq_none (by omega)]

/-! ### Bytes that have just these bits -/
theorem byte_of_bits (a b : Nat) (ha : a < 256) (hb : b < 256) (h : ∀ k, k < 8 → (a / 2 ^ (7 - k) % 2 == 1) = (b / 2 ^ (7 - k) % 2 == 1)) : a = b := by
  have h' : ∀ k, k < 8 → a / 2 ^ (7 - k) % 2 = b / 2 ^ (7 - k) % 2 := by
    intro k hk
    have := h k hk
    rw [Bool.eq_iff_iff, beq_iff_eq, beq_iff_eq] at this
    have h1 := Nat.mod_lt (a / 2 ^ (7 - k)) (y := 2) (by decide)
    have h2 := Nat.mod_lt (b / 2 ^ (7 - k)) (y := 2) (by decide)
    omega
  have e0 := h' 0 (by decide); have e1 := h' 1 (by decide); have e2 := h' 2 (by decide); have e3 := h' 3 (by decide)
  have e4 := h' 4 (by decide); have e5 := h' 5 (by decide); have e6 := h' 6 (by decide); have e7 := h' 7 (by decide)
  simp only [show 2 ^ (7 - 0) = 128 by decide, show 2 ^ (7 - 1) = 64 by decide, show 2 ^ (7 - 2) = 32 by decide, show 2 ^ (7 - 3) = 16 by decide, show 2 ^ (7 - 4) = 8 by decide, show 2 ^ (7 - 5) = 4 by decide, show 2 ^ (7 - 6) = 2 by decide, show 2 ^ (7 - 7) = 1 by decide] at e0 e1 e2 e3 e4 e5 e6 e7
  omega
theorem bytes_of_bits (a b : List Nat) (hl : a.length = b.length) (ha : ∀ x ∈ a, x < 256) (hb : ∀ x ∈ b, x < 256) (h : ∀ j, j < 8 * a.length → bitAt a j = bitAt b j) : a = b := by
  apply List.ext_getElem hl
  intro i h1 h2
  refine byte_of_bits _ _ (ha _ (List.getElem_mem h1)) (hb _ (List.getElem_mem h2)) fun k hk => ?_
  have := h (8 * i + k) (by omega)
  unfold bitAt at this
  rw [show (8 * i + k) / 8 = i by omega, show (8 * i + k) % 8 = k by omega, List.getD, List.getD, List.getElem?_eq_getElem h1, List.getElem?_eq_getElem h2] at this
  exact this
theorem valAt_nought (bs : List Nat) (at_ k : Nat) (hk : k ≤ 64) (h : valAt bs at_ k = 0) : ∀ j, j < k → bitAt bs (at_ + j) = false := by
  have e := bits_valAt bs at_ k hk
  rw [h] at e
  intro j hj
  have h1 := seg_get bs at_ k j hj
  rw [← e] at h1
  simp [numBits, hj] at h1
  exact h1
theorem valAt_of_noughts (bs : List Nat) (at_ k : Nat) (hk : k ≤ 64) (h : ∀ j, j < k → bitAt bs (at_ + j) = false) : valAt bs at_ k = 0 := by
  have e := bits_valAt bs at_ k hk
  refine numBits_only (valAt_small bs at_ k hk) (Nat.pow_pos (by decide)) ?_
  rw [e]
  apply List.ext_getElem?
  intro j
  by_cases hj : j < k
  · rw [seg_get _ _ _ _ hj, h j hj]; simp [numBits, hj]
  · rw [List.getElem?_eq_none (by rw [seg_length]; omega), List.getElem?_eq_none (by rw [numBits_length]; omega)]

/-! ### Fields -/
/-- The first column of a tile, and how many it has, of w columns. -/
def side (w : Nat) (t : Nat) : Nat := min (16 * t + 16) w - 16 * t
def cnt (n : Nat) : Nat := (n + 15) / 16
theorem side_le (w t : Nat) : side w t ≤ 16 := by unfold side; omega
theorem side_pos (w t : Nat) : 0 < side w t ↔ t < cnt w := by unfold side cnt; omega
theorem side_fits (w t : Nat) (h : t < cnt w) : 16 * t + side w t ≤ w := by unfold side cnt at *; omega
theorem side_min (w t : Nat) (h : t < cnt w) : side w t = min 16 (w - 16 * t) := by unfold side cnt at *; omega
theorem side_none (w t : Nat) (h : ¬ t < cnt w) : side w t = 0 := by unfold side cnt at *; omega
theorem cnt_le (w : Nat) : 16 * cnt w ≤ w + 15 := by unfold cnt; omega
theorem cnt_ge (w : Nat) : w ≤ 16 * cnt w := by unfold cnt; omega

/-- So many rows of a tile. -/
def tileTo (F : List Int) (W x y w : Nat) : Nat → List Int
  | 0 => []
  | r + 1 => tileTo F W x y w r ++ (F.drop ((y + r) * W + x)).take w
theorem row_len (F : List Int) (W H x y w r : Nat) (hF : F.length = W * H) (hx : x + w ≤ W) (hy : y + r < H) : ((F.drop ((y + r) * W + x)).take w).length = w := by
  rw [List.length_take, List.length_drop, hF]
  have : (y + r + 1) * W ≤ H * W := Nat.mul_le_mul_right _ hy
  rw [Nat.add_mul, Nat.one_mul] at this
  rw [Nat.mul_comm H W] at this
  omega
theorem tileTo_length (F : List Int) (W H x y w r : Nat) (hF : F.length = W * H) (hx : x + w ≤ W) (hy : y + r ≤ H) : (tileTo F W x y w r).length = r * w := by
  induction r with
  | zero => simp [tileTo]
  | succ r ih =>
    rw [tileTo, List.length_append, ih (by omega), row_len F W H x y w r hF hx (by omega), Nat.add_mul, Nat.one_mul]
theorem tileTo_row (F : List Int) (W H x y w h r : Nat) (hF : F.length = W * H) (hx : x + w ≤ W) (hy : y + h ≤ H) (hr : r < h) : ((tileTo F W x y w h).drop (r * w)).take w = (F.drop ((y + r) * W + x)).take w := by
  induction h with
  | zero => omega
  | succ h ih =>
    have hl := tileTo_length F W H x y w h hF hx (by omega)
    rw [tileTo]
    by_cases e : r = h
    · subst e
      rw [List.drop_append, hl, Nat.sub_self, List.drop_eq_nil_of_le (by rw [hl]; exact Nat.le_refl _), List.nil_append, List.drop_zero, List.take_take, Nat.min_self]
    · have hle : (r + 1) * w ≤ h * w := Nat.mul_le_mul_right _ (by omega)
      rw [Nat.add_mul, Nat.one_mul] at hle
      rw [List.drop_append_of_le_length (by rw [hl]; omega), List.take_append_of_le_length (by rw [List.length_drop, hl]; omega)]
      exact ih (by omega) (by omega)
theorem mem_tileTo {F : List Int} {W x y w r : Nat} {z : Int} (h : z ∈ tileTo F W x y w r) : z ∈ F := by
  induction r with
  | zero => simp [tileTo] at h
  | succ r ih =>
    rw [tileTo] at h
    rcases List.mem_append.1 h with h | h
    · exact ih h
    · exact List.mem_of_mem_drop (List.mem_of_mem_take h)

theorem over_get {α : Type} (L : List α) (off : Nat) (cs : List α) (h : off + cs.length ≤ L.length) (j : Nat) : (over L off cs)[j]? = if off ≤ j ∧ j < off + cs.length then cs[j - off]? else L[j]? := by
  unfold over splice
  by_cases h1 : j < off
  · rw [if_neg (by omega), List.getElem?_append_left (by rw [List.length_take]; omega), List.getElem?_take, if_pos h1]
  · rw [List.getElem?_append_right (by rw [List.length_take]; omega), List.length_take, Nat.min_eq_left (by omega)]
    by_cases h2 : j < off + cs.length
    · rw [if_pos ⟨by omega, h2⟩, List.getElem?_append_left (by omega)]
    · rw [if_neg (by omega), List.getElem?_append_right (by omega), List.getElem?_drop]
      congr 1; omega
/-- Behind so many rows of a tile that is laid. -/
def layTo (G : List Int) (W x y w : Nat) (z : List Int) : Nat → List Int
  | 0 => G
  | r + 1 => over (layTo G W x y w z r) ((y + r) * W + x) ((z.drop (r * w)).take w)
theorem zrow_len (z : List Int) (w h r : Nat) (hz : z.length = w * h) (hr : r < h) : ((z.drop (r * w)).take w).length = w := by
  rw [List.length_take, List.length_drop, hz]
  have : (r + 1) * w ≤ h * w := Nat.mul_le_mul_right _ hr
  rw [Nat.add_mul, Nat.one_mul, Nat.mul_comm h w] at this
  omega
theorem place_fits (W H x y w r : Nat) (hx : x + w ≤ W) (hy : y + r < H) : (y + r) * W + x + w ≤ W * H := by
  have : (y + r + 1) * W ≤ H * W := Nat.mul_le_mul_right _ hy
  rw [Nat.add_mul, Nat.one_mul, Nat.mul_comm H W] at this
  omega
theorem layTo_length (G : List Int) (W H x y w h : Nat) (z : List Int) (hG : G.length = W * H) (hz : z.length = w * h) (hx : x + w ≤ W) (hy : y + h ≤ H) (r : Nat) (hr : r ≤ h) : (layTo G W x y w z r).length = W * H := by
  induction r with
  | zero => exact hG
  | succ r ih =>
    have e := zrow_len z w h r hz (by omega)
    have p := place_fits W H x y w r hx (by omega)
    rw [layTo, over_length _ _ _ (by rw [ih (by omega), e]; exact p), ih (by omega)]

/-- The heights of these places, and 0 elsewhere. -/
def mix (F : List Int) (q : Nat → Bool) : List Int := (List.range F.length).map fun j => if q j then F.getD j 0 else 0
theorem mix_length (F : List Int) (q : Nat → Bool) : (mix F q).length = F.length := by simp [mix]
theorem mix_get (F : List Int) (q : Nat → Bool) (j : Nat) (h : j < F.length) : (mix F q)[j]? = some (if q j then F.getD j 0 else 0) := by simp [mix, h]
theorem mix_congr (F : List Int) (q q' : Nat → Bool) (h : ∀ j, j < F.length → q j = q' j) : mix F q = mix F q' := by
  unfold mix
  refine List.map_congr_left fun j hj => ?_
  rw [h j (List.mem_range.1 hj)]
theorem mix_all (F : List Int) (q : Nat → Bool) (h : ∀ j, j < F.length → q j = true) : mix F q = F := by
  apply List.ext_getElem?
  intro j
  by_cases hj : j < F.length
  · rw [mix_get F q j hj, h j hj, if_pos rfl, List.getElem?_eq_getElem hj, List.getD, List.getElem?_eq_getElem hj]; rfl
  · rw [List.getElem?_eq_none (by rw [mix_length]; omega), List.getElem?_eq_none (by omega)]
theorem mix_none (F : List Int) (q : Nat → Bool) (h : ∀ j, j < F.length → q j = false) : mix F q = List.replicate F.length 0 := by
  apply List.ext_getElem?
  intro j
  by_cases hj : j < F.length
  · rw [mix_get F q j hj, h j hj]; simp [hj]
  · rw [List.getElem?_eq_none (by rw [mix_length]; omega), List.getElem?_eq_none (by simp; omega)]
theorem over_mix (F : List Int) (q : Nat → Bool) (off w : Nat) (h : off + w ≤ F.length) : over (mix F q) off ((F.drop off).take w) = mix F (fun j => q j || decide (off ≤ j ∧ j < off + w)) := by
  have hl : ((F.drop off).take w).length = w := by rw [List.length_take, List.length_drop]; omega
  apply List.ext_getElem?
  intro j
  rw [over_get _ _ _ (by rw [hl, mix_length]; exact h), hl]
  by_cases hj : j < F.length
  · rw [mix_get F (fun j => q j || decide (off ≤ j ∧ j < off + w)) j hj]
    by_cases c : off ≤ j ∧ j < off + w
    · have e : (q j || decide (off ≤ j ∧ j < off + w)) = true := by simp [c]
      have e2 : F.getD j 0 = F[j] := by rw [List.getD, List.getElem?_eq_getElem hj]; rfl
      rw [if_pos c, List.getElem?_take, if_pos (by omega), List.getElem?_drop, show off + (j - off) = j by omega, List.getElem?_eq_getElem hj, if_pos e, e2]
    · have e : (q j || decide (off ≤ j ∧ j < off + w)) = q j := by simp [c]
      rw [if_neg c, mix_get F q j hj, e]
  · rw [List.getElem?_eq_none (l := mix F (fun j => q j || decide (off ≤ j ∧ j < off + w))) (by rw [mix_length]; omega), if_neg (by omega), List.getElem?_eq_none (by rw [mix_length]; omega)]
theorem place_iff (W x w k j : Nat) (hW : x + w ≤ W) (hw : 0 < w) : (k * W + x ≤ j ∧ j < k * W + x + w) ↔ (j / W = k ∧ x ≤ j % W ∧ j % W < x + w) := by
  have hp : 0 < W := by omega
  have hd := Nat.div_add_mod j W
  have hm := Nat.mod_lt j hp
  constructor
  · rintro ⟨h1, h2⟩
    have e : j / W = k := by
      refine Nat.div_eq_of_lt_le ?_ ?_
      · omega
      · rw [Nat.add_mul, Nat.one_mul]; omega
    rw [e, Nat.mul_comm W k] at hd
    exact ⟨e, by omega, by omega⟩
  · rintro ⟨e, h1, h2⟩
    rw [e, Nat.mul_comm W k] at hd
    exact ⟨by omega, by omega⟩
/-- A tile of a field, laid where it lay. -/
theorem layTo_mix (F : List Int) (W H x y w h : Nat) (q : Nat → Bool) (hF : F.length = W * H) (hx : x + w ≤ W) (hw : 0 < w) (hy : y + h ≤ H) (r : Nat) (hr : r ≤ h) :
    layTo (mix F q) W x y w (tileTo F W x y w h) r = mix F (fun j => q j || decide (x ≤ j % W ∧ j % W < x + w ∧ y ≤ j / W ∧ j / W < y + r)) := by
  induction r with
  | zero =>
    rw [layTo]
    refine mix_congr F _ _ fun j _ => ?_
    have : decide (x ≤ j % W ∧ j % W < x + w ∧ y ≤ j / W ∧ j / W < y + 0) = false := by rw [decide_eq_false_iff_not]; omega
    rw [this, Bool.or_false]
  | succ r ih =>
    rw [layTo, ih (by omega), tileTo_row F W H x y w h r hF hx hy (by omega), over_mix F _ _ w (by rw [hF]; exact place_fits W H x y w r hx (by omega))]
    refine mix_congr F _ _ fun j _ => ?_
    have e := place_iff W x w (y + r) j hx hw
    rw [Bool.or_assoc]
    congr 1
    rw [Bool.eq_iff_iff, Bool.or_eq_true, decide_eq_true_iff, decide_eq_true_iff, decide_eq_true_iff, e]
    generalize j / W = a
    generalize j % W = b
    omega

/-! ### The reference's way: all heights are gone through -/
/-- The heights of a row's first n columns that are asked for. -/
def pickRow (F : List Int) (p : Nat → Bool) (at_ n : Nat) : List Int := ((List.range n).filter p).map fun x => F.getD (at_ + x) 0
theorem pickRow_yes (F : List Int) (p : Nat → Bool) (at_ n : Nat) (h : p n = true) : pickRow F p at_ (n + 1) = pickRow F p at_ n ++ [F.getD (at_ + n) 0] := by
  simp [pickRow, List.range_succ, List.filter_append, h]
theorem pickRow_no (F : List Int) (p : Nat → Bool) (at_ n : Nat) (h : p n = false) : pickRow F p at_ (n + 1) = pickRow F p at_ n := by
  simp [pickRow, List.range_succ, List.filter_append, h]
theorem pickRow_le (F : List Int) (p : Nat → Bool) (at_ n : Nat) : (pickRow F p at_ n).length ≤ n := by
  unfold pickRow
  rw [List.length_map]
  exact Nat.le_trans (List.length_filter_le _ _) (by simp)
/-- So many rows; how many columns the last one had that had any; how many had any. -/
def pick (F : List Int) (p : Nat → Nat → Bool) (W : Nat) : Nat → List Int
  | 0 => []
  | y + 1 => pick F p W y ++ pickRow F (p y) (y * W) W
def pickW (F : List Int) (p : Nat → Nat → Bool) (W : Nat) : Nat → Nat
  | 0 => 0
  | y + 1 => if 0 < (pickRow F (p y) (y * W) W).length then (pickRow F (p y) (y * W) W).length else pickW F p W y
def pickH (F : List Int) (p : Nat → Nat → Bool) (W : Nat) : Nat → Nat
  | 0 => 0
  | y + 1 => if 0 < (pickRow F (p y) (y * W) W).length then pickH F p W y + 1 else pickH F p W y
theorem pick_le (F : List Int) (p : Nat → Nat → Bool) (W y : Nat) : (pick F p W y).length ≤ y * W := by
  induction y with
  | zero => simp [pick]
  | succ y ih =>
    have := pickRow_le F (p y) (y * W) W
    rw [pick, List.length_append, Nat.add_mul, Nat.one_mul]
    omega
theorem pickW_le (F : List Int) (p : Nat → Nat → Bool) (W y : Nat) : pickW F p W y ≤ W := by
  induction y with
  | zero => simp [pickW]
  | succ y ih =>
    have := pickRow_le F (p y) (y * W) W
    rw [pickW]
    split <;> omega
theorem pickH_le (F : List Int) (p : Nat → Nat → Bool) (W y : Nat) : pickH F p W y ≤ y := by
  induction y with
  | zero => simp [pickH]
  | succ y ih => rw [pickH]; split <;> omega
/-- Does a height lie in a tile? -/
def inT (X Y : Int) (y x : Nat) : Bool := decide (0 ≤ X ∧ 0 ≤ Y ∧ 16 * X ≤ x ∧ (x : Int) < 16 * X + 16 ∧ 16 * Y ≤ y ∧ (y : Int) < 16 * Y + 16)
theorem pick_off (F : List Int) (p : Nat → Nat → Bool) (W n : Nat) (h : ∀ y x, y < n → x < W → p y x = false) : pick F p W n = [] ∧ pickW F p W n = 0 ∧ pickH F p W n = 0 := by
  induction n with
  | zero => exact ⟨rfl, rfl, rfl⟩
  | succ n ih =>
    obtain ⟨h1, h2, h3⟩ := ih (fun y x hy hx => h y x (by omega) hx)
    have e : pickRow F (p n) (n * W) W = [] := by
      unfold pickRow
      rw [List.filter_eq_nil_iff.2 (fun x hx => by rw [h n x (by omega) (List.mem_range.1 hx)]; decide)]
      rfl
    rw [pick, pickW, pickH, e]
    exact ⟨by rw [h1]; rfl, by simp [h2], by simp [h3]⟩
theorem filter_side (X : Nat) (n : Nat) (p : Nat → Bool) (h : ∀ x, x < n → p x = decide (16 * X ≤ x ∧ x < 16 * X + 16)) : (List.range n).filter p = (List.range (side n X)).map (16 * X + ·) := by
  induction n with
  | zero => simp [side]
  | succ n ih =>
    rw [List.range_succ, List.filter_append, ih (fun x hx => h x (by omega))]
    by_cases c : 16 * X ≤ n ∧ n < 16 * X + 16
    · have e : side (n + 1) X = side n X + 1 := by unfold side; omega
      have e2 : 16 * X + side n X = n := by unfold side; omega
      have hp : p n = true := by rw [h n (by omega)]; simpa using c
      rw [e, List.range_succ, List.map_append, List.map_singleton, e2]
      simp [hp]
    · have e : side (n + 1) X = side n X := by unfold side; omega
      have hp : p n = false := by rw [h n (by omega)]; simpa using fun h1 => by omega
      rw [e]
      simp [hp]
theorem pickRow_in (F : List Int) (W H X Y y : Nat) (hF : F.length = W * H) (hy : y < H) (hy1 : 16 * Y ≤ y) (hy2 : y < 16 * Y + 16) : pickRow F (inT X Y y) (y * W) W = (F.drop (y * W + 16 * X)).take (side W X) := by
  unfold pickRow
  rw [filter_side X W (inT X Y y) (by
    intro x hx
    unfold inT
    rw [Bool.eq_iff_iff, decide_eq_true_iff, decide_eq_true_iff]
    omega), List.map_map]
  by_cases hc : X < cnt W
  · have hs := side_fits W X hc
    have hfit := place_fits W H (16 * X) 0 (side W X) y hs (by omega)
    rw [Nat.zero_add] at hfit
    apply List.ext_getElem?
    intro j
    by_cases hj : j < side W X
    · rw [List.getElem?_take, if_pos hj, List.getElem?_drop, List.getElem?_map, List.getElem?_range hj, List.getElem?_eq_getElem (by omega)]
      simp only [Option.map_some, Function.comp_def, Option.some.injEq]
      rw [← Nat.add_assoc, List.getD, List.getElem?_eq_getElem (by omega)]; rfl
    · rw [List.getElem?_eq_none (by simp; omega), List.getElem?_eq_none (by simp; omega)]
  · rw [side_none W X hc]; simp
theorem pickRow_out (F : List Int) (W X Y y : Nat) (h : ¬ (16 * Y ≤ y ∧ y < 16 * Y + 16)) : pickRow F (inT X Y y) (y * W) W = [] := by
  unfold pickRow
  rw [List.filter_eq_nil_iff.2 (fun x hx => by unfold inT; simp; omega)]
  rfl
theorem pick_tile (F : List Int) (W H X Y : Nat) (hF : F.length = W * H) (hX : X < cnt W) (n : Nat) (hn : n ≤ H) :
    pick F (inT X Y) W n = tileTo F W (16 * X) (16 * Y) (side W X) (side n Y) ∧ pickH F (inT X Y) W n = side n Y ∧ pickW F (inT X Y) W n = if 0 < side n Y then side W X else 0 := by
  have hs := (side_pos W X).2 hX
  induction n with
  | zero => simp [pick, pickW, pickH, side, tileTo]
  | succ n ih =>
    obtain ⟨h1, h2, h3⟩ := ih (by omega)
    rw [pick, pickW, pickH]
    by_cases c : 16 * Y ≤ n ∧ n < 16 * Y + 16
    · have e : side (n + 1) Y = side n Y + 1 := by unfold side; omega
      have e2 : 16 * Y + side n Y = n := by unfold side; omega
      have hr := pickRow_in F W H X Y n hF (by omega) c.1 c.2
      have hl := row_len F W H (16 * X) (16 * Y) (side W X) (side n Y) hF (side_fits W X hX) (by omega)
      rw [e2] at hl
      rw [hr, hl, if_pos hs, if_pos hs, e, h1, h2, tileTo, e2]
      exact ⟨rfl, rfl, by rw [if_pos (by omega)]⟩
    · have e : side (n + 1) Y = side n Y := by unfold side; omega
      rw [pickRow_out F W X Y n c, e]
      exact ⟨by rw [List.append_nil]; exact h1, by simpa using h2, by simpa using h3⟩
end Go.Th
