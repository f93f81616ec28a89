/-
  A map as bytes: header, directory and tiles; what any bytes say; what a turned one does not: plain.
-/
import Derived.Test.YtdknnfineommoaaPackCrc
import Derived.Test.YtdknnfineommoaaPackTile
set_option linter.unusedVariables false
set_option linter.unusedSimpArgs false
namespace Go.Proofs.Ytdknnfineommoaa
open Go.RowKit Go.Th Go.Th.Crc

/-- The number of so many bytes from one on, the lowest first. -/
def rd (bs : List Nat) (at_ k : Nat) : Nat := leVal ((bs.drop at_).take k)
theorem rd_mid (A C : List Nat) (x k : Nat) : rd (A ++ (lowB x k ++ C)) A.length k = x % 256 ^ k := by
  unfold rd
  rw [List.drop_append_of_le_length (Nat.le_refl _), List.drop_length, List.nil_append, List.take_append_of_le_length (by rw [lowB_length]; exact Nat.le_refl _), List.take_of_length_le (by rw [lowB_length]; exact Nat.le_refl _), leVal_lowB]
theorem rd_at {bs A C : List Nat} {x k n : Nat} (h : bs = A ++ (lowB x k ++ C)) (hn : n = A.length) (hx : x < 256 ^ k) : rd bs n k = x := by
  subst h hn; rw [rd_mid, Nat.mod_eq_of_lt hx]
theorem rd_same {a b : List Nat} {at_ k : Nat} (h : ∀ j, at_ ≤ j → j < at_ + k → a[j]? = b[j]?) : rd a at_ k = rd b at_ k := by
  unfold rd
  congr 1
  apply List.ext_getElem?
  intro j
  rw [List.getElem?_take, List.getElem?_take]
  by_cases hj : j < k
  · rw [if_pos hj, if_pos hj, List.getElem?_drop, List.getElem?_drop]
    exact h _ (by omega) (by omega)
  · rw [if_neg hj, if_neg hj]

/-! ### A map -/
def u32 (x : Int) : Nat := (x % 4294967296).toNat
theorem u32_lt (x : Int) : u32 x < 4294967296 := by unfold u32; omega
def nT (W H : Nat) : Nat := cnt W * cnt H
def headLen (W H : Nat) : Nat := 18 + 6 * nT W H + 4
/-- The heights of the i-th tile, its bytes with their sum. -/
def tileAt (F : List Int) (W H i : Nat) : List Int := tileTo F W (16 * (i % cnt W)) (16 * (i / cnt W)) (side W (i % cnt W)) (side H (i / cnt W))
def tileB (F : List Int) (W H i : Nat) : List Nat := putB (pack (row (deltas (side W (i % cnt W)) (tileAt F W H i))))
def bodyTo (F : List Int) (W H : Nat) : Nat → List Nat
  | 0 => []
  | i + 1 => bodyTo F W H i ++ tileB F W H i
def head18 (W H cell : Nat) (ox oy : Int) : List Nat := lowB 1296978516 4 ++ (lowB W 2 ++ (lowB H 2 ++ (lowB cell 2 ++ (lowB (u32 ox) 4 ++ lowB (u32 oy) 4))))
def dirTo (F : List Int) (W H cell : Nat) (ox oy : Int) : Nat → List Nat
  | 0 => head18 W H cell ox oy
  | i + 1 => dirTo F W H cell ox oy i ++ (lowB (headLen W H + (bodyTo F W H i).length) 4 ++ lowB (tileB F W H i).length 2)
def chartB (F : List Int) (W H cell : Nat) (ox oy : Int) : List Nat := putB (dirTo F W H cell ox oy (nT W H)) ++ bodyTo F W H (nT W H)

section
variable (F : List Int) (W H cell : Nat) (ox oy : Int)
theorem head18_length : (head18 W H cell ox oy).length = 18 := by simp [head18, lowB_length]
theorem dirTo_length (i : Nat) : (dirTo F W H cell ox oy i).length = 18 + 6 * i := by
  induction i with
  | zero => exact head18_length W H cell ox oy
  | succ i ih => rw [dirTo, List.length_append, ih, List.length_append, lowB_length, lowB_length]; omega
theorem dirTo_more (i n : Nat) (h : i ≤ n) : ∃ r, dirTo F W H cell ox oy n = dirTo F W H cell ox oy i ++ r := by
  induction n with
  | zero => obtain rfl : i = 0 := by omega
            exact ⟨[], by simp⟩
  | succ n ih =>
    by_cases e : i = n + 1
    · subst e; exact ⟨[], by simp⟩
    · obtain ⟨r, hr⟩ := ih (by omega)
      exact ⟨r ++ (lowB (headLen W H + (bodyTo F W H n).length) 4 ++ lowB (tileB F W H n).length 2), by rw [dirTo, hr, List.append_assoc]⟩
theorem bodyTo_more (i n : Nat) (h : i ≤ n) : ∃ r, bodyTo F W H n = bodyTo F W H i ++ r := by
  induction n with
  | zero => obtain rfl : i = 0 := by omega
            exact ⟨[], by simp⟩
  | succ n ih =>
    by_cases e : i = n + 1
    · subst e; exact ⟨[], by simp⟩
    · obtain ⟨r, hr⟩ := ih (by omega)
      exact ⟨r ++ tileB F W H n, by rw [bodyTo, hr, List.append_assoc]⟩
theorem chartB_more (i : Nat) (h : i ≤ nT W H) : ∃ r, chartB F W H cell ox oy = dirTo F W H cell ox oy i ++ r := by
  obtain ⟨r, hr⟩ := dirTo_more F W H cell ox oy i _ h
  exact ⟨r ++ (tail4 (sumB (dirTo F W H cell ox oy (nT W H))) ++ bodyTo F W H (nT W H)), by unfold chartB putB; rw [hr, List.append_assoc, List.append_assoc]⟩
theorem head_length : (putB (dirTo F W H cell ox oy (nT W H))).length = headLen W H := by rw [putB_length, dirTo_length]; rfl
theorem chartB_take : (chartB F W H cell ox oy).take (headLen W H) = putB (dirTo F W H cell ox oy (nT W H)) := by
  unfold chartB
  rw [List.take_append_of_le_length (by rw [head_length]; exact Nat.le_refl _), List.take_of_length_le (by rw [head_length]; exact Nat.le_refl _)]
theorem chartB_length : (chartB F W H cell ox oy).length = headLen W H + (bodyTo F W H (nT W H)).length := by
  unfold chartB; rw [List.length_append, head_length]
/-- A tile's bytes lie where the directory says. -/
theorem chartB_tile (i : Nat) (h : i < nT W H) : ((chartB F W H cell ox oy).drop (headLen W H + (bodyTo F W H i).length)).take (tileB F W H i).length = tileB F W H i := by
  obtain ⟨r, hr⟩ := bodyTo_more F W H (i + 1) _ h
  have e : chartB F W H cell ox oy = (putB (dirTo F W H cell ox oy (nT W H)) ++ bodyTo F W H i) ++ (tileB F W H i ++ r) := by
    unfold chartB; rw [hr, bodyTo]; simp only [List.append_assoc]
  rw [e, List.drop_append_of_le_length (by rw [List.length_append, head_length]; exact Nat.le_refl _), List.drop_of_length_le (by rw [List.length_append, head_length]; exact Nat.le_refl _), List.nil_append, List.take_append_of_le_length (Nat.le_refl _), List.take_length]
end

theorem tileAt_length (F : List Int) (W H i : Nat) (hF : F.length = W * H) (h : i < nT W H) : (tileAt F W H i).length = side H (i / cnt W) * side W (i % cnt W) := by
  have hc : 0 < cnt W := by rcases Nat.eq_zero_or_pos (cnt W) with e | e; · simp [nT, e] at h
                            · exact e
  have h1 : i % cnt W < cnt W := Nat.mod_lt _ hc
  have h2 : i / cnt W < cnt H := (Nat.div_lt_iff_lt_mul hc).2 (by rw [Nat.mul_comm]; exact h)
  exact tileTo_length F W H _ _ _ _ hF (side_fits W _ h1) (side_fits H _ h2)
theorem tileB_length (F : List Int) (W H i : Nat) (hF : F.length = W * H) (h : i < nT W H) : 4 ≤ (tileB F W H i).length ∧ (tileB F W H i).length ≤ 1300 := by
  have hl := tileAt_length F W H i hF h
  have h1 := side_le W (i % cnt W)
  have h2 := side_le H (i / cnt W)
  have h3 := Nat.mul_le_mul h2 h1
  have hd := deltas_length (side W (i % cnt W)) (tileAt F W H i)
  unfold tileB
  obtain ⟨D, hD⟩ : ∃ D, D = deltas (side W (i % cnt W)) (tileAt F W H i) := ⟨_, rfl⟩
  rw [← hD] at hd ⊢
  have h4 := row_length D
  have h5 := sizes_le D (best D) (best_le D)
  rw [putB_length, pack_length]
  omega
theorem bodyTo_length (F : List Int) (W H i : Nat) (hF : F.length = W * H) (h : i ≤ nT W H) : (bodyTo F W H i).length ≤ 1300 * i := by
  induction i with
  | zero => simp [bodyTo]
  | succ i ih =>
    have := (tileB_length F W H i hF (by omega)).2
    have := ih (by omega)
    rw [bodyTo, List.length_append]; omega
theorem tileB_lt (F : List Int) (W H i : Nat) : ∀ x ∈ tileB F W H i, x < 256 := putB_lt _ (pack_lt _)
theorem bodyTo_lt (F : List Int) (W H i : Nat) : ∀ x ∈ bodyTo F W H i, x < 256 := by
  induction i with
  | zero => intro x hx; cases hx
  | succ i ih =>
    intro x hx
    rcases List.mem_append.1 hx with hx | hx
    · exact ih x hx
    · exact tileB_lt F W H i x hx
theorem head18_lt (W H cell : Nat) (ox oy : Int) : ∀ x ∈ head18 W H cell ox oy, x < 256 := by
  intro x hx
  unfold head18 at hx
  simp only [List.mem_append] at hx
  rcases hx with h | h | h | h | h | h <;> exact lowB_lt _ _ x h
theorem dirTo_lt (F : List Int) (W H cell : Nat) (ox oy : Int) (i : Nat) : ∀ x ∈ dirTo F W H cell ox oy i, x < 256 := by
  induction i with
  | zero => exact head18_lt W H cell ox oy
  | succ i ih =>
    intro x hx
    rw [dirTo] at hx
    simp only [List.mem_append] at hx
    rcases hx with h | h | h
    · exact ih x h
    · exact lowB_lt _ _ x h
    · exact lowB_lt _ _ x h
theorem chartB_lt (F : List Int) (W H cell : Nat) (ox oy : Int) : ∀ x ∈ chartB F W H cell ox oy, x < 256 := by
  intro x hx
  rcases List.mem_append.1 hx with hx | hx
  · exact putB_lt _ (dirTo_lt F W H cell ox oy _) x hx
  · exact bodyTo_lt F W H _ x hx

/-! ### What any bytes say -/
/-- Where the i-th tile begins, by how many bytes those ahead of it have. -/
def offs (bs : List Nat) (W H : Nat) : Nat → Nat
  | 0 => headLen W H
  | i + 1 => offs bs W H i + rd bs (18 + 6 * i + 4) 2
structure Opens (bs : List Nat) (W H cell : Nat) : Prop where
  big : 18 ≤ bs.length
  magic : rd bs 0 4 = 1296978516
  w : rd bs 4 2 = W
  h : rd bs 6 2 = H
  c : rd bs 8 2 = cell
  wr : 2 ≤ W ∧ W ≤ 256
  hr : 2 ≤ H ∧ H ≤ 256
  cr : 1 ≤ cell ∧ cell ≤ 1000
  head : headLen W H ≤ bs.length
  sum : okB (bs.take (headLen W H)) = true
  dir : ∀ i, i < nT W H → rd bs (18 + 6 * i) 4 = offs bs W H i
  last : offs bs W H (nT W H) = bs.length
/-- The bytes of the i-th tile, with their sum. -/
def tb (bs : List Nat) (W H i : Nat) : List Nat := (bs.drop (offs bs W H i)).take (rd bs (18 + 6 * i + 4) 2)
/-- A header, a directory, and all tiles with their sums. -/
def Gets (bs : List Nat) : Prop := ∃ W H cell, Opens bs W H cell ∧ ∀ i, i < nT W H → okB (tb bs W H i) = true
theorem Opens.only {bs : List Nat} {W H cell W' H' cell' : Nat} (h : Opens bs W H cell) (h' : Opens bs W' H' cell') : W = W' ∧ H = H' ∧ cell = cell' := ⟨h.w.symm.trans h'.w, h.h.symm.trans h'.h, h.c.symm.trans h'.c⟩

section
variable {F : List Int} {W H cell : Nat} {ox oy : Int}
theorem nT_le (hW : W ≤ 256) (hH : H ≤ 256) : nT W H ≤ 256 := by
  have h1 := cnt_le W
  have h2 := cnt_le H
  have : nT W H ≤ 16 * 16 := Nat.mul_le_mul (by omega) (by omega)
  omega
theorem nT_pos (hW : 0 < W) (hH : 0 < H) : 0 < nT W H := by
  have h1 := cnt_ge W
  have h2 := cnt_ge H
  exact Nat.mul_pos (by omega) (by omega)
theorem rd_head (hW : W ≤ 256) (hH : H ≤ 256) (hc : cell ≤ 1000) {bs r : List Nat} (hb : bs = head18 W H cell ox oy ++ r) :
    rd bs 0 4 = 1296978516 ∧ rd bs 4 2 = W ∧ rd bs 6 2 = H ∧ rd bs 8 2 = cell ∧ rd bs 10 4 = u32 ox ∧ rd bs 14 4 = u32 oy := by
  have e16 : (256 : Nat) ^ 2 = 65536 := by decide
  have e32 : (256 : Nat) ^ 4 = 4294967296 := by decide
  have u1 := u32_lt ox
  have u2 := u32_lt oy
  unfold head18 at hb
  simp only [List.append_assoc] at hb
  obtain ⟨g0, h0⟩ : ∃ g, g = lowB 1296978516 4 := ⟨_, rfl⟩
  obtain ⟨g1, h1⟩ : ∃ g, g = lowB W 2 := ⟨_, rfl⟩
  obtain ⟨g2, h2⟩ : ∃ g, g = lowB H 2 := ⟨_, rfl⟩
  obtain ⟨g3, h3⟩ : ∃ g, g = lowB cell 2 := ⟨_, rfl⟩
  obtain ⟨g4, h4⟩ : ∃ g, g = lowB (u32 ox) 4 := ⟨_, rfl⟩
  obtain ⟨g5, h5⟩ : ∃ g, g = lowB (u32 oy) 4 := ⟨_, rfl⟩
  rw [← h0, ← h1, ← h2, ← h3, ← h4, ← h5] at hb
  have l0 : g0.length = 4 := by rw [h0, lowB_length]
  have l1 : g1.length = 2 := by rw [h1, lowB_length]
  have l2 : g2.length = 2 := by rw [h2, lowB_length]
  have l3 : g3.length = 2 := by rw [h3, lowB_length]
  have l4 : g4.length = 4 := by rw [h4, lowB_length]
  refine ⟨?_, ?_, ?_, ?_, ?_, ?_⟩
  · refine rd_at (A := []) (C := g1 ++ (g2 ++ (g3 ++ (g4 ++ (g5 ++ r))))) ?_ rfl (by rw [e32]; omega)
    rw [hb, List.nil_append, h0]
  · refine rd_at (A := g0) (C := g2 ++ (g3 ++ (g4 ++ (g5 ++ r)))) ?_ (by omega) (by rw [e16]; omega)
    rw [hb, h1]
  · refine rd_at (A := g0 ++ g1) (C := g3 ++ (g4 ++ (g5 ++ r))) ?_ (by rw [List.length_append]; omega) (by rw [e16]; omega)
    rw [hb, ← h2, List.append_assoc]
  · refine rd_at (A := g0 ++ (g1 ++ g2)) (C := g4 ++ (g5 ++ r)) ?_ (by rw [List.length_append, List.length_append]; omega) (by rw [e16]; omega)
    rw [hb, ← h3, List.append_assoc, List.append_assoc]
  · refine rd_at (A := g0 ++ (g1 ++ (g2 ++ g3))) (C := g5 ++ r) ?_ (by rw [List.length_append, List.length_append, List.length_append]; omega) (by rw [e32]; omega)
    rw [hb, ← h4, List.append_assoc, List.append_assoc, List.append_assoc]
  · refine rd_at (A := g0 ++ (g1 ++ (g2 ++ (g3 ++ g4)))) (C := r) ?_ (by rw [List.length_append, List.length_append, List.length_append, List.length_append]; omega) (by rw [e32]; omega)
    rw [hb, ← h5, List.append_assoc, List.append_assoc, List.append_assoc, List.append_assoc]
theorem rd_entry (hF : F.length = W * H) (hW : W ≤ 256) (hH : H ≤ 256) (i : Nat) (h : i < nT W H) :
    rd (chartB F W H cell ox oy) (18 + 6 * i) 4 = headLen W H + (bodyTo F W H i).length ∧ rd (chartB F W H cell ox oy) (18 + 6 * i + 4) 2 = (tileB F W H i).length := by
  have e16 : (256 : Nat) ^ 2 = 65536 := by decide
  have e32 : (256 : Nat) ^ 4 = 4294967296 := by decide
  obtain ⟨r, hr⟩ := chartB_more F W H cell ox oy (i + 1) h
  have hn := nT_le hW hH
  have h1 := bodyTo_length F W H i hF (by omega)
  have h2 := (tileB_length F W H i hF h).2
  have h3 : headLen W H = 22 + 6 * nT W H := by unfold headLen; omega
  rw [dirTo] at hr
  obtain ⟨D, hD⟩ : ∃ D, D = dirTo F W H cell ox oy i := ⟨_, rfl⟩
  obtain ⟨g0, h0⟩ : ∃ g, g = lowB (headLen W H + (bodyTo F W H i).length) 4 := ⟨_, rfl⟩
  obtain ⟨g1, h1'⟩ : ∃ g, g = lowB (tileB F W H i).length 2 := ⟨_, rfl⟩
  have hDl : D.length = 18 + 6 * i := by rw [hD]; exact dirTo_length F W H cell ox oy i
  have l0 : g0.length = 4 := by rw [h0, lowB_length]
  rw [← hD, ← h0, ← h1'] at hr
  constructor
  · refine rd_at (A := D) (C := g1 ++ r) ?_ hDl.symm (by rw [e32]; omega)
    rw [hr, ← h0, List.append_assoc, List.append_assoc]
  · refine rd_at (A := D ++ g0) (C := r) ?_ (by rw [List.length_append]; omega) (by rw [e16]; omega)
    rw [hr, ← h1', List.append_assoc, List.append_assoc, List.append_assoc]
theorem offs_chart (hF : F.length = W * H) (hW : W ≤ 256) (hH : H ≤ 256) (i : Nat) (h : i ≤ nT W H) : offs (chartB F W H cell ox oy) W H i = headLen W H + (bodyTo F W H i).length := by
  induction i with
  | zero => simp [offs, bodyTo]
  | succ i ih =>
    rw [offs, ih (by omega), (rd_entry hF hW hH i h).2, bodyTo, List.length_append, Nat.add_assoc]
theorem opens_chart (hF : F.length = W * H) (hW : 2 ≤ W ∧ W ≤ 256) (hH : 2 ≤ H ∧ H ≤ 256) (hc : 1 ≤ cell ∧ cell ≤ 1000) : Opens (chartB F W H cell ox oy) W H cell := by
  obtain ⟨r, hr⟩ := chartB_more F W H cell ox oy 0 (Nat.zero_le _)
  obtain ⟨r1, r2, r3, r4, _, _⟩ := rd_head (ox := ox) (oy := oy) hW.2 hH.2 hc.2 hr
  have hl := chartB_length F W H cell ox oy
  have h3 : headLen W H = 22 + 6 * nT W H := by unfold headLen; omega
  refine ⟨by omega, r1, r2, r3, r4, hW, hH, hc, by omega, by rw [chartB_take]; exact okB_putB _, fun i hi => ?_, ?_⟩
  · rw [(rd_entry hF hW.2 hH.2 i hi).1, offs_chart hF hW.2 hH.2 i (by omega)]
  · rw [offs_chart hF hW.2 hH.2 _ (Nat.le_refl _), hl]
theorem tb_chart (hF : F.length = W * H) (hW : W ≤ 256) (hH : H ≤ 256) (i : Nat) (h : i < nT W H) : tb (chartB F W H cell ox oy) W H i = tileB F W H i := by
  unfold tb
  rw [(rd_entry hF hW hH i h).2, offs_chart hF hW hH i (by omega)]
  exact chartB_tile F W H cell ox oy i h
end

/-! ### Turned bits are told -/
theorem offs_same {a b : List Nat} {W H : Nat} (i : Nat) (h : ∀ j, j < 18 + 6 * i → a[j]? = b[j]?) : offs a W H i = offs b W H i := by
  induction i with
  | zero => rfl
  | succ i ih => rw [offs, offs, ih (fun j hj => h j (by omega)), rd_same (fun j h1 h2 => h j (by omega))]
/-- A tile with a wrong sum: no map. -/
theorem tile_told (F : List Int) (W H cell : Nat) (ox oy : Int) (hF : F.length = W * H) (hW : 2 ≤ W ∧ W ≤ 256) (hH : 2 ≤ H ∧ H ≤ 256) (hc : 1 ≤ cell ∧ cell ≤ 1000) (i : Nat) (hi : i < nT W H) (bs s : List Nat)
    (hl : s.length = (tileB F W H i).length) (hs : okB s = false) (hb : bs = (chartB F W H cell ox oy).take (headLen W H + (bodyTo F W H i).length) ++ (s ++ (chartB F W H cell ox oy).drop (headLen W H + (bodyTo F W H i).length + s.length))) : ¬ Gets bs := by
  rintro ⟨W', H', cell', ho, hg⟩
  have hO := opens_chart (ox := ox) (oy := oy) hF hW hH hc
  have hcl := chartB_length F W H cell ox oy
  obtain ⟨r, hr⟩ := bodyTo_more F W H (i + 1) _ hi
  have hbl := congrArg List.length hr
  rw [bodyTo, List.length_append, List.length_append] at hbl
  obtain ⟨A, hA⟩ : ∃ A, A = headLen W H + (bodyTo F W H i).length := ⟨_, rfl⟩
  have hAl : A ≤ (chartB F W H cell ox oy).length := by omega
  rw [← hA] at hb
  have h3 : headLen W H = 22 + 6 * nT W H := by unfold headLen; omega
  have hsame : ∀ j, j < A → bs[j]? = (chartB F W H cell ox oy)[j]? := by
    intro j hj
    rw [hb, List.getElem?_append_left (by rw [List.length_take]; omega), List.getElem?_take, if_pos hj]
  have hlow : ∀ at_ k, at_ + k ≤ A → rd bs at_ k = rd (chartB F W H cell ox oy) at_ k := fun at_ k h => rd_same (fun j h1 h2 => hsame j (by omega))
  obtain rfl : W = W' := by rw [← ho.w, ← hO.w, hlow 4 2 (by omega)]
  obtain rfl : H = H' := by rw [← ho.h, ← hO.h, hlow 6 2 (by omega)]
  have hof : offs bs W H i = A := by
    rw [offs_same i (b := chartB F W H cell ox oy) (fun j hj => hsame j (by omega)), offs_chart hF hW.2 hH.2 i (by omega), hA]
  have hsz : rd bs (18 + 6 * i + 4) 2 = s.length := by rw [hlow _ _ (by omega), (rd_entry hF hW.2 hH.2 i hi).2, hl]
  have ht := hg i hi
  unfold tb at ht
  rw [hof, hsz, hb, List.drop_append_of_le_length (by rw [List.length_take]; omega), List.drop_of_length_le (by rw [List.length_take]; omega), List.nil_append, List.take_append_of_le_length (Nat.le_refl _), List.take_length, hs] at ht
  cases ht
/-- A header or directory with turned bits, all within 32 of each other: no map. -/
theorem head_told (F : List Int) (W H cell : Nat) (ox oy : Int) (hF : F.length = W * H) (hW : 2 ≤ W ∧ W ≤ 256) (hH : 2 ≤ H ∧ H ≤ 256) (hc : 1 ≤ cell ∧ cell ≤ 1000) (n : Nat) (bs s : List Nat)
    (hl : s.length = headLen W H) (hs : okB s = false) (hb : bs = s ++ bodyTo F W H (nT W H)) (hw : ∀ j, j < n / 8 ∨ (n + 31) / 8 < j → s[j]? = (chartB F W H cell ox oy)[j]?) : ¬ Gets bs := by
  rintro ⟨W', H', cell', ho, hg⟩
  have hO := opens_chart (ox := ox) (oy := oy) hF hW hH hc
  have h3 : headLen W H = 22 + 6 * nT W H := by unfold headLen; omega
  have hn := nT_pos (W := W) (H := H) (by omega) (by omega)
  have hbs : ∀ j, j < headLen W H → bs[j]? = s[j]? := fun j hj => by rw [hb, List.getElem?_append_left (by omega)]
  by_cases hh : headLen W' H' = headLen W H
  · have := ho.sum
    rw [hh, hb, List.take_append_of_le_length (by omega), List.take_of_length_le (by omega), hs] at this
    cases this
  · have hchg : n / 8 ≤ 7 := by
      refine Classical.byContradiction fun h => hh ?_
      have hsm : ∀ j, j < 8 → bs[j]? = (chartB F W H cell ox oy)[j]? := fun j hj => (hbs j (by omega)).trans (hw j (.inl (by omega)))
      have e1 : W' = W := by rw [← ho.w, ← hO.w]; exact rd_same (fun j h1 h2 => hsm j (by omega))
      have e2 : H' = H := by rw [← ho.h, ← hO.h]; exact rd_same (fun j h1 h2 => hsm j (by omega))
      rw [e1, e2]
    have hn' := nT_pos (W := W') (H := H') (by have := ho.wr; omega) (by have := ho.hr; omega)
    have e1 := ho.dir 0 hn'
    have e2 := hO.dir 0 hn
    have e3 : rd bs (18 + 6 * 0) 4 = rd (chartB F W H cell ox oy) (18 + 6 * 0) 4 := rd_same (fun j h1 h2 => (hbs j (by omega)).trans (hw j (.inr (by omega))))
    rw [e3, e2] at e1
    exact hh e1.symm
end Go.Proofs.Ytdknnfineommoaa
