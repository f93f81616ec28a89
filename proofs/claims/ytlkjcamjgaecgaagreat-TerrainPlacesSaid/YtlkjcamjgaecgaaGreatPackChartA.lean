/-
  Texts in one: ChartSpec, ChartT, ChartA, ChartB, ChartC, ChartP, ChartO, ChartU.
-/
import Derived.Test.YtlkjcamjgaecgaaGreatPackCrc
import Derived.Test.YtlkjcamjgaecgaaGreatPackTile
import Derived.Test.YtlkjcamjgaecgaaGreatPackBits
import Derived.Deep.QuietTactic
import Derived.BigQuiet
import Derived.Deep.Cut
set_option linter.unusedVariables false
set_option linter.unusedSimpArgs false

/-
  A map as bytes: header, directory and tiles; what any bytes say; what a turned one does not: plain.
-/
namespace Go.Proofs.YtlkjcamjgaecgaaGreat
open Go.RowKit Go.Th Go.Th.Crc

/-- The number of so many bytes from one on, the lowest first. -/
def rd (bs : List Nat) (at_ k : Nat) : Nat := leVal ((bs.drop at_).take k)
theorem rd_mid (A C : List Nat) (x k : Nat) : rd (A ++ (lowB x k ++ C)) A.length k = x % 256 ^ k := by
  unfold rd
  rw [List.drop_append_of_le_length (Nat.le_refl _), List.drop_length, List.nil_append, List.take_append_of_le_length (by rw [lowB_length]; exact Nat.le_refl _), List.take_of_length_le (by rw [lowB_length]; exact Nat.le_refl _), leVal_lowB]
theorem rd_at {bs A C : List Nat} {x k n : Nat} (h : bs = A ++ (lowB x k ++ C)) (hn : n = A.length) (hx : x < 256 ^ k) : rd bs n k = x := by
  subst h hn; rw [rd_mid, Nat.mod_eq_of_lt hx]
theorem rd_same {a b : List Nat} {at_ k : Nat} (h : ∀ j, at_ ≤ j → j < at_ + k → a[j]? = b[j]?) : rd a at_ k = rd b at_ k := by
  unfold rd
  congr 1
  apply List.ext_getElem?
  intro j
  rw [List.getElem?_take, List.getElem?_take]
  by_cases hj : j < k
  · rw [if_pos hj, if_pos hj, List.getElem?_drop, List.getElem?_drop]
    exact h _ (by omega) (by omega)
  · rw [if_neg hj, if_neg hj]

/-! ### A map -/
def u32 (x : Int) : Nat := (x % 4294967296).toNat
theorem u32_lt (x : Int) : u32 x < 4294967296 := by unfold u32; omega
def nT (W H : Nat) : Nat := cnt W * cnt H
def headLen (W H : Nat) : Nat := 18 + 6 * nT W H + 4
/-- The heights of the i-th tile, its bytes with their sum. -/
def tileAt (F : List Int) (W H i : Nat) : List Int := tileTo F W (16 * (i % cnt W)) (16 * (i / cnt W)) (side W (i % cnt W)) (side H (i / cnt W))
def tileB (F : List Int) (W H i : Nat) : List Nat := putB (pack (row (deltas (side W (i % cnt W)) (tileAt F W H i))))
def bodyTo (F : List Int) (W H : Nat) : Nat → List Nat
  | 0 => []
  | i + 1 => bodyTo F W H i ++ tileB F W H i
def head18 (W H cell : Nat) (ox oy : Int) : List Nat := lowB 1296978516 4 ++ (lowB W 2 ++ (lowB H 2 ++ (lowB cell 2 ++ (lowB (u32 ox) 4 ++ lowB (u32 oy) 4))))
def dirTo (F : List Int) (W H cell : Nat) (ox oy : Int) : Nat → List Nat
  | 0 => head18 W H cell ox oy
  | i + 1 => dirTo F W H cell ox oy i ++ (lowB (headLen W H + (bodyTo F W H i).length) 4 ++ lowB (tileB F W H i).length 2)
def chartB (F : List Int) (W H cell : Nat) (ox oy : Int) : List Nat := putB (dirTo F W H cell ox oy (nT W H)) ++ bodyTo F W H (nT W H)

section
variable (F : List Int) (W H cell : Nat) (ox oy : Int)
theorem head18_length : (head18 W H cell ox oy).length = 18 := by simp [head18, lowB_length]
theorem dirTo_length (i : Nat) : (dirTo F W H cell ox oy i).length = 18 + 6 * i := by
  induction i with
  | zero => exact head18_length W H cell ox oy
  | succ i ih => rw [dirTo, List.length_append, ih, List.length_append, lowB_length, lowB_length]; omega
theorem dirTo_more (i n : Nat) (h : i ≤ n) : ∃ r, dirTo F W H cell ox oy n = dirTo F W H cell ox oy i ++ r := by
  induction n with
  | zero => obtain rfl : i = 0 := by omega
            exact ⟨[], by simp⟩
  | succ n ih =>
    by_cases e : i = n + 1
    · subst e; exact ⟨[], by simp⟩
    · obtain ⟨r, hr⟩ := ih (by omega)
      exact ⟨r ++ (lowB (headLen W H + (bodyTo F W H n).length) 4 ++ lowB (tileB F W H n).length 2), by rw [dirTo, hr, List.append_assoc]⟩
theorem bodyTo_more (i n : Nat) (h : i ≤ n) : ∃ r, bodyTo F W H n = bodyTo F W H i ++ r := by
  induction n with
  | zero => obtain rfl : i = 0 := by omega
            exact ⟨[], by simp⟩
  | succ n ih =>
    by_cases e : i = n + 1
    · subst e; exact ⟨[], by simp⟩
    · obtain ⟨r, hr⟩ := ih (by omega)
      exact ⟨r ++ tileB F W H n, by rw [bodyTo, hr, List.append_assoc]⟩
theorem chartB_more (i : Nat) (h : i ≤ nT W H) : ∃ r, chartB F W H cell ox oy = dirTo F W H cell ox oy i ++ r := by
  obtain ⟨r, hr⟩ := dirTo_more F W H cell ox oy i _ h
  exact ⟨r ++ (tail4 (sumB (dirTo F W H cell ox oy (nT W H))) ++ bodyTo F W H (nT W H)), by unfold chartB putB; rw [hr, List.append_assoc, List.append_assoc]⟩
theorem head_length : (putB (dirTo F W H cell ox oy (nT W H))).length = headLen W H := by rw [putB_length, dirTo_length]; rfl
theorem chartB_take : (chartB F W H cell ox oy).take (headLen W H) = putB (dirTo F W H cell ox oy (nT W H)) := by
  unfold chartB
  rw [List.take_append_of_le_length (by rw [head_length]; exact Nat.le_refl _), List.take_of_length_le (by rw [head_length]; exact Nat.le_refl _)]
theorem chartB_length : (chartB F W H cell ox oy).length = headLen W H + (bodyTo F W H (nT W H)).length := by
  unfold chartB; rw [List.length_append, head_length]
/-- A tile's bytes lie where the directory says. -/
theorem chartB_tile (i : Nat) (h : i < nT W H) : ((chartB F W H cell ox oy).drop (headLen W H + (bodyTo F W H i).length)).take (tileB F W H i).length = tileB F W H i := by
  obtain ⟨r, hr⟩ := bodyTo_more F W H (i + 1) _ h
  have e : chartB F W H cell ox oy = (putB (dirTo F W H cell ox oy (nT W H)) ++ bodyTo F W H i) ++ (tileB F W H i ++ r) := by
    unfold chartB; rw [hr, bodyTo]; simp only [List.append_assoc]
  rw [e, List.drop_append_of_le_length (by rw [List.length_append, head_length]; exact Nat.le_refl _), List.drop_of_length_le (by rw [List.length_append, head_length]; exact Nat.le_refl _), List.nil_append, List.take_append_of_le_length (Nat.le_refl _), List.take_length]
end

theorem tileAt_length (F : List Int) (W H i : Nat) (hF : F.length = W * H) (h : i < nT W H) : (tileAt F W H i).length = side H (i / cnt W) * side W (i % cnt W) := by
  have hc : 0 < cnt W := by rcases Nat.eq_zero_or_pos (cnt W) with e | e; · simp [nT, e] at h
                            · exact e
  have h1 : i % cnt W < cnt W := Nat.mod_lt _ hc
  have h2 : i / cnt W < cnt H := (Nat.div_lt_iff_lt_mul hc).2 (by rw [Nat.mul_comm]; exact h)
  exact tileTo_length F W H _ _ _ _ hF (side_fits W _ h1) (side_fits H _ h2)
theorem tileB_length (F : List Int) (W H i : Nat) (hF : F.length = W * H) (h : i < nT W H) : 4 ≤ (tileB F W H i).length ∧ (tileB F W H i).length ≤ 1300 := by
  have hl := tileAt_length F W H i hF h
  have h1 := side_le W (i % cnt W)
  have h2 := side_le H (i / cnt W)
  have h3 := Nat.mul_le_mul h2 h1
  have hd := deltas_length (side W (i % cnt W)) (tileAt F W H i)
  unfold tileB
  obtain ⟨D, hD⟩ : ∃ D, D = deltas (side W (i % cnt W)) (tileAt F W H i) := ⟨_, rfl⟩
  rw [← hD] at hd ⊢
  have h4 := row_length D
  have h5 := sizes_le D (best D) (best_le D)
  rw [putB_length, pack_length]
  omega
theorem bodyTo_length (F : List Int) (W H i : Nat) (hF : F.length = W * H) (h : i ≤ nT W H) : (bodyTo F W H i).length ≤ 1300 * i := by
  induction i with
  | zero => simp [bodyTo]
  | succ i ih =>
    have := (tileB_length F W H i hF (by omega)).2
    have := ih (by omega)
    rw [bodyTo, List.length_append]; omega
theorem tileB_lt (F : List Int) (W H i : Nat) : ∀ x ∈ tileB F W H i, x < 256 := putB_lt _ (pack_lt _)
theorem bodyTo_lt (F : List Int) (W H i : Nat) : ∀ x ∈ bodyTo F W H i, x < 256 := by
  induction i with
  | zero => intro x hx; cases hx
  | succ i ih =>
    intro x hx
    rcases List.mem_append.1 hx with hx | hx
    · exact ih x hx
    · exact tileB_lt F W H i x hx
theorem head18_lt (W H cell : Nat) (ox oy : Int) : ∀ x ∈ head18 W H cell ox oy, x < 256 := by
  intro x hx
  unfold head18 at hx
  simp only [List.mem_append] at hx
  rcases hx with h | h | h | h | h | h <;> exact lowB_lt _ _ x h
theorem dirTo_lt (F : List Int) (W H cell : Nat) (ox oy : Int) (i : Nat) : ∀ x ∈ dirTo F W H cell ox oy i, x < 256 := by
  induction i with
  | zero => exact head18_lt W H cell ox oy
  | succ i ih =>
    intro x hx
    rw [dirTo] at hx
    simp only [List.mem_append] at hx
    rcases hx with h | h | h
    · exact ih x h
    · exact lowB_lt _ _ x h
    · exact lowB_lt _ _ x h
theorem chartB_lt (F : List Int) (W H cell : Nat) (ox oy : Int) : ∀ x ∈ chartB F W H cell ox oy, x < 256 := by
  intro x hx
  rcases List.mem_append.1 hx with hx | hx
  · exact putB_lt _ (dirTo_lt F W H cell ox oy _) x hx
  · exact bodyTo_lt F W H _ x hx

/-! ### What any bytes say -/
/-- Where the i-th tile begins, by how many bytes those ahead of it have. -/
def offs (bs : List Nat) (W H : Nat) : Nat → Nat
  | 0 => headLen W H
  | i + 1 => offs bs W H i + rd bs (18 + 6 * i + 4) 2
structure Opens (bs : List Nat) (W H cell : Nat) : Prop where
  big : 18 ≤ bs.length
  magic : rd bs 0 4 = 1296978516
  w : rd bs 4 2 = W
  h : rd bs 6 2 = H
  c : rd bs 8 2 = cell
  wr : 2 ≤ W ∧ W ≤ 256
  hr : 2 ≤ H ∧ H ≤ 256
  cr : 1 ≤ cell ∧ cell ≤ 1000
  head : headLen W H ≤ bs.length
  sum : okB (bs.take (headLen W H)) = true
  dir : ∀ i, i < nT W H → rd bs (18 + 6 * i) 4 = offs bs W H i
  last : offs bs W H (nT W H) = bs.length
/-- The bytes of the i-th tile, with their sum. -/
def tb (bs : List Nat) (W H i : Nat) : List Nat := (bs.drop (offs bs W H i)).take (rd bs (18 + 6 * i + 4) 2)
/-- A header, a directory, and all tiles with their sums. -/
def Gets (bs : List Nat) : Prop := ∃ W H cell, Opens bs W H cell ∧ ∀ i, i < nT W H → okB (tb bs W H i) = true
theorem Opens.only {bs : List Nat} {W H cell W' H' cell' : Nat} (h : Opens bs W H cell) (h' : Opens bs W' H' cell') : W = W' ∧ H = H' ∧ cell = cell' := ⟨h.w.symm.trans h'.w, h.h.symm.trans h'.h, h.c.symm.trans h'.c⟩

section
variable {F : List Int} {W H cell : Nat} {ox oy : Int}
theorem nT_le (hW : W ≤ 256) (hH : H ≤ 256) : nT W H ≤ 256 := by
  have h1 := cnt_le W
  have h2 := cnt_le H
  have : nT W H ≤ 16 * 16 := Nat.mul_le_mul (by omega) (by omega)
  omega
theorem nT_pos (hW : 0 < W) (hH : 0 < H) : 0 < nT W H := by
  have h1 := cnt_ge W
  have h2 := cnt_ge H
  exact Nat.mul_pos (by omega) (by omega)
theorem rd_head (hW : W ≤ 256) (hH : H ≤ 256) (hc : cell ≤ 1000) {bs r : List Nat} (hb : bs = head18 W H cell ox oy ++ r) :
    rd bs 0 4 = 1296978516 ∧ rd bs 4 2 = W ∧ rd bs 6 2 = H ∧ rd bs 8 2 = cell ∧ rd bs 10 4 = u32 ox ∧ rd bs 14 4 = u32 oy := by
  have e16 : (256 : Nat) ^ 2 = 65536 := by decide
  have e32 : (256 : Nat) ^ 4 = 4294967296 := by decide
  have u1 := u32_lt ox
  have u2 := u32_lt oy
  unfold head18 at hb
  simp only [List.append_assoc] at hb
  obtain ⟨g0, h0⟩ : ∃ g, g = lowB 1296978516 4 := ⟨_, rfl⟩
  obtain ⟨g1, h1⟩ : ∃ g, g = lowB W 2 := ⟨_, rfl⟩
  obtain ⟨g2, h2⟩ : ∃ g, g = lowB H 2 := ⟨_, rfl⟩
  obtain ⟨g3, h3⟩ : ∃ g, g = lowB cell 2 := ⟨_, rfl⟩
  obtain ⟨g4, h4⟩ : ∃ g, g = lowB (u32 ox) 4 := ⟨_, rfl⟩
  obtain ⟨g5, h5⟩ : ∃ g, g = lowB (u32 oy) 4 := ⟨_, rfl⟩
  rw [← h0, ← h1, ← h2, ← h3, ← h4, ← h5] at hb
  have l0 : g0.length = 4 := by rw [h0, lowB_length]
  have l1 : g1.length = 2 := by rw [h1, lowB_length]
  have l2 : g2.length = 2 := by rw [h2, lowB_length]
  have l3 : g3.length = 2 := by rw [h3, lowB_length]
  have l4 : g4.length = 4 := by rw [h4, lowB_length]
  refine ⟨?_, ?_, ?_, ?_, ?_, ?_⟩
  · refine rd_at (A := []) (C := g1 ++ (g2 ++ (g3 ++ (g4 ++ (g5 ++ r))))) ?_ rfl (by rw [e32]; omega)
    rw [hb, List.nil_append, h0]
  · refine rd_at (A := g0) (C := g2 ++ (g3 ++ (g4 ++ (g5 ++ r)))) ?_ (by omega) (by rw [e16]; omega)
    rw [hb, h1]
  · refine rd_at (A := g0 ++ g1) (C := g3 ++ (g4 ++ (g5 ++ r))) ?_ (by rw [List.length_append]; omega) (by rw [e16]; omega)
    rw [hb, ← h2, List.append_assoc]
  · refine rd_at (A := g0 ++ (g1 ++ g2)) (C := g4 ++ (g5 ++ r)) ?_ (by rw [List.length_append, List.length_append]; omega) (by rw [e16]; omega)
    rw [hb, ← h3, List.append_assoc, List.append_assoc]
  · refine rd_at (A := g0 ++ (g1 ++ (g2 ++ g3))) (C := g5 ++ r) ?_ (by rw [List.length_append, List.length_append, List.length_append]; omega) (by rw [e32]; omega)
    rw [hb, ← h4, List.append_assoc, List.append_assoc, List.append_assoc]
  · refine rd_at (A := g0 ++ (g1 ++ (g2 ++ (g3 ++ g4)))) (C := r) ?_ (by rw [List.length_append, List.length_append, List.length_append, List.length_append]; omega) (by rw [e32]; omega)
    rw [hb, ← h5, List.append_assoc, List.append_assoc, List.append_assoc, List.append_assoc]
theorem rd_entry (hF : F.length = W * H) (hW : W ≤ 256) (hH : H ≤ 256) (i : Nat) (h : i < nT W H) :
    rd (chartB F W H cell ox oy) (18 + 6 * i) 4 = headLen W H + (bodyTo F W H i).length ∧ rd (chartB F W H cell ox oy) (18 + 6 * i + 4) 2 = (tileB F W H i).length := by
  have e16 : (256 : Nat) ^ 2 = 65536 := by decide
  have e32 : (256 : Nat) ^ 4 = 4294967296 := by decide
  obtain ⟨r, hr⟩ := chartB_more F W H cell ox oy (i + 1) h
  have hn := nT_le hW hH
  have h1 := bodyTo_length F W H i hF (by omega)
  have h2 := (tileB_length F W H i hF h).2
  have h3 : headLen W H = 22 + 6 * nT W H := by unfold headLen; omega
  rw [dirTo] at hr
  obtain ⟨D, hD⟩ : ∃ D, D = dirTo F W H cell ox oy i := ⟨_, rfl⟩
  obtain ⟨g0, h0⟩ : ∃ g, g = lowB (headLen W H + (bodyTo F W H i).length) 4 := ⟨_, rfl⟩
  obtain ⟨g1, h1'⟩ : ∃ g, g = lowB (tileB F W H i).length 2 := ⟨_, rfl⟩
  have hDl : D.length = 18 + 6 * i := by rw [hD]; exact dirTo_length F W H cell ox oy i
  have l0 : g0.length = 4 := by rw [h0, lowB_length]
  rw [← hD, ← h0, ← h1'] at hr
  constructor
  · refine rd_at (A := D) (C := g1 ++ r) ?_ hDl.symm (by rw [e32]; omega)
    rw [hr, ← h0, List.append_assoc, List.append_assoc]
  · refine rd_at (A := D ++ g0) (C := r) ?_ (by rw [List.length_append]; omega) (by rw [e16]; omega)
    rw [hr, ← h1', List.append_assoc, List.append_assoc, List.append_assoc]
theorem offs_chart (hF : F.length = W * H) (hW : W ≤ 256) (hH : H ≤ 256) (i : Nat) (h : i ≤ nT W H) : offs (chartB F W H cell ox oy) W H i = headLen W H + (bodyTo F W H i).length := by
  induction i with
  | zero => simp [offs, bodyTo]
  | succ i ih =>
    rw [offs, ih (by omega), (rd_entry hF hW hH i h).2, bodyTo, List.length_append, Nat.add_assoc]
theorem opens_chart (hF : F.length = W * H) (hW : 2 ≤ W ∧ W ≤ 256) (hH : 2 ≤ H ∧ H ≤ 256) (hc : 1 ≤ cell ∧ cell ≤ 1000) : Opens (chartB F W H cell ox oy) W H cell := by
  obtain ⟨r, hr⟩ := chartB_more F W H cell ox oy 0 (Nat.zero_le _)
  obtain ⟨r1, r2, r3, r4, _, _⟩ := rd_head (ox := ox) (oy := oy) hW.2 hH.2 hc.2 hr
  have hl := chartB_length F W H cell ox oy
  have h3 : headLen W H = 22 + 6 * nT W H := by unfold headLen; omega
  refine ⟨by omega, r1, r2, r3, r4, hW, hH, hc, by omega, by rw [chartB_take]; exact okB_putB _, fun i hi => ?_, ?_⟩
  · rw [(rd_entry hF hW.2 hH.2 i hi).1, offs_chart hF hW.2 hH.2 i (by omega)]
  · rw [offs_chart hF hW.2 hH.2 _ (Nat.le_refl _), hl]
theorem tb_chart (hF : F.length = W * H) (hW : W ≤ 256) (hH : H ≤ 256) (i : Nat) (h : i < nT W H) : tb (chartB F W H cell ox oy) W H i = tileB F W H i := by
  unfold tb
  rw [(rd_entry hF hW hH i h).2, offs_chart hF hW hH i (by omega)]
  exact chartB_tile F W H cell ox oy i h
end

/-! ### Turned bits are told -/
theorem offs_same {a b : List Nat} {W H : Nat} (i : Nat) (h : ∀ j, j < 18 + 6 * i → a[j]? = b[j]?) : offs a W H i = offs b W H i := by
  induction i with
  | zero => rfl
  | succ i ih => rw [offs, offs, ih (fun j hj => h j (by omega)), rd_same (fun j h1 h2 => h j (by omega))]
/-- A tile with a wrong sum: no map. -/
theorem tile_told (F : List Int) (W H cell : Nat) (ox oy : Int) (hF : F.length = W * H) (hW : 2 ≤ W ∧ W ≤ 256) (hH : 2 ≤ H ∧ H ≤ 256) (hc : 1 ≤ cell ∧ cell ≤ 1000) (i : Nat) (hi : i < nT W H) (bs s : List Nat)
    (hl : s.length = (tileB F W H i).length) (hs : okB s = false) (hb : bs = (chartB F W H cell ox oy).take (headLen W H + (bodyTo F W H i).length) ++ (s ++ (chartB F W H cell ox oy).drop (headLen W H + (bodyTo F W H i).length + s.length))) : ¬ Gets bs := by
  rintro ⟨W', H', cell', ho, hg⟩
  have hO := opens_chart (ox := ox) (oy := oy) hF hW hH hc
  have hcl := chartB_length F W H cell ox oy
  obtain ⟨r, hr⟩ := bodyTo_more F W H (i + 1) _ hi
  have hbl := congrArg List.length hr
  rw [bodyTo, List.length_append, List.length_append] at hbl
  obtain ⟨A, hA⟩ : ∃ A, A = headLen W H + (bodyTo F W H i).length := ⟨_, rfl⟩
  have hAl : A ≤ (chartB F W H cell ox oy).length := by omega
  rw [← hA] at hb
  have h3 : headLen W H = 22 + 6 * nT W H := by unfold headLen; omega
  have hsame : ∀ j, j < A → bs[j]? = (chartB F W H cell ox oy)[j]? := by
    intro j hj
    rw [hb, List.getElem?_append_left (by rw [List.length_take]; omega), List.getElem?_take, if_pos hj]
  have hlow : ∀ at_ k, at_ + k ≤ A → rd bs at_ k = rd (chartB F W H cell ox oy) at_ k := fun at_ k h => rd_same (fun j h1 h2 => hsame j (by omega))
  obtain rfl : W = W' := by rw [← ho.w, ← hO.w, hlow 4 2 (by omega)]
  obtain rfl : H = H' := by rw [← ho.h, ← hO.h, hlow 6 2 (by omega)]
  have hof : offs bs W H i = A := by
    rw [offs_same i (b := chartB F W H cell ox oy) (fun j hj => hsame j (by omega)), offs_chart hF hW.2 hH.2 i (by omega), hA]
  have hsz : rd bs (18 + 6 * i + 4) 2 = s.length := by rw [hlow _ _ (by omega), (rd_entry hF hW.2 hH.2 i hi).2, hl]
  have ht := hg i hi
  unfold tb at ht
  rw [hof, hsz, hb, List.drop_append_of_le_length (by rw [List.length_take]; omega), List.drop_of_length_le (by rw [List.length_take]; omega), List.nil_append, List.take_append_of_le_length (Nat.le_refl _), List.take_length, hs] at ht
  cases ht
/-- A header or directory with turned bits, all within 32 of each other: no map. -/
theorem head_told (F : List Int) (W H cell : Nat) (ox oy : Int) (hF : F.length = W * H) (hW : 2 ≤ W ∧ W ≤ 256) (hH : 2 ≤ H ∧ H ≤ 256) (hc : 1 ≤ cell ∧ cell ≤ 1000) (n : Nat) (bs s : List Nat)
    (hl : s.length = headLen W H) (hs : okB s = false) (hb : bs = s ++ bodyTo F W H (nT W H)) (hw : ∀ j, j < n / 8 ∨ (n + 31) / 8 < j → s[j]? = (chartB F W H cell ox oy)[j]?) : ¬ Gets bs := by
  rintro ⟨W', H', cell', ho, hg⟩
  have hO := opens_chart (ox := ox) (oy := oy) hF hW hH hc
  have h3 : headLen W H = 22 + 6 * nT W H := by unfold headLen; omega
  have hn := nT_pos (W := W) (H := H) (by omega) (by omega)
  have hbs : ∀ j, j < headLen W H → bs[j]? = s[j]? := fun j hj => by rw [hb, List.getElem?_append_left (by omega)]
  by_cases hh : headLen W' H' = headLen W H
  · have := ho.sum
    rw [hh, hb, List.take_append_of_le_length (by omega), List.take_of_length_le (by omega), hs] at this
    cases this
  · have hchg : n / 8 ≤ 7 := by
      refine Classical.byContradiction fun h => hh ?_
      have hsm : ∀ j, j < 8 → bs[j]? = (chartB F W H cell ox oy)[j]? := fun j hj => (hbs j (by omega)).trans (hw j (.inl (by omega)))
      have e1 : W' = W := by rw [← ho.w, ← hO.w]; exact rd_same (fun j h1 h2 => hsm j (by omega))
      have e2 : H' = H := by rw [← ho.h, ← hO.h]; exact rd_same (fun j h1 h2 => hsm j (by omega))
      rw [e1, e2]
    have hn' := nT_pos (W := W') (H := H') (by have := ho.wr; omega) (by have := ho.hr; omega)
    have e1 := ho.dir 0 hn'
    have e2 := hO.dir 0 hn
    have e3 : rd bs (18 + 6 * 0) 4 = rd (chartB F W H cell ox oy) (18 + 6 * 0) 4 := rd_same (fun j h1 h2 => (hbs j (by omega)).trans (hw j (.inr (by omega))))
    rw [e3, e2] at e1
    exact hh e1.symm
end Go.Proofs.YtlkjcamjgaecgaaGreat

/-
  Tiles laid row by row; the places as cells; bits turned within a part: plain.
-/
namespace Go.Proofs.YtlkjcamjgaecgaaGreat
open Go.RowKit Go.Th Go.Th.Crc

/-- Which heights are laid: those of the first i tiles, row by row. -/
def laid9 (W i : Nat) (j : Nat) : Bool := decide (j / W / 16 * cnt W + j % W / 16 < i)
theorem tile_xy (W H i : Nat) (h : i < nT W H) : i % cnt W < cnt W ∧ i / cnt W < cnt H ∧ i / cnt W * cnt W + i % cnt W = i := by
  have hc : 0 < cnt W := by rcases Nat.eq_zero_or_pos (cnt W) with e | e; · simp [nT, e] at h
                            · exact e
  exact ⟨Nat.mod_lt _ hc, (Nat.div_lt_iff_lt_mul hc).2 (by rw [Nat.mul_comm]; exact h), by rw [Nat.mul_comm]; exact Nat.div_add_mod i (cnt W)⟩
theorem pair_eq (r c Y X C : Nat) (h1 : c < C) (h2 : X < C) : r * C + c = Y * C + X ↔ (r = Y ∧ c = X) := by
  constructor
  · intro e
    have hr : (r * C + c) / C = r := by rw [Nat.mul_comm, Nat.mul_add_div (by omega), Nat.div_eq_of_lt h1]; rfl
    have hY : (Y * C + X) / C = Y := by rw [Nat.mul_comm, Nat.mul_add_div (by omega), Nat.div_eq_of_lt h2]; rfl
    have : r = Y := by rw [← hr, ← hY, e]
    subst this
    exact ⟨rfl, by omega⟩
  · rintro ⟨rfl, rfl⟩; rfl
theorem laid9_next (W H i : Nat) (F : List Int) (hF : F.length = W * H) (hi : i < nT W H) (hW : 0 < W) :
    layTo (mix F (laid9 W i)) W (16 * (i % cnt W)) (16 * (i / cnt W)) (side W (i % cnt W)) (tileAt F W H i) (side H (i / cnt W)) = mix F (laid9 W (i + 1)) := by
  obtain ⟨hX, hY, hXY⟩ := tile_xy W H i hi
  unfold tileAt
  obtain ⟨X, hXe⟩ : ∃ X, X = i % cnt W := ⟨_, rfl⟩
  obtain ⟨Y, hYe⟩ : ∃ Y, Y = i / cnt W := ⟨_, rfl⟩
  rw [← hXe] at hX hXY ⊢
  rw [← hYe] at hY hXY ⊢
  have f1 := side_fits W X hX
  have f2 := side_fits H Y hY
  have p1 := (side_pos W X).2 hX
  have e1 := side_min W X hX
  have e2 := side_min H Y hY
  rw [layTo_mix F W H (16 * X) (16 * Y) (side W X) (side H Y) (laid9 W i) hF f1 p1 f2 (side H Y) (Nat.le_refl _)]
  refine mix_congr F _ _ fun j hj => ?_
  have h1 : j % W < W := Nat.mod_lt _ hW
  have h2 : j / W < H := (Nat.div_lt_iff_lt_mul hW).2 (by rw [Nat.mul_comm H W, ← hF]; exact hj)
  unfold laid9
  have g := cnt_ge W
  have hp := pair_eq (j / W / 16) (j % W / 16) Y X (cnt W) (by omega) hX
  rw [hXY] at hp
  rw [Bool.eq_iff_iff, Bool.or_eq_true, decide_eq_true_iff, decide_eq_true_iff, decide_eq_true_iff]
  generalize j / W / 16 * cnt W + j % W / 16 = p at *
  generalize j % W = c at *
  generalize j / W = r at *
  have q1 : p < i + 1 ↔ (p < i ∨ p = i) := by omega
  rw [q1, hp]
  have q2 : (r / 16 = Y ∧ c / 16 = X) ↔ (16 * X ≤ c ∧ c < 16 * X + side W X ∧ 16 * Y ≤ r ∧ r < 16 * Y + side H Y) := by omega
  rw [q2]
theorem laid9_none (W n : Nat) (F : List Int) (hl : F.length = n) : mix F (laid9 W 0) = List.replicate n 0 := by
  rw [mix_none F _ (fun j _ => by unfold laid9; exact decide_eq_false (Nat.not_lt_zero _)), hl]
theorem laid9_all (W H : Nat) (F : List Int) (hF : F.length = W * H) (hW : 0 < W) : mix F (laid9 W (nT W H)) = F := by
  refine mix_all F _ fun j hj => ?_
  have h1 : j % W < W := Nat.mod_lt _ hW
  have h2 : j / W < H := (Nat.div_lt_iff_lt_mul hW).2 (by rw [Nat.mul_comm H W, ← hF]; exact hj)
  have g := cnt_ge W
  have g2 := cnt_ge H
  unfold laid9
  refine decide_eq_true ?_
  have h3 : (j / W / 16 + 1) * cnt W ≤ cnt H * cnt W := Nat.mul_le_mul_right _ (by omega)
  unfold nT
  rw [Nat.mul_comm (cnt W), Nat.succ_mul] at *
  omega

/-! ### Bits turned within a part of a row -/
theorem mid_set (A s B : List Nat) (q i v : Nat) (hq : q = A.length + i) (hi : i < s.length) : (A ++ (s ++ B)).set q v = A ++ (s.set i v ++ B) := by
  subst hq
  rw [List.set_append_right _ _ (by omega), Nat.add_sub_cancel_left, List.set_append_left _ _ hi]
theorem mid_get (A s B : List Nat) (q i : Nat) (hq : q = A.length + i) (hi : i < s.length) : (A ++ (s ++ B))[q]? = some s[i] := by
  subst hq
  rw [List.getElem?_append_right (by omega), Nat.add_sub_cancel_left, List.getElem?_append_left hi, List.getElem?_eq_getElem hi]
end Go.Proofs.YtlkjcamjgaecgaaGreat

/-
  Whether a cell, a field may be so; how many tiles; which place; how many bytes ahead: the code's.
-/
namespace Go.Proofs.YtlkjcamjgaecgaaGreat
open Go Go.RowKit Go.Th Go.Th.Crc

/-- A struct and a value that are handed back. -/
theorem res_blk_tmp {P : Program} {fn : Func} {p q : Tmp} {ty : TypeId} (h : fn.results = #[.cell p ty, .tmp q]) {tmps : Array Value} {w : World} {g : Nat} {t : TypeId} {cs : List Value} {d : TypeDesc} {u : Value}
    (hp : tmps.getD p undef = .pointer (some ⟨g, 0, none⟩)) (K : Blk w g t cs) (hu : P.underlying ty = some d) (hd : (match d with | .struct _ | .array _ _ => true | _ => false) = true) (hi : (P.info? ty).map (·.size) = some cs.length) (hq : tmps.getD q undef = u) :
    (results fn tmps).run P w = .ok (.tuple #[.agg cs.toArray, u]) w := by
  have hp' : tmps[p]?.getD undef = .pointer (some ⟨g, 0, none⟩) := by simpa using hp
  have hq' : tmps[q]?.getD undef = u := by simpa using hq
  simp [results, h, hp', hq', asAddr, run_loadVar_row w g t ty cs.toArray (0, 0) d K hu hd (by simpa using hi)]

abbrev cv (W H : Int) (v : Value) (cell ox oy : Int) : Value := .agg #[.int .i64 W, .int .i64 H, v, .int .i64 cell, .int .i32 ox, .int .i32 oy]
abbrev dv (W H : Int) (v : Value) (cell ox oy : Int) (a s : Value) : Value := .agg #[.int .i64 W, .int .i64 H, v, .int .i64 cell, .int .i32 ox, .int .i32 oy, a, s]
def isC (m : Int) : Bool := decide (1 ≤ m ∧ m ≤ 1000)
theorem isC_yes {m : Int} (e : isC m = true) : 1 ≤ m ∧ m ≤ 1000 := by unfold isC at e; exact of_decide_eq_true e
theorem isC_of {m : Int} (e : 1 ≤ m ∧ m ≤ 1000) : isC m = true := by unfold isC; exact decide_eq_true e
theorem isC_not {m : Int} (e : ¬ (1 ≤ m ∧ m ≤ 1000)) : isC m = false := by unfold isC; exact decide_eq_false e

set_option maxRecDepth 20000 in
theorem isCell_go (m : Int) : Pure 65 #[.int .i64 m] (.bool (isC m)) := by
  intro W
  by_cases a : 1 ≤ m
  · by_cases b : m ≤ 1000
    · rw [isC_of ⟨a, b⟩]
      go_enter Tryz.func65, Tryz.ntmps65
      go_wp2
      go_ret
      exact ⟨rfl, rfl⟩
    · rw [isC_not (fun e => b e.2)]
      go_enter Tryz.func65, Tryz.ntmps65
      go_wp2
      go_ret
      exact ⟨rfl, rfl⟩
  · rw [isC_not (fun e => a e.1)]
    go_enter Tryz.func65, Tryz.ntmps65
    go_wp2
    go_ret
    exact ⟨rfl, rfl⟩

set_option maxRecDepth 20000 in
theorem isField9_any (x y : Int) : Ans 66 #[.int .i64 x, .int .i64 y] (.bool (isF x y)) := by
  intro w
  cases hF : isF x y
  · have C1 := Lib.hid (fun wx => check_range x y (.slice none 0 0) hF wx ⟨none, 0, 0, rfl⟩)
    clear hF
    go_enter Tryz.func66, Tryz.ntmps66
    go_wp2_with fail
    refine (C1.out _).mono ?_
    rintro e wx ⟨rfl, hB⟩
    go_wp2_with fail
    go_ret
    exact ⟨rfl, hB⟩
  · obtain ⟨h1, h2, h3, h4⟩ := isF_yes hF
    obtain ⟨X, rfl⟩ := Int.eq_ofNat_of_zero_le (show 0 ≤ x by omega)
    obtain ⟨Y, rfl⟩ := Int.eq_ofNat_of_zero_le (show 0 ≤ y by omega)
    have hp : 0 < X * Y := Nat.mul_pos (by omega) (by omega)
    have C1 := Lib.hid (fun wx => check_size X Y 0 (X * Y) none 0 hF rfl (by omega) (by omega) wx)
    clear hF
    go_enter Tryz.func66, Tryz.ntmps66
    go_wp2_with fail
    refine (C1.out _).mono ?_
    rintro e wx ⟨rfl, hB⟩
    go_wp2_with fail
    go_ret
    exact ⟨rfl, hB⟩

set_option maxRecDepth 20000 in
theorem count9_any (W H : Nat) (hF : isF W H = true) : Ans 67 #[.int .i64 W, .int .i64 H] (.int .i64 (nT W H : Nat)) := by
  intro w
  obtain ⟨h1, h2, h3, h4⟩ := isF_yes hF
  have C1 := isField9_any W H
  rw [hF] at C1
  have C1 := Lib.hid C1
  have C2 := Lib.hid (count_go W (by omega) (by omega))
  have C3 := Lib.hid (count_go H (by omega) (by omega))
  have l := nT_le (W := W) (H := H) (by omega) (by omega)
  have hm : ((cnt W : Nat) : Int) * ((cnt H : Nat) : Int) = ((nT W H : Nat) : Int) := by unfold nT; simp
  obtain ⟨n, hn⟩ : ∃ n, n = nT W H := ⟨_, rfl⟩
  obtain ⟨cx, hcx⟩ : ∃ c, c = cnt W := ⟨_, rfl⟩
  obtain ⟨cy, hcy⟩ : ∃ c, c = cnt H := ⟨_, rfl⟩
  rw [← hcx, ← hcy, ← hn] at hm
  rw [← hcx] at C2
  rw [← hcy] at C3
  rw [← hn] at l ⊢
  clear hF hn hcx hcy
  go_enter Tryz.func67, Tryz.ntmps67
  go_wp2_with fail
  refine (C1.out _).mono ?_
  rintro e w2 ⟨rfl, hB⟩
  clear C1
  go_wp2_with fail
  refine (C2.out _).mono ?_
  rintro e wx ⟨rfl, rfl⟩
  clear C2
  go_wp2_with fail
  refine (C3.out _).mono ?_
  rintro e wx ⟨rfl, rfl⟩
  clear C3
  go_wp2_with fail
  go_ret
  exact ⟨rfl, hB⟩

set_option maxRecDepth 20000 in
theorem head_any (W H : Nat) (hF : isF W H = true) : Ans 45 #[.int .i64 W, .int .i64 H] (.int .i64 (headLen W H : Nat)) := by
  intro w
  obtain ⟨h1, h2, h3, h4⟩ := isF_yes hF
  have C1 := isField9_any W H
  rw [hF] at C1
  have C1 := Lib.hid C1
  have C2 := count9_any W H hF
  have l := nT_le (W := W) (H := H) (by omega) (by omega)
  unfold headLen
  obtain ⟨n, hn⟩ : ∃ n, n = nT W H := ⟨_, rfl⟩
  rw [← hn] at l C2 ⊢
  have C2 := Lib.hid C2
  clear hF hn
  go_enter Tryz.func45, Tryz.ntmps45
  go_wp2_with fail
  refine (C1.out _).mono ?_
  rintro e w2 ⟨rfl, hB⟩
  clear C1
  go_wp2_with fail
  refine (C2.out _).mono ?_
  rintro e w3 ⟨rfl, hB3⟩
  clear C2
  go_wp2_with fail
  go_ret
  exact ⟨ret_int (by omega), hB.trans (hB3.mono hB.size)⟩

set_option maxRecDepth 20000 in
theorem place_any (W i : Nat) (h0 : 0 < W) (hW : W ≤ 1000) (hi : i ≤ 1000000) : Ans 68 #[.int .i64 W, .int .i64 i] (pv ((i % cnt W : Nat) : Int) ((i / cnt W : Nat) : Int)) := by
  intro w
  have C2 := count_go W h0 (by omega)
  have hc := cnt_ge W
  have hl := cnt_le W
  obtain ⟨c, hcc⟩ : ∃ c, c = cnt W := ⟨_, rfl⟩
  rw [← hcc] at C2 hc hl ⊢
  have hne : ¬ c = 0 := by omega
  have e1 : (i : Int).tmod (c : Int) = ((i % c : Nat) : Int) := rfl
  have e2 : (i : Int).tdiv (c : Int) = ((i / c : Nat) : Int) := rfl
  have hq : i / c ≤ i := Nat.div_le_self _ _
  have hr : i % c < c := Nat.mod_lt _ (by omega)
  obtain ⟨q, hqq⟩ : ∃ q, q = i / c := ⟨_, rfl⟩
  obtain ⟨r, hrr⟩ : ∃ r, r = i % c := ⟨_, rfl⟩
  rw [← hqq] at e2 hq ⊢
  rw [← hrr] at e1 hr ⊢
  have C2 := Lib.hid C2
  clear hcc hqq hrr
  obtain ⟨w1, hw1⟩ : ∃ w1, w.alloc (.cells #[.int .i64 0, .int .i64 0] 92) = w1 := ⟨_, rfl⟩
  have hB1 : Below w.heap.size w w1 := by rw [← hw1]; exact (Below.refl _ _).alloc (Nat.le_refl _) _
  have KA : Blk w1 w.heap.size 92 [.int .i64 0, .int .i64 0] := by rw [← hw1]; exact Blk.new w _ _
  go_enter Tryz.func68, Tryz.ntmps68
  go_wp2_with fail
  clear hw1
  refine (C2.out _).mono ?_
  rintro e w2 ⟨rfl, rfl⟩
  clear C2
  have a0 := KA.cell (i := 0) rfl
  have a1 := KA.cell (i := 1) rfl
  have b0 := KA.free 0
  have b1 := KA.free 1
  have KB := (KA.drew.set 0 (.int .i64 r) (by simp)).set 1 (.int .i64 q) (by simp)
  go_wp2_with fail
  go_region
  all_goals
    go_wp2_with fail
    refine bodyPost_ret (v := pv r q) (res_blk rfl rfl KB Tryz.underlying92 rfl (by kernel_rfl)) rfl ?_
    exact ⟨rfl, (hB1.drew.setCell (Nat.le_refl _) _).setCell (Nat.le_refl _) _⟩
end Go.Proofs.YtlkjcamjgaecgaaGreat

/-
  Numbers out of bytes; a header read; a part of bytes; the header written; a tile's bytes; the places: the code's.
-/
namespace Go.Proofs.YtlkjcamjgaecgaaGreat
open Go Go.RowKit Go.Th Go.Th.Crc

theorem rd_lt (bs : List Nat) (at_ k : Nat) (hb : ∀ x ∈ bs, x < 256) : rd bs at_ k < 256 ^ k := by
  have h := leVal_lt ((bs.drop at_).take k) (fun x hx => hb x (List.mem_of_mem_drop (List.mem_of_mem_take hx)))
  refine Nat.lt_of_lt_of_le h (Nat.pow_le_pow_right (by decide) ?_)
  rw [List.length_take]; exact Nat.min_le_left _ _
theorem rd_lt4 (bs : List Nat) (at_ k : Nat) (hb : ∀ x ∈ bs, x < 256) (h4 : k ≤ 4) : rd bs at_ k < 4294967296 :=
  Nat.lt_of_lt_of_le (rd_lt bs at_ k hb) (Nat.le_trans (Nat.pow_le_pow_right (n := 256) (by decide) h4) (by decide))
theorem rd_lt2 (bs : List Nat) (at_ : Nat) (hb : ∀ x ∈ bs, x < 256) : rd bs at_ 2 < 65536 :=
  Nat.lt_of_lt_of_le (rd_lt bs at_ 2 hb) (by decide)

set_option maxRecDepth 20000 in
theorem num4_any (vx : Value) (bs : List Nat) (at_ size : Nat) (h4 : size ≤ 4) (hl : bs.length ≤ 1000000000) (hb : ∀ x ∈ bs, x < 256) (hyes : at_ + size ≤ bs.length) (w : World) (h : Sl w 1 vx bs.length (u8s bs)) :
    Calls Tryz.prog 79 #[vx, .int .i64 at_, .int .i64 size] w fun e w' => e = .returned (.int .i64 (rd bs at_ size : Nat)) ∧ w = w' := by
  have C1 := bget_yes vx bs at_ size w h (by omega) (by omega) hb hyes
  have hr := rd_lt4 bs at_ size hb h4
  obtain ⟨r, hrr⟩ : ∃ r, r = rd bs at_ size := ⟨_, rfl⟩
  rw [show leVal ((bs.drop at_).take size) = r from hrr.symm] at C1
  rw [← hrr] at hr ⊢
  have C1 := Lib.hid C1
  obtain ⟨a, cap, rfl⟩ := sl_slice h
  clear hb hyes h hrr
  go_enter Tryz.func79, Tryz.ntmps79
  go_wp2_with fail
  refine C1.out.mono ?_
  rintro e wx ⟨rfl, rfl⟩
  clear C1
  go_wp2_with fail
  go_ret
  exact ⟨rfl, rfl⟩

set_option maxRecDepth 20000 in
theorem piece9_any (a : Option Addr) (n cap : Nat) (bs : List Nat) (at_ size : Nat) (hn : n = bs.length) (hl : n ≤ 1000000000) (hyes : at_ + size ≤ n) (w : World) (h : Sl w 1 (.slice a n cap) n (u8s bs)) :
    Calls Tryz.prog 104 #[.slice a n cap, .int .i64 at_, .int .i64 size] w fun e w' => ∃ a' cap', e = .returned (.slice a' size cap') ∧ Sl w 1 (.slice a' size cap') size (u8s ((bs.drop at_).take size)) ∧ w = w' := by
  obtain ⟨a', cap', hr, hs, _, _⟩ := Sl.cut_mid Eu8 h at_ size hyes (at_ : Int) ((at_ : Int) + (size : Int)) rfl rfl
  have e : u8s ((bs.drop at_).take size) = ((u8s bs).drop at_).take size := by simp [u8s, List.map_take, List.map_drop]
  rw [← e] at hs
  have HS := Lib.hid hs
  have hmx := h.max
  have d3 : ¬ ((n : Int) - (size : Int) < (at_ : Int)) := by omega
  clear hs e h hn
  go_enter Tryz.func104, Tryz.ntmps104
  go_wp2_with fail
  go_ret
  exact ⟨a', cap', rfl, HS.out, rfl⟩

set_option maxRecDepth 20000 in
set_option maxHeartbeats 1600000 in
theorem chartOf_any (vx : Value) (bs : List Nat) (hl : bs.length ≤ 1000000000) (hb : ∀ x ∈ bs, x < 256) (hyes : 18 ≤ bs.length) (w : World) (h : Sl w 1 vx bs.length (u8s bs)) :
    Calls Tryz.prog 78 #[vx] w fun e w' => e = .returned (cv (rd bs 4 2 : Nat) (rd bs 6 2 : Nat) (.slice none 0 0) (rd bs 8 2 : Nat) (IntKind.i32.wrap (rd bs 10 4 : Nat)) (IntKind.i32.wrap (rd bs 14 4 : Nat))) ∧ Below w.heap.size w w' := by
  have CN := fun (at_ size : Nat) (h4 : size ≤ 4) (hy : at_ + size ≤ bs.length) wx hs => num4_any vx bs at_ size h4 hl hb hy wx hs
  have r1 := rd_lt2 bs 4 hb
  have r2 := rd_lt2 bs 6 hb
  have r3 := rd_lt2 bs 8 hb
  have r4 := rd_lt4 bs 10 4 hb (by decide)
  have r5 := rd_lt4 bs 14 4 hb (by decide)
  have hB1 : Below w.heap.size w (w.alloc (.cells #[.int .i64 0, .int .i64 0, .slice none 0 0, .int .i64 0, .int .i32 0, .int .i32 0] 28)) := (Below.refl _ _).alloc (Nat.le_refl _) _
  have KC : Blk (w.alloc (.cells #[.int .i64 0, .int .i64 0, .slice none 0 0, .int .i64 0, .int .i32 0, .int .i32 0] 28)) w.heap.size 28 [.int .i64 0, .int .i64 0, .slice none 0 0, .int .i64 0, .int .i32 0, .int .i32 0] := Blk.new w _ _
  obtain ⟨w1, hw1⟩ : ∃ w1, w.alloc (.cells #[.int .i64 0, .int .i64 0, .slice none 0 0, .int .i64 0, .int .i32 0, .int .i32 0] 28) = w1 := ⟨_, rfl⟩
  rw [hw1] at hB1 KC
  have h1 := h.below hB1
  have C1 := CN 4 2 (by decide) (by omega) w1 h1
  have C2 := CN 6 2 (by decide) (by omega) w1 h1
  have C3 := CN 8 2 (by decide) (by omega) w1 h1
  have C4 := CN 10 4 (by decide) (by omega) w1 h1
  have C5 := CN 14 4 (by decide) (by omega) w1 h1
  obtain ⟨n1, hn1⟩ : ∃ r, r = rd bs 4 2 := ⟨_, rfl⟩
  obtain ⟨n2, hn2⟩ : ∃ r, r = rd bs 6 2 := ⟨_, rfl⟩
  obtain ⟨n3, hn3⟩ : ∃ r, r = rd bs 8 2 := ⟨_, rfl⟩
  obtain ⟨n4, hn4⟩ : ∃ r, r = rd bs 10 4 := ⟨_, rfl⟩
  obtain ⟨n5, hn5⟩ : ∃ r, r = rd bs 14 4 := ⟨_, rfl⟩
  rw [← hn1] at C1 r1 ⊢
  rw [← hn2] at C2 r2 ⊢
  rw [← hn3] at C3 r3 ⊢
  rw [← hn4] at C4 r4 ⊢
  rw [← hn5] at C5 r5 ⊢
  obtain ⟨q4, hq4⟩ : ∃ q, q = IntKind.i32.wrap (n4 : Int) := ⟨_, rfl⟩
  obtain ⟨q5, hq5⟩ : ∃ q, q = IntKind.i32.wrap (n5 : Int) := ⟨_, rfl⟩
  rw [← hq4, ← hq5]
  replace hq4 := hq4.symm
  replace hq5 := hq5.symm
  have C1 := Lib.hid C1
  have C2 := Lib.hid C2
  have C3 := Lib.hid C3
  have C4 := Lib.hid C4
  have C5 := Lib.hid C5
  have KB := (((((KC.set 0 (.int .i64 n1) (by simp)).set 1 (.int .i64 n2) (by simp)).set 2 (.slice none 0 0) (by simp)).set 3 (.int .i64 n3) (by simp)).set 4 (.int .i32 q4) (by simp)).set 5 (.int .i32 q5) (by simp)
  have KBB := Lib.hid KB
  have a0 := KC.cell (i := 0) rfl
  have a1 := KC.cell (i := 1) rfl
  have a2 := KC.cell (i := 2) rfl
  have a3 := KC.cell (i := 3) rfl
  have a4 := KC.cell (i := 4) rfl
  have a5 := KC.cell (i := 5) rfl
  have b0 := KC.free 0
  have b1 := KC.free 1
  have b2 := KC.free 2
  have b3 := KC.free 3
  have b4 := KC.free 4
  have b5 := KC.free 5
  obtain ⟨a, cap, rfl⟩ := sl_slice h
  clear KB CN hb h h1 hn1 hn2 hn3 hn4 hn5
  go_enter Tryz.func78, Tryz.ntmps78
  go_wp2_with fail
  clear hw1
  refine C1.out.mono ?_
  rintro e wx ⟨rfl, rfl⟩
  clear C1
  go_wp2_with fail
  refine C2.out.mono ?_
  rintro e wx ⟨rfl, rfl⟩
  clear C2
  go_wp2_with fail
  refine C3.out.mono ?_
  rintro e wx ⟨rfl, rfl⟩
  clear C3
  go_wp2_with fail
  refine C4.out.mono ?_
  rintro e wx ⟨rfl, rfl⟩
  clear C4
  go_wp2_with fail
  refine C5.out.mono ?_
  rintro e wx ⟨rfl, rfl⟩
  clear C5
  go_wp2_with fail
  refine bodyPost_ret (v := cv n1 n2 (.slice none 0 0) n3 q4 q5) (res_blk rfl rfl KBB.out Tryz.underlying28 rfl (by kernel_rfl)) rfl ?_
  exact ⟨rfl, (((((hB1.setCell (Nat.le_refl _) _).setCell (Nat.le_refl _) _).setCell (Nat.le_refl _) _).setCell (Nat.le_refl _) _).setCell (Nat.le_refl _) _).setCell (Nat.le_refl _) _⟩
end Go.Proofs.YtlkjcamjgaecgaaGreat

/-
  The header written; a tile's bytes; the places, row by row: the code's.
-/
namespace Go.Th
open Go Go.RowKit
theorem Sl.two {w : World} (u v : Value) (t : TypeId) : Sl (w.alloc (.cells #[u, v] t)) 2 (.slice (some ⟨w.heap.size, 0, none⟩) 1 1) 1 [u, v] := by
  refine ⟨_, _, rfl, rfl, Nat.le_refl _, by unfold maxLen; omega, fun h => (by cases h), ?_⟩
  intro j x h
  match j, h with
  | 0, h =>
    simp at h; subst h
    exact ⟨_, _, rfl, by rw [World.cell?_alloc_at _ _ _ _ (by simp)]; rfl⟩
  | 1, h =>
    simp at h; subst h
    exact ⟨_, _, rfl, by rw [World.cell?_alloc_at _ _ _ _ (by simp)]; rfl⟩
end Go.Th
namespace Go.Proofs.YtlkjcamjgaecgaaGreat
open Go Go.RowKit Go.Th Go.Th.Crc

/-- Numbers in bytes written behind others, with names for both. -/
theorem bput9_any (vx : Value) (bs gs : List Nat) (k n m x : Nat) (hk : bs.length = k) (hg : gs = bs ++ lowB x n) (hm : m = k + n) (hl : k ≤ 1000000000) (hx : x < 18446744073709551616) (hn : n ≤ 1000000) (w : World) (h : Sl w 1 vx k (u8s bs)) :
    Calls Tryz.prog 49 #[vx, .int .u64 x, .int .i64 n] w fun e w' => ∃ v, e = .returned v ∧ w'.ownsRow w.heap.size 5 1 v m (u8s gs) ∧ Below w.heap.size w w' := by
  subst hk hg hm
  exact bput_any vx bs x n w h (by omega) hx hn
theorem put9_len {bs gs : List Nat} {k n m x : Nat} (hk : bs.length = k) (hg : gs = bs ++ lowB x n) (hm : m = k + n) : gs.length = m := by subst hk hg hm; rw [List.length_append, lowB_length]
theorem u32_wrap (x : Int) : IntKind.u32.wrap x = (u32 x : Int) := by
  unfold u32
  simp [IntKind.wrap, IntKind.bits, IntKind.signed]
  omega
/-- A number of 32 bits with a sign. -/
def In32' (x : Int) : Prop := -2147483648 ≤ x ∧ x ≤ 2147483647
theorem u32_back {x : Int} (h : In32' x) : IntKind.i32.wrap (u32 x : Int) = x := by
  obtain ⟨h1, h2⟩ := h
  unfold u32
  simp [IntKind.wrap, IntKind.bits, IntKind.signed]
  omega

set_option maxRecDepth 20000 in
set_option maxHeartbeats 3200000 in
theorem header_any (W H cell : Nat) (ox oy : Int) (a : Option Addr) (n cap : Nat) (hW : W ≤ 256) (hH : H ≤ 256) (hc : cell ≤ 1000) (w : World) :
    Calls Tryz.prog 44 #[cv W H (.slice a n cap) cell ox oy] w fun e w' => ∃ v, e = .returned v ∧ w'.ownsRow w.heap.size 5 1 v 18 (u8s (head18 W H cell ox oy)) ∧ Below w.heap.size w w' := by
  obtain ⟨g1, h1⟩ : ∃ g, g = [] ++ lowB 1296978516 4 := ⟨_, rfl⟩
  obtain ⟨g2, h2⟩ : ∃ g, g = g1 ++ lowB W 2 := ⟨_, rfl⟩
  obtain ⟨g3, h3⟩ : ∃ g, g = g2 ++ lowB H 2 := ⟨_, rfl⟩
  obtain ⟨g4, h4⟩ : ∃ g, g = g3 ++ lowB cell 2 := ⟨_, rfl⟩
  obtain ⟨g5, h5⟩ : ∃ g, g = g4 ++ lowB (u32 ox) 4 := ⟨_, rfl⟩
  obtain ⟨g6, h6⟩ : ∃ g, g = g5 ++ lowB (u32 oy) 4 := ⟨_, rfl⟩
  have e6 : head18 W H cell ox oy = g6 := by
    unfold head18
    rw [h6, h5, h4, h3, h2, h1]
    simp only [List.nil_append, List.append_assoc]
  have l1 := put9_len (k := 0) rfl h1 (show 4 = 0 + 4 from rfl)
  have l2 := put9_len l1 h2 (show 6 = 4 + 2 from rfl)
  have l3 := put9_len l2 h3 (show 8 = 6 + 2 from rfl)
  have l4 := put9_len l3 h4 (show 10 = 8 + 2 from rfl)
  have l5 := put9_len l4 h5 (show 14 = 10 + 4 from rfl)
  have u1 := u32_lt ox
  have u2 := u32_lt oy
  have o1 := u32_wrap ox
  have o2 := u32_wrap oy
  obtain ⟨x1, hx1⟩ : ∃ x, x = u32 ox := ⟨_, rfl⟩
  obtain ⟨x2, hx2⟩ : ∃ x, x = u32 oy := ⟨_, rfl⟩
  rw [← hx1] at h5 u1 o1
  rw [← hx2] at h6 u2 o2
  rw [e6]
  have C1 := Lib.hid (fun wx => bput9_any (.slice none 0 0) [] g1 0 4 4 1296978516 rfl h1 rfl (by omega) (by omega) (by omega) wx (Sl.nil _ _))
  have C2 := Lib.hid (fun vx wx hs => bput9_any vx g1 g2 4 2 6 W l1 h2 rfl (by omega) (by omega) (by omega) wx hs)
  have C3 := Lib.hid (fun vx wx hs => bput9_any vx g2 g3 6 2 8 H l2 h3 rfl (by omega) (by omega) (by omega) wx hs)
  have C4 := Lib.hid (fun vx wx hs => bput9_any vx g3 g4 8 2 10 cell l3 h4 rfl (by omega) (by omega) (by omega) wx hs)
  have C5 := Lib.hid (fun vx wx hs => bput9_any vx g4 g5 10 4 14 x1 l4 h5 rfl (by omega) (by omega) (by omega) wx hs)
  have C6 := Lib.hid (fun vx wx hs => bput9_any vx g5 g6 14 4 18 x2 l5 h6 rfl (by omega) (by omega) (by omega) wx hs)
  have hB1 : Below w.heap.size w (w.alloc (.cells #[.int .i64 W, .int .i64 H, .slice a n cap, .int .i64 cell, .int .i32 ox, .int .i32 oy] 28)) := (Below.refl _ _).alloc (Nat.le_refl _) _
  have KC : Blk (w.alloc (.cells #[.int .i64 W, .int .i64 H, .slice a n cap, .int .i64 cell, .int .i32 ox, .int .i32 oy] 28)) w.heap.size 28 [.int .i64 W, .int .i64 H, .slice a n cap, .int .i64 cell, .int .i32 ox, .int .i32 oy] := Blk.new w _ _
  obtain ⟨w1, hw1⟩ : ∃ w1, w.alloc (.cells #[.int .i64 W, .int .i64 H, .slice a n cap, .int .i64 cell, .int .i32 ox, .int .i32 oy] 28) = w1 := ⟨_, rfl⟩
  rw [hw1] at hB1 KC
  clear h1 h2 h3 h4 h5 h6 l1 l2 l3 l4 l5 e6 hx1 hx2
  go_enter Tryz.func44, Tryz.ntmps44
  go_wp2_with fail
  clear hw1
  refine (C1.out _).mono ?_
  rintro e w2 ⟨v2, rfl, ho2, hA2⟩
  clear C1
  obtain ⟨a2, c2, rfl, _, _⟩ := ownsRow_slice ho2
  replace KC := KC.below hA2 KC.lt
  have hB2 := hB1.trans (hA2.mono hB1.size)
  have D2 := Lib.hid (C2.out _ w2 (Sl.of_own ho2))
  have c0 := KC.cell (i := 0) rfl
  clear hA2 ho2 C2 hB1
  go_wp2_with fail
  refine D2.out.mono ?_
  rintro e w3 ⟨v3, rfl, ho3, hA3⟩
  clear D2 c0
  obtain ⟨a3, c3, rfl, _, _⟩ := ownsRow_slice ho3
  replace KC := KC.below hA3 KC.lt
  have hB3 := hB2.trans (hA3.mono hB2.size)
  have D3 := Lib.hid (C3.out _ w3 (Sl.of_own ho3))
  have c0 := KC.cell (i := 1) rfl
  clear hA3 ho3 C3 hB2
  go_wp2_with fail
  refine D3.out.mono ?_
  rintro e w4 ⟨v4, rfl, ho4, hA4⟩
  clear D3 c0
  obtain ⟨a4, c4, rfl, _, _⟩ := ownsRow_slice ho4
  replace KC := KC.below hA4 KC.lt
  have hB4 := hB3.trans (hA4.mono hB3.size)
  have D4 := Lib.hid (C4.out _ w4 (Sl.of_own ho4))
  have c0 := KC.cell (i := 3) rfl
  clear hA4 ho4 C4 hB3
  go_wp2_with fail
  refine D4.out.mono ?_
  rintro e w5 ⟨v5, rfl, ho5, hA5⟩
  clear D4 c0
  obtain ⟨a5, c5, rfl, _, _⟩ := ownsRow_slice ho5
  replace KC := KC.below hA5 KC.lt
  have hB5 := hB4.trans (hA5.mono hB4.size)
  have D5 := Lib.hid (C5.out _ w5 (Sl.of_own ho5))
  have c0 := KC.cell (i := 4) rfl
  clear hA5 ho5 C5 hB4
  go_wp2_with fail
  refine D5.out.mono ?_
  rintro e w6 ⟨v6, rfl, ho6, hA6⟩
  clear D5 c0
  obtain ⟨a6, c6, rfl, _, _⟩ := ownsRow_slice ho6
  replace KC := KC.below hA6 KC.lt
  have hB6 := hB5.trans (hA6.mono hB5.size)
  have D6 := Lib.hid (C6.out _ w6 (Sl.of_own ho6))
  have c0 := KC.cell (i := 5) rfl
  clear hA6 ho6 C6 hB5
  go_wp2_with fail
  refine D6.out.mono ?_
  rintro e w7 ⟨v7, rfl, ho7, hA7⟩
  clear D6 c0
  have hB7 := hB6.trans (hA7.mono hB6.size)
  go_wp2_with fail
  go_ret
  exact ⟨_, rfl, ownsRow_base ho7 hB6.size, hB7⟩

set_option maxRecDepth 20000 in
set_option maxHeartbeats 3200000 in
theorem heights9_any (W H i n : Nat) (a : Option Addr) (cap : Nat) (F : List Int) (hF : isF W H = true) (hn : n = W * H) (hi : i < nT W H) (hl : F.length = n) (h16 : ∀ u ∈ F, In16 u) (w : World) (hS : Sl w 1 (.slice a n cap) n (i16s F)) :
    Calls Tryz.prog 48 #[hv W H (.slice a n cap), pv ((i % cnt W : Nat) : Int) ((i / cnt W : Nat) : Int)] w fun e w' => ∃ v k L, e = .returned v ∧ putB L = tileB F W H i ∧ L.length = k ∧ (∀ x ∈ L, x < 256) ∧ w'.ownsRow w.heap.size 5 1 v k (u8s L) ∧ Below w.heap.size w w' := by
  obtain ⟨hX, hY, hXY⟩ := tile_xy W H i hi
  have hLe : tileB F W H i = putB (pack (row (deltas (side W (i % cnt W)) (tileAt F W H i)))) := rfl
  have hAl := tileAt_length F W H i (by rw [hl, hn]) hi
  have hA16 : ∀ u ∈ tileAt F W H i, In16 u := fun u hu => h16 u (mem_tileTo hu)
  have hAe : tileAt F W H i = tileTo F W (16 * (i % cnt W)) (16 * (i / cnt W)) (side W (i % cnt W)) (side H (i / cnt W)) := rfl
  obtain ⟨X, hXe⟩ : ∃ X, X = i % cnt W := ⟨_, rfl⟩
  obtain ⟨Y, hYe⟩ : ∃ Y, Y = i / cnt W := ⟨_, rfl⟩
  rw [← hXe] at hX hXY hLe hAl hAe ⊢
  rw [← hYe] at hY hXY hAl hAe ⊢
  have p1 := (side_pos W X).2 hX
  have p2 := (side_pos H Y).2 hY
  have s1 := side_le W X
  have s2 := side_le H Y
  have C1 := fun wx => box_yes W H X Y hF hX hY wx
  have C2 := fun wx hs => cut_yes W H X Y n a cap F hF hn hX hY hl wx hs
  rw [← hAe] at C2
  rw [hLe]
  obtain ⟨sx, hsx⟩ : ∃ s, s = side W X := ⟨_, rfl⟩
  obtain ⟨sy, hsy⟩ : ∃ s, s = side H Y := ⟨_, rfl⟩
  obtain ⟨m, hm⟩ : ∃ m, m = sy * sx := ⟨_, rfl⟩
  rw [← hsx] at p1 s1 C1 C2 hAl ⊢
  rw [← hsy] at p2 s2 C1 C2 hAl
  rw [← hm] at C2 hAl
  obtain ⟨Z, hZ⟩ : ∃ Z, Z = tileAt F W H i := ⟨_, rfl⟩
  rw [← hZ] at C2 hAl hA16 ⊢
  have C3 := fun a' cap' wx hs => tput_any sx sy m a' cap' Z hAl (by rw [hm, Nat.mul_comm]) hA16 (isT_of (by omega)) wx hs
  obtain ⟨px, hpx⟩ : ∃ p, p = 16 * X := ⟨_, rfl⟩
  obtain ⟨py, hpy⟩ : ∃ p, p = 16 * Y := ⟨_, rfl⟩
  rw [← hpx, ← hpy] at C1
  obtain ⟨L, hL⟩ : ∃ L, L = pack (row (deltas sx Z)) := ⟨_, rfl⟩
  have hLlt : ∀ x ∈ L, x < 256 := by rw [hL]; exact pack_lt _
  rw [← hL] at C3 ⊢
  obtain ⟨k, hk⟩ : ∃ k, k = L.length := ⟨_, rfl⟩
  rw [← hk] at C3
  have C1 := Lib.hid C1
  have C2 := Lib.hid C2
  have C3 := Lib.hid C3
  have HS := Lib.hid hS
  have HK := Lib.hid hk
  have HLT := Lib.hid hLlt
  clear hF hn hX hY hl hS hXY hLe hAl hAe hA16 h16 hm hpx hpy hsx hsy hL hZ hXe hYe hi hk hLlt
  go_enter Tryz.func48, Tryz.ntmps48
  go_wp2_with fail
  obtain ⟨w2, hw2⟩ : ∃ w2, (w.alloc (.cells #[.int .i64 W, .int .i64 H, .slice a n cap] 26)).alloc (.cells #[.int .i64 X, .int .i64 Y] 92) = w2 := ⟨_, rfl⟩
  have hB2 : Below w.heap.size w w2 := by rw [← hw2]; exact ((Below.refl _ _).alloc (Nat.le_refl _) _).alloc (by simp) _
  have K1 : Blk w2 w.heap.size 26 [.int .i64 W, .int .i64 H, .slice a n cap] := by rw [← hw2]; exact (Blk.new w _ _).alloc _
  have K2 : Blk w2 (w.heap.size + 1) 92 [.int .i64 X, .int .i64 Y] := by
    rw [← hw2]
    have := Blk.new (w.alloc (.cells #[.int .i64 W, .int .i64 H, .slice a n cap] 26)) 92 [.int .i64 X, .int .i64 Y]
    rw [World.size_alloc] at this
    exact this
  rw [hw2]
  clear hw2
  refine (C1.out w2).mono ?_
  rintro e w3 ⟨rfl, hA3⟩
  clear C1
  have hB3 := hB2.trans (hA3.mono hB2.size)
  replace K1 := K1.below hA3 K1.lt
  replace K2 := K2.below hA3 K2.lt
  clear hB2 hA3
  have D2 := Lib.hid (C2.out w3 (HS.out.below hB3))
  have c0 := K1.cell (i := 0) rfl
  have c1 := K1.cell (i := 1) rfl
  have c2 := K1.cell (i := 2) rfl
  have d0 := K2.cell (i := 0) rfl
  have d1 := K2.cell (i := 1) rfl
  clear C2 K1 K2
  go_wp2_with fail
  refine D2.out.mono ?_
  rintro e w4 ⟨v4, rfl, ho4, hA4⟩
  clear D2 c0 c1 c2 d0 d1
  have hB4 := hB3.trans (hA4.mono hB3.size)
  obtain ⟨a4, cap4, rfl, _, _⟩ := ownsRow_slice ho4
  have D3 := Lib.hid (C3.out a4 cap4 w4 (Sl.of_own ho4))
  clear hB3 hA4 C3 ho4
  go_wp2_with fail
  refine D3.out.mono ?_
  rintro e w5 ⟨v5, rfl, ho5, hA5⟩
  clear D3
  have hB5 := hB4.trans (hA5.mono hB4.size)
  go_wp2_with fail
  go_ret
  exact ⟨_, k, L, rfl, rfl, HK.out.symm, HLT.out, ownsRow_base ho5 hB4.size, hB5⟩

/-! ### The places -/
theorem Eplc : ElemOf Tryz.prog 89 92 2 16 := ElemOf.mk' Tryz.underlying89 (z := pv 0 0) (by kernel_rfl) rfl (by decide)
def plcs (W n : Nat) : List Value := (List.range n).flatMap fun i => [.int .i64 ((i % cnt W : Nat) : Int), .int .i64 ((i / cnt W : Nat) : Int)]
theorem plcs_succ (W n : Nat) : plcs W (n + 1) = plcs W n ++ [.int .i64 ((n % cnt W : Nat) : Int), .int .i64 ((n / cnt W : Nat) : Int)] := by simp [plcs, List.range_succ]
theorem plcs_length (W n : Nat) : (plcs W n).length = n * 2 := by
  induction n with
  | zero => rfl
  | succ n ih => rw [plcs_succ, List.length_append, ih]; simp; omega
theorem plcs_at (W n i : Nat) (h : i < n) : (plcs W n)[i * 2]? = some (.int .i64 ((i % cnt W : Nat) : Int)) ∧ (plcs W n)[i * 2 + 1]? = some (.int .i64 ((i / cnt W : Nat) : Int)) := by
  induction n with
  | zero => omega
  | succ n ih =>
    rw [plcs_succ]
    have hl := plcs_length W n
    by_cases e : i = n
    · subst e
      rw [List.getElem?_append_right (by omega), List.getElem?_append_right (by omega), hl, Nat.sub_self, Nat.add_sub_cancel_left]
      exact ⟨rfl, rfl⟩
    · rw [List.getElem?_append_left (by omega), List.getElem?_append_left (by omega)]
      exact ih (by omega)

set_option maxRecDepth 20000 in
set_option maxHeartbeats 1600000 in
theorem places_any (W H : Nat) (hF : isF W H = true) (w : World) :
    Calls Tryz.prog 46 #[.int .i64 W, .int .i64 H] w fun e w' => ∃ v, e = .returned v ∧ w'.ownsRow w.heap.size 92 2 v (nT W H) (plcs W (nT W H)) ∧ Below w.heap.size w w' := by
  obtain ⟨h1, h2, h3, h4⟩ := isF_yes hF
  have l := nT_le (W := W) (H := H) (by omega) (by omega)
  have C1 := count9_any W H hF
  have C2 := fun i hi => place_any W i (by omega) (by omega) hi
  obtain ⟨n, hn⟩ : ∃ n, n = nT W H := ⟨_, rfl⟩
  rw [← hn] at C1 l ⊢
  have C1 := Lib.hid C1
  have C2 := Lib.hid C2
  clear hF hn
  go_enter Tryz.func46, Tryz.ntmps46
  go_wp2_with fail
  refine (C1.out w).mono ?_
  rintro e w1 ⟨rfl, hB1⟩
  clear C1
  go_wp2_with fail
  go_loopw [5, 10] (fun v c wx => ∃ i : Nat, i ≤ n ∧ c = .int .i64 i ∧ wx.ownsRow w.heap.size 92 2 v i (plcs W i) ∧ Below w.heap.size w wx) (fun _ c _ => n - (intOf c).toNat)
  case atStart => exact ⟨0, Nat.zero_le _, rfl, World.ownsRow_nil _ _ _ _, hB1⟩
  case round =>
    clear hB1
    obtain ⟨i, hi, rfl, ho, hB⟩ := hrel
    by_cases hlt : i < n
    · have D2 := Lib.hid (C2.out i (by omega) wr)
      have hs := plcs_succ W i
      obtain ⟨q1, hq1⟩ : ∃ q, q = i % cnt W := ⟨_, rfl⟩
      obtain ⟨q2, hq2⟩ : ∃ q, q = i / cnt W := ⟨_, rfl⟩
      rw [← hq1, ← hq2] at D2 hs
      have HSX := Lib.hid hs
      clear hq1 hq2 hs
      go_wp2_with fail
      refine D2.out.mono ?_
      rintro e w2 ⟨rfl, hA2⟩
      clear D2
      replace ho := ownsRow_below ho hA2
      have hB2 := hB.trans (hA2.mono hB.size)
      have hsz := hB2.size
      clear hB hA2
      go_wp2_with (at_builtin; refine wpList_app Eplc rfl (.tmp 13) (.tmp 17) rfl w.heap.size rfl (ho.alloc _) rfl (Sl.two _ _ _) (by intro u hu; simp at hu; rcases hu with rfl | rfl <;> rfl) (by unfold maxLen; omega) (by omega) (by simp; omega) ?_)
      intro v3 w3 ho3 hg3 _
      have hB3 := hB2.trans (app_below ho hsz hg3)
      rw [← HSX.out] at ho3
      clear ho hg3 hB2
      go_wp2_with fail
      go_roundw
      case rel => exact ⟨i + 1, by omega, by go_num, ho3, hB3⟩
      case measure => simp [intOf]; omega
    · obtain rfl : i = n := by omega
      go_wp2_with fail
      go_ret
      exact ⟨_, rfl, ho, hB⟩
end Go.Proofs.YtlkjcamjgaecgaaGreat

/-
  A map as bytes: the code's.
-/
namespace Go.Proofs.YtlkjcamjgaecgaaGreat
open Go Go.RowKit Go.Th Go.Th.Crc

/-- Header and directory, and tiles, as far as they are written. -/
structure PutI (w W : World) (Bh Bb : Nat) (vh vb : Value) (k m : Nat) (hd bd : List Nat) : Prop where
  oh : W.ownsRow Bh 5 1 vh k (u8s hd)
  ob : W.ownsRow Bb 5 1 vb m (u8s bd)
  ne : ∀ j, vh.ownBlock = some j → vb.ownBlock = some j → False
  bel : Below w.heap.size w W
  le : w.heap.size ≤ Bh ∧ w.heap.size ≤ Bb ∧ Bb ≤ W.heap.size ∧ Bh ≤ W.heap.size
section
variable {w W W' : World} {Bh Bb : Nat} {vh vb vh' vb' : Value} {k m k' m' : Nat} {hd bd hd' bd' : List Nat}
theorem PutI.below (h : PutI w W Bh Bb vh vb k m hd bd) (hb : Below W.heap.size W W') : PutI w W' Bh Bb vh vb k m hd bd :=
  ⟨ownsRow_below h.oh hb, ownsRow_below h.ob hb, h.ne, h.bel.trans (hb.mono h.bel.size), by have := h.le; have := hb.size; omega⟩
theorem PutI.drew (h : PutI w W Bh Bb vh vb k m hd bd) : PutI w W.drew Bh Bb vh vb k m hd bd := ⟨h.oh, h.ob, h.ne, h.bel.drew, h.le⟩
/-- A head of new memory. -/
theorem PutI.head (h : PutI w W Bh Bb vh vb k m hd bd) (hb : Below W.heap.size W W') (ho : W'.ownsRow W.heap.size 5 1 vh' k' (u8s hd')) : PutI w W' Bh Bb vh' vb k' m hd' bd :=
  ⟨ownsRow_base ho h.le.2.2.2, ownsRow_below h.ob hb, fun j h1 h2 => by have := (ho.lt j h1).1; have := (h.ob.lt j h2).2; omega, h.bel.trans (hb.mono h.bel.size), by have := h.le; have := hb.size; omega⟩
/-- A head that was appended to. -/
theorem PutI.head' (h : PutI w W Bh Bb vh vb k m hd bd) (ht : Turned (fun j => vh.ownBlock = some j) W W') (ho : W'.ownsRow Bh 5 1 vh' k' (u8s hd')) (hw : vh'.ownBlock = vh.ownBlock ∨ ∃ g, vh'.ownBlock = some g ∧ W.heap.size ≤ g) : PutI w W' Bh Bb vh' vb k' m hd' bd :=
  ⟨ho, ht.own h.ob (fun j h1 h2 => h.ne j h2 h1), fun j h1 h2 => by
    rcases hw with e | ⟨g, e, hg⟩
    · exact h.ne j (e.symm.trans h1) h2
    · rw [h1] at e; cases e; have := (h.ob.lt j h2).2; omega, ht.old h.bel h.bel.size (fun j hj hs => by have := (h.oh.lt j hs).1; have := h.le.1; omega), by have := h.le; have := ht.size; omega⟩
theorem grown_turned {w' : World} {row : Option Nat} (hg : W.grownBy w' row) : Turned (fun j => row = some j) W w' := (Turned.refl _ W).grown hg (fun j hj _ => hj)
theorem PutI.body (h : PutI w W Bh Bb vh vb k m hd bd) (hg : W.grownBy W' vb.ownBlock) (ho : W'.ownsRow Bb 5 1 vb' m' (u8s bd')) (hw : vb'.ownBlock = vb.ownBlock ∨ ∃ g, vb'.ownBlock = some g ∧ W.heap.size ≤ g) : PutI w W' Bh Bb vh vb' k m' hd bd' :=
  ⟨(grown_turned hg).own h.oh (fun j h1 h2 => h.ne j h1 h2), ho, fun j h1 h2 => by
    rcases hw with e | ⟨g, e, hg⟩
    · exact h.ne j h1 (e.symm.trans h2)
    · rw [h2] at e; cases e; have := (h.oh.lt j h1).2; omega, (grown_turned hg).old h.bel h.bel.size (fun j hj hs => by have := (h.ob.lt j hs).1; have := h.le.2.1; omega), by have := h.le; have := (grown_turned hg).size; omega⟩
end

set_option maxRecDepth 20000 in
theorem check9_ok (W H n : Nat) (cell ox oy : Int) (a : Option Addr) (cap : Nat) (hF : isF W H = true) (hn : n = W * H) (hc : isC cell = true) : Ans 43 #[cv W H (.slice a n cap) cell ox oy] (.int .i64 0) := by
  intro w
  have C1 := Lib.hid (fun wx => check_ok W H n a cap hF hn wx)
  have C2 := isCell_go cell
  rw [hc] at C2
  have C2 := Lib.hid C2
  clear hF hn hc
  obtain ⟨w1, hw1⟩ : ∃ w1, w.alloc (.cells #[.int .i64 W, .int .i64 H, .slice a n cap, .int .i64 cell, .int .i32 ox, .int .i32 oy] 28) = w1 := ⟨_, rfl⟩
  have hB1 : Below w.heap.size w w1 := by rw [← hw1]; exact (Below.refl _ _).alloc (Nat.le_refl _) _
  have KC : Blk w1 w.heap.size 28 [.int .i64 W, .int .i64 H, .slice a n cap, .int .i64 cell, .int .i32 ox, .int .i32 oy] := by rw [← hw1]; exact Blk.new w _ _
  have a0 := KC.cell (i := 0) rfl
  have a1 := KC.cell (i := 1) rfl
  have a2 := KC.cell (i := 2) rfl
  have a3 := KC.cell (i := 3) rfl
  have a4 := KC.cell (i := 4) rfl
  have a5 := KC.cell (i := 5) rfl
  go_enter Tryz.func43, Tryz.ntmps43
  go_wp2_with fail
  clear hw1
  refine (C1.out _).mono ?_
  rintro e w2 ⟨rfl, hA2⟩
  clear C1 a0 a1 a2 a3 a4 a5
  replace KC := KC.below hA2 KC.lt
  have c3 := KC.cell (i := 3) rfl
  have hB2 := hB1.trans (hA2.mono hB1.size)
  go_wp2_with fail
  refine (C2.out _).mono ?_
  rintro e wx ⟨rfl, rfl⟩
  clear C2
  go_wp2_with fail
  go_ret
  exact ⟨rfl, hB2⟩

set_option maxRecDepth 20000 in
theorem check9_bad (W H n : Nat) (cell ox oy : Int) (a : Option Addr) (cap : Nat) (hF : isF W H = true) (hn : n = W * H) (hc : isC cell = false) : Ans 43 #[cv W H (.slice a n cap) cell ox oy] (.int .i64 1) := by
  intro w
  have C1 := Lib.hid (fun wx => check_ok W H n a cap hF hn wx)
  have C2 := isCell_go cell
  rw [hc] at C2
  have C2 := Lib.hid C2
  clear hF hn hc
  obtain ⟨w1, hw1⟩ : ∃ w1, w.alloc (.cells #[.int .i64 W, .int .i64 H, .slice a n cap, .int .i64 cell, .int .i32 ox, .int .i32 oy] 28) = w1 := ⟨_, rfl⟩
  have hB1 : Below w.heap.size w w1 := by rw [← hw1]; exact (Below.refl _ _).alloc (Nat.le_refl _) _
  have KC : Blk w1 w.heap.size 28 [.int .i64 W, .int .i64 H, .slice a n cap, .int .i64 cell, .int .i32 ox, .int .i32 oy] := by rw [← hw1]; exact Blk.new w _ _
  have a0 := KC.cell (i := 0) rfl
  have a1 := KC.cell (i := 1) rfl
  have a2 := KC.cell (i := 2) rfl
  have a3 := KC.cell (i := 3) rfl
  have a4 := KC.cell (i := 4) rfl
  have a5 := KC.cell (i := 5) rfl
  go_enter Tryz.func43, Tryz.ntmps43
  go_wp2_with fail
  clear hw1
  refine (C1.out _).mono ?_
  rintro e w2 ⟨rfl, hA2⟩
  clear C1 a0 a1 a2 a3 a4 a5
  replace KC := KC.below hA2 KC.lt
  have c3 := KC.cell (i := 3) rfl
  have hB2 := hB1.trans (hA2.mono hB1.size)
  go_wp2_with fail
  refine (C2.out _).mono ?_
  rintro e wx ⟨rfl, rfl⟩
  clear C2
  go_wp2_with fail
  go_ret
  exact ⟨rfl, hB2⟩

set_option maxRecDepth 20000 in
theorem put9_bad (W H n : Nat) (cell ox oy : Int) (a : Option Addr) (cap : Nat) (hF : isF W H = true) (hn : n = W * H) (hc : isC cell = false) : Ans 27 #[cv W H (.slice a n cap) cell ox oy] (.tuple #[.slice none 0 0, .int .i64 1]) := by
  intro w
  have C1 := Lib.hid (check9_bad W H n cell ox oy a cap hF hn hc)
  clear hF hn hc
  obtain ⟨w1, hw1⟩ : ∃ w1, w.alloc (.cells #[.int .i64 W, .int .i64 H, .slice a n cap, .int .i64 cell, .int .i32 ox, .int .i32 oy] 28) = w1 := ⟨_, rfl⟩
  have hB1 : Below w.heap.size w w1 := by rw [← hw1]; exact (Below.refl _ _).alloc (Nat.le_refl _) _
  have KC : Blk w1 w.heap.size 28 [.int .i64 W, .int .i64 H, .slice a n cap, .int .i64 cell, .int .i32 ox, .int .i32 oy] := by rw [← hw1]; exact Blk.new w _ _
  have a0 := KC.cell (i := 0) rfl
  have a1 := KC.cell (i := 1) rfl
  have a2 := KC.cell (i := 2) rfl
  have a3 := KC.cell (i := 3) rfl
  have a4 := KC.cell (i := 4) rfl
  have a5 := KC.cell (i := 5) rfl
  go_enter Tryz.func27, Tryz.ntmps27
  go_wp2_with fail
  clear hw1
  refine (C1.out _).mono ?_
  rintro e w2 ⟨rfl, hA2⟩
  clear C1 a0 a1 a2 a3 a4 a5
  go_wp2_with fail
  go_ret2
  exact ⟨rfl, hB1.trans (hA2.mono hB1.size)⟩

set_option maxRecDepth 20000 in
set_option maxHeartbeats 6400000 in
theorem put9_go (W H cell n m9 hl : Nat) (ox oy : Int) (a : Option Addr) (cap : Nat) (F : List Int) (D Bd T : Nat → List Nat) (w : World) (hS : Sl w 1 (.slice a n cap) n (i16s F))
    (hW : 2 ≤ W ∧ W ≤ 256) (hH : 2 ≤ H ∧ H ≤ 256) (hm : m9 ≤ 256) (hhl : hl = 22 + 6 * m9) (hm1 : 0 < m9)
    (C1 : Hid (Ans 43 #[cv W H (.slice a n cap) cell ox oy] (.int .i64 0)))
    (C2 : Hid (∀ wx, Calls Tryz.prog 44 #[cv W H (.slice a n cap) cell ox oy] wx fun e w' => ∃ v, e = .returned v ∧ w'.ownsRow wx.heap.size 5 1 v 18 (u8s (D 0)) ∧ Below wx.heap.size wx w'))
    (C3 : Hid (Ans 45 #[.int .i64 W, .int .i64 H] (.int .i64 hl)))
    (C4 : Hid (∀ wx, Calls Tryz.prog 46 #[.int .i64 W, .int .i64 H] wx fun e w' => ∃ v, e = .returned v ∧ w'.ownsRow wx.heap.size 92 2 v m9 (plcs W m9) ∧ Below wx.heap.size wx w'))
    (C5 : Hid (∀ i, i < m9 → ∀ wx, Sl wx 1 (.slice a n cap) n (i16s F) → Calls Tryz.prog 48 #[hv W H (.slice a n cap), pv ((i % cnt W : Nat) : Int) ((i / cnt W : Nat) : Int)] wx fun e w' => ∃ v k L, e = .returned v ∧ putB L = T i ∧ L.length = k ∧ (∀ x ∈ L, x < 256) ∧ w'.ownsRow wx.heap.size 5 1 v k (u8s L) ∧ Below wx.heap.size wx w'))
    (HD : Hid (∀ i, i < m9 → D (i + 1) = (D i ++ lowB (hl + (Bd i).length) 4) ++ lowB (T i).length 2)) (HDL : Hid (∀ i, (D i).length = 18 + 6 * i)) (HDB : Hid (∀ i, ∀ x ∈ D i, x < 256))
    (HB : Hid (∀ i, Bd (i + 1) = Bd i ++ T i)) (HB0 : Hid (Bd 0 = [])) (HBL : Hid (∀ i, i ≤ m9 → (Bd i).length ≤ 1300 * i)) (HT : Hid (∀ i, i < m9 → 4 ≤ (T i).length ∧ (T i).length ≤ 1300)) (HBP : Hid (0 < (Bd m9).length)) :
    Calls Tryz.prog 27 #[cv W H (.slice a n cap) cell ox oy] w fun e w' => ∃ v, e = .returned (.tuple #[v, .int .i64 0]) ∧ w'.ownsRow w.heap.size 5 1 v (hl + (Bd m9).length) (u8s (putB (D m9) ++ Bd m9)) ∧ Below w.heap.size w w' := by
  obtain ⟨w1, hw1⟩ : ∃ w1, w.alloc (.cells #[.int .i64 W, .int .i64 H, .slice a n cap, .int .i64 cell, .int .i32 ox, .int .i32 oy] 28) = w1 := ⟨_, rfl⟩
  have hB1 : Below w.heap.size w w1 := by rw [← hw1]; exact (Below.refl _ _).alloc (Nat.le_refl _) _
  have KC : Blk w1 w.heap.size 28 [.int .i64 W, .int .i64 H, .slice a n cap, .int .i64 cell, .int .i32 ox, .int .i32 oy] := by rw [← hw1]; exact Blk.new w _ _
  have a0 := KC.cell (i := 0) rfl
  have a1 := KC.cell (i := 1) rfl
  have a2 := KC.cell (i := 2) rfl
  have a3 := KC.cell (i := 3) rfl
  have a4 := KC.cell (i := 4) rfl
  have a5 := KC.cell (i := 5) rfl
  have HS := Lib.hid hS
  have HHL := Lib.hid hhl
  have hhl2 : hl ≤ 2000 := by omega
  clear hS hhl
  go_enter Tryz.func27, Tryz.ntmps27
  go_wp2_with fail
  clear hw1
  refine (C1.out _).mono ?_
  rintro e w2 ⟨rfl, hA2⟩
  clear C1 a0 a1 a2 a3 a4 a5
  replace KC := KC.below hA2 KC.lt
  have hB2 := hB1.trans (hA2.mono hB1.size)
  clear hA2 hB1
  have a0 := KC.cell (i := 0) rfl
  have a1 := KC.cell (i := 1) rfl
  have a2 := KC.cell (i := 2) rfl
  have a3 := KC.cell (i := 3) rfl
  have a4 := KC.cell (i := 4) rfl
  have a5 := KC.cell (i := 5) rfl
  have D2 := Lib.hid (C2.out w2.drew)
  clear C2
  go_wp2_with fail
  refine wp_region_held_drew (S := (fun w' : World => w'.cell? ⟨w.heap.size, 0, none⟩ = some (.int .i64 W) ∧ w'.cell? ⟨w.heap.size, 1, none⟩ = some (.int .i64 H) ∧ w'.cell? ⟨w.heap.size, 2, none⟩ = some (.slice a n cap) ∧ w'.cell? ⟨w.heap.size, 3, none⟩ = some (.int .i64 cell) ∧ w'.cell? ⟨w.heap.size, 4, none⟩ = some (.int .i32 ox) ∧ w'.cell? ⟨w.heap.size, 5, none⟩ = some (.int .i32 oy))) (by kernel_rfl) (⟨a0, a1, a2, a3, a4, a5⟩) (fun hHeld => ?_)
  refine wpAnyH_take (i := 0) (v := ?v95) rfl (by kernel_rfl) (by kernel_rfl) (by kernel_rfl) (fun _ _ _ h => h) (Or.inl ⟨by rfl, ?hy95⟩) hHeld ?rest95
  case hy95 => (intro w' hSw; (try dsimp only at hSw); go_simp; (try with_reducible rfl))
  try simp only [Act.put, List.setIfInBounds_toArray, List.set_cons_zero, List.set_cons_succ, List.getElem_toArray, List.getElem_cons_zero, List.getElem_cons_succ]
  refine wpAnyH_take (i := 2) (v := ?v96) rfl (by kernel_rfl) (by kernel_rfl) (by kernel_rfl) (fun _ _ _ h => h) (Or.inl ⟨by rfl, ?hy96⟩) hHeld ?rest96
  case hy96 => (intro w' hSw; (try dsimp only at hSw); go_simp; (try with_reducible rfl))
  try simp only [Act.put, List.setIfInBounds_toArray, List.set_cons_zero, List.set_cons_succ, List.getElem_toArray, List.getElem_cons_zero, List.getElem_cons_succ]
  refine wpAnyH_take (i := 3) (v := ?v97) rfl (by kernel_rfl) (by kernel_rfl) (by kernel_rfl) (fun _ _ _ h => h) (Or.inl ⟨by rfl, ?hy97⟩) hHeld ?rest97
  case hy97 => (intro w' hSw; (try dsimp only at hSw); go_simp; (try with_reducible rfl))
  try simp only [Act.put, List.setIfInBounds_toArray, List.set_cons_zero, List.set_cons_succ, List.getElem_toArray, List.getElem_cons_zero, List.getElem_cons_succ]
  refine wpAnyH_take (i := 4) (v := ?v98) rfl (by kernel_rfl) (by kernel_rfl) (by kernel_rfl) (fun _ _ _ h => h) (Or.inl ⟨by rfl, ?hy98⟩) hHeld ?rest98
  case hy98 => (intro w' hSw; (try dsimp only at hSw); go_simp; (try with_reducible rfl))
  try simp only [Act.put, List.setIfInBounds_toArray, List.set_cons_zero, List.set_cons_succ, List.getElem_toArray, List.getElem_cons_zero, List.getElem_cons_succ]
  refine wpAnyH_take (i := 5) (v := ?v99) rfl (by kernel_rfl) (by kernel_rfl) (by kernel_rfl) (fun _ _ _ h => h) (Or.inl ⟨by rfl, ?hy99⟩) hHeld ?rest99
  case hy99 => (intro w' hSw; (try dsimp only at hSw); go_simp; (try with_reducible rfl))
  try simp only [Act.put, List.setIfInBounds_toArray, List.set_cons_zero, List.set_cons_succ, List.getElem_toArray, List.getElem_cons_zero, List.getElem_cons_succ]
  refine wpAnyH_take (i := 6) (v := ?v100) rfl (by kernel_rfl) (by kernel_rfl) (by kernel_rfl) (fun _ _ _ h => h) (Or.inl ⟨by rfl, ?hy100⟩) hHeld ?rest100
  case hy100 => (intro w' hSw; (try dsimp only at hSw); go_simp; (try with_reducible rfl))
  try simp only [Act.put, List.setIfInBounds_toArray, List.set_cons_zero, List.set_cons_succ, List.getElem_toArray, List.getElem_cons_zero, List.getElem_cons_succ]
  refine wpAnyH_take (i := 7) (v := ?v101) rfl (by kernel_rfl) (by kernel_rfl) (by kernel_rfl) (fun _ _ _ h => h) (Or.inl ⟨by rfl, ?hy101⟩) hHeld ?rest101
  case hy101 => (intro w' hSw; (try dsimp only at hSw); go_simp; (try with_reducible rfl))
  try simp only [Act.put, List.setIfInBounds_toArray, List.set_cons_zero, List.set_cons_succ, List.getElem_toArray, List.getElem_cons_zero, List.getElem_cons_succ]
  refine wpAnyH_ready (rs := [1]) (by kernel_rfl) (by simp) ?_
  refine AllReadyH.cons rfl (fun K hK => ?_) AllReadyH.nil
  go_simp
  refine D2.out.mono ?_
  rintro e w3 ⟨v3, rfl, ho3, hA3⟩
  obtain ⟨a3', c3', rfl, _, _⟩ := ownsRow_slice ho3
  have KC3 := KC.drew.below hA3 KC.lt
  have hB3 := hB2.drew.trans (hA3.mono hB2.size)
  clear D2 hA3
  try go_wp2_with fail
  refine hK.out _ _ (⟨KC3.cell (i := 0) rfl, KC3.cell (i := 1) rfl, KC3.cell (i := 2) rfl, KC3.cell (i := 3) rfl, KC3.cell (i := 4) rfl, KC3.cell (i := 5) rfl⟩) (fun hHeld => ?_)
  clear hK K
  try simp only [Act.put, List.setIfInBounds_toArray, List.set_cons_zero, List.set_cons_succ, List.getElem_toArray, List.getElem_cons_zero, List.getElem_cons_succ]
  refine wpAnyH_ready (rs := [8]) (by kernel_rfl) (by simp) ?_
  refine AllReadyH.cons rfl (fun K hK => ?_) AllReadyH.nil
  go_simp
  refine (C3.out _).mono ?_
  rintro e w4 ⟨rfl, hA4⟩
  have KC4 := KC3.below hA4 KC3.lt
  have hB4 := hB3.trans (hA4.mono hB3.size)
  have ho4 := ownsRow_below ho3 hA4
  clear C3 hA4
  try go_wp2_with fail
  refine hK.out _ _ (⟨KC4.cell (i := 0) rfl, KC4.cell (i := 1) rfl, KC4.cell (i := 2) rfl, KC4.cell (i := 3) rfl, KC4.cell (i := 4) rfl, KC4.cell (i := 5) rfl⟩) (fun hHeld => ?_)
  clear hK K
  try simp only [Act.put, List.setIfInBounds_toArray, List.set_cons_zero, List.set_cons_succ, List.getElem_toArray, List.getElem_cons_zero, List.getElem_cons_succ]
  refine wpAnyH_take (i := 9) (v := ?v104) rfl (by kernel_rfl) (by kernel_rfl) (by kernel_rfl) (fun _ _ _ h => h) (Or.inl ⟨by rfl, ?hy104⟩) hHeld ?rest104
  case hy104 => (intro w' hSw; (try dsimp only at hSw); go_simp; (try with_reducible rfl))
  try simp only [Act.put, List.setIfInBounds_toArray, List.set_cons_zero, List.set_cons_succ, List.getElem_toArray, List.getElem_cons_zero, List.getElem_cons_succ]
  refine wpAnyH_take (i := 10) (v := ?v105) rfl (by kernel_rfl) (by kernel_rfl) (by kernel_rfl) (fun _ _ _ h => h) (Or.inl ⟨by rfl, ?hy105⟩) hHeld ?rest105
  case hy105 => (intro w' hSw; (try dsimp only at hSw); go_simp; (try with_reducible rfl))
  try simp only [Act.put, List.setIfInBounds_toArray, List.set_cons_zero, List.set_cons_succ, List.getElem_toArray, List.getElem_cons_zero, List.getElem_cons_succ]
  refine wpAnyH_done (by kernel_rfl) ?_ _
  clear a0 a1 a2 a3 a4 a5 ho3 hB3 KC3 KC
  have a0 := KC4.cell (i := 0) rfl
  have a1 := KC4.cell (i := 1) rfl
  go_wp2_with fail
  refine (C4.out _).mono ?_
  rintro e w5 ⟨v5, rfl, ho5, hA5⟩
  obtain ⟨gp, cp, rfl, hgp1, hgp2, _, _⟩ := ownsRow_val ho5 hm1
  have KC5 := KC4.below hA5 KC4.lt
  have hB5 := hB4.trans (hA5.mono hB4.size)
  replace ho4 := ownsRow_below ho4 hA5
  have hz4 := hB4.size
  have hz5 := hB5.size
  have hk5 := KC4.lt
  have hgk : w.heap.size < w5.heap.size := by have := KC5.lt; omega
  obtain ⟨Bb, hBb⟩ : ∃ B, B = w5.heap.size := ⟨_, rfl⟩
  have hI0 : PutI w w5 w.heap.size Bb (.slice a3' 18 c3') (.slice none 0 0) 18 0 (D 0) (Bd 0) := by
    refine ⟨ownsRow_base ho4 (by rw [World.size_drew]; exact hB2.size), ?_, ?_, hB5, ⟨Nat.le_refl _, by omega, by omega, hz5⟩⟩
    · rw [HB0.out]; exact World.ownsRow_nil _ _ _ _
    · intro j _ h2; simp [Value.ownBlock] at h2
  have hgB : w.heap.size < Bb := by omega
  have hpB : gp < Bb := by omega
  clear C4 hA5 a0 a1 ho4 hB4 KC4 hBb
  go_wp2_with fail
  go_loopw [5, 7, 33] (fun vh vb c wx => ∃ i m : Nat, i ≤ m9 ∧ c = .int .i64 i ∧ Hid (m = (Bd i).length) ∧ m ≤ 1300 * i ∧ PutI w wx w.heap.size Bb vh vb (18 + 6 * i) m (D i) (Bd i) ∧ Blk wx w.heap.size 28 [.int .i64 W, .int .i64 H, .slice a n cap, .int .i64 cell, .int .i32 ox, .int .i32 oy] ∧ wx.ownsRow w4.heap.size 92 2 (.slice (some ⟨gp, 0, none⟩) m9 cp) m9 (plcs W m9)) (fun _ _ c _ => m9 - (intOf c).toNat)
  case atStart => exact ⟨0, 0, Nat.zero_le _, rfl, Lib.hid (by rw [HB0.out]; rfl), Nat.zero_le _, hI0, KC5, ho5⟩
  case round =>
    clear hI0 KC5 ho5
    obtain ⟨i, m, hi, rfl, hmm, hml, hI, K, hP⟩ := hrel
    by_cases hlt : i < m9
    · have p0 := hP.cells (g := gp) rfl _ _ (plcs_at W m9 i hlt).1
      have p1 := hP.cells (g := gp) rfl _ _ (plcs_at W m9 i hlt).2
      rw [add_none, Nat.zero_add] at p0 p1
      have D5 := C5.out i hlt
      obtain ⟨X, hX⟩ : ∃ X, X = i % cnt W := ⟨_, rfl⟩
      obtain ⟨Y, hY⟩ : ∃ Y, Y = i / cnt W := ⟨_, rfl⟩
      rw [← hX] at p0 D5
      rw [← hY] at p1 D5
      have D5 := Lib.hid D5
      obtain ⟨w6, hw6⟩ : ∃ w6, wr.alloc (.cells #[.int .i64 X, .int .i64 Y] 92) = w6 := ⟨_, rfl⟩
      have hA6 : Below wr.heap.size wr w6 := by rw [← hw6]; exact (Below.refl _ _).alloc (Nat.le_refl _) _
      have KP : Blk w6 wr.heap.size 92 [.int .i64 X, .int .i64 Y] := by rw [← hw6]; exact Blk.new wr _ _
      replace hI := hI.below hA6
      replace K := K.below hA6 K.lt
      replace hP := ownsRow_below hP hA6
      have a0 := K.cell (i := 0) rfl
      have a1 := K.cell (i := 1) rfl
      have a2 := K.cell (i := 2) rfl
      have k0 := KP.cell (i := 0) rfl
      have k1 := KP.cell (i := 1) rfl
      clear hX hY hA6
      go_wp2_with fail
      clear hw6
      refine (D5.out w6 (HS.out.below hI.bel)).mono ?_
      rintro e w7 ⟨v7, k7, L, rfl, hL, hLk, hLb, ho7, hA7⟩
      obtain ⟨a7, c7, rfl, _, _⟩ := ownsRow_slice ho7
      replace hI := hI.below hA7
      replace K := K.below hA7 K.lt
      replace hP := ownsRow_below hP hA7
      obtain ⟨t, ht⟩ : ∃ t, t = k7 + 4 := ⟨_, rfl⟩
      have htl : (T i).length = t := by rw [← hL, putB_length, hLk, ht]
      have hT := HT.out i hlt
      rw [htl] at hT
      have D6 := crcPut_any (.slice a7 k7 c7) L w7 (by rw [hLk]; exact Sl.of_own ho7) (by omega) hLb
      rw [hL, hLk, ← ht] at D6
      have D6 := Lib.hid D6
      clear a0 a1 a2 k0 k1 KP D5 hA7 ho7 hL hLk hLb p0 p1 ht
      go_wp2_with fail
      refine D6.out.mono ?_
      rintro e w8 ⟨v8, rfl, ho8, hA8⟩
      obtain ⟨a8, c8, rfl, _, _⟩ := ownsRow_slice ho8
      replace hI := hI.below hA8
      replace K := K.below hA8 K.lt
      replace hP := ownsRow_below hP hA8
      obtain ⟨q, hq⟩ : ∃ q, q = hl + m := ⟨_, rfl⟩
      have hqi : (hl : Int) + (m : Int) = (q : Int) := by omega
      have hq2 : q ≤ 400000 := by omega
      have hd := HD.out i hlt
      rw [htl, ← hmm.out, ← hq] at hd
      obtain ⟨d1, hd1⟩ : ∃ d, d = D i ++ lowB q 4 := ⟨_, rfl⟩
      rw [← hd1] at hd
      have hdl1 := put9_len (HDL.out i) hd1 (show 18 + 6 * i + 4 = 18 + 6 * i + 4 from rfl)
      obtain ⟨ah, ch, rfl, _, _⟩ := ownsRow_slice hI.oh
      obtain ⟨ab, cb, rfl, _, _⟩ := ownsRow_slice hI.ob
      have D7 := Lib.hid (bput9_any (.slice ah (18 + 6 * i) ch) (D i) d1 (18 + 6 * i) 4 (18 + 6 * i + 4) q (HDL.out i) hd1 rfl (by omega) (by omega) (by omega) w8 (Sl.of_own hI.oh))
      have D8 := Lib.hid (fun vx wx hs => bput9_any vx d1 (D (i + 1)) (18 + 6 * i + 4) 2 (18 + 6 * (i + 1)) t hdl1 hd (by omega) (by omega) (by omega) (by omega) wx hs)
      have HTL := Lib.hid htl
      clear D6 hA8 hd hd1 hdl1 hq htl
      go_wp2_with fail
      refine D7.out.mono ?_
      rintro e w9 ⟨v9, rfl, ho9, hA9⟩
      obtain ⟨a9, c9, rfl, _, _⟩ := ownsRow_slice ho9
      replace hI := hI.head hA9 ho9
      replace K := K.below hA9 K.lt
      replace hP := ownsRow_below hP hA9
      replace ho8 := ownsRow_below ho8 hA9
      have D9 := Lib.hid (D8.out _ w9 (Sl.of_own ho9))
      clear D7 D8 hA9 ho9
      go_wp2_with fail
      refine D9.out.mono ?_
      rintro e w10 ⟨v10, rfl, ho10, hA10⟩
      obtain ⟨a10, c10, rfl, _, _⟩ := ownsRow_slice ho10
      replace hI := hI.head hA10 ho10
      replace K := K.below hA10 K.lt
      replace hP := ownsRow_below hP hA10
      replace ho8 := ownsRow_below ho8 hA10
      have hle := hI.le
      clear D9 hA10 ho10
      have HO8 := Lib.hid (Sl.of_own ho8)
      clear ho8
      go_wp2_with (at_builtin; refine wpList_app Eu8 rfl (.tmp 54) (.tmp 55) rfl Bb rfl hI.ob rfl HO8.out (oneCell_u8s _) (by unfold maxLen; omega) (by omega) (by omega) ?_)
      intro v11 w11 ho11 hg11 hw11
      rw [show u8s (Bd i) ++ u8s (T i) = u8s (Bd (i + 1)) by rw [HB.out i]; simp [u8s]] at ho11
      have hT11 := grown_turned hg11
      have hI2 := hI.body hg11 ho11 hw11
      replace K := K.turned hT11 (fun hs => by have := (hI.ob.lt _ hs).1; omega)
      replace hP := hT11.own hP (fun k hk hs => by
        have h1 : k = gp := by simpa [Value.ownBlock] using hk.symm
        have := (hI.ob.lt _ hs).1; omega)
      have hmm2 : Hid (m + t = (Bd (i + 1)).length) := by show _ = _; rw [HB.out i, List.length_append, HTL.out, hmm.out]
      obtain ⟨a11, c11, rfl, _, _⟩ := ownsRow_slice ho11
      clear hI ho11 hg11 hw11 hT11 HO8
      go_wp2_with fail
      go_roundw
      case rel => exact ⟨i + 1, m + t, by omega, by go_num, hmm2, by omega, hI2, K, hP⟩
      case measure => simp [intOf]; omega
    · obtain rfl : i = m9 := by omega
      obtain ⟨ah, ch, rfl, _, _⟩ := ownsRow_slice hI.oh
      obtain ⟨ab, cb, rfl, _, _⟩ := ownsRow_slice hI.ob
      have hDl := HDL.out i
      have D6 := crcPut_any (.slice ah (18 + 6 * i) ch) (D i) wr (by rw [hDl]; exact Sl.of_own hI.oh) (by omega) (HDB.out i)
      rw [hDl] at D6
      have D6 := Lib.hid D6
      have HDl := Lib.hid hDl
      have hbp := HBP.out
      rw [← hmm.out] at hbp
      clear K hP hDl
      go_wp2_with fail
      refine D6.out.mono ?_
      rintro e w6 ⟨v6, rfl, ho6, hA6⟩
      obtain ⟨a6, c6, rfl, _, _⟩ := ownsRow_slice ho6
      replace hI := hI.below hA6
      clear D6 hA6
      obtain ⟨w7, hw7⟩ : ∃ w7, w6.alloc (.cells #[.slice a6 (18 + 6 * i + 4) c6, .slice ab m cb] 63) = w7 := ⟨_, rfl⟩
      have hA7 : Below w6.heap.size w6 w7 := by rw [← hw7]; exact (Below.refl _ _).alloc (Nat.le_refl _) _
      have KS : Blk w7 w6.heap.size 63 [.slice a6 (18 + 6 * i + 4) c6, .slice ab m cb] := by rw [← hw7]; exact Blk.new w6 _ _
      replace ho6 := ownsRow_below ho6 hA7
      replace hI := hI.below hA7
      have hpl : (putB (D i)).length = 18 + 6 * i + 4 := by rw [putB_length, HDl.out]
      have C := concat_any (.slice (some ⟨w6.heap.size, 0, none⟩) 2 2) _ _ (putB (D i)) (Bd i) w7 (KS.sl 2 rfl (by decide)) (by rw [hpl]; exact Sl.of_own ho6) (by rw [← hmm.out]; exact Sl.of_own hI.ob) (by rw [← hmm.out]; exact hbp) (by rw [hpl, ← hmm.out]; omega)
      rw [hpl, ← hmm.out, show 18 + 6 * i + 4 + m = hl + m by rw [HHL.out]; omega] at C
      have C := Lib.hid C
      clear hpl KS hA7 ho6
      go_wp2_with fail
      clear hw7
      refine C.out.mono ?_
      rintro e w8 ⟨v8, rfl, ho8, hA8⟩
      have hB8 := hI.bel.trans (hA8.mono hI.bel.size)
      go_wp2_with fail
      go_ret2
      exact ⟨_, rfl, by rw [← hmm.out]; exact ownsRow_base ho8 hI.bel.size, hB8⟩

theorem put9_any (W H cell n : Nat) (ox oy : Int) (a : Option Addr) (cap : Nat) (F : List Int) (hF : isF W H = true) (hn : n = W * H) (hc : isC cell = true) (hl : F.length = n) (h16 : ∀ u ∈ F, In16 u) (w : World) (hS : Sl w 1 (.slice a n cap) n (i16s F)) :
    Calls Tryz.prog 27 #[cv W H (.slice a n cap) cell ox oy] w fun e w' => ∃ v, e = .returned (.tuple #[v, .int .i64 0]) ∧ w'.ownsRow w.heap.size 5 1 v (chartB F W H cell ox oy).length (u8s (chartB F W H cell ox oy)) ∧ Below w.heap.size w w' := by
  obtain ⟨h1, h2, h3, h4⟩ := isF_yes hF
  have hcc := isC_yes hc
  have hFl : F.length = W * H := by rw [hl, hn]
  have hm := nT_le (W := W) (H := H) (by omega) (by omega)
  have hm1 := nT_pos (W := W) (H := H) (by omega) (by omega)
  have hhl : headLen W H = 22 + 6 * nT W H := by unfold headLen; omega
  rw [chartB_length]
  refine put9_go W H cell n (nT W H) (headLen W H) ox oy a cap F (dirTo F W H cell ox oy) (bodyTo F W H) (tileB F W H) w hS (by omega) (by omega) hm hhl hm1
    (Lib.hid (check9_ok W H n cell ox oy a cap hF hn hc)) (Lib.hid (fun wx => header_any W H cell ox oy a n cap (by omega) (by omega) (by omega) wx)) (Lib.hid (head_any W H hF)) (Lib.hid (fun wx => places_any W H hF wx))
    (Lib.hid (fun i hi wx hs => heights9_any W H i n a cap F hF hn hi hl h16 wx hs)) (Lib.hid (fun i _ => by rw [dirTo, List.append_assoc])) (Lib.hid (fun i => dirTo_length F W H cell ox oy i)) (Lib.hid (fun i => dirTo_lt F W H cell ox oy i))
    (Lib.hid (fun i => rfl)) (Lib.hid rfl) (Lib.hid (fun i hi => bodyTo_length F W H i hFl hi)) (Lib.hid (fun i hi => tileB_length F W H i hFl hi)) (Lib.hid ?_)
  obtain ⟨k, hk⟩ : ∃ k, nT W H = k + 1 := ⟨nT W H - 1, by omega⟩
  have := (tileB_length F W H k hFl (by omega)).1
  rw [hk, bodyTo, List.length_append]
  omega
end Go.Proofs.YtlkjcamjgaecgaaGreat

/-
  The directory of a map's bytes: the code's.
-/
namespace Go.Th
open Go Go.RowKit
/-- Eight cells stored, one behind the other. -/
abbrev set8 (w : World) (g : Nat) (v0 v1 v2 v3 v4 v5 v6 v7 : Value) : World :=
  (((((((w.setCell ⟨g, 0, none⟩ v0).setCell ⟨g, 1, none⟩ v1).setCell ⟨g, 2, none⟩ v2).setCell ⟨g, 3, none⟩ v3).setCell ⟨g, 4, none⟩ v4).setCell ⟨g, 5, none⟩ v5).setCell ⟨g, 6, none⟩ v6).setCell ⟨g, 7, none⟩ v7
theorem blk_set8 {w : World} {g : Nat} {t : TypeId} {c0 c1 c2 c3 c4 c5 c6 c7 : Value} (K : Blk w g t [c0, c1, c2, c3, c4, c5, c6, c7]) (v0 v1 v2 v3 v4 v5 v6 v7 : Value) : Blk (set8 w g v0 v1 v2 v3 v4 v5 v6 v7) g t [v0, v1, v2, v3, v4, v5, v6, v7] :=
  (((((((K.set 0 v0 (by simp)).set 1 v1 (by simp)).set 2 v2 (by simp)).set 3 v3 (by simp)).set 4 v4 (by simp)).set 5 v5 (by simp)).set 6 v6 (by simp)).set 7 v7 (by simp)
theorem turned_set8 (w : World) (g : Nat) (v0 v1 v2 v3 v4 v5 v6 v7 : Value) : Turned (fun k => k = g) w (set8 w g v0 v1 v2 v3 v4 v5 v6 v7) :=
  ((((((((Turned.refl (fun k => k = g) w).setCell (.inl rfl) v0).setCell (.inl rfl) v1).setCell (.inl rfl) v2).setCell (.inl rfl) v3).setCell (.inl rfl) v4).setCell (.inl rfl) v5).setCell (.inl rfl) v6).setCell (.inl rfl) v7
theorem grown_turned' {w w' : World} {row : Option Nat} (hg : w.grownBy w' row) : Turned (fun j => row = some j) w w' := (Turned.refl _ w).grown hg (fun j hj _ => hj)
end Go.Th
namespace Go.Proofs.YtlkjcamjgaecgaaGreat
open Go Go.RowKit Go.Th Go.Th.Crc

theorem Eint : ElemOf Tryz.prog 99 3 1 8 := ElemOf.mk' Tryz.underlying99 (z := .int .i64 0) (by kernel_rfl) rfl (by decide)
def ints (l : List Nat) : List Value := l.map fun x : Nat => .int .i64 (x : Int)
theorem ints_snoc (l : List Nat) (x : Nat) : ints (l ++ [x]) = ints l ++ [.int .i64 (x : Int)] := by simp [ints]
theorem ints_at (l : List Nat) (i : Nat) (h : i < l.length) : (ints l)[i]? = some (.int .i64 (l[i] : Nat)) := by simp [ints, h]

/-- Which code a directory that is none has. -/
def DirC (bs : List Nat) (n9 L : Nat) (O : Nat → Nat) (c : Int) : Prop := (c = 2 ∧ ¬ (∀ i, i < n9 → rd bs (18 + 6 * i) 4 = O i)) ∨ (c = 5 ∧ (∀ i, i < n9 → rd bs (18 + 6 * i) 4 = O i) ∧ O n9 ≠ L)
/-- A directory while it is read. -/
structure DirI (w W : World) (gD gR B : Nat) (cs zs : List Value) (va vs : Value) (k l : Nat) (qs ps : List Nat) : Prop where
  kD : Blk W gD 101 cs
  kR : Blk W gR 101 zs
  oA : W.ownsRow B 3 1 va k (ints qs)
  oS : W.ownsRow B 3 1 vs l (ints ps)
  ne : ∀ j, va.ownBlock = some j → vs.ownBlock = some j → False
  bel : Below w.heap.size w W
  le : w.heap.size ≤ B ∧ B ≤ W.heap.size ∧ gD < B ∧ gR < B ∧ w.heap.size ≤ gD ∧ w.heap.size ≤ gR
section
variable {w W W' : World} {gD gR B : Nat} {cs zs : List Value} {va vs va' vs' : Value} {k l k' l' : Nat} {qs ps qs' ps' : List Nat}
theorem DirI.below (h : DirI w W gD gR B cs zs va vs k l qs ps) (hb : Below W.heap.size W W') : DirI w W' gD gR B cs zs va vs k l qs ps :=
  ⟨h.kD.below hb h.kD.lt, h.kR.below hb h.kR.lt, ownsRow_below h.oA hb, ownsRow_below h.oS hb, h.ne, h.bel.trans (hb.mono h.bel.size), by have := h.le; have := hb.size; omega⟩
theorem DirI.drew (h : DirI w W gD gR B cs zs va vs k l qs ps) : DirI w W.drew gD gR B cs zs va vs k l qs ps := ⟨h.kD, h.kR, h.oA, h.oS, h.ne, h.bel.drew, h.le⟩
theorem DirI.appA (h : DirI w W gD gR B cs zs va vs k l qs ps) (hg : W.grownBy W' va.ownBlock) (ho : W'.ownsRow B 3 1 va' k' (ints qs')) (hw : va'.ownBlock = va.ownBlock ∨ ∃ g, va'.ownBlock = some g ∧ W.heap.size ≤ g) : DirI w W' gD gR B cs zs va' vs k' l qs' ps :=
  ⟨h.kD.turned (grown_turned' hg) (fun hs => by have := (h.oA.lt _ hs).1; have := h.le; omega), h.kR.turned (grown_turned' hg) (fun hs => by have := (h.oA.lt _ hs).1; have := h.le; omega), ho,
    (grown_turned' hg).own h.oS (fun j h1 h2 => h.ne j h2 h1), fun j h1 h2 => by
      rcases hw with e | ⟨g, e, hg⟩
      · exact h.ne j (e.symm.trans h1) h2
      · rw [h1] at e; cases e; have := (h.oS.lt j h2).2; omega, (grown_turned' hg).old h.bel h.bel.size (fun j hj hs => by have := (h.oA.lt j hs).1; have := h.le; omega), by have := h.le; have := (grown_turned' hg).size; omega⟩
theorem DirI.appS (h : DirI w W gD gR B cs zs va vs k l qs ps) (hg : W.grownBy W' vs.ownBlock) (ho : W'.ownsRow B 3 1 vs' l' (ints ps')) (hw : vs'.ownBlock = vs.ownBlock ∨ ∃ g, vs'.ownBlock = some g ∧ W.heap.size ≤ g) : DirI w W' gD gR B cs zs va vs' k l' qs ps' :=
  ⟨h.kD.turned (grown_turned' hg) (fun hs => by have := (h.oS.lt _ hs).1; have := h.le; omega), h.kR.turned (grown_turned' hg) (fun hs => by have := (h.oS.lt _ hs).1; have := h.le; omega), (grown_turned' hg).own h.oA (fun j h1 h2 => h.ne j h1 h2),
    ho, fun j h1 h2 => by
      rcases hw with e | ⟨g, e, hg⟩
      · exact h.ne j h1 (e.symm.trans h2)
      · rw [h2] at e; cases e; have := (h.oA.lt j h1).2; omega, (grown_turned' hg).old h.bel h.bel.size (fun j hj hs => by have := (h.oS.lt j hs).1; have := h.le; omega), by have := h.le; have := (grown_turned' hg).size; omega⟩
theorem DirI.setD (h : DirI w W gD gR B cs zs va vs k l qs ps) (hne : gD ≠ gR) (i : Nat) (u : Value) (hi : i < cs.length) : DirI w (W.setCell ⟨gD, i, none⟩ u) gD gR B (cs.set i u) zs va vs k l qs ps := by
  have ht : Turned (fun j => j = gD) W (W.setCell ⟨gD, i, none⟩ u) := (Turned.refl (fun j => j = gD) W).setCell (.inl rfl) u
  exact ⟨h.kD.set i u hi, h.kR.turned ht (fun e => hne e.symm), ht.own h.oA (fun j h1 h2 => by have := (h.oA.lt j h1).1; have := h.le; omega), ht.own h.oS (fun j h1 h2 => by have := (h.oS.lt j h1).1; have := h.le; omega), h.ne,
    ht.old h.bel h.bel.size (fun j hj hs => by have := h.le; omega), by have := h.le; have := ht.size; omega⟩
end

theorem zeroD : (Tryz.prog.info? 101).map (·.zero) = some (some (dv 0 0 (.slice none 0 0) 0 0 0 (.slice none 0 0) (.slice none 0 0))) := by kernel_rfl
theorem rd_chart9 (W H : Int) (v : Value) (cell ox oy : Int) : Rd Tryz.prog 28 0 [.int .i64 W, .int .i64 H, v, .int .i64 cell, .int .i32 ox, .int .i32 oy] (cv W H v cell ox oy) :=
  Rd.agg (ds := [.int .i64 W, .int .i64 H, v, .int .i64 cell, .int .i32 ox, .int .i32 oy]) Tryz.underlying28 rfl (by kernel_rfl) (fun j u h => by rw [Nat.zero_add]; exact h)
theorem wr_dir9 (W H : Int) (v : Value) (cell ox oy : Int) (a s : Value) (cs : List Value) (hl : cs.length = 8) (h1 : v.oneCell' = true) (h2 : a.oneCell' = true) (h3 : s.oneCell' = true) : Wr Tryz.prog 101 0 cs (dv W H v cell ox oy a s) [.int .i64 W, .int .i64 H, v, .int .i64 cell, .int .i32 ox, .int .i32 oy, a, s] :=
  Wr.whole (ds := [.int .i64 W, .int .i64 H, v, .int .i64 cell, .int .i32 ox, .int .i32 oy, a, s]) (by kernel_rfl) (by simp [hl]) (by
    intro u hu
    simp at hu
    rcases hu with rfl | rfl | rfl | rfl | rfl | rfl | rfl | rfl <;> first | rfl | assumption)

set_option maxRecDepth 20000 in
set_option maxHeartbeats 6400000 in
theorem directory_go (W H n9 hl L : Nat) (cell ox oy : Int) (bs : List Nat) (O R : Nat → Nat) (a : Option Addr) (cap : Nat) (w : World)
    (hn : n9 ≤ 256) (hhl : hl = 22 + 6 * n9) (hL : hl ≤ L) (hL2 : L ≤ 1000000000)
    (C3 : Hid (Ans 45 #[.int .i64 W, .int .i64 H] (.int .i64 hl))) (C4 : Hid (Ans 67 #[.int .i64 W, .int .i64 H] (.int .i64 n9)))
    (CN : Hid (∀ (at_ size : Nat), size ≤ 4 → at_ + size ≤ L → ∀ wx, Below w.heap.size w wx → Calls Tryz.prog 79 #[.slice a L cap, .int .i64 at_, .int .i64 size] wx fun e w' => e = .returned (.int .i64 (rd bs at_ size : Nat)) ∧ wx = w'))
    (HO : Hid (∀ i, O (i + 1) = O i + R i)) (HO0 : Hid (O 0 = hl)) (HR : Hid (∀ i, R i = rd bs (18 + 6 * i + 4) 2)) (HRl : Hid (∀ i, R i < 65536)) (HRd : Hid (∀ i, rd bs (18 + 6 * i) 4 < 4294967296)) :
    Calls Tryz.prog 81 #[.slice a L cap, cv W H (.slice none 0 0) cell ox oy] w fun e w' =>
      ((∀ i, i < n9 → rd bs (18 + 6 * i) 4 = O i) ∧ O n9 = L ∧ ∃ va vs, e = .returned (.tuple #[dv W H (.slice none 0 0) cell ox oy va vs, .int .i64 0]) ∧ w'.ownsRow w.heap.size 3 1 va n9 (ints ((List.range n9).map O)) ∧ w'.ownsRow w.heap.size 3 1 vs n9 (ints ((List.range n9).map R)) ∧ Below w.heap.size w w') ∨
      (¬ ((∀ i, i < n9 → rd bs (18 + 6 * i) 4 = O i) ∧ O n9 = L) ∧ ∃ c : Int, c ≠ 0 ∧ DirC bs n9 L O c ∧ e = .returned (.tuple #[dv 0 0 (.slice none 0 0) 0 0 0 (.slice none 0 0) (.slice none 0 0), .int .i64 c]) ∧ Below w.heap.size w w') := by
  have HHL := Lib.hid hhl
  have hhl2 : 22 ≤ hl ∧ hl ≤ 2000 := by omega
  clear hhl
  have M : Mem w ((w.alloc (.cells #[.int .i64 W, .int .i64 H, .slice none 0 0, .int .i64 cell, .int .i32 ox, .int .i32 oy] 28)).alloc (.cells #[.int .i64 0, .int .i64 0, .slice none 0 0, .int .i64 0, .int .i32 0, .int .i32 0, .slice none 0 0, .slice none 0 0] 101)) [(w.heap.size + 1, 101, [.int .i64 0, .int .i64 0, .slice none 0 0, .int .i64 0, .int .i32 0, .int .i32 0, .slice none 0 0, .slice none 0 0]), (w.heap.size, 28, [.int .i64 W, .int .i64 H, .slice none 0 0, .int .i64 cell, .int .i32 ox, .int .i32 oy])] := by
    have := ((Mem.start w).alloc 28 [.int .i64 W, .int .i64 H, .slice none 0 0, .int .i64 cell, .int .i32 ox, .int .i32 oy]).alloc 101 [.int .i64 0, .int .i64 0, .slice none 0 0, .int .i64 0, .int .i32 0, .int .i32 0, .slice none 0 0, .slice none 0 0]
    rw [World.size_alloc] at this
    exact this
  obtain ⟨w2, hw2⟩ : ∃ w2, (w.alloc (.cells #[.int .i64 W, .int .i64 H, .slice none 0 0, .int .i64 cell, .int .i32 ox, .int .i32 oy] 28)).alloc (.cells #[.int .i64 0, .int .i64 0, .slice none 0 0, .int .i64 0, .int .i32 0, .int .i32 0, .slice none 0 0, .slice none 0 0] 101) = w2 := ⟨_, rfl⟩
  rw [hw2] at M
  obtain ⟨gR, hgR⟩ : ∃ g, w.heap.size + 1 = g := ⟨_, rfl⟩
  have M' := M
  rw [hgR] at M'
  have HM := Lib.hid M'
  clear M M'
  go_enter Tryz.func81, Tryz.ntmps81
  go_upto_region 1 with fail
  clear hw2
  have M := HM.out
  clear HM
  go_cut [6, 7] from 12 (fun s6 s7 wx => ∃ gD, s6 = .pointer (some ⟨gD, 0, none⟩) ∧ s7 = .int .i64 hl ∧ Mem w wx [(gD, 101, [.int .i64 W, .int .i64 H, .slice none 0 0, .int .i64 cell, .int .i32 ox, .int .i32 oy, .slice none 0 0, .slice none 0 0]), (gR, 101, [.int .i64 0, .int .i64 0, .slice none 0 0, .int .i64 0, .int .i32 0, .int .i32 0, .slice none 0 0, .slice none 0 0]), (w.heap.size, 28, [.int .i64 W, .int .i64 H, .slice none 0 0, .int .i64 cell, .int .i32 ox, .int .i32 oy])])
  case first =>
    refine wp_region_held_drew (S := (fun w' : World => Mem w w' [(w.heap.size, 28, [.int .i64 W, .int .i64 H, .slice none 0 0, .int .i64 cell, .int .i32 ox, .int .i32 oy])])) (by kernel_rfl) (M.drew.pick (by repeat (first | exact List.nil_sublist _ | apply List.Sublist.cons_cons | apply List.Sublist.cons))) (fun hHeld => ?_)
    replace M := M.drew
    refine wpAnyH_take (i := 0) rfl (by kernel_rfl) (by kernel_rfl) (by kernel_rfl) (fun _ _ _ h => h) (yi_ld (fun _ h => ⟨_, h⟩) (by rfl) rfl rfl (by repeat (first | exact Has.head _ _ _ _ | apply Has.tail)) (rd_chart9 _ _ _ _ _ _)) hHeld ?_
    try simp only [Act.put, List.setIfInBounds_toArray, List.set_cons_zero, List.set_cons_succ, List.getElem_toArray, List.getElem_cons_zero, List.getElem_cons_succ]
    refine wpAnyH_take (i := 1) (v := ?v9001) rfl (by kernel_rfl) (by kernel_rfl) (by kernel_rfl) (fun _ _ _ h => h) (Or.inl ⟨by rfl, ?hy9001⟩) hHeld ?rest9001
    case hy9001 => (intro w' hSw; (try dsimp only at hSw); go_simp; (try with_reducible rfl))
    try simp only [Act.put, List.setIfInBounds_toArray, List.set_cons_zero, List.set_cons_succ, List.getElem_toArray, List.getElem_cons_zero, List.getElem_cons_succ]
    refine wpAnyH_take (i := 2) (v := ?v9002) rfl (by kernel_rfl) (by kernel_rfl) (by kernel_rfl) (fun _ _ _ h => h) (Or.inl ⟨by rfl, ?hy9002⟩) hHeld ?rest9002
    case hy9002 => (intro w' hSw; (try dsimp only at hSw); go_simp; (try with_reducible rfl))
    try simp only [Act.put, List.setIfInBounds_toArray, List.set_cons_zero, List.set_cons_succ, List.getElem_toArray, List.getElem_cons_zero, List.getElem_cons_succ]
    refine wpAnyH_take (i := 3) (v := ?v9003) rfl (by kernel_rfl) (by kernel_rfl) (by kernel_rfl) (fun _ _ _ h => h) (Or.inl ⟨by rfl, ?hy9003⟩) hHeld ?rest9003
    case hy9003 => (intro w' hSw; (try dsimp only at hSw); go_simp; (try with_reducible rfl))
    try simp only [Act.put, List.setIfInBounds_toArray, List.set_cons_zero, List.set_cons_succ, List.getElem_toArray, List.getElem_cons_zero, List.getElem_cons_succ]
    refine wpAnyH_take (i := 4) rfl (by kernel_rfl) (by kernel_rfl) (by kernel_rfl) (fun _ _ _ h => h) (yi_ld (fun _ h => ⟨_, h⟩) (by rfl) rfl rfl (by repeat (first | exact Has.head _ _ _ _ | apply Has.tail)) (Rd.one Tryz.underlying3 rfl rfl)) hHeld ?_
    try simp only [Act.put, List.setIfInBounds_toArray, List.set_cons_zero, List.set_cons_succ, List.getElem_toArray, List.getElem_cons_zero, List.getElem_cons_succ]
    refine wpAnyH_take (i := 5) (v := ?v9004) rfl (by kernel_rfl) (by kernel_rfl) (by kernel_rfl) (fun _ _ _ h => h) (Or.inl ⟨by rfl, ?hy9004⟩) hHeld ?rest9004
    case hy9004 => (intro w' hSw; (try dsimp only at hSw); go_simp; (try with_reducible rfl))
    try simp only [Act.put, List.setIfInBounds_toArray, List.set_cons_zero, List.set_cons_succ, List.getElem_toArray, List.getElem_cons_zero, List.getElem_cons_succ]
    refine wpAnyH_take (i := 6) (v := ?v9005) rfl (by kernel_rfl) (by kernel_rfl) (by kernel_rfl) (fun _ _ _ h => h) (Or.inl ⟨by rfl, ?hy9005⟩) hHeld ?rest9005
    case hy9005 => (intro w' hSw; (try dsimp only at hSw); go_simp; (try with_reducible rfl))
    try simp only [Act.put, List.setIfInBounds_toArray, List.set_cons_zero, List.set_cons_succ, List.getElem_toArray, List.getElem_cons_zero, List.getElem_cons_succ]
    refine wpAnyH_take (i := 7) rfl (by kernel_rfl) (by kernel_rfl) (by kernel_rfl) (fun _ _ _ h => h) (yi_ld (fun _ h => ⟨_, h⟩) (by rfl) rfl rfl (by repeat (first | exact Has.head _ _ _ _ | apply Has.tail)) (Rd.one Tryz.underlying3 rfl rfl)) hHeld ?_
    try simp only [Act.put, List.setIfInBounds_toArray, List.set_cons_zero, List.set_cons_succ, List.getElem_toArray, List.getElem_cons_zero, List.getElem_cons_succ]
    refine wpAnyH_ready (rs := [8, 9]) (by kernel_rfl) (by simp) ?_
    refine AllReadyH.cons rfl (fun K hK => ?_) (AllReadyH.cons rfl (fun K hK => ?_) AllReadyH.nil)
    · go_simp
      refine (C3.out _).mono ?_
      rintro e w2 ⟨rfl, hBl⟩
      replace M := M.call hBl
      clear hBl
      try go_wp2_with fail
      refine hK.out _ _ (M.pick (by repeat (first | exact List.nil_sublist _ | apply List.Sublist.cons_cons | apply List.Sublist.cons))) (fun hHeld => ?_)
      clear hK K
      try simp only [Act.put, List.setIfInBounds_toArray, List.set_cons_zero, List.set_cons_succ, List.getElem_toArray, List.getElem_cons_zero, List.getElem_cons_succ]
      refine wpAnyH_ready (rs := [9]) (by kernel_rfl) (by simp) ?_
      refine AllReadyH.cons rfl (fun K hK => ?_) AllReadyH.nil
      rw [if_pos (by rfl)]
      refine wp_al M rfl zeroD rfl ?_
      clear M
      intro gD wa9 M
      refine hK.out _ _ (M.pick (by repeat (first | exact List.nil_sublist _ | apply List.Sublist.cons_cons | apply List.Sublist.cons))) (fun hHeld => ?_)
      clear hK K
      try simp only [Act.put, List.setIfInBounds_toArray, List.set_cons_zero, List.set_cons_succ, List.getElem_toArray, List.getElem_cons_zero, List.getElem_cons_succ]
      refine wpAnyH_ready (rs := [10]) (by kernel_rfl) (by simp) ?_
      refine AllReadyH.cons rfl (fun K hK => ?_) AllReadyH.nil
      rw [if_pos (by rfl)]
      refine wp_st M rfl rfl rfl (by repeat (first | exact Has.head _ _ _ _ | apply Has.tail)) (wr_dir9 _ _ _ _ _ _ _ _ _ rfl rfl rfl rfl) (by repeat (first | exact Upd.head _ _ _ _ _ | apply Upd.tail)) ?_
      clear M
      intro w2 M
      refine hK.out _ _ (M.pick (by repeat (first | exact List.nil_sublist _ | apply List.Sublist.cons_cons | apply List.Sublist.cons))) (fun hHeld => ?_)
      clear hK K
      try simp only [Act.put, List.setIfInBounds_toArray, List.set_cons_zero, List.set_cons_succ, List.getElem_toArray, List.getElem_cons_zero, List.getElem_cons_succ]
      refine wpAnyH_take (i := 11) (v := ?v9006) rfl (by kernel_rfl) (by kernel_rfl) (by kernel_rfl) (fun _ _ _ h => h) (Or.inl ⟨by rfl, ?hy9006⟩) hHeld ?rest9006
      case hy9006 => (intro w' hSw; (try dsimp only at hSw); go_simp; (try with_reducible rfl))
      try simp only [Act.put, List.setIfInBounds_toArray, List.set_cons_zero, List.set_cons_succ, List.getElem_toArray, List.getElem_cons_zero, List.getElem_cons_succ]
      refine wpAnyH_done (by kernel_rfl) ?_ _
      go_wp2_with fail
      go_meet
      exact ⟨_, rfl, rfl, M⟩
    · rw [if_pos (by rfl)]
      refine wp_al M rfl zeroD rfl ?_
      clear M
      intro gD wa9 M
      refine hK.out _ _ (M.pick (by repeat (first | exact List.nil_sublist _ | apply List.Sublist.cons_cons | apply List.Sublist.cons))) (fun hHeld => ?_)
      clear hK K
      try simp only [Act.put, List.setIfInBounds_toArray, List.set_cons_zero, List.set_cons_succ, List.getElem_toArray, List.getElem_cons_zero, List.getElem_cons_succ]
      refine wpAnyH_ready (rs := [8]) (by kernel_rfl) (by simp) ?_
      refine AllReadyH.cons rfl (fun K hK => ?_) AllReadyH.nil
      go_simp
      refine (C3.out _).mono ?_
      rintro e w2 ⟨rfl, hBl⟩
      replace M := M.call hBl
      clear hBl
      try go_wp2_with fail
      refine hK.out _ _ (M.pick (by repeat (first | exact List.nil_sublist _ | apply List.Sublist.cons_cons | apply List.Sublist.cons))) (fun hHeld => ?_)
      clear hK K
      try simp only [Act.put, List.setIfInBounds_toArray, List.set_cons_zero, List.set_cons_succ, List.getElem_toArray, List.getElem_cons_zero, List.getElem_cons_succ]
      refine wpAnyH_ready (rs := [10]) (by kernel_rfl) (by simp) ?_
      refine AllReadyH.cons rfl (fun K hK => ?_) AllReadyH.nil
      rw [if_pos (by rfl)]
      refine wp_st M rfl rfl rfl (by repeat (first | exact Has.head _ _ _ _ | apply Has.tail)) (wr_dir9 _ _ _ _ _ _ _ _ _ rfl rfl rfl rfl) (by repeat (first | exact Upd.head _ _ _ _ _ | apply Upd.tail)) ?_
      clear M
      intro w2 M
      refine hK.out _ _ (M.pick (by repeat (first | exact List.nil_sublist _ | apply List.Sublist.cons_cons | apply List.Sublist.cons))) (fun hHeld => ?_)
      clear hK K
      try simp only [Act.put, List.setIfInBounds_toArray, List.set_cons_zero, List.set_cons_succ, List.getElem_toArray, List.getElem_cons_zero, List.getElem_cons_succ]
      refine wpAnyH_take (i := 11) (v := ?v9007) rfl (by kernel_rfl) (by kernel_rfl) (by kernel_rfl) (fun _ _ _ h => h) (Or.inl ⟨by rfl, ?hy9007⟩) hHeld ?rest9007
      case hy9007 => (intro w' hSw; (try dsimp only at hSw); go_simp; (try with_reducible rfl))
      try simp only [Act.put, List.setIfInBounds_toArray, List.set_cons_zero, List.set_cons_succ, List.getElem_toArray, List.getElem_cons_zero, List.getElem_cons_succ]
      refine wpAnyH_done (by kernel_rfl) ?_ _
      go_wp2_with fail
      go_meet
      exact ⟨_, rfl, rfl, M⟩
  obtain ⟨gD, rfl, rfl, M⟩ := hcut
  have a0 := M.cell (g := w.heap.size) (by repeat (first | exact Has.head _ _ _ _ | apply Has.tail)) (i := 0) rfl
  have a1 := M.cell (g := w.heap.size) (by repeat (first | exact Has.head _ _ _ _ | apply Has.tail)) (i := 1) rfl
  go_wp2_with fail
  refine (C4.out _).mono ?_
  rintro e w3 ⟨rfl, hA3⟩
  replace M := M.call hA3
  clear C3 C4 hA3 a0 a1 hgR
  obtain ⟨B, hB⟩ : ∃ B, B = w3.heap.size := ⟨_, rfl⟩
  have hDR : gD ≠ gR := by
    have := M.nodup
    simp at this
    omega
  have hI0 : DirI w w3 gD gR B [.int .i64 W, .int .i64 H, .slice none 0 0, .int .i64 cell, .int .i32 ox, .int .i32 oy, .slice none 0 0, .slice none 0 0] [.int .i64 0, .int .i64 0, .slice none 0 0, .int .i64 0, .int .i32 0, .int .i32 0, .slice none 0 0, .slice none 0 0] (.slice none 0 0) (.slice none 0 0) 0 0 [] [] := by
    refine ⟨M.has (by repeat (first | exact Has.head _ _ _ _ | apply Has.tail)), M.has (by repeat (first | exact Has.head _ _ _ _ | apply Has.tail)), World.ownsRow_nil _ _ _ _, World.ownsRow_nil _ _ _ _, fun j h _ => by simp [Value.ownBlock] at h, M.below, ?_⟩
    have h1 := M.lt (g := gD) (by repeat (first | exact Has.head _ _ _ _ | apply Has.tail))
    have h2 := M.lt (g := gR) (by repeat (first | exact Has.head _ _ _ _ | apply Has.tail))
    have h3 := M.from (g := gD) (by repeat (first | exact Has.head _ _ _ _ | apply Has.tail))
    have h4 := M.from (g := gR) (by repeat (first | exact Has.head _ _ _ _ | apply Has.tail))
    have h5 := M.below.size
    omega
  clear M hB
  go_wp2_with fail
  go_loopw [7, 28] (fun e c wx => ∃ (i : Nat) (va vs : Value), i ≤ n9 ∧ c = .int .i64 i ∧ e = .int .i64 (O i : Nat) ∧ O i ≤ hl + 65535 * i ∧ Hid (∀ j, j < i → rd bs (18 + 6 * j) 4 = O j) ∧ DirI w wx gD gR B [.int .i64 W, .int .i64 H, .slice none 0 0, .int .i64 cell, .int .i32 ox, .int .i32 oy, va, vs] [.int .i64 0, .int .i64 0, .slice none 0 0, .int .i64 0, .int .i32 0, .int .i32 0, .slice none 0 0, .slice none 0 0] va vs i i ((List.range i).map O) ((List.range i).map R)) (fun _ c _ => n9 - (intOf c).toNat)
  case atStart => exact ⟨0, _, _, Nat.zero_le _, rfl, by rw [HO0.out], by rw [HO0.out]; exact Nat.le_refl _, Lib.hid (fun j h => by omega), hI0⟩
  case round =>
    clear hI0
    obtain ⟨i, va, vs, hi, rfl, rfl, hol, hdir, hI⟩ := hrel
    obtain ⟨o, ho⟩ : ∃ o, o = O i := ⟨_, rfl⟩
    rw [← ho] at hol ⊢
    by_cases hlt : i < n9
    · obtain ⟨e, he⟩ : ∃ e, e = 18 + 6 * i := ⟨_, rfl⟩
      obtain ⟨e4, he4⟩ : ∃ e, e = 18 + 6 * i + 4 := ⟨_, rfl⟩
      have hel : e4 + 2 ≤ L := by have := HHL.out; omega
      have hei : 18 + (i : Int) * 6 = (e : Int) := by omega
      have hei4 : (e : Int) + 4 = (e4 : Int) := by omega
      have D1 := CN.out e 4 (by omega) (by omega) wr hI.bel
      have D2 := CN.out e4 2 (by omega) hel wr hI.bel
      have hr1 := HRd.out i
      have hr2 := HRl.out i
      have hr3 := HR.out i
      rw [← he] at hr1
      rw [← he4] at hr3
      rw [← hr3] at D2
      obtain ⟨r1, hr1e⟩ : ∃ r, r = rd bs e 4 := ⟨_, rfl⟩
      obtain ⟨r2, hr2e⟩ : ∃ r, r = R i := ⟨_, rfl⟩
      rw [← hr1e] at D1 hr1
      rw [← hr2e] at D2 hr2
      have HR1 := Lib.hid hr1e
      have HR2 := Lib.hid hr2e
      have HOE := Lib.hid ho
      have HE := Lib.hid he
      have D1 := Lib.hid D1
      have D2 := Lib.hid D2
      clear he he4 hr3 hr1e hr2e ho
      by_cases heq : r1 = o
      · have hd : ((r1 : Int) != (o : Int)) = false := by simp; omega
        have HEQ := Lib.hid heq
        clear heq
        go_wp2_with fail
        refine D1.out.mono ?_
        rintro e1 wx ⟨rfl, rfl⟩
        clear D1
        go_wp2_with fail
        refine D2.out.mono ?_
        rintro e1 wx ⟨rfl, rfl⟩
        clear D2
        go_wp2_with fail
        have HI0 := Lib.hid hI
        have hvA : ∀ j, va.ownBlock = some j → j < wr.heap.size := fun j h => (hI.oA.lt j h).2
        have HA : Hid (ints ((List.range i).map O) ++ [.int .i64 (r1 : Int)] = ints ((List.range (i + 1)).map O)) := by show _ = _; rw [List.range_succ, List.map_append, List.map_singleton, ints_snoc, ← HOE.out, HEQ.out]
        have HSZ : Hid (ints ((List.range i).map R) ++ [.int .i64 (r2 : Int)] = ints ((List.range (i + 1)).map R)) := by show _ = _; rw [List.range_succ, List.map_append, List.map_singleton, ints_snoc, ← HR2.out]
        have HDI : Hid (∀ j, j < i + 1 → rd bs (18 + 6 * j) 4 = O j) := by
          show ∀ j, j < i + 1 → rd bs (18 + 6 * j) 4 = O j
          intro j hj
          by_cases hji : j < i
          · exact hdir.out j hji
          · obtain rfl : j = i := by omega
            rw [← HE.out, ← HR1.out, HEQ.out, HOE.out]
        refine wp_region_N_drew (S := (fun w' : World => w'.cell? ⟨gD, 6, none⟩ = some va ∧ w'.cell? ⟨gD, 7, none⟩ = some vs)) 11 (by kernel_rfl) ?_
        replace hI := hI.drew
        have hHeld : (fun w' : World => w'.cell? ⟨gD, 6, none⟩ = some va ∧ w'.cell? ⟨gD, 7, none⟩ = some vs) wr.drew := ⟨hI.kD.cell (i := 6) rfl, hI.kD.cell (i := 7) rfl⟩
        refine wpAnyN_takeY (i := 0) (v := ?v9008) rfl (by kernel_rfl) (by kernel_rfl) (by kernel_rfl) (fun _ _ _ h => h) rfl (Or.inl ⟨by rfl, ?hy9008⟩) (fun _ => hHeld) ?rest9008
        case hy9008 => (intro w' _; go_simp; (try with_reducible rfl))
        try simp only [Act.put, List.setIfInBounds_toArray, List.set_cons_zero, List.set_cons_succ, List.getElem_toArray, List.getElem_cons_zero, List.getElem_cons_succ]
        refine wpAnyN_takeY (i := 2) (v := ?v9009) rfl (by kernel_rfl) (by kernel_rfl) (by kernel_rfl) (fun _ _ _ h => h) rfl (Or.inl ⟨by rfl, ?hy9009⟩) (fun _ => hHeld) ?rest9009
        case hy9009 => (intro w' _; go_simp; (try with_reducible rfl))
        try simp only [Act.put, List.setIfInBounds_toArray, List.set_cons_zero, List.set_cons_succ, List.getElem_toArray, List.getElem_cons_zero, List.getElem_cons_succ]
        refine wpAnyN_takeY (i := 5) (v := ?v9010) rfl (by kernel_rfl) (by kernel_rfl) (by kernel_rfl) (fun _ _ _ h => h) rfl (Or.inl ⟨by rfl, ?hy9010⟩) (fun _ => hHeld) ?rest9010
        case hy9010 => (intro w' _; go_simp; (try with_reducible rfl))
        try simp only [Act.put, List.setIfInBounds_toArray, List.set_cons_zero, List.set_cons_succ, List.getElem_toArray, List.getElem_cons_zero, List.getElem_cons_succ]
        refine wpAnyN_takeY (i := 7) (v := ?v9011) rfl (by kernel_rfl) (by kernel_rfl) (by kernel_rfl) (fun _ _ _ h => h) rfl (Or.inl ⟨by rfl, ?hy9011⟩) (fun _ => hHeld) ?rest9011
        case hy9011 => (intro w' _; go_simp; (try with_reducible rfl))
        try simp only [Act.put, List.setIfInBounds_toArray, List.set_cons_zero, List.set_cons_succ, List.getElem_toArray, List.getElem_cons_zero, List.getElem_cons_succ]
        refine wpAnyN_take (i := 1) (v := ?v9012) rfl (by kernel_rfl) (by kernel_rfl) (by kernel_rfl) (fun _ _ _ h => h) rfl (by kernel_rfl) (by kernel_rfl) (Or.inl ⟨by rfl, ?hy9012⟩) hHeld ?rest9012
        case hy9012 => (intro w' hSw; (try dsimp only at hSw); go_simp; (try with_reducible rfl))
        try simp only [Act.put, List.setIfInBounds_toArray, List.set_cons_zero, List.set_cons_succ, List.getElem_toArray, List.getElem_cons_zero, List.getElem_cons_succ]
        refine wpAnyN_take (i := 6) (v := ?v9013) rfl (by kernel_rfl) (by kernel_rfl) (by kernel_rfl) (fun _ _ _ h => h) rfl (by kernel_rfl) (by kernel_rfl) (Or.inl ⟨by rfl, ?hy9013⟩) hHeld ?rest9013
        case hy9013 => (intro w' hSw; (try dsimp only at hSw); go_simp; (try with_reducible rfl))
        try simp only [Act.put, List.setIfInBounds_toArray, List.set_cons_zero, List.set_cons_succ, List.getElem_toArray, List.getElem_cons_zero, List.getElem_cons_succ]
        refine wpAnyN_ready (rs := [3, 8]) (by kernel_rfl) (by simp) ?_
        refine AllReadyN.cons rfl (fun K hK => ?_) (AllReadyN.cons rfl (fun K hK => ?_) AllReadyN.nil)
        · rw [if_pos (by rfl)]
          go_simp
          obtain ⟨w3, hw3⟩ : ∃ w3, (wr.alloc (.cells #[.int .i64 r1] 3)).drew = w3 := ⟨_, rfl⟩
          have hA : Below wr.heap.size wr w3 := by rw [← hw3]; exact ((Below.refl _ _).alloc (Nat.le_refl _) _).drew
          have p3 : Sl w3 1 (.slice (some ⟨wr.heap.size, 0, none⟩) 1 1) 1 [.int .i64 r1] := by rw [← hw3]; exact Sl.one wr _ _
          obtain ⟨b3, hbe3⟩ : ∃ b, wr.heap.size = b := ⟨_, rfl⟩
          have hb3 : wr.heap.size ≤ b3 := by omega
          rw [hbe3] at p3
          have hs3 : wr.heap.size ≤ w3.heap.size := by have := hA.size; omega
          replace hI := HI0.out.below hA
          (try simp only [hw3, hbe3])
          clear hw3 hbe3 hA
          refine hK.out _ _ (fun _ => ⟨hI.kD.cell (i := 6) rfl, hI.kD.cell (i := 7) rfl⟩) ?_
          clear hK K
          try simp only [Act.put, List.setIfInBounds_toArray, List.set_cons_zero, List.set_cons_succ, List.getElem_toArray, List.getElem_cons_zero, List.getElem_cons_succ]
          refine wpAnyN_ready (rs := [4, 8]) (by kernel_rfl) (by simp) ?_
          refine AllReadyN.cons rfl (fun K hK => ?_) (AllReadyN.cons rfl (fun K hK => ?_) AllReadyN.nil)
          · rw [if_pos (by rfl)]
            refine wp_app Eint (.tmp 46) (.tmp 48) rfl B rfl hI.oA rfl p3 (by intro u hu; simp at hu; subst hu; rfl) (by unfold maxLen; omega) (by omega) hI.le.2.1 ?_
            intro v4 w4 ho4 hg4 hh4
            rw [HA.out] at ho4
            have hs4 : wr.heap.size ≤ w4.heap.size := by have := (grown_turned' hg4).size; omega
            replace hI := hI.appA hg4 ho4 hh4
            obtain ⟨a4, c4, rfl, _, _⟩ := ownsRow_slice ho4
            clear ho4 hg4 hh4 p3
            refine hK.out _ _ (fun _ => ⟨hI.kD.cell (i := 6) rfl, hI.kD.cell (i := 7) rfl⟩) ?_
            clear hK K
            try simp only [Act.put, List.setIfInBounds_toArray, List.set_cons_zero, List.set_cons_succ, List.getElem_toArray, List.getElem_cons_zero, List.getElem_cons_succ]
            refine wpAnyN_takeY (i := 10) (v := ?v9014) rfl (by kernel_rfl) (by kernel_rfl) (by kernel_rfl) (fun _ _ _ h => h) rfl (Or.inl ⟨by rfl, ?hy9014⟩) (fun _ => ⟨hI.kD.cell (i := 6) rfl, hI.kD.cell (i := 7) rfl⟩) ?rest9014
            case hy9014 => (intro w' _; go_simp; (try with_reducible rfl))
            try simp only [Act.put, List.setIfInBounds_toArray, List.set_cons_zero, List.set_cons_succ, List.getElem_toArray, List.getElem_cons_zero, List.getElem_cons_succ]
            refine wpAnyN_ready (rs := [8]) (by kernel_rfl) (by simp) ?_
            refine AllReadyN.cons rfl (fun K hK => ?_) AllReadyN.nil
            rw [if_pos (by rfl)]
            go_simp
            obtain ⟨w8, hw8⟩ : ∃ w8, (w4.alloc (.cells #[.int .i64 r2] 3)) = w8 := ⟨_, rfl⟩
            have hA : Below w4.heap.size w4 w8 := by rw [← hw8]; exact ((Below.refl _ _).alloc (Nat.le_refl _) _)
            have p8 : Sl w8 1 (.slice (some ⟨w4.heap.size, 0, none⟩) 1 1) 1 [.int .i64 r2] := by rw [← hw8]; exact Sl.one w4 _ _
            obtain ⟨b8, hbe8⟩ : ∃ b, w4.heap.size = b := ⟨_, rfl⟩
            have hb8 : wr.heap.size ≤ b8 := by omega
            rw [hbe8] at p8
            have hs8 : wr.heap.size ≤ w8.heap.size := by have := hA.size; omega
            replace hI := hI.below hA
            (try simp only [hw8, hbe8])
            clear hw8 hbe8 hA
            refine hK.out _ _ (fun _ => ⟨hI.kD.cell (i := 6) rfl, hI.kD.cell (i := 7) rfl⟩) ?_
            clear hK K
            try simp only [Act.put, List.setIfInBounds_toArray, List.set_cons_zero, List.set_cons_succ, List.getElem_toArray, List.getElem_cons_zero, List.getElem_cons_succ]
            refine wpAnyN_ready (rs := [9]) (by kernel_rfl) (by simp) ?_
            refine AllReadyN.cons rfl (fun K hK => ?_) AllReadyN.nil
            rw [if_pos (by rfl)]
            refine wp_app Eint (.tmp 51) (.tmp 53) rfl B rfl hI.oS rfl p8 (by intro u hu; simp at hu; subst hu; rfl) (by unfold maxLen; omega) (by omega) hI.le.2.1 ?_
            intro v9 w9 ho9 hg9 hh9
            rw [HSZ.out] at ho9
            have hs9 : wr.heap.size ≤ w9.heap.size := by have := (grown_turned' hg9).size; omega
            replace hI := hI.appS hg9 ho9 hh9
            obtain ⟨a9, c9, rfl, _, _⟩ := ownsRow_slice ho9
            clear ho9 hg9 hh9 p8
            refine hK.out _ _ (fun _ => ⟨hI.kD.cell (i := 6) rfl, hI.kD.cell (i := 7) rfl⟩) ?_
            clear hK K
            try simp only [Act.put, List.setIfInBounds_toArray, List.set_cons_zero, List.set_cons_succ, List.getElem_toArray, List.getElem_cons_zero, List.getElem_cons_succ]
            have d6 := hI.kD.cell (i := 6) rfl
            have f6 := hI.kD.free 6
            refine wpAnyN_ready (rs := [11]) (by kernel_rfl) (by simp) ?_
            refine AllReadyN.cons rfl (fun K hK => ?_) AllReadyN.nil
            rw [if_pos (by rfl)]
            go_simp
            replace hI := hI.setD hDR 6 (.slice a4 (i + 1) c4) (by simp)
            obtain ⟨w11, hw11⟩ : ∃ w11, w9.setCell ⟨gD, 6, none⟩ (.slice a4 (i + 1) c4) = w11 := ⟨_, rfl⟩
            (try rw [hw11] at hI)
            (try simp only [hw11])
            clear hw11 d6 f6
            refine hK.out _ _ (fun h => by have h' : (true : Bool) = false := h; cases h') ?_
            clear hK K
            try simp only [Act.put, List.setIfInBounds_toArray, List.set_cons_zero, List.set_cons_succ, List.getElem_toArray, List.getElem_cons_zero, List.getElem_cons_succ]
            refine wpAnyN_takeY (i := 12) (v := ?v9015) rfl (by kernel_rfl) (by kernel_rfl) (by kernel_rfl) (fun _ _ _ h => h) rfl (Or.inl ⟨by rfl, ?hy9015⟩) (fun h => by have h' : (true : Bool) = false := h; cases h') ?rest9015
            case hy9015 => (intro w' _; go_simp; (try with_reducible rfl))
            try simp only [Act.put, List.setIfInBounds_toArray, List.set_cons_zero, List.set_cons_succ, List.getElem_toArray, List.getElem_cons_zero, List.getElem_cons_succ]
            have d7 := hI.kD.cell (i := 7) rfl
            have f7 := hI.kD.free 7
            refine wpAnyN_ready (rs := [13]) (by kernel_rfl) (by simp) ?_
            refine AllReadyN.cons rfl (fun K hK => ?_) AllReadyN.nil
            rw [if_pos (by rfl)]
            go_simp
            replace hI := hI.setD hDR 7 (.slice a9 (i + 1) c9) (by simp)
            obtain ⟨w13, hw13⟩ : ∃ w13, w11.setCell ⟨gD, 7, none⟩ (.slice a9 (i + 1) c9) = w13 := ⟨_, rfl⟩
            (try rw [hw13] at hI)
            (try simp only [hw13])
            clear hw13 d7 f7
            refine hK.out _ _ (fun h => by have h' : (true : Bool) = false := h; cases h') ?_
            clear hK K
            try simp only [Act.put, List.setIfInBounds_toArray, List.set_cons_zero, List.set_cons_succ, List.getElem_toArray, List.getElem_cons_zero, List.getElem_cons_succ]
            refine wpAnyN_done (by kernel_rfl) ?_ _
            go_wp2_with fail
            go_roundw
            case rel => exact ⟨i + 1, _, _, by omega, by go_num, by rw [HO.out, ← HOE.out, ← HR2.out]; simp, by rw [HO.out, ← HOE.out, ← HR2.out]; omega, HDI, hI⟩
            case measure => simp [intOf]; omega
          · rw [if_pos (by rfl)]
            go_simp
            obtain ⟨w8, hw8⟩ : ∃ w8, (w3.alloc (.cells #[.int .i64 r2] 3)) = w8 := ⟨_, rfl⟩
            have hA : Below w3.heap.size w3 w8 := by rw [← hw8]; exact ((Below.refl _ _).alloc (Nat.le_refl _) _)
            have p8 : Sl w8 1 (.slice (some ⟨w3.heap.size, 0, none⟩) 1 1) 1 [.int .i64 r2] := by rw [← hw8]; exact Sl.one w3 _ _
            obtain ⟨b8, hbe8⟩ : ∃ b, w3.heap.size = b := ⟨_, rfl⟩
            have hb8 : wr.heap.size ≤ b8 := by omega
            rw [hbe8] at p8
            have hs8 : wr.heap.size ≤ w8.heap.size := by have := hA.size; omega
            replace hI := hI.below hA
            replace p3 := p3.below hA
            (try simp only [hw8, hbe8])
            clear hw8 hbe8 hA
            refine hK.out _ _ (fun _ => ⟨hI.kD.cell (i := 6) rfl, hI.kD.cell (i := 7) rfl⟩) ?_
            clear hK K
            try simp only [Act.put, List.setIfInBounds_toArray, List.set_cons_zero, List.set_cons_succ, List.getElem_toArray, List.getElem_cons_zero, List.getElem_cons_succ]
            refine wpAnyN_ready (rs := [4]) (by kernel_rfl) (by simp) ?_
            refine AllReadyN.cons rfl (fun K hK => ?_) AllReadyN.nil
            rw [if_pos (by rfl)]
            refine wp_app Eint (.tmp 46) (.tmp 48) rfl B rfl hI.oA rfl p3 (by intro u hu; simp at hu; subst hu; rfl) (by unfold maxLen; omega) (by omega) hI.le.2.1 ?_
            intro v4 w4 ho4 hg4 hh4
            rw [HA.out] at ho4
            replace p8 := p8.turned (grown_turned' hg4) (fun x hx hs => by cases hx; have h := hvA b8 hs; omega)
            have hs4 : wr.heap.size ≤ w4.heap.size := by have := (grown_turned' hg4).size; omega
            replace hI := hI.appA hg4 ho4 hh4
            obtain ⟨a4, c4, rfl, _, _⟩ := ownsRow_slice ho4
            clear ho4 hg4 hh4 p3
            refine hK.out _ _ (fun _ => ⟨hI.kD.cell (i := 6) rfl, hI.kD.cell (i := 7) rfl⟩) ?_
            clear hK K
            try simp only [Act.put, List.setIfInBounds_toArray, List.set_cons_zero, List.set_cons_succ, List.getElem_toArray, List.getElem_cons_zero, List.getElem_cons_succ]
            refine wpAnyN_takeY (i := 10) (v := ?v9016) rfl (by kernel_rfl) (by kernel_rfl) (by kernel_rfl) (fun _ _ _ h => h) rfl (Or.inl ⟨by rfl, ?hy9016⟩) (fun _ => ⟨hI.kD.cell (i := 6) rfl, hI.kD.cell (i := 7) rfl⟩) ?rest9016
            case hy9016 => (intro w' _; go_simp; (try with_reducible rfl))
            try simp only [Act.put, List.setIfInBounds_toArray, List.set_cons_zero, List.set_cons_succ, List.getElem_toArray, List.getElem_cons_zero, List.getElem_cons_succ]
            refine wpAnyN_ready (rs := [9]) (by kernel_rfl) (by simp) ?_
            refine AllReadyN.cons rfl (fun K hK => ?_) AllReadyN.nil
            rw [if_pos (by rfl)]
            refine wp_app Eint (.tmp 51) (.tmp 53) rfl B rfl hI.oS rfl p8 (by intro u hu; simp at hu; subst hu; rfl) (by unfold maxLen; omega) (by omega) hI.le.2.1 ?_
            intro v9 w9 ho9 hg9 hh9
            rw [HSZ.out] at ho9
            have hs9 : wr.heap.size ≤ w9.heap.size := by have := (grown_turned' hg9).size; omega
            replace hI := hI.appS hg9 ho9 hh9
            obtain ⟨a9, c9, rfl, _, _⟩ := ownsRow_slice ho9
            clear ho9 hg9 hh9 p8
            refine hK.out _ _ (fun _ => ⟨hI.kD.cell (i := 6) rfl, hI.kD.cell (i := 7) rfl⟩) ?_
            clear hK K
            try simp only [Act.put, List.setIfInBounds_toArray, List.set_cons_zero, List.set_cons_succ, List.getElem_toArray, List.getElem_cons_zero, List.getElem_cons_succ]
            have d6 := hI.kD.cell (i := 6) rfl
            have f6 := hI.kD.free 6
            refine wpAnyN_ready (rs := [11]) (by kernel_rfl) (by simp) ?_
            refine AllReadyN.cons rfl (fun K hK => ?_) AllReadyN.nil
            rw [if_pos (by rfl)]
            go_simp
            replace hI := hI.setD hDR 6 (.slice a4 (i + 1) c4) (by simp)
            obtain ⟨w11, hw11⟩ : ∃ w11, w9.setCell ⟨gD, 6, none⟩ (.slice a4 (i + 1) c4) = w11 := ⟨_, rfl⟩
            (try rw [hw11] at hI)
            (try simp only [hw11])
            clear hw11 d6 f6
            refine hK.out _ _ (fun h => by have h' : (true : Bool) = false := h; cases h') ?_
            clear hK K
            try simp only [Act.put, List.setIfInBounds_toArray, List.set_cons_zero, List.set_cons_succ, List.getElem_toArray, List.getElem_cons_zero, List.getElem_cons_succ]
            refine wpAnyN_takeY (i := 12) (v := ?v9017) rfl (by kernel_rfl) (by kernel_rfl) (by kernel_rfl) (fun _ _ _ h => h) rfl (Or.inl ⟨by rfl, ?hy9017⟩) (fun h => by have h' : (true : Bool) = false := h; cases h') ?rest9017
            case hy9017 => (intro w' _; go_simp; (try with_reducible rfl))
            try simp only [Act.put, List.setIfInBounds_toArray, List.set_cons_zero, List.set_cons_succ, List.getElem_toArray, List.getElem_cons_zero, List.getElem_cons_succ]
            have d7 := hI.kD.cell (i := 7) rfl
            have f7 := hI.kD.free 7
            refine wpAnyN_ready (rs := [13]) (by kernel_rfl) (by simp) ?_
            refine AllReadyN.cons rfl (fun K hK => ?_) AllReadyN.nil
            rw [if_pos (by rfl)]
            go_simp
            replace hI := hI.setD hDR 7 (.slice a9 (i + 1) c9) (by simp)
            obtain ⟨w13, hw13⟩ : ∃ w13, w11.setCell ⟨gD, 7, none⟩ (.slice a9 (i + 1) c9) = w13 := ⟨_, rfl⟩
            (try rw [hw13] at hI)
            (try simp only [hw13])
            clear hw13 d7 f7
            refine hK.out _ _ (fun h => by have h' : (true : Bool) = false := h; cases h') ?_
            clear hK K
            try simp only [Act.put, List.setIfInBounds_toArray, List.set_cons_zero, List.set_cons_succ, List.getElem_toArray, List.getElem_cons_zero, List.getElem_cons_succ]
            refine wpAnyN_done (by kernel_rfl) ?_ _
            go_wp2_with fail
            go_roundw
            case rel => exact ⟨i + 1, _, _, by omega, by go_num, by rw [HO.out, ← HOE.out, ← HR2.out]; simp, by rw [HO.out, ← HOE.out, ← HR2.out]; omega, HDI, hI⟩
            case measure => simp [intOf]; omega
        · rw [if_pos (by rfl)]
          go_simp
          obtain ⟨w8, hw8⟩ : ∃ w8, (wr.alloc (.cells #[.int .i64 r2] 3)).drew = w8 := ⟨_, rfl⟩
          have hA : Below wr.heap.size wr w8 := by rw [← hw8]; exact ((Below.refl _ _).alloc (Nat.le_refl _) _).drew
          have p8 : Sl w8 1 (.slice (some ⟨wr.heap.size, 0, none⟩) 1 1) 1 [.int .i64 r2] := by rw [← hw8]; exact Sl.one wr _ _
          obtain ⟨b8, hbe8⟩ : ∃ b, wr.heap.size = b := ⟨_, rfl⟩
          have hb8 : wr.heap.size ≤ b8 := by omega
          rw [hbe8] at p8
          have hs8 : wr.heap.size ≤ w8.heap.size := by have := hA.size; omega
          replace hI := HI0.out.below hA
          (try simp only [hw8, hbe8])
          clear hw8 hbe8 hA
          refine hK.out _ _ (fun _ => ⟨hI.kD.cell (i := 6) rfl, hI.kD.cell (i := 7) rfl⟩) ?_
          clear hK K
          try simp only [Act.put, List.setIfInBounds_toArray, List.set_cons_zero, List.set_cons_succ, List.getElem_toArray, List.getElem_cons_zero, List.getElem_cons_succ]
          refine wpAnyN_ready (rs := [3]) (by kernel_rfl) (by simp) ?_
          refine AllReadyN.cons rfl (fun K hK => ?_) AllReadyN.nil
          rw [if_pos (by rfl)]
          go_simp
          obtain ⟨w3, hw3⟩ : ∃ w3, (w8.alloc (.cells #[.int .i64 r1] 3)) = w3 := ⟨_, rfl⟩
          have hA : Below w8.heap.size w8 w3 := by rw [← hw3]; exact ((Below.refl _ _).alloc (Nat.le_refl _) _)
          have p3 : Sl w3 1 (.slice (some ⟨w8.heap.size, 0, none⟩) 1 1) 1 [.int .i64 r1] := by rw [← hw3]; exact Sl.one w8 _ _
          obtain ⟨b3, hbe3⟩ : ∃ b, w8.heap.size = b := ⟨_, rfl⟩
          have hb3 : wr.heap.size ≤ b3 := by omega
          rw [hbe3] at p3
          have hs3 : wr.heap.size ≤ w3.heap.size := by have := hA.size; omega
          replace hI := hI.below hA
          replace p8 := p8.below hA
          (try simp only [hw3, hbe3])
          clear hw3 hbe3 hA
          refine hK.out _ _ (fun _ => ⟨hI.kD.cell (i := 6) rfl, hI.kD.cell (i := 7) rfl⟩) ?_
          clear hK K
          try simp only [Act.put, List.setIfInBounds_toArray, List.set_cons_zero, List.set_cons_succ, List.getElem_toArray, List.getElem_cons_zero, List.getElem_cons_succ]
          refine wpAnyN_ready (rs := [4]) (by kernel_rfl) (by simp) ?_
          refine AllReadyN.cons rfl (fun K hK => ?_) AllReadyN.nil
          rw [if_pos (by rfl)]
          refine wp_app Eint (.tmp 46) (.tmp 48) rfl B rfl hI.oA rfl p3 (by intro u hu; simp at hu; subst hu; rfl) (by unfold maxLen; omega) (by omega) hI.le.2.1 ?_
          intro v4 w4 ho4 hg4 hh4
          rw [HA.out] at ho4
          replace p8 := p8.turned (grown_turned' hg4) (fun x hx hs => by cases hx; have h := hvA b8 hs; omega)
          have hs4 : wr.heap.size ≤ w4.heap.size := by have := (grown_turned' hg4).size; omega
          replace hI := hI.appA hg4 ho4 hh4
          obtain ⟨a4, c4, rfl, _, _⟩ := ownsRow_slice ho4
          clear ho4 hg4 hh4 p3
          refine hK.out _ _ (fun _ => ⟨hI.kD.cell (i := 6) rfl, hI.kD.cell (i := 7) rfl⟩) ?_
          clear hK K
          try simp only [Act.put, List.setIfInBounds_toArray, List.set_cons_zero, List.set_cons_succ, List.getElem_toArray, List.getElem_cons_zero, List.getElem_cons_succ]
          refine wpAnyN_takeY (i := 10) (v := ?v9018) rfl (by kernel_rfl) (by kernel_rfl) (by kernel_rfl) (fun _ _ _ h => h) rfl (Or.inl ⟨by rfl, ?hy9018⟩) (fun _ => ⟨hI.kD.cell (i := 6) rfl, hI.kD.cell (i := 7) rfl⟩) ?rest9018
          case hy9018 => (intro w' _; go_simp; (try with_reducible rfl))
          try simp only [Act.put, List.setIfInBounds_toArray, List.set_cons_zero, List.set_cons_succ, List.getElem_toArray, List.getElem_cons_zero, List.getElem_cons_succ]
          refine wpAnyN_ready (rs := [9]) (by kernel_rfl) (by simp) ?_
          refine AllReadyN.cons rfl (fun K hK => ?_) AllReadyN.nil
          rw [if_pos (by rfl)]
          refine wp_app Eint (.tmp 51) (.tmp 53) rfl B rfl hI.oS rfl p8 (by intro u hu; simp at hu; subst hu; rfl) (by unfold maxLen; omega) (by omega) hI.le.2.1 ?_
          intro v9 w9 ho9 hg9 hh9
          rw [HSZ.out] at ho9
          have hs9 : wr.heap.size ≤ w9.heap.size := by have := (grown_turned' hg9).size; omega
          replace hI := hI.appS hg9 ho9 hh9
          obtain ⟨a9, c9, rfl, _, _⟩ := ownsRow_slice ho9
          clear ho9 hg9 hh9 p8
          refine hK.out _ _ (fun _ => ⟨hI.kD.cell (i := 6) rfl, hI.kD.cell (i := 7) rfl⟩) ?_
          clear hK K
          try simp only [Act.put, List.setIfInBounds_toArray, List.set_cons_zero, List.set_cons_succ, List.getElem_toArray, List.getElem_cons_zero, List.getElem_cons_succ]
          have d6 := hI.kD.cell (i := 6) rfl
          have f6 := hI.kD.free 6
          refine wpAnyN_ready (rs := [11]) (by kernel_rfl) (by simp) ?_
          refine AllReadyN.cons rfl (fun K hK => ?_) AllReadyN.nil
          rw [if_pos (by rfl)]
          go_simp
          replace hI := hI.setD hDR 6 (.slice a4 (i + 1) c4) (by simp)
          obtain ⟨w11, hw11⟩ : ∃ w11, w9.setCell ⟨gD, 6, none⟩ (.slice a4 (i + 1) c4) = w11 := ⟨_, rfl⟩
          (try rw [hw11] at hI)
          (try simp only [hw11])
          clear hw11 d6 f6
          refine hK.out _ _ (fun h => by have h' : (true : Bool) = false := h; cases h') ?_
          clear hK K
          try simp only [Act.put, List.setIfInBounds_toArray, List.set_cons_zero, List.set_cons_succ, List.getElem_toArray, List.getElem_cons_zero, List.getElem_cons_succ]
          refine wpAnyN_takeY (i := 12) (v := ?v9019) rfl (by kernel_rfl) (by kernel_rfl) (by kernel_rfl) (fun _ _ _ h => h) rfl (Or.inl ⟨by rfl, ?hy9019⟩) (fun h => by have h' : (true : Bool) = false := h; cases h') ?rest9019
          case hy9019 => (intro w' _; go_simp; (try with_reducible rfl))
          try simp only [Act.put, List.setIfInBounds_toArray, List.set_cons_zero, List.set_cons_succ, List.getElem_toArray, List.getElem_cons_zero, List.getElem_cons_succ]
          have d7 := hI.kD.cell (i := 7) rfl
          have f7 := hI.kD.free 7
          refine wpAnyN_ready (rs := [13]) (by kernel_rfl) (by simp) ?_
          refine AllReadyN.cons rfl (fun K hK => ?_) AllReadyN.nil
          rw [if_pos (by rfl)]
          go_simp
          replace hI := hI.setD hDR 7 (.slice a9 (i + 1) c9) (by simp)
          obtain ⟨w13, hw13⟩ : ∃ w13, w11.setCell ⟨gD, 7, none⟩ (.slice a9 (i + 1) c9) = w13 := ⟨_, rfl⟩
          (try rw [hw13] at hI)
          (try simp only [hw13])
          clear hw13 d7 f7
          refine hK.out _ _ (fun h => by have h' : (true : Bool) = false := h; cases h') ?_
          clear hK K
          try simp only [Act.put, List.setIfInBounds_toArray, List.set_cons_zero, List.set_cons_succ, List.getElem_toArray, List.getElem_cons_zero, List.getElem_cons_succ]
          refine wpAnyN_done (by kernel_rfl) ?_ _
          go_wp2_with fail
          go_roundw
          case rel => exact ⟨i + 1, _, _, by omega, by go_num, by rw [HO.out, ← HOE.out, ← HR2.out]; simp, by rw [HO.out, ← HOE.out, ← HR2.out]; omega, HDI, hI⟩
          case measure => simp [intOf]; omega
      · have hd : ((r1 : Int) != (o : Int)) = true := by simp; omega
        have hno : ¬ ((∀ i, i < n9 → rd bs (18 + 6 * i) 4 = O i) ∧ O n9 = L) := fun h => heq (by rw [HR1.out, HE.out, h.1 i hlt, HOE.out])
        have hno2 : ¬ (∀ j, j < n9 → rd bs (18 + 6 * j) 4 = O j) := fun h => heq (by rw [HR1.out, HE.out, h i hlt, HOE.out])
        have HWY : Hid (DirC bs n9 L O 2) := Lib.hid (.inl ⟨rfl, hno2⟩)
        have HNO := Lib.hid hno
        clear heq hno hno2
        have z0 := hI.kR.cell (i := 0) rfl
        have z1 := hI.kR.cell (i := 1) rfl
        have z2 := hI.kR.cell (i := 2) rfl
        have z3 := hI.kR.cell (i := 3) rfl
        have z4 := hI.kR.cell (i := 4) rfl
        have z5 := hI.kR.cell (i := 5) rfl
        have z6 := hI.kR.cell (i := 6) rfl
        have z7 := hI.kR.cell (i := 7) rfl
        have zf0 := hI.kR.free 0
        have zf1 := hI.kR.free 1
        have zf2 := hI.kR.free 2
        have zf3 := hI.kR.free 3
        have zf4 := hI.kR.free 4
        have zf5 := hI.kR.free 5
        have zf6 := hI.kR.free 6
        have zf7 := hI.kR.free 7
        go_wp2_with fail
        refine D1.out.mono ?_
        rintro e1 wx ⟨rfl, rfl⟩
        clear D1
        go_wp2_with fail
        refine D2.out.mono ?_
        rintro e1 wx ⟨rfl, rfl⟩
        clear D2
        go_wp2_with fail
        refine bodyPost_ret (v := .tuple #[dv 0 0 (.slice none 0 0) 0 0 0 (.slice none 0 0) (.slice none 0 0), .int .i64 2]) (res_blk_tmp rfl rfl (blk_set8 hI.kR _ _ _ _ _ _ _ _) Tryz.underlying101 rfl (by kernel_rfl) rfl) rfl ?_
        have ht := turned_set8 wr gR (.int .i64 0) (.int .i64 0) (.slice none 0 0) (.int .i64 0) (.int .i32 0) (.int .i32 0) (.slice none 0 0) (.slice none 0 0)
        exact .inr ⟨HNO.out, 2, by decide, HWY.out, rfl, ht.old hI.bel hI.bel.size (by rintro k hk rfl; have := hI.le; omega)⟩
    · obtain rfl : i = n9 := by omega
      by_cases heq : o = L
      · have hd : ((o : Int) != (L : Int)) = false := by simp; omega
        have HEQ := Lib.hid heq
        have HOE := Lib.hid ho
        clear heq ho
        obtain ⟨aA, cA, rfl, _, _⟩ := ownsRow_slice hI.oA
        obtain ⟨aS, cS, rfl, _, _⟩ := ownsRow_slice hI.oS
        have d0 := hI.kD.cell (i := 0) rfl
        have d1 := hI.kD.cell (i := 1) rfl
        have d2 := hI.kD.cell (i := 2) rfl
        have d3 := hI.kD.cell (i := 3) rfl
        have d4 := hI.kD.cell (i := 4) rfl
        have d5 := hI.kD.cell (i := 5) rfl
        have d6 := hI.kD.cell (i := 6) rfl
        have d7 := hI.kD.cell (i := 7) rfl
        have z0 := hI.kR.cell (i := 0) rfl
        have z1 := hI.kR.cell (i := 1) rfl
        have z2 := hI.kR.cell (i := 2) rfl
        have z3 := hI.kR.cell (i := 3) rfl
        have z4 := hI.kR.cell (i := 4) rfl
        have z5 := hI.kR.cell (i := 5) rfl
        have z6 := hI.kR.cell (i := 6) rfl
        have z7 := hI.kR.cell (i := 7) rfl
        have zf0 := hI.kR.free 0
        have zf1 := hI.kR.free 1
        have zf2 := hI.kR.free 2
        have zf3 := hI.kR.free 3
        have zf4 := hI.kR.free 4
        have zf5 := hI.kR.free 5
        have zf6 := hI.kR.free 6
        have zf7 := hI.kR.free 7
        go_wp2_with fail
        refine bodyPost_ret (v := .tuple #[dv W H (.slice none 0 0) cell ox oy (.slice aA i cA) (.slice aS i cS), .int .i64 0]) (res_blk_tmp rfl rfl (blk_set8 hI.kR _ _ _ _ _ _ _ _) Tryz.underlying101 rfl (by kernel_rfl) rfl) rfl ?_
        have ht := turned_set8 wr gR (.int .i64 W) (.int .i64 H) (.slice none 0 0) (.int .i64 cell) (.int .i32 ox) (.int .i32 oy) (.slice aA i cA) (.slice aS i cS)
        refine .inl ⟨hdir.out, by rw [← HOE.out, HEQ.out], _, _, rfl, ?_, ?_, ht.old hI.bel hI.bel.size (by rintro k hk rfl; have := hI.le; omega)⟩
        · exact ownsRow_base (ht.own hI.oA (by rintro k hk rfl; have := (hI.oA.lt _ hk).1; have := hI.le; omega)) hI.le.1
        · exact ownsRow_base (ht.own hI.oS (by rintro k hk rfl; have := (hI.oS.lt _ hk).1; have := hI.le; omega)) hI.le.1
      · have hd : ((o : Int) != (L : Int)) = true := by simp; omega
        have hno : ¬ ((∀ j, j < i → rd bs (18 + 6 * j) 4 = O j) ∧ O i = L) := fun h => heq (by rw [ho, h.2])
        have hno2 : O i ≠ L := by rw [← ho]; exact heq
        have HWY : Hid (DirC bs i L O 5) := Lib.hid (.inr ⟨rfl, hdir.out, hno2⟩)
        have HNO := Lib.hid hno
        clear heq hno ho hno2
        have z0 := hI.kR.cell (i := 0) rfl
        have z1 := hI.kR.cell (i := 1) rfl
        have z2 := hI.kR.cell (i := 2) rfl
        have z3 := hI.kR.cell (i := 3) rfl
        have z4 := hI.kR.cell (i := 4) rfl
        have z5 := hI.kR.cell (i := 5) rfl
        have z6 := hI.kR.cell (i := 6) rfl
        have z7 := hI.kR.cell (i := 7) rfl
        have zf0 := hI.kR.free 0
        have zf1 := hI.kR.free 1
        have zf2 := hI.kR.free 2
        have zf3 := hI.kR.free 3
        have zf4 := hI.kR.free 4
        have zf5 := hI.kR.free 5
        have zf6 := hI.kR.free 6
        have zf7 := hI.kR.free 7
        go_wp2_with fail
        refine bodyPost_ret (v := .tuple #[dv 0 0 (.slice none 0 0) 0 0 0 (.slice none 0 0) (.slice none 0 0), .int .i64 5]) (res_blk_tmp rfl rfl (blk_set8 hI.kR _ _ _ _ _ _ _ _) Tryz.underlying101 rfl (by kernel_rfl) rfl) rfl ?_
        have ht := turned_set8 wr gR (.int .i64 0) (.int .i64 0) (.slice none 0 0) (.int .i64 0) (.int .i32 0) (.int .i32 0) (.slice none 0 0) (.slice none 0 0)
        exact .inr ⟨HNO.out, 5, by decide, HWY.out, rfl, ht.old hI.bel hI.bel.size (by rintro k hk rfl; have := hI.le; omega)⟩
end Go.Proofs.YtlkjcamjgaecgaaGreat

/-
  Header and directory read: the code's Open.
-/
namespace Go.Proofs.YtlkjcamjgaecgaaGreat
open Go Go.RowKit Go.Th Go.Th.Crc

theorem directory_any (W H L : Nat) (cell ox oy : Int) (bs : List Nat) (a : Option Addr) (cap : Nat) (hL : L = bs.length) (hF : isF W H = true) (hh : headLen W H ≤ L) (hL2 : L ≤ 1000000000) (hb : ∀ x ∈ bs, x < 256) (w : World) (hS : Sl w 1 (.slice a L cap) L (u8s bs)) :
    Calls Tryz.prog 81 #[.slice a L cap, cv W H (.slice none 0 0) cell ox oy] w fun e w' =>
      ((∀ i, i < nT W H → rd bs (18 + 6 * i) 4 = offs bs W H i) ∧ offs bs W H (nT W H) = L ∧ ∃ va vs, e = .returned (.tuple #[dv W H (.slice none 0 0) cell ox oy va vs, .int .i64 0]) ∧ w'.ownsRow w.heap.size 3 1 va (nT W H) (ints ((List.range (nT W H)).map (offs bs W H))) ∧ w'.ownsRow w.heap.size 3 1 vs (nT W H) (ints ((List.range (nT W H)).map (fun i => rd bs (18 + 6 * i + 4) 2))) ∧ Below w.heap.size w w') ∨
      (¬ ((∀ i, i < nT W H → rd bs (18 + 6 * i) 4 = offs bs W H i) ∧ offs bs W H (nT W H) = L) ∧ ∃ c : Int, c ≠ 0 ∧ DirC bs (nT W H) L (offs bs W H) c ∧ e = .returned (.tuple #[dv 0 0 (.slice none 0 0) 0 0 0 (.slice none 0 0) (.slice none 0 0), .int .i64 c]) ∧ Below w.heap.size w w') := by
  obtain ⟨h1, h2, h3, h4⟩ := isF_yes hF
  have hm := nT_le (W := W) (H := H) (by omega) (by omega)
  have hhl : headLen W H = 22 + 6 * nT W H := by unfold headLen; omega
  exact directory_go W H (nT W H) (headLen W H) L cell ox oy bs (offs bs W H) (fun i => rd bs (18 + 6 * i + 4) 2) a cap w hm hhl hh hL2 (Lib.hid (head_any W H hF)) (Lib.hid (count9_any W H hF))
    (Lib.hid (fun at_ size hs hy wx hB => num4_any (.slice a L cap) bs at_ size hs (by omega) hb (by omega) wx (by rw [← hL]; exact hS.below hB)))
    (Lib.hid (fun i => rfl)) (Lib.hid rfl) (Lib.hid (fun i => rfl)) (Lib.hid (fun i => rd_lt2 bs _ hb)) (Lib.hid (fun i => rd_lt4 bs _ 4 hb (by decide)))

/-- Which code Open tells of bytes that are none, header and sides being right. -/
def OpenD (bs : List Nat) (W H : Nat) (c : Int) : Prop :=
  (bs.length < headLen W H ∧ c = 5) ∨ (headLen W H ≤ bs.length ∧ okB (bs.take (headLen W H)) = false ∧ c = 4) ∨
  (headLen W H ≤ bs.length ∧ okB (bs.take (headLen W H)) = true ∧ ¬ (∀ i, i < nT W H → rd bs (18 + 6 * i) 4 = offs bs W H i) ∧ c = 2) ∨
  (headLen W H ≤ bs.length ∧ okB (bs.take (headLen W H)) = true ∧ (∀ i, i < nT W H → rd bs (18 + 6 * i) 4 = offs bs W H i) ∧ offs bs W H (nT W H) ≠ bs.length ∧ c = 5)
/-- Which code Open tells of bytes that are none. -/
def OpenC (bs : List Nat) (c : Int) : Prop :=
  (bs.length < 18 ∧ c = 5) ∨ (18 ≤ bs.length ∧ rd bs 0 4 ≠ 1296978516 ∧ c = 3) ∨
  (18 ≤ bs.length ∧ rd bs 0 4 = 1296978516 ∧ ¬ (isF (rd bs 4 2 : Nat) (rd bs 6 2 : Nat) = true ∧ isC (rd bs 8 2 : Nat) = true) ∧ c = 2) ∨
  (18 ≤ bs.length ∧ rd bs 0 4 = 1296978516 ∧ isF (rd bs 4 2 : Nat) (rd bs 6 2 : Nat) = true ∧ isC (rd bs 8 2 : Nat) = true ∧ OpenD bs (rd bs 4 2) (rd bs 6 2) c)
theorem OpenD.only {bs : List Nat} {W H : Nat} {c d : Int} (h : OpenD bs W H c) (k : OpenD bs W H d) : c = d := by
  rcases h with ⟨h1, rfl⟩ | ⟨h1, h2, rfl⟩ | ⟨h1, h2, h3, rfl⟩ | ⟨h1, h2, h3, h4, rfl⟩ <;> rcases k with ⟨k1, rfl⟩ | ⟨k1, k2, rfl⟩ | ⟨k1, k2, k3, rfl⟩ | ⟨k1, k2, k3, k4, rfl⟩
  all_goals first
    | rfl
    | (exfalso; omega)
    | exact absurd k3 h3
    | exact absurd h3 k3
    | (exfalso; rw [h2] at k2; cases k2; done)
theorem OpenC.only {bs : List Nat} {c d : Int} (h : OpenC bs c) (k : OpenC bs d) : c = d := by
  rcases h with ⟨h1, rfl⟩ | ⟨h1, h2, rfl⟩ | ⟨h1, h2, h3, rfl⟩ | ⟨h1, h2, h3, h4, h5⟩ <;> rcases k with ⟨k1, rfl⟩ | ⟨k1, k2, rfl⟩ | ⟨k1, k2, k3, rfl⟩ | ⟨k1, k2, k3, k4, k5⟩
  all_goals first
    | rfl
    | (exfalso; omega)
    | exact absurd k2 h2
    | exact absurd h2 k2
    | exact absurd ⟨k3, k4⟩ h3
    | exact absurd ⟨h3, h4⟩ k3
    | exact h5.only k5
theorem OpenC.range {bs : List Nat} {c : Int} (h : OpenC bs c) (h18 : 18 ≤ bs.length) (hm : rd bs 0 4 = 1296978516) (hF : isF (rd bs 4 2 : Nat) (rd bs 6 2 : Nat) = false) : c = 2 :=
  h.only (.inr (.inr (.inl ⟨h18, hm, fun k => (by have h1 := k.1; rw [hF] at h1; cases h1), rfl⟩)))

/-- What Open answers of any bytes. -/
def Opened (w0 : World) (bs : List Nat) (e : Ending) (w' : World) : Prop :=
  (∃ (W H cell : Nat) (va vs : Value), Opens bs W H cell ∧ e = .returned (.tuple #[dv W H (.slice none 0 0) cell (IntKind.i32.wrap (rd bs 10 4 : Nat)) (IntKind.i32.wrap (rd bs 14 4 : Nat)) va vs, .int .i64 0]) ∧
    w'.ownsRow w0.heap.size 3 1 va (nT W H) (ints ((List.range (nT W H)).map (offs bs W H))) ∧ w'.ownsRow w0.heap.size 3 1 vs (nT W H) (ints ((List.range (nT W H)).map (fun i => rd bs (18 + 6 * i + 4) 2))) ∧ Below w0.heap.size w0 w') ∨
  ((∀ W H cell, ¬ Opens bs W H cell) ∧ ∃ c : Int, c ≠ 0 ∧ OpenC bs c ∧
    e = .returned (.tuple #[dv 0 0 (.slice none 0 0) 0 0 0 (.slice none 0 0) (.slice none 0 0), .int .i64 c]) ∧ Below w0.heap.size w0 w')

set_option maxRecDepth 20000 in
set_option maxHeartbeats 6400000 in
theorem open9_any (L : Nat) (bs : List Nat) (a : Option Addr) (cap : Nat) (hL : L = bs.length) (hL2 : L ≤ 1000000000) (hb : ∀ x ∈ bs, x < 256) (w : World) (hS : Sl w 1 (.slice a L cap) L (u8s bs)) :
    Calls Tryz.prog 52 #[.slice a L cap] w (Opened w bs) := by
  have KR : Blk (w.alloc (.cells #[.int .i64 0, .int .i64 0, .slice none 0 0, .int .i64 0, .int .i32 0, .int .i32 0, .slice none 0 0, .slice none 0 0] 101)) w.heap.size 101 [.int .i64 0, .int .i64 0, .slice none 0 0, .int .i64 0, .int .i32 0, .int .i32 0, .slice none 0 0, .slice none 0 0] := Blk.new w _ _
  have hB : Below w.heap.size w (w.alloc (.cells #[.int .i64 0, .int .i64 0, .slice none 0 0, .int .i64 0, .int .i32 0, .int .i32 0, .slice none 0 0, .slice none 0 0] 101)) := (Below.refl _ _).alloc (Nat.le_refl _) _
  obtain ⟨w1, hw1⟩ : ∃ w1, w.alloc (.cells #[.int .i64 0, .int .i64 0, .slice none 0 0, .int .i64 0, .int .i32 0, .int .i32 0, .slice none 0 0, .slice none 0 0] 101) = w1 := ⟨_, rfl⟩
  rw [hw1] at KR hB
  obtain ⟨gR, hgR⟩ : ∃ g, w.heap.size = g := ⟨_, rfl⟩
  rw [hgR] at KR
  by_cases h18 : L < 18
  · have hno : ∀ W H cell, ¬ Opens bs W H cell := fun W H cell h => by have := h.big; omega
    have hsp : OpenC bs 5 := .inl ⟨by omega, rfl⟩
    have HNO := Lib.hid hno
    have HSP := Lib.hid hsp
    have h18i : (L : Int) < 18 := by omega
    clear hno hsp hL hb hS h18
    have z0 := KR.cell (i := 0) rfl
    have z1 := KR.cell (i := 1) rfl
    have z2 := KR.cell (i := 2) rfl
    have z3 := KR.cell (i := 3) rfl
    have z4 := KR.cell (i := 4) rfl
    have z5 := KR.cell (i := 5) rfl
    have z6 := KR.cell (i := 6) rfl
    have z7 := KR.cell (i := 7) rfl
    have zf0 := KR.free 0
    have zf1 := KR.free 1
    have zf2 := KR.free 2
    have zf3 := KR.free 3
    have zf4 := KR.free 4
    have zf5 := KR.free 5
    have zf6 := KR.free 6
    have zf7 := KR.free 7
    go_enter Tryz.func52, Tryz.ntmps52
    go_wp2_with fail
    refine bodyPost_ret (v := .tuple #[dv 0 0 (.slice none 0 0) 0 0 0 (.slice none 0 0) (.slice none 0 0), .int .i64 5]) (res_blk_tmp rfl rfl (blk_set8 KR _ _ _ _ _ _ _ _) Tryz.underlying101 rfl (by kernel_rfl) rfl) rfl ?_
    have ht := turned_set8 w1 gR (.int .i64 0) (.int .i64 0) (.slice none 0 0) (.int .i64 0) (.int .i32 0) (.int .i32 0) (.slice none 0 0) (.slice none 0 0)
    exact .inr ⟨HNO.out, 5, by decide, HSP.out, rfl, ht.old hB hB.size (by rintro k hk rfl; omega)⟩
  have h18i : ¬ ((L : Int) < 18) := by omega
  have H18 : Hid (18 ≤ bs.length) := Lib.hid (by omega)
  have C1 := fun wx (hs : Sl wx 1 (.slice a L cap) L (u8s bs)) => chartOf_any (.slice a L cap) bs (by omega) hb (by omega) wx (by rw [← hL]; exact hs)
  have C2 := fun wx (hs : Sl wx 1 (.slice a L cap) L (u8s bs)) => num4_any (.slice a L cap) bs 0 4 (by omega) (by omega) hb (by omega) wx (by rw [← hL]; exact hs)
  have CD := fun (W H : Nat) (cell ox oy : Int) hF hh wx hs => directory_any W H L cell ox oy bs a cap hL hF hh hL2 hb wx hs
  have CY := fun (a' : Option Addr) (n cap' : Nat) (hn : n ≤ L) (h4 : 4 ≤ n) (hok : okB (bs.take n) = true) wx (hs : Sl wx 1 (.slice a' n cap') n (u8s (bs.take n))) =>
    crcGet_yes (.slice a' n cap') (bs.take n) wx (by rw [List.length_take, Nat.min_eq_left (by omega)]; exact hs) (by rw [List.length_take]; omega) (mem_take hb n) (by rw [List.length_take]; omega) hok
  have CX := fun (a' : Option Addr) (n cap' : Nat) (hn : n ≤ L) (h4 : 4 ≤ n) (hok : okB (bs.take n) = false) wx (hs : Sl wx 1 (.slice a' n cap') n (u8s (bs.take n))) =>
    crcGet_no (.slice a' n cap') (bs.take n) wx (by rw [List.length_take, Nat.min_eq_left (by omega)]; exact hs) (by rw [List.length_take]; omega) (mem_take hb n) (by rw [List.length_take]; omega) hok
  have OP := fun W H cell (h : Opens bs W H cell) => h
  have r0 := rd_lt4 bs 0 4 hb (by decide)
  have r1 := rd_lt2 bs 4 hb
  have r2 := rd_lt2 bs 6 hb
  have r3 := rd_lt2 bs 8 hb
  obtain ⟨n0, hn0⟩ : ∃ r, r = rd bs 0 4 := ⟨_, rfl⟩
  obtain ⟨n1, hn1⟩ : ∃ r, r = rd bs 4 2 := ⟨_, rfl⟩
  obtain ⟨n2, hn2⟩ : ∃ r, r = rd bs 6 2 := ⟨_, rfl⟩
  obtain ⟨n3, hn3⟩ : ∃ r, r = rd bs 8 2 := ⟨_, rfl⟩
  obtain ⟨q4, hq4⟩ : ∃ r, r = IntKind.i32.wrap (rd bs 10 4 : Nat) := ⟨_, rfl⟩
  obtain ⟨q5, hq5⟩ : ∃ r, r = IntKind.i32.wrap (rd bs 14 4 : Nat) := ⟨_, rfl⟩
  rw [← hn0] at C2 r0
  rw [← hn1, ← hn2, ← hn3, ← hq4, ← hq5] at C1
  rw [← hn1] at r1
  rw [← hn2] at r2
  rw [← hn3] at r3
  unfold Opened
  rw [← hq4, ← hq5]
  have HN0 := Lib.hid hn0
  have HN1 := Lib.hid hn1
  have HN2 := Lib.hid hn2
  have HN3 := Lib.hid hn3
  have CF := isField9_any n1 n2
  have CC := isCell_go n3
  have HH := Lib.hid (fun hF => head_any n1 n2 hF)
  have HL := Lib.hid hL
  have HS := Lib.hid hS
  have HBB := Lib.hid hb
  have C1 := Lib.hid (C1 w1 (hS.below hB))
  have C2 := Lib.hid C2
  have CD := Lib.hid CD
  have CY := Lib.hid CY
  have CX := Lib.hid CX
  have CF := Lib.hid CF
  have CC := Lib.hid CC
  have hmx := hS.max
  clear hL hS hb hn0 hn1 hn2 hn3 hq4 hq5 h18 OP
  go_enter Tryz.func52, Tryz.ntmps52
  go_wp2_with fail
  clear hw1
  refine C1.out.mono ?_
  rintro e w2 ⟨rfl, hA⟩
  clear C1
  replace KR := KR.below hA KR.lt
  replace hB := hB.trans (hA.mono hB.size)
  clear hA
  obtain ⟨w3, hw3⟩ : ∃ w3, w2.alloc (.cells #[.int .i64 n1, .int .i64 n2, .slice none 0 0, .int .i64 n3, .int .i32 q4, .int .i32 q5] 28) = w3 := ⟨_, rfl⟩
  have hA : Below w2.heap.size w2 w3 := by rw [← hw3]; exact (Below.refl _ _).alloc (Nat.le_refl _) _
  have KC : Blk w3 w2.heap.size 28 [.int .i64 n1, .int .i64 n2, .slice none 0 0, .int .i64 n3, .int .i32 q4, .int .i32 q5] := by rw [← hw3]; exact Blk.new w2 _ _
  replace KR := KR.below hA KR.lt
  replace hB := hB.trans (hA.mono hB.size)
  clear hA
  have D2 := Lib.hid (C2.out w3 (HS.out.below hB))
  clear C2
  go_wp2_with fail
  clear hw3
  refine D2.out.mono ?_
  rintro e wx ⟨rfl, rfl⟩
  clear D2
  by_cases hmag : n0 = 1296978516
  rotate_left
  · have hne : ((n0 : Int) != 1296978516) = true := by simp; omega
    have hno : ∀ W H cell, ¬ Opens bs W H cell := fun W H cell h => hmag (by rw [HN0.out]; exact h.magic)
    have hsp : OpenC bs 3 := .inr (.inl ⟨H18.out, by rw [← HN0.out]; exact hmag, rfl⟩)
    have HNO := Lib.hid hno
    have HSP := Lib.hid hsp
    clear hno hsp hmag
    have z0 := KR.cell (i := 0) rfl
    have z1 := KR.cell (i := 1) rfl
    have z2 := KR.cell (i := 2) rfl
    have z3 := KR.cell (i := 3) rfl
    have z4 := KR.cell (i := 4) rfl
    have z5 := KR.cell (i := 5) rfl
    have z6 := KR.cell (i := 6) rfl
    have z7 := KR.cell (i := 7) rfl
    have zf0 := KR.free 0
    have zf1 := KR.free 1
    have zf2 := KR.free 2
    have zf3 := KR.free 3
    have zf4 := KR.free 4
    have zf5 := KR.free 5
    have zf6 := KR.free 6
    have zf7 := KR.free 7
    go_wp2_with fail
    refine bodyPost_ret (v := .tuple #[dv 0 0 (.slice none 0 0) 0 0 0 (.slice none 0 0) (.slice none 0 0), .int .i64 3]) (res_blk_tmp rfl rfl (blk_set8 KR _ _ _ _ _ _ _ _) Tryz.underlying101 rfl (by kernel_rfl) rfl) rfl ?_
    have ht := turned_set8 w3 gR (.int .i64 0) (.int .i64 0) (.slice none 0 0) (.int .i64 0) (.int .i32 0) (.int .i32 0) (.slice none 0 0) (.slice none 0 0)
    exact .inr ⟨HNO.out, 3, by decide, HSP.out, rfl, ht.old hB hB.size (by rintro k hk rfl; omega)⟩
  have hne : ((n0 : Int) != 1296978516) = false := by simp; omega
  have HMAG := Lib.hid hmag
  clear hmag
  have a0 := KC.cell (i := 0) rfl
  have a1 := KC.cell (i := 1) rfl
  go_wp2_with fail
  refine (CF.out _).mono ?_
  rintro e w4 ⟨rfl, hA⟩
  replace KC := KC.below hA KC.lt
  clear CF a0 a1
  replace KR := KR.below hA KR.lt
  replace hB := hB.trans (hA.mono hB.size)
  clear hA
  have a3 := KC.cell (i := 3) rfl
  by_cases hF : isF n1 n2 = true
  rotate_left
  · have hF' : isF n1 n2 = false := by simpa using hF
    have hno : ∀ W H cell, ¬ Opens bs W H cell := fun W H cell h => hF (by rw [HN1.out, HN2.out, h.w, h.h]; exact isF_of (by have := h.wr; have := h.hr; omega))
    have hsp : OpenC bs 2 := .inr (.inr (.inl ⟨H18.out, by rw [← HN0.out]; exact HMAG.out, fun h => hF (by rw [HN1.out, HN2.out]; exact h.1), rfl⟩))
    have HSP := Lib.hid hsp
    have HNO := Lib.hid hno
    clear hno hF hsp
    rw [hF']
    clear hF'
    have z0 := KR.cell (i := 0) rfl
    have z1 := KR.cell (i := 1) rfl
    have z2 := KR.cell (i := 2) rfl
    have z3 := KR.cell (i := 3) rfl
    have z4 := KR.cell (i := 4) rfl
    have z5 := KR.cell (i := 5) rfl
    have z6 := KR.cell (i := 6) rfl
    have z7 := KR.cell (i := 7) rfl
    have zf0 := KR.free 0
    have zf1 := KR.free 1
    have zf2 := KR.free 2
    have zf3 := KR.free 3
    have zf4 := KR.free 4
    have zf5 := KR.free 5
    have zf6 := KR.free 6
    have zf7 := KR.free 7
    go_wp2_with fail
    refine bodyPost_ret (v := .tuple #[dv 0 0 (.slice none 0 0) 0 0 0 (.slice none 0 0) (.slice none 0 0), .int .i64 2]) (res_blk_tmp rfl rfl (blk_set8 KR _ _ _ _ _ _ _ _) Tryz.underlying101 rfl (by kernel_rfl) rfl) rfl ?_
    have ht := turned_set8 w4 gR (.int .i64 0) (.int .i64 0) (.slice none 0 0) (.int .i64 0) (.int .i32 0) (.int .i32 0) (.slice none 0 0) (.slice none 0 0)
    exact .inr ⟨HNO.out, 2, by decide, HSP.out, rfl, ht.old hB hB.size (by rintro k hk rfl; omega)⟩
  rw [hF]
  have HF := Lib.hid hF
  clear hF
  by_cases hC : isC n3 = true
  rotate_left
  · have hC' : isC n3 = false := by simpa using hC
    have hno : ∀ W H cell, ¬ Opens bs W H cell := fun W H cell h => hC (by rw [HN3.out, h.c]; exact isC_of (by have := h.cr; omega))
    have hsp : OpenC bs 2 := .inr (.inr (.inl ⟨H18.out, by rw [← HN0.out]; exact HMAG.out, fun h => hC (by rw [HN3.out]; exact h.2), rfl⟩))
    have HSP := Lib.hid hsp
    have HNO := Lib.hid hno
    rw [hC'] at CC
    clear hno hC hC' hsp
    have z0 := KR.cell (i := 0) rfl
    have z1 := KR.cell (i := 1) rfl
    have z2 := KR.cell (i := 2) rfl
    have z3 := KR.cell (i := 3) rfl
    have z4 := KR.cell (i := 4) rfl
    have z5 := KR.cell (i := 5) rfl
    have z6 := KR.cell (i := 6) rfl
    have z7 := KR.cell (i := 7) rfl
    have zf0 := KR.free 0
    have zf1 := KR.free 1
    have zf2 := KR.free 2
    have zf3 := KR.free 3
    have zf4 := KR.free 4
    have zf5 := KR.free 5
    have zf6 := KR.free 6
    have zf7 := KR.free 7
    go_wp2_with fail
    refine (CC.out _).mono ?_
    rintro e wx ⟨rfl, rfl⟩
    clear CC
    have z0 := KR.cell (i := 0) rfl
    have z1 := KR.cell (i := 1) rfl
    have z2 := KR.cell (i := 2) rfl
    have z3 := KR.cell (i := 3) rfl
    have z4 := KR.cell (i := 4) rfl
    have z5 := KR.cell (i := 5) rfl
    have z6 := KR.cell (i := 6) rfl
    have z7 := KR.cell (i := 7) rfl
    have zf0 := KR.free 0
    have zf1 := KR.free 1
    have zf2 := KR.free 2
    have zf3 := KR.free 3
    have zf4 := KR.free 4
    have zf5 := KR.free 5
    have zf6 := KR.free 6
    have zf7 := KR.free 7
    go_wp2_with fail
    refine bodyPost_ret (v := .tuple #[dv 0 0 (.slice none 0 0) 0 0 0 (.slice none 0 0) (.slice none 0 0), .int .i64 2]) (res_blk_tmp rfl rfl (blk_set8 KR _ _ _ _ _ _ _ _) Tryz.underlying101 rfl (by kernel_rfl) rfl) rfl ?_
    have ht := turned_set8 w4 gR (.int .i64 0) (.int .i64 0) (.slice none 0 0) (.int .i64 0) (.int .i32 0) (.int .i32 0) (.slice none 0 0) (.slice none 0 0)
    exact .inr ⟨HNO.out, 2, by decide, HSP.out, rfl, ht.old hB hB.size (by rintro k hk rfl; omega)⟩
  rw [hC] at CC
  have HC := Lib.hid hC
  clear hC
  go_wp2_with fail
  refine (CC.out _).mono ?_
  rintro e wx ⟨rfl, rfl⟩
  clear CC a3
  have a0 := KC.cell (i := 0) rfl
  have a1 := KC.cell (i := 1) rfl
  have CH := Lib.hid (HH.out HF.out)
  clear HH
  go_wp2_with fail
  refine (CH.out _).mono ?_
  rintro e w5 ⟨rfl, hA⟩
  replace KC := KC.below hA KC.lt
  clear CH a0 a1
  replace KR := KR.below hA KR.lt
  replace hB := hB.trans (hA.mono hB.size)
  clear hA
  obtain ⟨hl, hhl⟩ : ∃ hl, hl = headLen n1 n2 := ⟨_, rfl⟩
  rw [← hhl]
  have HHL := Lib.hid hhl
  have hl4 : 4 ≤ hl := by rw [hhl]; unfold headLen; omega
  clear hhl
  have hsp : ∀ c : Int, OpenD bs (rd bs 4 2) (rd bs 6 2) c → OpenC bs c := fun c h => .inr (.inr (.inr ⟨H18.out, by rw [← HN0.out]; exact HMAG.out, by rw [← HN1.out, ← HN2.out]; exact HF.out, by rw [← HN3.out]; exact HC.out, h⟩))
  have HSP := Lib.hid hsp
  clear hsp
  by_cases hll : L < hl
  · have hlli : (L : Int) < (hl : Int) := by omega
    have hno : ∀ W H cell, ¬ Opens bs W H cell := fun W H cell h => by
      have e1 := h.head
      rw [← h.w, ← h.h, ← HN1.out, ← HN2.out, ← HHL.out, ← HL.out] at e1
      omega
    have HNO := Lib.hid hno
    clear hno
    have z0 := KR.cell (i := 0) rfl
    have z1 := KR.cell (i := 1) rfl
    have z2 := KR.cell (i := 2) rfl
    have z3 := KR.cell (i := 3) rfl
    have z4 := KR.cell (i := 4) rfl
    have z5 := KR.cell (i := 5) rfl
    have z6 := KR.cell (i := 6) rfl
    have z7 := KR.cell (i := 7) rfl
    have zf0 := KR.free 0
    have zf1 := KR.free 1
    have zf2 := KR.free 2
    have zf3 := KR.free 3
    have zf4 := KR.free 4
    have zf5 := KR.free 5
    have zf6 := KR.free 6
    have zf7 := KR.free 7
    go_wp2_with fail
    refine bodyPost_ret (v := .tuple #[dv 0 0 (.slice none 0 0) 0 0 0 (.slice none 0 0) (.slice none 0 0), .int .i64 5]) (res_blk_tmp rfl rfl (blk_set8 KR _ _ _ _ _ _ _ _) Tryz.underlying101 rfl (by kernel_rfl) rfl) rfl ?_
    have ht := turned_set8 w5 gR (.int .i64 0) (.int .i64 0) (.slice none 0 0) (.int .i64 0) (.int .i32 0) (.int .i32 0) (.slice none 0 0) (.slice none 0 0)
    exact .inr ⟨HNO.out, 5, by decide, HSP.out _ (.inl ⟨by rw [← HN1.out, ← HN2.out, ← HHL.out, ← HL.out]; exact hll, rfl⟩), rfl, ht.old hB hB.size (by rintro k hk rfl; omega)⟩
  have hlli : ¬ ((L : Int) < (hl : Int)) := by omega
  have hcut := Sl.cut_to (P := Tryz.prog) Eu8 (HS.out.below hB) hl (by omega)
  obtain ⟨hc1, hc2⟩ := hcut
  have et : u8s (bs.take hl) = (u8s bs).take hl := by simp [u8s]
  rw [← et] at hc2
  have HC2 := Lib.hid hc2
  clear hc2 et
  by_cases hok : okB (bs.take hl) = true
  rotate_left
  · have hok' : okB (bs.take hl) = false := by simpa using hok
    have hno : ∀ W H cell, ¬ Opens bs W H cell := fun W H cell h => by
      have e1 := h.sum
      rw [← h.w, ← h.h, ← HN1.out, ← HN2.out, ← HHL.out] at e1
      exact hok e1
    have HNO := Lib.hid hno
    have D := Lib.hid (CX.out a hl cap (by omega) hl4 hok' w5 HC2.out)
    have HOK' := Lib.hid hok'
    clear hno hok hok' CX CY
    go_wp2_with fail
    refine D.out.mono ?_
    rintro e w6 ⟨rfl, hA⟩
    clear D
    replace KR := KR.below hA KR.lt
    replace hB := hB.trans (hA.mono hB.size)
    clear hA
    have z0 := KR.cell (i := 0) rfl
    have z1 := KR.cell (i := 1) rfl
    have z2 := KR.cell (i := 2) rfl
    have z3 := KR.cell (i := 3) rfl
    have z4 := KR.cell (i := 4) rfl
    have z5 := KR.cell (i := 5) rfl
    have z6 := KR.cell (i := 6) rfl
    have z7 := KR.cell (i := 7) rfl
    have zf0 := KR.free 0
    have zf1 := KR.free 1
    have zf2 := KR.free 2
    have zf3 := KR.free 3
    have zf4 := KR.free 4
    have zf5 := KR.free 5
    have zf6 := KR.free 6
    have zf7 := KR.free 7
    go_wp2_with fail
    refine bodyPost_ret (v := .tuple #[dv 0 0 (.slice none 0 0) 0 0 0 (.slice none 0 0) (.slice none 0 0), .int .i64 4]) (res_blk_tmp rfl rfl (blk_set8 KR _ _ _ _ _ _ _ _) Tryz.underlying101 rfl (by kernel_rfl) rfl) rfl ?_
    have ht := turned_set8 w6 gR (.int .i64 0) (.int .i64 0) (.slice none 0 0) (.int .i64 0) (.int .i32 0) (.int .i32 0) (.slice none 0 0) (.slice none 0 0)
    exact .inr ⟨HNO.out, 4, by decide, HSP.out _ (.inr (.inl ⟨by rw [← HN1.out, ← HN2.out, ← HHL.out, ← HL.out]; omega, by rw [← HN1.out, ← HN2.out, ← HHL.out]; exact HOK'.out, rfl⟩)), rfl, ht.old hB hB.size (by rintro k hk rfl; omega)⟩
  have D := Lib.hid (CY.out a hl cap (by omega) hl4 hok w5 HC2.out)
  have HOK := Lib.hid hok
  clear hok CX CY
  go_wp2_with fail
  refine D.out.mono ?_
  rintro e w6 ⟨v6, rfl, ho6, hA⟩
  obtain ⟨a6, c6, rfl, _, _⟩ := ownsRow_slice ho6
  replace KC := KC.below hA KC.lt
  clear D ho6 hc1
  replace KR := KR.below hA KR.lt
  replace hB := hB.trans (hA.mono hB.size)
  clear hA
  have a0 := KC.cell (i := 0) rfl
  have a1 := KC.cell (i := 1) rfl
  have a2 := KC.cell (i := 2) rfl
  have a3 := KC.cell (i := 3) rfl
  have a4 := KC.cell (i := 4) rfl
  have a5 := KC.cell (i := 5) rfl
  have hhle : hl ≤ L := by omega
  have hz6 : w.heap.size ≤ w6.heap.size := hB.size
  have hgl6 : gR < w6.heap.size := KR.lt
  have D := Lib.hid (CD.out n1 n2 n3 q4 q5 HF.out (by rw [← HHL.out]; exact hhle) w6 (HS.out.below hB))
  clear CD
  go_wp2_with fail
  refine D.out.mono ?_
  rintro e w7 (⟨hd1, hd2, va, vs, rfl, hoA, hoS, hA⟩ | ⟨hno', c, hc0, hcc, rfl, hA⟩)
  · clear D a0 a1 a2 a3 a4 a5
    replace KR := KR.below hA KR.lt
    replace hB := hB.trans (hA.mono hB.size)
    clear hA
    obtain ⟨aA, cA, rfl, _, _⟩ := ownsRow_slice hoA
    obtain ⟨aS, cS, rfl, _, _⟩ := ownsRow_slice hoS
    have HD1 := Lib.hid hd1
    have HD2 := Lib.hid hd2
    have HOA := Lib.hid hoA
    have HOS := Lib.hid hoS
    clear hd1 hd2 hoA hoS
    have z0 := KR.cell (i := 0) rfl
    have z1 := KR.cell (i := 1) rfl
    have z2 := KR.cell (i := 2) rfl
    have z3 := KR.cell (i := 3) rfl
    have z4 := KR.cell (i := 4) rfl
    have z5 := KR.cell (i := 5) rfl
    have z6 := KR.cell (i := 6) rfl
    have z7 := KR.cell (i := 7) rfl
    have zf0 := KR.free 0
    have zf1 := KR.free 1
    have zf2 := KR.free 2
    have zf3 := KR.free 3
    have zf4 := KR.free 4
    have zf5 := KR.free 5
    have zf6 := KR.free 6
    have zf7 := KR.free 7
    go_wp2_with fail
    refine bodyPost_ret (v := .tuple #[dv n1 n2 (.slice none 0 0) n3 q4 q5 (.slice aA (nT n1 n2) cA) (.slice aS (nT n1 n2) cS), .int .i64 0]) (res_blk_tmp rfl rfl (blk_set8 KR _ _ _ _ _ _ _ _) Tryz.underlying101 rfl (by kernel_rfl) rfl) rfl ?_
    have ht := turned_set8 w7 gR (.int .i64 n1) (.int .i64 n2) (.slice none 0 0) (.int .i64 n3) (.int .i32 q4) (.int .i32 q5) (.slice aA (nT n1 n2) cA) (.slice aS (nT n1 n2) cS)
    have hgl : gR < w6.heap.size := hgl6
    refine .inl ⟨n1, n2, n3, _, _, ?_, rfl, ownsRow_base (ht.own HOA.out (by rintro k hk rfl; have := (HOA.out.lt _ hk).1; omega)) hz6, ownsRow_base (ht.own HOS.out (by rintro k hk rfl; have := (HOS.out.lt _ hk).1; omega)) hz6, ht.old hB hB.size (by rintro k hk rfl; omega)⟩
    have i1 := isF_yes HF.out
    have i2 := isC_yes HC.out
    exact ⟨by rw [← HL.out]; omega, by rw [← HN0.out]; exact HMAG.out, HN1.out.symm, HN2.out.symm, HN3.out.symm, by omega, by omega, by omega, by rw [← HHL.out, ← HL.out]; exact hhle, by rw [← HHL.out]; exact HOK.out, HD1.out, by rw [HD2.out, HL.out]⟩
  · clear D a0 a1 a2 a3 a4 a5
    have hno : ∀ W H cell, ¬ Opens bs W H cell := fun W H cell h => by
      have e1 := h.dir
      have e2 := h.last
      rw [← h.w, ← h.h, ← HN1.out, ← HN2.out] at e1 e2
      exact hno' ⟨e1, by rw [e2, HL.out]⟩
    have hOD : OpenD bs (rd bs 4 2) (rd bs 6 2) c := by
      rw [← HN1.out, ← HN2.out]
      rcases hcc with ⟨rfl, k⟩ | ⟨rfl, k1, k2⟩
      · exact .inr (.inr (.inl ⟨by rw [← HHL.out, ← HL.out]; exact hhle, by rw [← HHL.out]; exact HOK.out, k, rfl⟩))
      · exact .inr (.inr (.inr ⟨by rw [← HHL.out, ← HL.out]; exact hhle, by rw [← HHL.out]; exact HOK.out, k1, by rw [← HL.out]; exact k2, rfl⟩))
    have HOD := Lib.hid hOD
    have HNO := Lib.hid hno
    clear hno hno' hOD hcc
    replace KR := KR.below hA KR.lt
    replace hB := hB.trans (hA.mono hB.size)
    clear hA
    have z0 := KR.cell (i := 0) rfl
    have z1 := KR.cell (i := 1) rfl
    have z2 := KR.cell (i := 2) rfl
    have z3 := KR.cell (i := 3) rfl
    have z4 := KR.cell (i := 4) rfl
    have z5 := KR.cell (i := 5) rfl
    have z6 := KR.cell (i := 6) rfl
    have z7 := KR.cell (i := 7) rfl
    have zf0 := KR.free 0
    have zf1 := KR.free 1
    have zf2 := KR.free 2
    have zf3 := KR.free 3
    have zf4 := KR.free 4
    have zf5 := KR.free 5
    have zf6 := KR.free 6
    have zf7 := KR.free 7
    go_wp2_with fail
    refine bodyPost_ret (v := .tuple #[dv 0 0 (.slice none 0 0) 0 0 0 (.slice none 0 0) (.slice none 0 0), .int .i64 c]) (res_blk_tmp rfl rfl (blk_set8 KR _ _ _ _ _ _ _ _) Tryz.underlying101 rfl (by kernel_rfl) rfl) rfl ?_
    have ht := turned_set8 w7 gR (.int .i64 0) (.int .i64 0) (.slice none 0 0) (.int .i64 0) (.int .i32 0) (.int .i32 0) (.slice none 0 0) (.slice none 0 0)
    exact .inr ⟨HNO.out, c, hc0, HSP.out _ HOD.out, rfl, ht.old hB hB.size (by rintro k hk rfl; omega)⟩
end Go.Proofs.YtlkjcamjgaecgaaGreat
