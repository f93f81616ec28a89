/-
  What weighing, cutting, splitting and joining do to a bound: plain.
-/
import Derived.Test.YtallbegibdlpaaaGreatLedgB
import Derived.Test.YtallbegibdlpaaaGreatPackGridB
set_option linter.unusedVariables false
set_option linter.unusedSimpArgs false
namespace Go.Th.Led
open Go.Th.Grid

/-- Where the grid believes anything, the filter does, too. -/
def Sup (f g : Nat → Int) (n : Nat) : Prop := ∀ i, i < n → 0 < f i → 0 < g i
theorem su_pos {f : Nat → Int} : ∀ {n : Nat}, (∀ i, i < n → 0 ≤ f i) → 0 < su f n → ∃ i, i < n ∧ 0 < f i
  | 0, _, h => absurd (show (0 : Int) < 0 from h) (by decide)
  | n + 1, h0, h => by
    have h : 0 < su f n + f n := h
    by_cases hn : 0 < f n
    · exact ⟨n, Nat.lt_succ_self _, hn⟩
    · obtain ⟨i, hi, h2⟩ := su_pos (f := f) (n := n) (fun i hi => h0 i (by omega)) (by have := h0 n (by omega); omega)
      exact ⟨i, by omega, h2⟩
theorem su_some {f : Nat → Int} : ∀ {n : Nat}, (∀ i, i < n → 0 ≤ f i) → ∀ i, i < n → f i ≤ su f n
  | 0, _, i, h => absurd h (Nat.not_lt_zero _)
  | n + 1, h0, i, h => by
    show f i ≤ su f n + f n
    have hn := h0 n (by omega)
    have hs := su_nn (f := f) (n := n) fun i hi => h0 i (by omega)
    by_cases e : i = n
    · subst e; omega
    · have := su_some (f := f) (n := n) (fun i hi => h0 i (by omega)) i (by omega)
      omega
theorem Sup.sum {f g : Nat → Int} {n : Nat} (h : Sup f g n) (hf : ∀ i, i < n → 0 ≤ f i) (hg : ∀ i, i < n → 0 ≤ g i) (hs : 0 < su f n) : 0 < su g n := by
  obtain ⟨i, hi, h1⟩ := su_pos hf hs
  have h2 := su_some hg i hi
  have := h i hi h1
  omega
theorem Sup.lp {f g : Nat → Int} {w h : Nat} {q : Int} {dx dy : Nat} (hs : Sup f g (h * w)) (hf : ∀ i, i < h * w → 0 ≤ f i) (hg : ∀ i, i < h * w → 0 ≤ g i) (hq : 0 ≤ q ∧ q ≤ 85) : Sup (lp w h q dx dy f) (lp w h q dx dy g) (h * w) := by
  intro k hk h0
  have a1 := ia_lt dx dy hk
  have c1 := ic_lt dx dy hk
  have n1 := Int.mul_nonneg hq.1 (hg _ a1)
  have n2 := Int.mul_nonneg (show 0 ≤ 256 - 2 * q by omega) (hg k hk)
  have n3 := Int.mul_nonneg hq.1 (hg _ c1)
  unfold Led.lp at h0 ⊢
  by_cases hb : 0 < f k
  · have := Int.mul_pos (show 0 < 256 - 2 * q by omega) (hs k hk hb)
    omega
  · have hb0 : f k = 0 := by have := hf k hk; omega
    rw [hb0, Int.mul_zero] at h0
    by_cases hq0 : q = 0
    · rw [hq0] at h0; omega
    · by_cases ha : 0 < f (ia w dx dy k)
      · have := Int.mul_pos (show 0 < q by omega) (hs _ a1 ha)
        omega
      · have ha0 : f (ia w dx dy k) = 0 := by have := hf _ a1; omega
        rw [ha0, Int.mul_zero] at h0
        by_cases hc : 0 < f (ic w h dx dy k)
        · have := Int.mul_pos (show 0 < q by omega) (hs _ c1 hc)
          omega
        · have hc0 : f (ic w h dx dy k) = 0 := by have := hf _ c1; omega
          rw [hc0, Int.mul_zero] at h0
          omega

/-! ### Weighed -/
theorem Near.weigh {f g l : Nat → Int} {n : Nat} {b b' M : Int} (h : Near f g n b) (hs : Sup f g n) (hl : ∀ i, i < n → 0 ≤ l i ∧ l i ≤ M) (hM : 0 ≤ M) (hX : 0 < su (fun i => f i * l i) n) (hb : 0 ≤ b) (hbb : M * su f n * b ≤ b' * su (fun i => f i * l i) n) :
    Near (fun i => f i * l i) (fun i => g i * l i) n b' ∧ Sup (fun i => f i * l i) (fun i => g i * l i) n := by
  have f0 : ∀ i, i < n → 0 ≤ f i * l i := fun i hi => Int.mul_nonneg (h.f0 i hi) (hl i hi).1
  have g0 : ∀ i, i < n → 0 ≤ g i * l i := fun i hi => Int.mul_nonneg (h.g0 i hi) (hl i hi).1
  have hs2 : Sup (fun i => f i * l i) (fun i => g i * l i) n := by
    intro i hi h0
    have hli : 0 < l i := by
      have := (hl i hi).1
      by_cases e : l i = 0
      · simp only [e, Int.mul_zero] at h0; omega
      · omega
    have hfi : 0 < f i := by
      have := h.f0 i hi
      by_cases e : f i = 0
      · simp only [e, Int.zero_mul] at h0; omega
      · omega
    exact Int.mul_pos (hs i hi hfi) hli
  have key : ∀ (u v : Nat → Int) (S T : Int), su (fun j => pp (u j * l j * T - v j * l j * S)) n ≤ M * dev u v n S T := by
    intro u v S T
    unfold dev
    rw [← su_mul]
    refine su_le n fun j hj => ?_
    have e : u j * l j * T - v j * l j * S = l j * (u j * T - v j * S) := by grind
    rw [e, pp_mul (hl j hj).1]
    exact Int.mul_le_mul_of_nonneg_right (hl j hj).2 (pp_nn _)
  exact ⟨gen h f0 g0 hX (hs2.sum f0 g0 hX) hM (key f g _ _) (key g f _ _) hbb hb, hs2⟩

/-! ### Cut -/
theorem at_most {P : Nat → Prop} [DecidablePred P] {v : Int} (hv : 0 ≤ v) : ∀ m : Nat, (∀ j j', j < m → j' < m → P j → P j' → j = j') → su (fun j => if P j then v else 0) m ≤ v
  | 0, _ => hv
  | m + 1, h => by
    show su (fun j => if P j then v else 0) m + (if P m then v else 0) ≤ v
    by_cases hp : P m
    · have h0 : su (fun j => if P j then v else 0) m = 0 := by
        refine Eq.trans (su_congr m fun j hj => ?_) (su_zero m)
        rw [if_neg (fun hj2 => by have := h j m (by omega) (by omega) hj2 hp; omega)]
      rw [h0, if_pos hp]
      omega
    · rw [if_neg hp]
      have := at_most hv m (fun j j' a b => h j j' (by omega) (by omega))
      omega
/-- Which place lies in a place that is cut out: none, one. -/
def cutI (w h : Nat) (X Y : Int) (cw j : Nat) : Option Nat :=
  if (0 ≤ X + ((j % cw : Nat) : Int) ∧ X + ((j % cw : Nat) : Int) < (w : Int)) ∧ 0 ≤ Y + ((j / cw : Nat) : Int) ∧ Y + ((j / cw : Nat) : Int) < (h : Int) then
    some ((Y + ((j / cw : Nat) : Int)).toNat * w + (X + ((j % cw : Nat) : Int)).toNat) else none
def cutF (w h : Nat) (X Y : Int) (cw : Nat) (f : Nat → Int) (j : Nat) : Int := match cutI w h X Y cw j with | some i => f i | none => 0
theorem cutI_lt {w h : Nat} {X Y : Int} {cw j i : Nat} (e : cutI w h X Y cw j = some i) : i < h * w := by
  unfold cutI at e
  split at e
  · rename_i hc
    cases e
    exact at_lt (by omega) (by omega)
  · cases e
theorem cutI_inj {w h : Nat} {X Y : Int} {cw j j' i : Nat} (e : cutI w h X Y cw j = some i) (e' : cutI w h X Y cw j' = some i) : j = j' := by
  unfold cutI at e e'
  split at e
  · rename_i hc
    split at e'
    · rename_i hc'
      have e1 := Option.some.inj e
      have e2 := Option.some.inj e'
      obtain ⟨a, ha⟩ : ∃ a, a = j % cw := ⟨_, rfl⟩
      obtain ⟨a', ha'⟩ : ∃ a', a' = j' % cw := ⟨_, rfl⟩
      obtain ⟨c, hcc⟩ : ∃ c, c = j / cw := ⟨_, rfl⟩
      obtain ⟨c', hcc'⟩ : ∃ c', c' = j' / cw := ⟨_, rfl⟩
      rw [← ha, ← hcc] at e1 hc
      rw [← ha', ← hcc'] at e2 hc'
      have m1 := mod_at (w := w) (x := (X + (a : Int)).toNat) (Y + (c : Int)).toNat (by omega)
      have m2 := mod_at (w := w) (x := (X + (a' : Int)).toNat) (Y + (c' : Int)).toNat (by omega)
      have d1 := div_at (w := w) (x := (X + (a : Int)).toNat) (Y + (c : Int)).toNat (by omega)
      have d2 := div_at (w := w) (x := (X + (a' : Int)).toNat) (Y + (c' : Int)).toNat (by omega)
      rw [e1] at m1 d1
      rw [e2] at m2 d2
      have ea : a = a' := by omega
      have ec : c = c' := by omega
      rw [← Nat.div_add_mod j cw, ← Nat.div_add_mod j' cw, ← ha, ← ha', ← hcc, ← hcc', ea, ec]
    · cases e'
  · cases e
theorem cut_le {F : Nat → Int} {w h : Nat} (hF : ∀ i, i < h * w → 0 ≤ F i) (X Y : Int) (cw m : Nat) : su (cutF w h X Y cw F) m ≤ su F (h * w) := by
  have e1 : su (cutF w h X Y cw F) m = su (fun j => su (fun i => if cutI w h X Y cw j = some i then F i else 0) (h * w)) m := su_congr m fun j _ => by
    unfold cutF
    cases hq : cutI w h X Y cw j with
    | none =>
      exact (Eq.trans (su_congr _ fun i _ => by simp) (su_zero (h * w))).symm
    | some i0 =>
      show F i0 = _
      have h0 := cutI_lt hq
      have e : su (fun i => if some i0 = some i then F i else 0) (h * w) = su (fun k => if i0 = k then F i0 else 0) (h * w) := su_congr _ fun i _ => by
        by_cases e : i0 = i
        · subst e; simp
        · simp [e]
      rw [e, su_one, if_pos h0]
  rw [e1, su_swap (fun i j => if cutI w h X Y cw j = some i then F i else 0) (h * w) m]
  exact su_le _ fun i hi => at_most (hF i hi) m fun j j' _ _ a b => cutI_inj a b
theorem cutF_nn {F : Nat → Int} {w h : Nat} (hF : ∀ i, i < h * w → 0 ≤ F i) (X Y : Int) (cw j : Nat) : 0 ≤ cutF w h X Y cw F j := by
  unfold cutF
  cases hq : cutI w h X Y cw j with
  | none => exact Int.le_refl _
  | some i => exact hF i (cutI_lt hq)
theorem Near.cut {f g : Nat → Int} {w h : Nat} {b b' : Int} (hN : Near f g (h * w) b) (hs : Sup f g (h * w)) (X Y : Int) (cw m : Nat) (hX : 0 < su (cutF w h X Y cw f) m) (hb : 0 ≤ b) (hbb : su f (h * w) * b ≤ b' * su (cutF w h X Y cw f) m) :
    Near (cutF w h X Y cw f) (cutF w h X Y cw g) m b' ∧ Sup (cutF w h X Y cw f) (cutF w h X Y cw g) m := by
  have hs2 : Sup (cutF w h X Y cw f) (cutF w h X Y cw g) m := by
    intro j _ h0
    unfold cutF at h0 ⊢
    cases hq : cutI w h X Y cw j with
    | none => rw [hq] at h0; exact absurd (show (0 : Int) < 0 from h0) (by decide)
    | some i => rw [hq] at h0; exact hs i (cutI_lt hq) h0
  have key : ∀ (u v : Nat → Int) (S T : Int), su (fun j => pp (cutF w h X Y cw u j * T - cutF w h X Y cw v j * S)) m ≤ 1 * dev u v (h * w) S T := by
    intro u v S T
    rw [Int.one_mul]
    unfold dev
    refine Int.le_trans (Int.le_of_eq ?_) (cut_le (F := fun i => pp (u i * T - v i * S)) (fun i _ => pp_nn _) X Y cw m)
    refine su_congr m fun j _ => ?_
    unfold cutF
    cases hq : cutI w h X Y cw j with
    | none => show pp (0 * T - 0 * S) = 0; rw [Int.zero_mul, Int.zero_mul]; rfl
    | some i => rfl
  exact ⟨gen (M := 1) hN (fun j _ => cutF_nn hN.f0 X Y cw j) (fun j _ => cutF_nn hN.g0 X Y cw j) hX (hs2.sum (fun j _ => cutF_nn hN.f0 X Y cw j) (fun j _ => cutF_nn hN.g0 X Y cw j) hX) (by decide) (key f g _ _) (key g f _ _) (by rw [Int.one_mul]; exact hbb) hb, hs2⟩

/-! ### Split -/
theorem su_half (g : Nat → Int) : ∀ m : Nat, su (fun x => g (x / 2)) (2 * m) = 2 * su g m
  | 0 => rfl
  | m + 1 => by
    show su (fun x => g (x / 2)) (2 * m) + g (2 * m / 2) + g ((2 * m + 1) / 2) = 2 * (su g m + g m)
    rw [su_half g m, show 2 * m / 2 = m by omega, show (2 * m + 1) / 2 = m by omega]
    omega
def splF (w : Nat) (f : Nat → Int) (j : Nat) : Int := f (j / (2 * w) / 2 * w + j % (2 * w) / 2)
theorem spl_lt {w h j : Nat} (hj : j < 2 * h * (2 * w)) : j / (2 * w) / 2 * w + j % (2 * w) / 2 < h * w := by
  have h1 := row_lt hj
  have h2 := col_lt hj
  exact at_lt (by omega) (by omega)
theorem spl_sum (f : Nat → Int) (w h : Nat) : su (splF w f) (2 * h * (2 * w)) = 4 * su f (h * w) := by
  rw [su_rows (splF w f) (2 * w) (2 * h), su_rows f w h]
  have e : su (fun y => su (fun x => splF w f (y * (2 * w) + x)) (2 * w)) (2 * h) = su (fun y => 2 * (fun r => su (fun x => f (r * w + x)) w) (y / 2)) (2 * h) := su_congr _ fun y _ => by
    show _ = 2 * su (fun x => f (y / 2 * w + x)) w
    rw [← su_half (fun x => f (y / 2 * w + x)) w]
    refine su_congr _ fun x hx => ?_
    unfold splF
    rw [div_at y hx, mod_at y hx]
  rw [e, su_mul, su_half (fun r => su (fun x => f (r * w + x)) w) h]
  omega
theorem Near.split {f g : Nat → Int} {w h : Nat} {b : Int} (hN : Near f g (h * w) b) (hs : Sup f g (h * w)) (hb : 0 ≤ b) : Near (splF w f) (splF w g) (2 * h * (2 * w)) b ∧ Sup (splF w f) (splF w g) (2 * h * (2 * w)) := by
  have sF := spl_sum f w h
  have sG := spl_sum g w h
  have hS := hN.fs
  have hT := hN.gs
  have key : ∀ (u v : Nat → Int) (S T : Int), su (fun j => pp (splF w u j * T - splF w v j * S)) (2 * h * (2 * w)) ≤ 4 * dev u v (h * w) S T := by
    intro u v S T
    unfold dev
    rw [← spl_sum (fun i => pp (u i * T - v i * S)) w h]
    exact Int.le_refl _
  refine ⟨gen (M := 4) hN (fun j hj => hN.f0 _ (spl_lt hj)) (fun j hj => hN.g0 _ (spl_lt hj)) (by omega) (by omega) (by decide) (key f g _ _) (key g f _ _) ?_ hb, fun j hj h0 => hs _ (spl_lt hj) h0⟩
  rw [sF]
  have e : 4 * su f (h * w) * b = b * (4 * su f (h * w)) := Int.mul_comm _ _
  omega

/-! ### Joined -/
def joiF (m : Nat) (f : Nat → Int) (k : Nat) : Int :=
  f (2 * (k / m) * (2 * m) + 2 * (k % m)) + f (2 * (k / m) * (2 * m) + 2 * (k % m) + 1) + f ((2 * (k / m) + 1) * (2 * m) + 2 * (k % m)) + f ((2 * (k / m) + 1) * (2 * m) + 2 * (k % m) + 1)
theorem joi_lt {m h k : Nat} (hk : k < h * m) : 2 * (k / m) * (2 * m) + 2 * (k % m) < 2 * h * (2 * m) ∧ 2 * (k / m) * (2 * m) + 2 * (k % m) + 1 < 2 * h * (2 * m) ∧ (2 * (k / m) + 1) * (2 * m) + 2 * (k % m) < 2 * h * (2 * m) ∧ (2 * (k / m) + 1) * (2 * m) + 2 * (k % m) + 1 < 2 * h * (2 * m) := by
  have h1 := row_lt hk
  have h2 := col_lt hk
  obtain ⟨r, hr⟩ : ∃ r, r = k / m := ⟨_, rfl⟩
  obtain ⟨c, hc⟩ : ∃ c, c = k % m := ⟨_, rfl⟩
  rw [← hr] at h1 ⊢
  rw [← hc] at h2 ⊢
  exact ⟨at_lt (by omega) (by omega), at_lt (x := 2 * c + 1) (by omega) (by omega), at_lt (by omega) (by omega), at_lt (x := 2 * c + 1) (by omega) (by omega)⟩
theorem joi_sum (f : Nat → Int) (m h : Nat) : su (joiF m f) (h * m) = su f (2 * h * (2 * m)) := by
  have hs := joined_sum (tab f (2 * h * (2 * m))) m h (tab_length _ _)
  rw [sm_tab, sm_tab] at hs
  rw [← hs]
  refine su_congr _ fun k hk => ?_
  obtain ⟨l1, l2, l3, l4⟩ := joi_lt hk
  unfold joinAt
  rw [show 2 * m / 2 = m by omega, tab_getD f _ l1, tab_getD f _ l2, tab_getD f _ l3, tab_getD f _ l4]
  rfl
theorem Near.join {f g : Nat → Int} {m h : Nat} {b : Int} (hN : Near f g (2 * h * (2 * m)) b) (hs : Sup f g (2 * h * (2 * m))) (hb : 0 ≤ b) : Near (joiF m f) (joiF m g) (h * m) b ∧ Sup (joiF m f) (joiF m g) (h * m) := by
  have sF := joi_sum f m h
  have sG := joi_sum g m h
  have hS := hN.fs
  have hT := hN.gs
  have nn : ∀ (u : Nat → Int), (∀ i, i < 2 * h * (2 * m) → 0 ≤ u i) → ∀ k, k < h * m → 0 ≤ joiF m u k := by
    intro u hu k hk
    obtain ⟨l1, l2, l3, l4⟩ := joi_lt hk
    have := hu _ l1
    have := hu _ l2
    have := hu _ l3
    have := hu _ l4
    unfold joiF
    omega
  have key : ∀ (u v : Nat → Int) (S T : Int), su (fun j => pp (joiF m u j * T - joiF m v j * S)) (h * m) ≤ 1 * dev u v (2 * h * (2 * m)) S T := by
    intro u v S T
    rw [Int.one_mul]
    unfold dev
    rw [← joi_sum (fun i => pp (u i * T - v i * S)) m h]
    refine su_le _ fun k _ => ?_
    unfold joiF
    obtain ⟨a1, e1⟩ : ∃ a1, a1 = 2 * (k / m) * (2 * m) + 2 * (k % m) := ⟨_, rfl⟩
    obtain ⟨a2, e2⟩ : ∃ a2, a2 = 2 * (k / m) * (2 * m) + 2 * (k % m) + 1 := ⟨_, rfl⟩
    obtain ⟨a3, e3⟩ : ∃ a3, a3 = (2 * (k / m) + 1) * (2 * m) + 2 * (k % m) := ⟨_, rfl⟩
    obtain ⟨a4, e4⟩ : ∃ a4, a4 = (2 * (k / m) + 1) * (2 * m) + 2 * (k % m) + 1 := ⟨_, rfl⟩
    rw [← e2, ← e1, ← e4, ← e3]
    show _ ≤ pp (u a1 * T - v a1 * S) + pp (u a2 * T - v a2 * S) + pp (u a3 * T - v a3 * S) + pp (u a4 * T - v a4 * S)
    have e : (u a1 + u a2 + u a3 + u a4) * T - (v a1 + v a2 + v a3 + v a4) * S = (u a1 * T - v a1 * S) + (u a2 * T - v a2 * S) + (u a3 * T - v a3 * S) + (u a4 * T - v a4 * S) := by grind
    rw [e]
    have p1 := pp_add ((u a1 * T - v a1 * S) + (u a2 * T - v a2 * S) + (u a3 * T - v a3 * S)) (u a4 * T - v a4 * S)
    have p2 := pp_add ((u a1 * T - v a1 * S) + (u a2 * T - v a2 * S)) (u a3 * T - v a3 * S)
    have p3 := pp_add (u a1 * T - v a1 * S) (u a2 * T - v a2 * S)
    omega
  refine ⟨gen (M := 1) hN (nn f hN.f0) (nn g hN.g0) (by omega) (by omega) (by decide) (key f g _ _) (key g f _ _) ?_ hb, fun k hk h0 => ?_⟩
  · rw [sF, Int.one_mul, Int.mul_comm]
    exact Int.le_refl _
  · obtain ⟨l1, l2, l3, l4⟩ := joi_lt hk
    have g1 := hN.g0 _ l1
    have g2 := hN.g0 _ l2
    have g3 := hN.g0 _ l3
    have g4 := hN.g0 _ l4
    unfold joiF at h0 ⊢
    by_cases h1 : 0 < f (2 * (k / m) * (2 * m) + 2 * (k % m))
    · have := hs _ l1 h1; omega
    · by_cases h2 : 0 < f (2 * (k / m) * (2 * m) + 2 * (k % m) + 1)
      · have := hs _ l2 h2; omega
      · by_cases h3 : 0 < f ((2 * (k / m) + 1) * (2 * m) + 2 * (k % m))
        · have := hs _ l3 h3; omega
        · have := hs _ l4 (by omega); omega
end Go.Th.Led
