/-
  Texts in one: ExactSpec, ExactA, ExactB, ExactC, ExactD, ExactE, ExactF, ExactG, ExactH, ExactI, ExactJ.
-/
import Derived.Test.YtanblpfpkohghaaDoorPackNatR
import Derived.Deep.Cut
import Derived.Deep.CutRange
import Derived.Test.YtanblpfpkohghaaDoorPackGridA
import Derived.Test.YtanblpfpkohghaaDoorPackBits
set_option linter.unusedVariables false
set_option linter.unusedSimpArgs false

/-
  Filters without rounding: rows of numbers place by place, plain.
-/
namespace Go.Th.Ex
open Go.Th.Dig

/-- A row made place by place. -/
def tabN (f : Nat → Nat) (n : Nat) : List Nat := (List.range n).map f
theorem tabN_length (f : Nat → Nat) (n : Nat) : (tabN f n).length = n := by simp [tabN]
theorem tabN_getD (f : Nat → Nat) (n i : Nat) (h : i < n) : (tabN f n).getD i 0 = f i := by simp [tabN, List.getD_eq_getElem?_getD, h]
theorem tabN_next (f : Nat → Nat) (n : Nat) : tabN f n ++ [f n] = tabN f (n + 1) := by simp [tabN, List.range_succ]
theorem tabN_congr {f g : Nat → Nat} {n : Nat} (h : ∀ i, i < n → f i = g i) : tabN f n = tabN g n := List.map_congr_left fun i hi => h i (List.mem_range.1 hi)
theorem tabN_of (l : List Nat) : tabN (fun i => l.getD i 0) l.length = l := by
  apply List.ext_getElem
  · simp [tabN]
  · intro i h1 h2
    simp [tabN, List.getD_eq_getElem?_getD, h2]
/-- Numbers up to a power of two. -/
def Lt (k : Nat) (l : List Nat) : Prop := ∀ i, l.getD i 0 < 2 ^ k
theorem Lt.mono {k m : Nat} {l : List Nat} (h : Lt k l) (hk : k ≤ m) : Lt m l := fun i => Nat.lt_of_lt_of_le (h i) (Nat.pow_le_pow_right (by decide) hk)
theorem Lt.tab {k n : Nat} {f : Nat → Nat} (h : ∀ i, i < n → f i < 2 ^ k) : Lt k (tabN f n) := by
  intro i
  by_cases hi : i < n
  · rw [tabN_getD f n i hi]; exact h i hi
  · rw [List.getD_eq_getElem?_getD, List.getElem?_eq_none (by rw [tabN_length]; omega)]
    exact Nat.pow_pos (by decide)
/-- How many digits a number below a power of two has. -/
theorem d16 {p k m : Nat} (h : p < 2 ^ k) (hm : k ≤ 8 * m) : (dg 256 p).length ≤ m := by
  refine dg_len_le (by decide) (Nat.lt_of_lt_of_le h ?_)
  rw [show (256 : Nat) = 2 ^ 8 by decide, ← Nat.pow_mul]
  exact Nat.pow_le_pow_right (by decide) hm
/-- The sum of so many of the first. -/
def sumN (l : List Nat) (k : Nat) : Nat := (l.take k).sum
theorem sumN_next (l : List Nat) (k : Nat) : sumN l (k + 1) = sumN l k + l.getD k 0 := by
  unfold sumN
  rw [List.take_add_one, List.sum_append, List.getD_eq_getElem?_getD]
  cases l[k]? <;> simp
theorem sumN_all (l : List Nat) : sumN l l.length = l.sum := by unfold sumN; rw [List.take_length]
theorem sumN_le {k : Nat} {l : List Nat} (h : Lt k l) : ∀ n, sumN l n ≤ n * 2 ^ k
  | 0 => by simp [sumN]
  | n + 1 => by
    rw [sumN_next, Nat.add_mul, Nat.one_mul]
    have := sumN_le h n
    have := h n
    omega
theorem sumN_lt {k m : Nat} {l : List Nat} (h : Lt k l) (n : Nat) (hn : n < 2 ^ m) : sumN l n < 2 ^ (k + m) := by
  have h1 := sumN_le h n
  rw [Nat.pow_add, Nat.mul_comm]
  exact Nat.lt_of_le_of_lt h1 (Nat.mul_lt_mul_of_pos_right hn (Nat.pow_pos (by decide)))
/-- Small numbers as digits, one behind the other: so many digits were told, and x is left. -/
structure Sml (n k x : Nat) (pre : List Nat) : Prop where
  len : pre.length = k
  lt : ∀ d ∈ pre, d < 256
  val : val 256 pre + 256 ^ k * x = n
  top : k = 0 ∨ 256 ^ (k - 1) ≤ n
theorem Sml.start (n : Nat) : Sml n 0 n [] := ⟨rfl, by simp, by simp [Dig.val], .inl rfl⟩
theorem Sml.step {n k x : Nat} {pre : List Nat} (h : Sml n k x pre) (hx : 0 < x) : Sml n (k + 1) (x / 256) (pre ++ [x % 256]) := by
  refine ⟨by simp [h.len], ?_, ?_, .inr ?_⟩
  · intro d hd
    rcases List.mem_append.1 hd with hd | hd
    · exact h.lt d hd
    · rw [List.mem_singleton.1 hd]; exact Nat.mod_lt _ (by decide)
  · rw [val_snoc, h.len, Nat.add_assoc, Nat.pow_succ, Nat.mul_assoc, ← Nat.mul_add, Nat.mod_add_div]
    exact h.val
  · have h1 := h.val
    have h2 : 256 ^ k * 1 ≤ 256 ^ k * x := Nat.mul_le_mul_left _ hx
    show 256 ^ (k + 1 - 1) ≤ n
    rw [Nat.add_sub_cancel]
    omega
theorem Sml.done {n k : Nat} {pre : List Nat} (h : Sml n k 0 pre) : pre = dg 256 n := by
  have hv : Dig.val 256 pre = n := by have := h.val; simpa using this
  refine dg_of (by decide) h.lt ?_ hv
  intro d hd h0
  subst h0
  rcases List.eq_nil_or_concat pre with rfl | ⟨l, b, rfl⟩
  · simp at hd
  · simp at hd
    subst hd
    have hk := h.len
    simp only [List.concat_eq_append, List.length_append, List.length_cons, List.length_nil] at hk
    rw [List.concat_eq_append, val_snoc] at hv
    have hl := val_lt (B := 256) (by decide) (l := l) (fun d hd => h.lt d (by simp [hd]))
    rcases h.top with h1 | h1
    · omega
    · have e : k - 1 = l.length := by omega
      rw [e] at h1
      omega
theorem Sml.len_le {n k x : Nat} {pre : List Nat} (h : Sml n k x pre) (hn : n < 18446744073709551616) : k ≤ 8 := by
  rcases h.top with h1 | h1
  · omega
  · apply Decidable.byContradiction
    intro hk
    have h2 : 256 ^ 8 ≤ 256 ^ (k - 1) := Nat.pow_le_pow_right (by decide) (by omega)
    have h3 : 256 ^ 8 = 18446744073709551616 := by decide
    omega
end Go.Th.Ex

/-
  Rows of numbers as digits, one behind the other: a row that came in, one of the call's own; small numbers; the sum of a filter: the reference's.
-/
namespace Go.Th
open Go Go.RowKit
/-- What is left of known blocks where other ones have turned. -/
theorem Mem.turnedB {w0 w w' : World} {bs : List (Nat × TypeId × List Value)} {S : Nat → Prop} (M : Mem w0 w bs) (ht : Turned S w w') (h0 : ∀ k, k < w0.heap.size → ¬ S k) (hb : ∀ e ∈ bs, ¬ S e.1) : Mem w0 w' bs :=
  ⟨ht.old M.below M.below.size h0, M.nodup, M.old, fun e he => (M.blk e he).turned ht (hb e he)⟩
theorem own_neB {w : World} {g : Nat} {t : TypeId} {cs : List Value} {base : Nat} {e : TypeId} {size n : Nat} {v : Value} {xs : List Value} (K : Blk w g t cs) (ho : w.ownsRow base e size v n xs) (hne : t ≠ e) : ∀ k, v.ownBlock = some k → k ≠ g := by
  rintro k hk rfl
  obtain ⟨h1, h2⟩ := ho
  rcases h2 with ⟨rfl, _⟩ | ⟨g', cap, cur, rfl, hb, hh, _⟩
  · cases hk
  · cases hk
    unfold Blk at K
    rw [hh] at K
    cases K
    exact hne rfl
theorem grown_turnedB {w w' : World} {row : Option Nat} (h : w.grownBy w' row) : Turned (fun k => row = some k) w w' := (Turned.refl _ _).grown h (fun _ e _ => e)
theorem Mem.app {w0 w1 w2 : World} {bs : List (Nat × TypeId × List Value)} {D n size : Nat} {T : TypeId} {v : Value} {xs : List Value} (M : Mem w0 w1 bs) (ho : w1.ownsRow D T size v n xs) (hg : w1.grownBy w2 v.ownBlock) (hD : w0.heap.size ≤ D) (ht : ∀ e ∈ bs, e.2.1 ≠ T) : Mem w0 w2 bs := by
  refine M.turnedB (grown_turnedB hg) (fun k hk e => ?_) (fun e he h => ?_)
  · have := (ho.lt k e).1; omega
  · exact own_neB (M.blk e he) ho (ht e he) _ h rfl
end Go.Th
namespace Go.Proofs.YtanblpfpkohghaaDoor
open Go Go.RowKit Go.Th Go.Th.Dig Go.Th.Ex

abbrev fv (x y : Int) (v : Value) : Value := .agg #[.int .i64 x, .int .i64 y, v]
abbrev fc (x y : Int) (v : Value) : List Value := [.int .i64 x, .int .i64 y, v]
theorem sizeF : (Tryd.prog.info? 36).map (·.size) = some 3 := by kernel_rfl
theorem rd_f (x y : Int) (v : Value) : Rd Tryd.prog 36 0 (fc x y v) (fv x y v) :=
  Rd.agg (ds := fc x y v) Tryd.underlying36 rfl sizeF (fun j u hj => by rw [Nat.zero_add]; exact hj)
theorem wr_f (x y x' y' : Int) (v' : Value) (a : Option Addr) (n cap : Nat) : Wr Tryd.prog 36 0 (fc x' y' v') (fv x y (.slice a n cap)) (fc x y (.slice a n cap)) :=
  Wr.whole (ds := fc x y (.slice a n cap)) sizeF rfl (by intro u hu; simp at hu; rcases hu with rfl | rfl | rfl <;> rfl)
instance bInt17 : BsI Tryd.prog 3 := ⟨fun h => Rd.one Tryd.underlying3 rfl h⟩
instance bRows17 : BsI Tryd.prog 34 := ⟨fun h => Rd.one Tryd.underlying34 rfl h⟩
instance rF17 (x y : Int) (v : Value) : RdI Tryd.prog 36 0 (fc x y v) (fv x y v) := ⟨rd_f x y v⟩
instance kF17 : SzI Tryd.prog 36 3 := ⟨sizeF⟩
instance zF17 : ZrI Tryd.prog 36 (fv 0 0 (.slice none 0 0)) (fc 0 0 (.slice none 0 0)) := ⟨by kernel_rfl, rfl⟩
theorem Edd : ElemOf Tryd.prog 34 51 1 24 := ElemOf.mk' Tryd.underlying34 (z := .slice none 0 0) (by kernel_rfl) rfl (by decide)
/-- A number's digits, in a block of digits. -/
def D16 (w : World) (v : Value) (p : Nat) : Prop := Is16 w v p ∧ TyR 3 w v
theorem D16.below {w w' : World} {v : Value} {p : Nat} (h : D16 w v p) (hB : Below w.heap.size w w') : D16 w' v p := ⟨h.1.below hB, h.2.below hB⟩
theorem D16.form {w : World} {v : Value} {p : Nat} (h : D16 w v p) : ∃ a n c, v = .slice a n c ∧ n = (dg 256 p).length ∧ D16 w (.slice a n c) p := by
  obtain ⟨a, c, rfl, _⟩ := id h.1
  exact ⟨_, _, _, rfl, rfl, h⟩
/-- .. where other blocks have turned. -/
theorem D16.turned {w w' : World} {S : Nat → Prop} {v : Value} {p : Nat} (h : D16 w v p) (hT : Turned S w w') (hs : ∀ x n c, v = .slice (some x) n c → ¬ S x.block) : D16 w' v p := by
  obtain ⟨a, c, rfl, _⟩ := id h.1
  have h0 : Sl w 1 (.slice a (dg 256 p).length c) (dg 256 p).length (digs (dg 256 p)) := h.1
  exact ⟨h0.turned hT (fun x e => hs x _ _ (by rw [e])), h.2.turned hT hs⟩
theorem D16.turnedB {w w' : World} {v : Value} {p g : Nat} {t : TypeId} {cs : List Value} (h : D16 w v p) (K : Blk w g t cs) (hne : t ≠ 3) (hT : Turned (fun k => k = g) w w') : D16 w' v p :=
  h.turned hT (fun x n c e => h.2.ne K hne x n c e)
/-- .. or a row of the call's own of another type. -/
theorem D16.grown {w w' : World} {v : Value} {p B n size : Nat} {T : TypeId} {u : Value} {xs : List Value} (h : D16 w v p) (ho : w.ownsRow B T size u n xs) (hne : T ≠ 3) (hg : w.grownBy w' u.ownBlock) : D16 w' v p := by
  refine h.turned (grown_turnedB hg) (fun x m c e hx => ?_)
  rcases ho.2 with ⟨rfl, _⟩ | ⟨g, cap, cur, rfl, _, hh, _⟩
  · cases hx
  · obtain rfl : g = x.block := Option.some.inj hx
    obtain ⟨cur2, fz, h2⟩ := h.2 x m c e
    rw [hh] at h2
    cases h2
    exact hne rfl
/-- A row that came in: of each number its digits. -/
def IsU (w : World) (a : Option Addr) (n cap : Nat) (us : List Nat) : Prop :=
  ∃ cs, Sl w 1 (.slice a n cap) n cs ∧ TyR 51 w (.slice a n cap) ∧ us.length = n ∧ ∀ j, j < n → ∃ d, cs[j]? = some d ∧ D16 w d (us.getD j 0)
theorem IsU.below {w w' : World} {a : Option Addr} {n cap : Nat} {us : List Nat} (h : IsU w a n cap us) (hB : Below w.heap.size w w') : IsU w' a n cap us := by
  obtain ⟨cs, h1, h4, h2, h3⟩ := h
  exact ⟨cs, h1.below hB, h4.below hB, h2, fun j hj => let ⟨d, e1, e2⟩ := h3 j hj; ⟨d, e1, e2.below hB⟩⟩
theorem IsU.turnedB {w w' : World} {a : Option Addr} {n cap g : Nat} {us : List Nat} {t : TypeId} {cs : List Value} (h : IsU w a n cap us) (K : Blk w g t cs) (hne : t ≠ 3) (hne2 : t ≠ 51) (hT : Turned (fun k => k = g) w w') : IsU w' a n cap us := by
  obtain ⟨cs, h1, h4, h2, h3⟩ := h
  exact ⟨cs, Sl.turned h1 hT (fun x e => h4.ne K hne2 x n cap (by rw [e])), h4.turned hT (fun x m c e => h4.ne K hne2 x m c e), h2, fun j hj => let ⟨d, e1, e2⟩ := h3 j hj; ⟨d, e1, e2.turnedB K hne hT⟩⟩
theorem IsU.len {w : World} {a : Option Addr} {n cap : Nat} {us : List Nat} (h : IsU w a n cap us) : us.length = n := by
  obtain ⟨_, _, _, h2, _⟩ := h
  exact h2
theorem IsU.cell {w : World} {a : Option Addr} {n cap : Nat} {us : List Nat} (h : IsU w a n cap us) {j : Nat} (hj : j < n) :
    ∃ b o d e f, a = some ⟨b, o, none⟩ ∧ b < w.heap.size ∧ w.cell? ⟨b, o + j, none⟩ = some (.slice d e f) ∧ D16 w (.slice d e f) (us.getD j 0) := by
  obtain ⟨cs, h1, _, h2, h3⟩ := h
  obtain ⟨u, e1, e2⟩ := h3 j hj
  obtain ⟨d, e, f, rfl, _, e3⟩ := e2.form
  obtain ⟨_, _, e0, _, _, _, _, h5⟩ := h1
  cases e0
  obtain ⟨b, o, ha, hc⟩ := h5 j _ e1
  exact ⟨b, o, d, e, f, ha, by have := World.block_lt_of_cell? w _ hc; simpa using this, hc, e3⟩
theorem IsU.max {w : World} {a : Option Addr} {n cap : Nat} {us : List Nat} (h : IsU w a n cap us) : n ≤ cap ∧ cap ≤ 9223372036854775807 := by
  obtain ⟨cs, h1, _⟩ := h
  exact h1.max
/-- A row of the call's own: of each number its digits. -/
def OwnU (w : World) (B : Nat) (v : Value) (n : Nat) (us : List Nat) : Prop :=
  us.length = n ∧ ∃ cs, w.ownsRow B 51 1 v n cs ∧ ∀ j, j < n → ∃ d, cs[j]? = some d ∧ D16 w d (us.getD j 0)
theorem OwnU.nil (w : World) (B : Nat) : OwnU w B (.slice none 0 0) 0 [] := ⟨rfl, [], World.ownsRow_nil _ _ _ _, fun j hj => absurd hj (Nat.not_lt_zero _)⟩
theorem OwnU.below {w w' : World} {B n : Nat} {v : Value} {us : List Nat} (h : OwnU w B v n us) (hB : Below w.heap.size w w') : OwnU w' B v n us := by
  obtain ⟨h0, cs, h1, h3⟩ := h
  exact ⟨h0, cs, ownsRow_below h1 hB, fun j hj => let ⟨d, e1, e2⟩ := h3 j hj; ⟨d, e1, e2.below hB⟩⟩
theorem OwnU.turnedB {w w' : World} {B g n : Nat} {v : Value} {us : List Nat} {t : TypeId} {cs : List Value} (h : OwnU w B v n us) (K : Blk w g t cs) (hne : t ≠ 3) (hne2 : t ≠ 51) (hT : Turned (fun k => k = g) w w') : OwnU w' B v n us := by
  obtain ⟨h0, cs, h1, h3⟩ := h
  exact ⟨h0, cs, hT.own h1 (own_neB K h1 hne2), fun j hj => let ⟨d, e1, e2⟩ := h3 j hj; ⟨d, e1, e2.turnedB K hne hT⟩⟩
theorem OwnU.form {w : World} {B n : Nat} {v : Value} {us : List Nat} (h : OwnU w B v n us) : ∃ a cap, v = .slice a n cap := by
  obtain ⟨_, cs, h1, _⟩ := h
  obtain ⟨a, cap, rfl, _⟩ := ownsRow_slice h1
  exact ⟨a, cap, rfl⟩
theorem OwnU.isU {w : World} {B : Nat} {a : Option Addr} {n cap : Nat} {us : List Nat} (h : OwnU w B (.slice a n cap) n us) : IsU w a n cap us := by
  obtain ⟨h0, cs, h1, h3⟩ := h
  exact ⟨cs, Sl.of_own h1, tyR_own h1 _, h0, h3⟩
/-- What an append of one number's digits makes of it. -/
theorem own_snoc {w w' : World} {B p n : Nat} {v v' d : Value} {us : List Nat} {cs : List Value} (h0 : us.length = n) (ho : w.ownsRow B 51 1 v n cs) (hD : ∀ j, j < n → ∃ d, cs[j]? = some d ∧ D16 w d (us.getD j 0)) (hd : D16 w d p)
    (ho' : w'.ownsRow B 51 1 v' (n + 1) (cs ++ [d])) (hg : w.grownBy w' v.ownBlock) : OwnU w' B v' (n + 1) (us ++ [p]) := by
  subst h0
  refine ⟨by simp, cs ++ [d], ho', fun j hj => ?_⟩
  have hl : cs.length = us.length := by simpa using ho.1
  by_cases h : j < us.length
  · obtain ⟨u, e1, e2⟩ := hD j h
    refine ⟨u, by rw [List.getElem?_append_left (by omega)]; exact e1, ?_⟩
    have e : (us ++ [p]).getD j 0 = us.getD j 0 := by simp [List.getD_eq_getElem?_getD, List.getElem?_append_left h]
    rw [e]
    exact e2.grown ho (by decide) hg
  · have hj' : j = us.length := by omega
    subst hj'
    have e : (us ++ [p]).getD us.length 0 = p := by simp [List.getD_eq_getElem?_getD]
    rw [e]
    exact ⟨d, by rw [← hl, List.getElem?_append_right (Nat.le_refl _)]; simp, hd.grown ho (by decide) hg⟩
theorem is16_nil (w : World) : Is16 w (.slice none 0 0) 0 := ⟨_, _, rfl, rfl, Nat.le_refl _, by unfold maxLen; omega, fun _ => ⟨rfl, rfl⟩, fun j u h => by simp [dg_0, digs] at h⟩
theorem d16_nil (w : World) : D16 w (.slice none 0 0) 0 := ⟨is16_nil w, tyR_nil _ _ _ _⟩
theorem add_u (v u : Value) (p q : Nat) (w : World) (hp : D16 w v p) (hq : D16 w u q) (h1 : (dg 256 p).length ≤ 100000) (h2 : (dg 256 q).length ≤ 100000) :
    Calls Tryd.prog 49 #[v, u] w fun e w' => ∃ t, e = .returned t ∧ D16 w' t (p + q) ∧ Below w.heap.size w w' := by
  refine (refAdd16_ty v u p q w hp.1 hq.1 h1 h2).mono ?_
  rintro e w' ⟨t, h1, h2, h3, h4⟩
  exact ⟨t, h1, ⟨h2, h3⟩, h4⟩
theorem mul_u (v u : Value) (p q : Nat) (w : World) (hp : D16 w v p) (hq : D16 w u q) (h1 : (dg 256 p).length ≤ 10000) (h2 : (dg 256 q).length ≤ 10000) :
    Calls Tryd.prog 47 #[v, u] w fun e w' => ∃ t, e = .returned t ∧ D16 w' t (p * q) ∧ Below w.heap.size w w' := by
  refine (refMul16_ty v u p q w hp.1 hq.1 h1 h2).mono ?_
  rintro e w' ⟨t, h1, h2, h3, h4⟩
  exact ⟨t, h1, ⟨h2, h3⟩, h4⟩
abbrev AnsU (f : Nat) (args : Array Value) (w : World) (p : Nat) : Prop := Calls Tryd.prog f args w fun e w' => ∃ v, e = .returned v ∧ D16 w' v p ∧ Below w.heap.size w w'

set_option maxRecDepth 20000 in
theorem small_any (n : Nat) (hn : n < 18446744073709551616) (w : World) : AnsU 28 #[.int .u64 n] w n := by
  go_enter Tryd.func28, Tryd.ntmps28
  go_wp2_with fail
  go_loopw [3, 4] (fun v c wr => ∃ (k x : Nat) (pre : List Nat), x ≤ n ∧ c = .int .u64 x ∧ Hid (Sml n k x pre) ∧ wr.ownsRow w.heap.size 3 1 v k (digs pre) ∧ Below w.heap.size w wr) (fun _ c _ => (intOf c).toNat)
  case atStart => exact ⟨0, n, [], Nat.le_refl _, rfl, Lib.hid (Sml.start n), World.ownsRow_nil _ _ _ _, Below.refl _ _⟩
  case round =>
    obtain ⟨k, x, pre, hx, rfl, HI, ho, hB⟩ := hrel
    have hk := HI.out.len_le hn
    have hsz := hB.size
    by_cases h0 : 0 < x
    · have HN := Lib.hid (HI.out.step h0)
      clear HI
      have h1 : ¬ x = 0 := by omega
      go_wp2_with (at_builtin; refine wpList_app Edig rfl (.tmp 8) (.tmp 12) rfl w.heap.size rfl (ho.alloc _) rfl (Sl.one _ _ _) (by intro u hu; simp at hu; subst hu; rfl) (by unfold maxLen; omega) (by omega) (by simp; omega) ?_)
      intro v2 w3 ho3 hg3 _
      have hB3 := hB.trans (app_below ho hsz hg3)
      clear ho hg3 hB
      go_wp2_with fail
      go_roundw
      case rel => exact ⟨k + 1, x / 256, _, by omega, by go_num, HN, by rw [digs_snoc]; exact_mod_cast ho3, hB3⟩
      case measure => simp [intOf]; omega
    · obtain rfl : x = 0 := by omega
      have HD := HI.out.done
      have hkl := HI.out.len
      have S0 := Sl.of_own ho
      rw [HD] at S0
      obtain rfl : k = (dg 256 n).length := by rw [← HD]; exact hkl.symm
      obtain ⟨va, vc, rfl, _⟩ := id S0
      have HS : Hid (D16 wr (.slice va (dg 256 n).length vc) n) := Lib.hid ⟨S0, tyR_own ho _⟩
      clear HI HD hkl S0 ho
      go_wp2_with fail
      go_ret
      exact ⟨_, rfl, HS.out, hB⟩
end Go.Proofs.YtanblpfpkohghaaDoor

/-
  What a filter is; all numbers together; a place of it, or the one at the end: the reference's.
-/
namespace Go.Proofs.YtanblpfpkohghaaDoor
open Go Go.RowKit Go.Th Go.Th.Dig Go.Th.Ex

set_option maxRecDepth 20000 in
set_option maxHeartbeats 1600000 in
theorem rsum_any (x y : Int) (a : Option Addr) (n cap k : Nat) (us : List Nat) (hl : Lt k us) (hk : k ≤ 8000) (hn : n ≤ 4096) (w : World) (hU : IsU w a n cap us) :
    AnsU 46 #[fv x y (.slice a n cap)] w us.sum := by
  have hlen : us.length = n := hU.len
  have hsm : ∀ j, (dg 256 (sumN us j)).length ≤ 100000 ∨ n < j := fun j => by
    by_cases hj : j ≤ n
    · exact .inl (Nat.le_trans (d16 (m := 1002) (sumN_lt hl j (m := 13) (by omega)) (by omega)) (by omega))
    · exact .inr (by omega)
  have hel : ∀ j, (dg 256 (us.getD j 0)).length ≤ 100000 := fun j => Nat.le_trans (d16 (m := 1000) (hl j) (by omega)) (by omega)
  have HS := Lib.hid hsm
  have HE := Lib.hid hel
  have HN := Lib.hid (fun j => sumN_next us j)
  have HA := Lib.hid (sumN_all us)
  have HL := Lib.hid hlen
  have HU := Lib.hid hU
  have hmx := hU.max
  have M0 := Mem.start w
  clear hsm hel hU hlen hl
  go_enter Tryd.func46, Tryd.ntmps46
  go_upto_region 1 with (((with_reducible refine (?_ : Go.wpList _ _ _ (_ :: _) _ _)); (first | go_skip | (refine wpL_bx M0 rfl rfl rfl rfl ?_; clear M0; intro g1 w1 M1) | (refine wpL_alc M0 rfl rfl ?_; clear M0; intro g1 w1 M1) | (refine wpL_ldc M0 rfl rfl rfl ?_) | (refine wpL_lgc M0 rfl rfl rfl ?_) | (refine wpL_stc M0 rfl rfl rfl rfl ?_; clear M0; intro w' M0) | (refine wpL_sti M0 rfl rfl rfl rfl ?_; clear M0; intro w' M0) | (refine wpL_sth M0 rfl rfl rfl rfl (wr_minus _ _ _) ?_; clear M0; intro w' M0) | (refine wpL_ldc M1 rfl rfl rfl ?_) | (refine wpL_lgc M1 rfl rfl rfl ?_) | (refine wpL_stc M1 rfl rfl rfl rfl ?_; clear M1; intro w' M1) | (refine wpL_sti M1 rfl rfl rfl rfl ?_; clear M1; intro w' M1) | (refine wpL_sth M1 rfl rfl rfl rfl (wr_minus _ _ _) ?_; clear M1; intro w' M1))))
  go_wp2_with fail
  go_loopw [3, 4] (fun v c wr => ∃ (j : Nat) (v0 : Value), j ≤ n ∧ c = .int .i64 j ∧ v0 = v ∧ Hid (D16 wr v0 (sumN us j)) ∧ Mem w wr [(g1, 36, fc x y (.slice a n cap))]) (fun _ c _ => n - (intOf c).toNat)
  case atStart => exact ⟨0, _, Nat.zero_le _, rfl, rfl, Lib.hid (d16_nil _), M1⟩
  case round =>
    clear M1
    obtain ⟨j, v, hj, rfl, rfl, HV, M0⟩ := hrel
    by_cases hlt : j < n
    · obtain ⟨b, o, d, e, f, rfl, hb, hc, hd⟩ := (HU.out.below M0.below).cell hlt
      have C := add_u v (.slice d e f) _ _ wr HV.out hd ((HS.out j).resolve_right (by omega)) (HE.out j)
      rw [← HN.out] at C
      have HC := Lib.hid C
      have h1 : (j : Int) < n := by omega
      clear hd C
      go_wp2_with ((with_reducible refine (?_ : Go.wpList _ _ _ (_ :: _) _ _)); (first | go_skip | (refine wpL_ldc M0 rfl rfl rfl ?_) | (refine wpL_lgc M0 rfl rfl rfl ?_) | (refine wpL_stc M0 rfl rfl rfl rfl ?_; clear M0; intro w' M0) | (refine wpL_sti M0 rfl rfl rfl rfl ?_; clear M0; intro w' M0) | (refine wpL_sth M0 rfl rfl rfl rfl (wr_minus _ _ _) ?_; clear M0; intro w' M0)))
      refine HC.out.mono ?_
      rintro e w3 ⟨t, rfl, ht, hA⟩
      have M3 := M0.call hA
      have HT := Lib.hid ht
      clear ht hA hc HC HV M0
      go_wp2_with fail
      go_roundw
      case rel => exact ⟨j + 1, _, by omega, by go_num, rfl, HT, M3⟩
      case measure => simp [intOf]; omega
    · obtain rfl : j = n := by omega
      rw [show sumN us j = us.sum by rw [← HA.out, HL.out]] at HV
      go_wp2_with ((with_reducible refine (?_ : Go.wpList _ _ _ (_ :: _) _ _)); (first | go_skip | (refine wpL_ldc M0 rfl rfl rfl ?_) | (refine wpL_lgc M0 rfl rfl rfl ?_) | (refine wpL_stc M0 rfl rfl rfl rfl ?_; clear M0; intro w' M0) | (refine wpL_sti M0 rfl rfl rfl rfl ?_; clear M0; intro w' M0) | (refine wpL_sth M0 rfl rfl rfl rfl (wr_minus _ _ _) ?_; clear M0; intro w' M0)))
      go_ret
      exact ⟨_, rfl, HV.out, M0.below⟩

/-- The place at a number, or the one at the end. -/
def clp (z : Int) (n : Nat) : Nat := if z < 0 then 0 else if (n : Int) ≤ z then n - 1 else z.toNat
theorem clp_lt (z : Int) {n : Nat} (h : 0 < n) : clp z n < n := by unfold clp; split; exact h; split <;> omega
theorem at_lt17 {i j x y : Nat} (hi : i < x) (hj : j < y) : j * x + i < x * y := by
  have h1 : (j + 1) * x ≤ y * x := Nat.mul_le_mul_right _ hj
  rw [Nat.add_mul, Nat.one_mul] at h1
  rw [Nat.mul_comm x y]
  omega
set_option maxRecDepth 20000 in
set_option maxHeartbeats 1600000 in
theorem rat_any (x y : Nat) (ax ay : Int) (a : Option Addr) (n cap : Nat) (us : List Nat) (hxy : n = x * y) (hx1 : 1 ≤ x) (hy1 : 1 ≤ y) (hx : x ≤ 64) (hy : y ≤ 64) (hax : -1000 ≤ ax ∧ ax ≤ 1000) (hay : -1000 ≤ ay ∧ ay ≤ 1000) (w : World) (hU : IsU w a n cap us) :
    AnsU 86 #[fv x y (.slice a n cap), .int .i64 ax, .int .i64 ay] w (us.getD (clp ay y * x + clp ax x) 0) := by
  have hle : x * y ≤ 64 * 64 := Nat.mul_le_mul hx hy
  obtain ⟨cx, hcx⟩ : ∃ cx, cx = clp ax x := ⟨_, rfl⟩
  obtain ⟨cy, hcy⟩ : ∃ cy, cy = clp ay y := ⟨_, rfl⟩
  rw [← hcx, ← hcy]
  have hi : cx < x := by rw [hcx]; exact clp_lt _ (by omega)
  have hj : cy < y := by rw [hcy]; exact clp_lt _ (by omega)
  have hk : cy * x + cx < n := by rw [hxy]; exact at_lt17 hi hj
  obtain ⟨m1, hm1, hm1', h1a, h1b, h1c⟩ : ∃ m1 : Int, (ax < 0 → m1 = 0) ∧ (¬ ax < 0 → m1 = ax) ∧ ((x : Int) ≤ m1 → (cx : Int) = (x : Int) - 1) ∧ (¬ (x : Int) ≤ m1 → (cx : Int) = m1) ∧ -1000 ≤ m1 ∧ m1 ≤ 1000 := by
    by_cases h : ax < 0
    · have e : cx = 0 := by rw [hcx]; unfold clp; rw [if_pos h]
      exact ⟨0, fun _ => rfl, fun h' => absurd h h', fun _ => by omega, fun _ => by omega, by omega, by omega⟩
    · refine ⟨ax, fun h' => absurd h' h, fun _ => rfl, fun h2 => ?_, fun h2 => ?_, hax.1, hax.2⟩
      · have e : cx = x - 1 := by rw [hcx]; unfold clp; rw [if_neg h, if_pos h2]
        omega
      · have e : cx = ax.toNat := by rw [hcx]; unfold clp; rw [if_neg h, if_neg h2]
        omega
  obtain ⟨m2, hm2, hm2', h2a, h2b, h2c⟩ : ∃ m2 : Int, (ay < 0 → m2 = 0) ∧ (¬ ay < 0 → m2 = ay) ∧ ((y : Int) ≤ m2 → (cy : Int) = (y : Int) - 1) ∧ (¬ (y : Int) ≤ m2 → (cy : Int) = m2) ∧ -1000 ≤ m2 ∧ m2 ≤ 1000 := by
    by_cases h : ay < 0
    · have e : cy = 0 := by rw [hcy]; unfold clp; rw [if_pos h]
      exact ⟨0, fun _ => rfl, fun h' => absurd h h', fun _ => by omega, fun _ => by omega, by omega, by omega⟩
    · refine ⟨ay, fun h' => absurd h' h, fun _ => rfl, fun h2 => ?_, fun h2 => ?_, hay.1, hay.2⟩
      · have e : cy = y - 1 := by rw [hcy]; unfold clp; rw [if_neg h, if_pos h2]
        omega
      · have e : cy = ay.toNat := by rw [hcy]; unfold clp; rw [if_neg h, if_neg h2]
        omega
  have H1 := Lib.hid hm1
  have H1' := Lib.hid hm1'
  have H2 := Lib.hid hm2
  have H2' := Lib.hid hm2'
  have H1a := Lib.hid h1a
  have H1b := Lib.hid h1b
  have H2a := Lib.hid h2a
  have H2b := Lib.hid h2b
  have HU := Lib.hid hU
  have hmx := hU.max
  clear hm1 hm1' hm2 hm2' h1a h1b h2a h2b hcx hcy hU
  obtain ⟨k0, hk0⟩ : ∃ k0, k0 = cy * x := ⟨_, rfl⟩
  have hmul : (cy : Int) * (x : Int) = (k0 : Int) := by rw [hk0]; simp
  rw [← hk0] at hk ⊢
  clear hk0 hxy hle
  have M0 := Mem.start w
  go_enter Tryd.func86, Tryd.ntmps86
  go_upto_region 1 with (((with_reducible refine (?_ : Go.wpList _ _ _ (_ :: _) _ _)); (first | go_skip | (refine wpL_bx M0 rfl rfl rfl rfl ?_; clear M0; intro g1 w1 M1) | (refine wpL_alc M0 rfl rfl ?_; clear M0; intro g1 w1 M1) | (refine wpL_ldc M0 rfl rfl rfl ?_) | (refine wpL_lgc M0 rfl rfl rfl ?_) | (refine wpL_stc M0 rfl rfl rfl rfl ?_; clear M0; intro w' M0) | (refine wpL_sti M0 rfl rfl rfl rfl ?_; clear M0; intro w' M0) | (refine wpL_sth M0 rfl rfl rfl rfl (wr_minus _ _ _) ?_; clear M0; intro w' M0) | (refine wpL_ldc M1 rfl rfl rfl ?_) | (refine wpL_lgc M1 rfl rfl rfl ?_) | (refine wpL_stc M1 rfl rfl rfl rfl ?_; clear M1; intro w' M1) | (refine wpL_sti M1 rfl rfl rfl rfl ?_; clear M1; intro w' M1) | (refine wpL_sth M1 rfl rfl rfl rfl (wr_minus _ _ _) ?_; clear M1; intro w' M1))))
  obtain ⟨wz, rfl⟩ : ∃ wz, wz = w1 := ⟨_, rfl⟩
  obtain ⟨b, o, d, e, f, rfl, hb, hc, hd⟩ := (HU.out.below M1.below).cell hk
  have HD := Lib.hid hd
  have c0 := M1.cell (Has.head _ _ _ _) (i := 0) rfl
  have c1 := M1.cell (Has.head _ _ _ _) (i := 1) rfl
  have c2 := M1.cell (Has.head _ _ _ _) (i := 2) rfl
  clear hd
  go_upto_if 11 with fail
  go_cut [7] from 9 (fun s7 wx => wx = wz ∧ s7 = .int .i64 m1)
  case first =>
    by_cases h : ax < 0
    · have HE := Lib.hid (H1.out h)
      go_wp2_with fail
      go_meet
      exact ⟨rfl, by rw [HE.out]⟩
    · have HE := Lib.hid (H1'.out h)
      go_wp2_with fail
      go_meet
      exact ⟨rfl, by rw [HE.out]⟩
  obtain ⟨rfl, rfl⟩ := hcut
  go_upto_if 15 with fail
  go_cut [7] from 9 (fun s7 wx => wx = wc ∧ s7 = .int .i64 (cx : Int))
  case first =>
    by_cases h : (x : Int) ≤ m1
    · have HE := Lib.hid (H1a.out h)
      go_wp2_with fail
      go_meet
      exact ⟨rfl, by rw [HE.out]⟩
    · have HE := Lib.hid (H1b.out h)
      go_wp2_with fail
      go_meet
      exact ⟨rfl, by rw [HE.out]⟩
  obtain ⟨rfl, rfl⟩ := hcut
  go_upto_if 21 with fail
  go_cut [8] from 9 (fun s8 wx => wx = wc ∧ s8 = .int .i64 m2)
  case first =>
    by_cases h : ay < 0
    · have HE := Lib.hid (H2.out h)
      go_wp2_with fail
      go_meet
      exact ⟨rfl, by rw [HE.out]⟩
    · have HE := Lib.hid (H2'.out h)
      go_wp2_with fail
      go_meet
      exact ⟨rfl, by rw [HE.out]⟩
  obtain ⟨rfl, rfl⟩ := hcut
  go_upto_if 25 with fail
  go_cut [8] from 9 (fun s8 wx => wx = wc ∧ s8 = .int .i64 (cy : Int))
  case first =>
    by_cases h : (y : Int) ≤ m2
    · have HE := Lib.hid (H2a.out h)
      go_wp2_with fail
      go_meet
      exact ⟨rfl, by rw [HE.out]⟩
    · have HE := Lib.hid (H2b.out h)
      go_wp2_with fail
      go_meet
      exact ⟨rfl, by rw [HE.out]⟩
  obtain ⟨rfl, rfl⟩ := hcut
  go_wp2_with fail
  go_ret
  exact ⟨_, rfl, HD.out, M1.below⟩
end Go.Proofs.YtanblpfpkohghaaDoor

/-
  The filter that a grid is: the reference's.
-/
namespace Go.Proofs.YtanblpfpkohghaaDoor
open Go Go.RowKit Go.Th Go.Th.Dig Go.Th.Ex Go.Th.Grid

/-- A filter is answered. -/
def ResF (x y : Int) (us : List Nat) (w : World) (e : Ending) (w' : World) : Prop :=
  ∃ a cap, e = .returned (fv x y (.slice a us.length cap)) ∧ IsU w' a us.length cap us ∧ Below w.heap.size w w'
theorem take_snoc17 (l : List Nat) (k : Nat) (h : k < l.length) : l.take k ++ [l.getD k 0] = l.take (k + 1) := by
  rw [List.take_add_one, List.getElem?_eq_getElem h]
  simp [List.getD_eq_getElem?_getD, List.getElem?_eq_getElem h]
theorem take_len17 {l : List Nat} {k : Nat} (h : k ≤ l.length) : (l.take k).length = k := by rw [List.length_take]; omega

set_option maxRecDepth 20000 in
set_option maxHeartbeats 3200000 in
theorem rfrom_any (x y : Nat) (X Y S : Int) (a : Option Addr) (n cap : Nat) (p : List Int) (us : List Nat) (hp : p.length = n) (hus : us.length = n) (hv : ∀ i, i < n → p.getD i 0 = ((us.getD i 0 : Nat) : Int)) (hb : ∀ i, us.getD i 0 < 9223372036854775808) (hn : n ≤ 4096) (w : World) (hS : Sl w 1 (.slice a n cap) n (i64s p)) :
    Calls Tryd.prog 10 #[gv x y X Y S (.slice a n cap)] w (ResF x y us w) := by
  have HS := Lib.hid hS
  have HP := Lib.hid hp
  have HL := Lib.hid hus
  have HV := Lib.hid hv
  have HB := Lib.hid hb
  have HT := Lib.hid (fun k (h : k < us.length) => take_snoc17 us k h)
  have HTL := Lib.hid (fun k (h : k ≤ us.length) => take_len17 h)
  have hmx := hS.max
  have M0 := Mem.start w
  clear hS hp hus hv hb
  go_enter Tryd.func10, Tryd.ntmps10
  go_upto_region 2 with (((with_reducible refine (?_ : Go.wpList _ _ _ (_ :: _) _ _)); (first | go_skip | (refine wpL_bx M0 rfl rfl rfl rfl ?_; clear M0; intro g1 w1 M1) | (refine wpL_alc M0 rfl rfl ?_; clear M0; intro g1 w1 M1) | (refine wpL_ldc M0 rfl rfl rfl ?_) | (refine wpL_lgc M0 rfl rfl rfl ?_) | (refine wpL_stc M0 rfl rfl rfl rfl ?_; clear M0; intro w' M0) | (refine wpL_sti M0 rfl rfl rfl rfl ?_; clear M0; intro w' M0) | (refine wpL_sth M0 rfl rfl rfl rfl (wr_minus _ _ _) ?_; clear M0; intro w' M0) | (refine wpL_bx M1 rfl rfl rfl rfl ?_; clear M1; intro g2 w2 M2) | (refine wpL_alc M1 rfl rfl ?_; clear M1; intro g2 w2 M2) | (refine wpL_ldc M1 rfl rfl rfl ?_) | (refine wpL_lgc M1 rfl rfl rfl ?_) | (refine wpL_stc M1 rfl rfl rfl rfl ?_; clear M1; intro w' M1) | (refine wpL_sti M1 rfl rfl rfl rfl ?_; clear M1; intro w' M1) | (refine wpL_sth M1 rfl rfl rfl rfl (wr_minus _ _ _) ?_; clear M1; intro w' M1) | (refine wpL_bx M2 rfl rfl rfl rfl ?_; clear M2; intro g3 w3 M3) | (refine wpL_alc M2 rfl rfl ?_; clear M2; intro g3 w3 M3) | (refine wpL_ldc M2 rfl rfl rfl ?_) | (refine wpL_lgc M2 rfl rfl rfl ?_) | (refine wpL_stc M2 rfl rfl rfl rfl ?_; clear M2; intro w' M2) | (refine wpL_sti M2 rfl rfl rfl rfl ?_; clear M2; intro w' M2) | (refine wpL_sth M2 rfl rfl rfl rfl (wr_minus _ _ _) ?_; clear M2; intro w' M2) | (refine wpL_ldc M3 rfl rfl rfl ?_) | (refine wpL_lgc M3 rfl rfl rfl ?_) | (refine wpL_stc M3 rfl rfl rfl rfl ?_; clear M3; intro w' M3) | (refine wpL_sti M3 rfl rfl rfl rfl ?_; clear M3; intro w' M3) | (refine wpL_sth M3 rfl rfl rfl rfl (wr_minus _ _ _) ?_; clear M3; intro w' M3))))
  have hO : OwnU w' w.heap.size (.slice none 0 0) 0 (us.take 0) := OwnU.nil _ _
  go_wp2_with fail
  go_loopw [4] (fun c wr => ∃ (i : Nat) (va : Value), i ≤ n ∧ c = .int .i64 i ∧ Hid (OwnU wr w.heap.size va i (us.take i)) ∧ Mem w wr [(g3, 36, fc x y va), (g2, 36, fc 0 0 (.slice none 0 0)), (g1, 28, gc x y X Y S (.slice a n cap))]) (fun c _ => n - (intOf c).toNat)
  case atStart => exact ⟨0, _, Nat.zero_le _, rfl, Lib.hid hO, M3⟩
  case round =>
    clear M3 hO
    obtain ⟨i, va, hi, rfl, HO, M0⟩ := hrel
    obtain ⟨a5, c5, rfl⟩ := HO.out.form
    have c1 := M0.cell (.tail _ _ _ _ _ (.tail _ _ _ _ _ (Has.head _ _ _ _))) (i := 5) rfl
    have c3 := M0.cell (Has.head _ _ _ _) (i := 2) rfl
    by_cases hlt : i < n
    · obtain ⟨b, o, rfl, hbl, cu⟩ := cell64 (HS.out.below M0.below) i (by rw [HP.out]; exact hlt)
      rw [HV.out i hlt] at cu
      have hE := HT.out i (by rw [HL.out]; exact hlt)
      have hu9 := HB.out i
      obtain ⟨u, hu⟩ : ∃ u, u = us.getD i 0 := ⟨_, rfl⟩
      rw [← hu] at cu hE hu9
      have HE := Lib.hid hE
      have C := Lib.hid (small_any u (by omega))
      have hw : IntKind.u64.wrap (u : Int) = (u : Int) := IntWalk.u64_in _ ⟨by omega, by omega⟩
      have hi0 : (i : Int) < n := by omega
      have hb63 : i + 1 ≤ maxLen := by unfold maxLen; omega
      have hb24 : (i + 1) * 24 ≤ 140737488355328 := by omega
      have HU := Lib.hid hu
      clear hu hE hu9
      go_wp2_with fail
      refine wp_region_N_drew (S := (fun w' : World => w'.cell? ⟨g3, 2, none⟩ = some (.slice a5 i c5) ∧ w'.cell? ⟨g1, 5, none⟩ = some (.slice (some ⟨b, o, none⟩) n cap) ∧ w'.cell? ⟨b, o + i, none⟩ = some (.int .i64 (u : Int)))) 12 (by kernel_rfl) ?_
      have hHeld : (fun w' : World => w'.cell? ⟨g3, 2, none⟩ = some (.slice a5 i c5) ∧ w'.cell? ⟨g1, 5, none⟩ = some (.slice (some ⟨b, o, none⟩) n cap) ∧ w'.cell? ⟨b, o + i, none⟩ = some (.int .i64 (u : Int))) wr.drew := ⟨c3, c1, cu⟩
      refine wpAnyN_takeY (i := 0) (v := ?v1) rfl (by kernel_rfl) (by kernel_rfl) (by kernel_rfl) (fun _ _ _ h => h) rfl (Or.inl ⟨by rfl, ?hy1⟩) (fun _ => hHeld) ?rest1
      case hy1 => (intro w' _; go_simp; (try with_reducible rfl))
      try simp only [Act.put, puts]
      refine wpAnyN_takeY (i := 2) (v := ?v2) rfl (by kernel_rfl) (by kernel_rfl) (by kernel_rfl) (fun _ _ _ h => h) rfl (Or.inl ⟨by rfl, ?hy2⟩) (fun _ => hHeld) ?rest2
      case hy2 => (intro w' _; go_simp; (try with_reducible rfl))
      try simp only [Act.put, puts]
      refine wpAnyN_takeY (i := 4) (v := ?v3) rfl (by kernel_rfl) (by kernel_rfl) (by kernel_rfl) (fun _ _ _ h => h) rfl (Or.inl ⟨by rfl, ?hy3⟩) (fun _ => hHeld) ?rest3
      case hy3 => (intro w' _; go_simp; (try with_reducible rfl))
      try simp only [Act.put, puts]
      refine wpAnyN_take (i := 1) (v := ?v4) rfl (by kernel_rfl) (by kernel_rfl) (by kernel_rfl) (fun _ _ _ h => h) rfl (by kernel_rfl) (by kernel_rfl) (Or.inl ⟨by rfl, ?hy4⟩) hHeld ?rest4
      case hy4 => (intro w' hSw; (try dsimp only at hSw); go_simp; (try with_reducible rfl))
      try simp only [Act.put, puts]
      refine wpAnyN_take (i := 3) (v := ?v5) rfl (by kernel_rfl) (by kernel_rfl) (by kernel_rfl) (fun _ _ _ h => h) rfl (by kernel_rfl) (by kernel_rfl) (Or.inl ⟨by rfl, ?hy5⟩) hHeld ?rest5
      case hy5 => (intro w' hSw; (try dsimp only at hSw); go_simp; (try with_reducible rfl))
      try simp only [Act.put, puts]
      refine wpAnyN_takeY (i := 5) (v := ?v6) rfl (by kernel_rfl) (by kernel_rfl) (by kernel_rfl) (fun _ _ _ h => h) rfl (Or.inl ⟨by rfl, ?hy6⟩) (fun _ => hHeld) ?rest6
      case hy6 => (intro w' _; go_simp; (try with_reducible rfl))
      try simp only [Act.put, puts]
      refine wpAnyN_take (i := 6) (v := ?v7) rfl (by kernel_rfl) (by kernel_rfl) (by kernel_rfl) (fun _ _ _ h => h) rfl (by kernel_rfl) (by kernel_rfl) (Or.inl ⟨by rfl, ?hy7⟩) hHeld ?rest7
      case hy7 => (intro w' hSw; (try dsimp only at hSw); go_simp; (try with_reducible rfl))
      try simp only [Act.put, puts]
      refine wpAnyN_takeY (i := 7) (v := ?v8) rfl (by kernel_rfl) (by kernel_rfl) (by kernel_rfl) (fun _ _ _ h => h) rfl (Or.inl ⟨by rfl, ?hy8⟩) (fun _ => hHeld) ?rest8
      case hy8 => (intro w' _; go_simp; (try with_reducible rfl))
      try simp only [Act.put, puts]
      refine wpAnyN_ready (rs := [8]) (by kernel_rfl) (by simp) ?_
      refine AllReadyN.cons rfl (fun K hK => ?_) AllReadyN.nil
      go_simp
      refine (C.out _).mono ?_
      rintro e w8 ⟨v8, rfl, hv8, hA⟩
      have M8 := M0.drew.call hA
      obtain ⟨a8, n8, c8, rfl, -, hd8⟩ := hv8.form
      have HD8 := Lib.hid hd8
      have HO8 := Lib.hid (OwnU.below (w := wr.drew) HO.out hA)
      have cu8 := (hA.cell (p := ⟨b, o + i, none⟩) hbl).trans cu
      have hb8 : b < w8.heap.size := Nat.lt_of_lt_of_le hbl hA.size
      clear hv8 hd8 hA
      try go_wp2_with fail
      replace hHeld : (fun w' : World => w'.cell? ⟨g3, 2, none⟩ = some (.slice a5 i c5) ∧ w'.cell? ⟨g1, 5, none⟩ = some (.slice (some ⟨b, o, none⟩) n cap) ∧ w'.cell? ⟨b, o + i, none⟩ = some (.int .i64 (u : Int))) _ := ⟨M8.cell (Has.head _ _ _ _) (i := 2) rfl, M8.cell (.tail _ _ _ _ _ (.tail _ _ _ _ _ (Has.head _ _ _ _))) (i := 5) rfl, cu8⟩
      refine hK.out _ _ (fun _ => hHeld) ?_
      clear hK K
      try simp only [Act.put, puts]
      refine wpAnyN_ready (rs := [9]) (by kernel_rfl) (by simp) ?_
      refine AllReadyN.cons rfl (fun K hK => ?_) AllReadyN.nil
      go_simp
      obtain ⟨w9, hw9⟩ : ∃ w9, w8.alloc (.cells #[.slice a8 n8 c8] 51) = w9 := ⟨_, rfl⟩
      have hA9 : Below w8.heap.size w8 w9 := by rw [← hw9]; exact (Below.refl _ _).alloc (Nat.le_refl _) _
      have p9 : Sl w9 1 (.slice (some ⟨w8.heap.size, 0, none⟩) 1 1) 1 [.slice a8 n8 c8] := by rw [← hw9]; exact Sl.one w8 _ _
      have M9 := M8.call hA9
      have cu9 := (hA9.cell (p := ⟨b, o + i, none⟩) hb8).trans cu8
      have hd9 := HD8.out.below hA9
      obtain ⟨h09, cs9, ho9, hD9⟩ := HO8.out.below hA9
      (try simp only [hw9])
      clear hw9
      try go_wp2_with fail
      replace hHeld : (fun w' : World => w'.cell? ⟨g3, 2, none⟩ = some (.slice a5 i c5) ∧ w'.cell? ⟨g1, 5, none⟩ = some (.slice (some ⟨b, o, none⟩) n cap) ∧ w'.cell? ⟨b, o + i, none⟩ = some (.int .i64 (u : Int))) _ := ⟨M9.cell (Has.head _ _ _ _) (i := 2) rfl, M9.cell (.tail _ _ _ _ _ (.tail _ _ _ _ _ (Has.head _ _ _ _))) (i := 5) rfl, cu9⟩
      refine hK.out _ _ (fun _ => hHeld) ?_
      clear hK K
      try simp only [Act.put, puts]
      refine wpAnyN_ready (rs := [10]) (by kernel_rfl) (by simp) ?_
      refine AllReadyN.cons rfl (fun K hK => ?_) AllReadyN.nil
      rw [if_pos (by rfl)]
      refine wp_app Edd (.tmp 18) (.tmp 26) rfl w.heap.size rfl ho9 rfl p9 (by intro u hu; simp at hu; subst hu; rfl) hb63 hb24 M9.below.size ?_
      intro v10 w10 ho10 hg10 _
      have hO10 := own_snoc h09 ho9 hD9 hd9 ho10 hg10
      rw [HE.out] at hO10
      have M10 := M9.app ho9 hg10 (Nat.le_refl _) (by simp)
      obtain ⟨_, _, hee, _, cu10⟩ := cell64 (HS.out.below M10.below) i (by rw [HP.out]; exact hlt)
      cases hee
      rw [HV.out i hlt, ← HU.out] at cu10
      obtain ⟨a10, c10, rfl⟩ := hO10.form
      have HO10 := Lib.hid hO10
      have r1 := M10.cell (Has.head _ _ _ _) (i := 2) rfl
      have f1 := M10.free (Has.head _ _ _ _) 2
      clear hO10 ho10 hg10 p9 h09 ho9 hD9 hd9 M9 M8 HD8 HO8
      replace hHeld : (fun w' : World => w'.cell? ⟨g3, 2, none⟩ = some (.slice a5 i c5) ∧ w'.cell? ⟨g1, 5, none⟩ = some (.slice (some ⟨b, o, none⟩) n cap) ∧ w'.cell? ⟨b, o + i, none⟩ = some (.int .i64 (u : Int))) _ := ⟨M10.cell (Has.head _ _ _ _) (i := 2) rfl, M10.cell (.tail _ _ _ _ _ (.tail _ _ _ _ _ (Has.head _ _ _ _))) (i := 5) rfl, cu10⟩
      refine hK.out _ _ (fun _ => hHeld) ?_
      clear hK K
      try simp only [Act.put, puts]
      refine wpAnyN_takeY (i := 11) (v := ?v12) rfl (by kernel_rfl) (by kernel_rfl) (by kernel_rfl) (fun _ _ _ h => h) rfl (Or.inl ⟨by rfl, ?hy12⟩) (fun _ => hHeld) ?rest12
      case hy12 => (intro w' _; go_simp; (try with_reducible rfl))
      try simp only [Act.put, puts]
      refine wpAnyN_ready (rs := [12]) (by kernel_rfl) (by simp) ?_
      refine AllReadyN.cons rfl (fun K hK => ?_) AllReadyN.nil
      go_simp
      try go_wp2_with fail
      refine hK.out _ _ (fun h => by have h' : (true : Bool) = false := h; cases h') ?_
      clear hK K
      try simp only [Act.put, puts]
      refine wpAnyN_done (by kernel_rfl) ?_ _
      have M11 := M10.set 2 (.slice a10 (i + 1) c10) (Upd.head _ _ _ _ _) (by simp)
      have HO11 := Lib.hid (HO10.out.turnedB (M10.has (Has.head _ _ _ _)) (by decide) (by decide) ((Turned.refl (fun k => k = g3) w10).setCell (a := ⟨g3, 2, none⟩) (.inl rfl) (.slice a10 (i + 1) c10)))
      have M11 : Mem w (w10.setCell ⟨g3, 2, none⟩ (.slice a10 (i + 1) c10)) [(g3, 36, fc x y (.slice a10 (i + 1) c10)), (g2, 36, fc 0 0 (.slice none 0 0)), (g1, 28, gc x y X Y S (.slice (some ⟨b, o, none⟩) n cap))] := M11
      obtain ⟨w11, hw11⟩ : ∃ w11, w10.setCell ⟨g3, 2, none⟩ (.slice a10 (i + 1) c10) = w11 := ⟨_, rfl⟩
      rw [hw11] at M11 HO11 ⊢
      clear r1 f1 M10 HO10 hw11 cu cu8 cu9 cu10 c1 c3 M0 HO
      go_wp2_with fail
      go_roundw
      case rel => exact ⟨i + 1, _, by omega, by go_num, HO11, M11⟩
      case measure => simp [intOf]; omega
    · obtain rfl : i = n := by omega
      have hO := HO.out
      rw [List.take_of_length_le (by rw [HL.out]; exact Nat.le_refl _)] at hO
      have HO2 := Lib.hid hO
      clear hO HO
      go_wp2_with ((with_reducible refine (?_ : Go.wpList _ _ _ (_ :: _) _ _)); (first | go_skip | (refine wpL_ldc M0 rfl rfl rfl ?_) | (refine wpL_stM (v := fv x y (.slice a5 i c5)) M0 rfl rfl rfl rfl (wr_f _ _ _ _ _ _ _ _) (.tail _ _ _ _ _ _ _ (Upd.head _ _ _ _ _)) ?_; intro w4 M4 hT4)))
      have hO4 := HO2.out.turnedB (M0.has (.tail _ _ _ _ _ (Has.head _ _ _ _))) (by decide) (by decide) hT4
      refine bodyPost_ret (res_cell rfl M4 rfl (.tail _ _ _ _ _ (Has.head _ _ _ _)) (rd_f _ _ _)) rfl ?_
      exact ⟨a5, c5, by rw [HL.out], by rw [HL.out]; exact hO4.isU, M4.below⟩
end Go.Proofs.YtanblpfpkohghaaDoor

/-
  A filter that is spread: the reference's.
-/
namespace Go.Proofs.YtanblpfpkohghaaDoor
open Go Go.RowKit Go.Th Go.Th.Dig Go.Th.Ex Go.Th.Grid

/-- What becomes of a place along rows, or columns. -/
def passAt (us : List Nat) (x y q dx dy i : Nat) : Nat :=
  us.getD i 0 * (256 - 2 * q) + us.getD (clp (((i / x : Nat) : Int) - (dy : Int)) y * x + clp (((i % x : Nat) : Int) - (dx : Int)) x) 0 * q + us.getD (clp (((i / x : Nat) : Int) + (dy : Int)) y * x + clp (((i % x : Nat) : Int) + (dx : Int)) x) 0 * q
def passU (us : List Nat) (x y q dx dy : Nat) : List Nat := tabN (passAt us x y q dx dy) us.length
theorem passU_length (us : List Nat) (x y q dx dy : Nat) : (passU us x y q dx dy).length = us.length := tabN_length _ _
theorem mul_pow2 {u c k m : Nat} (hu : u < 2 ^ k) (hc : c < 2 ^ m) : u * c < 2 ^ (k + m) := by
  rw [Nat.pow_add]
  exact Nat.mul_lt_mul'' hu hc
theorem pass_sum {k q u1 u2 u3 : Nat} (hq : q ≤ 85) (h1 : u1 < 2 ^ k) (h2 : u2 < 2 ^ k) (h3 : u3 < 2 ^ k) : u2 * (256 - 2 * q) + u1 * q + u3 * q < 2 ^ (k + 8) := by
  have a1 : u1 * q ≤ 2 ^ k * q := Nat.mul_le_mul_right _ (by omega)
  have a3 : u3 * q ≤ 2 ^ k * q := Nat.mul_le_mul_right _ (by omega)
  have a2 : u2 * (256 - 2 * q) < 2 ^ k * (256 - 2 * q) := Nat.mul_lt_mul_of_pos_right h2 (by omega)
  have e : 2 ^ k * (256 - 2 * q) + 2 ^ k * q + 2 ^ k * q = 2 ^ k * 256 := by rw [← Nat.mul_add, ← Nat.mul_add]; congr 1; omega
  rw [Nat.pow_add]
  omega
theorem Lt.pass {k : Nat} {us : List Nat} (h : Lt k us) {q : Nat} (hq : q ≤ 85) (x y dx dy : Nat) : Lt (k + 8) (passU us x y q dx dy) := Lt.tab fun i _ => pass_sum hq (h _) (h _) (h _)

set_option maxRecDepth 20000 in
set_option maxHeartbeats 6400000 in
theorem rpass_any (x y q dx dy : Nat) (a : Option Addr) (n cap k : Nat) (us : List Nat) (hl : Lt k us) (hk : k ≤ 8000) (hxy : n = x * y) (hx1 : 1 ≤ x) (hy1 : 1 ≤ y) (hx : x ≤ 64) (hy : y ≤ 64) (hq : q ≤ 85) (hdx : dx ≤ 1) (hdy : dy ≤ 1) (w : World) (hU : IsU w a n cap us) :
    Calls Tryd.prog 72 #[fv x y (.slice a n cap), .int .u64 q, .int .i64 dx, .int .i64 dy] w (ResF x y (passU us x y q dx dy) w) := by
  have hle : x * y ≤ 64 * 64 := Nat.mul_le_mul hx hy
  have hn : n ≤ 4096 := by omega
  have hlen := hU.len
  obtain ⟨f, hf⟩ : ∃ f, f = passAt us x y q dx dy := ⟨_, rfl⟩
  have hpu : passU us x y q dx dy = tabN f n := by rw [hf, ← hlen]; rfl
  rw [hpu]
  have hlb : ∀ u v : Nat, u < 2 ^ k → v < 2 ^ 9 → (dg 256 (u * v)).length ≤ 10000 := fun u v h1 h2 => Nat.le_trans (d16 (m := 1002) (mul_pow2 h1 h2) (by omega)) (by omega)
  have hle1 : ∀ u : Nat, u < 2 ^ k → (dg 256 u).length ≤ 10000 := fun u h => Nat.le_trans (d16 (m := 1000) h (by omega)) (by omega)
  have hpl : ∀ u v : Nat, u < 2 ^ k → v < 2 ^ 9 → (dg 256 (u * v)).length ≤ 100000 := fun u v h1 h2 => Nat.le_trans (hlb u v h1 h2) (by omega)
  have hst : ∀ i, i < n → ∃ (xm ym u1 u2 u3 P1 P2 P3 : Nat) (A1 B1 A2 B2 : Int),
      Hid (((i : Int) % (x : Int) = (xm : Int) ∧ (i : Int) / (x : Int) = (ym : Int) ∧ (i : Int).tmod (x : Int) = (xm : Int) ∧ (i : Int).tdiv (x : Int) = (ym : Int)) ∧ IntKind.i64.wrap (xm : Int) = (xm : Int) ∧ IntKind.i64.wrap (ym : Int) = (ym : Int) ∧ wrap64 (xm : Int) = (xm : Int) ∧ wrap64 (ym : Int) = (ym : Int)) ∧
      Hid ((xm : Int) - (dx : Int) = A1 ∧ (ym : Int) - (dy : Int) = B1 ∧ (xm : Int) + (dx : Int) = A2 ∧ (ym : Int) + (dy : Int) = B2 ∧ wrap64 A1 = A1 ∧ wrap64 B1 = B1 ∧ wrap64 A2 = A2 ∧ wrap64 B2 = B2) ∧
      Hid (∀ wx, IsU wx a n cap us → AnsU 86 #[fv x y (.slice a n cap), .int .i64 A1, .int .i64 B1] wx u1) ∧
      Hid (∀ wx, IsU wx a n cap us → AnsU 86 #[fv x y (.slice a n cap), .int .i64 A2, .int .i64 B2] wx u3) ∧
      Hid (us.getD i 0 = u2) ∧ Hid (u2 * (256 - 2 * q) = P2 ∧ u1 * q = P1 ∧ u3 * q = P3) ∧ Hid (P2 + P1 + P3 = f i) ∧ Hid (u1 < 2 ^ k ∧ u2 < 2 ^ k ∧ u3 < 2 ^ k) ∧ Hid ((dg 256 P2).length ≤ 100000 ∧ (dg 256 P1).length ≤ 100000 ∧ (dg 256 (P2 + P1)).length ≤ 100000 ∧ (dg 256 P3).length ≤ 100000) := by
    intro i hi
    have hm : i % x < x := Nat.mod_lt _ (by omega)
    have hd : i / x < y := Nat.div_lt_of_lt_mul (by rw [← hxy]; exact hi)
    have hfi : f i = passAt us x y q dx dy i := by rw [hf]
    unfold passAt at hfi
    obtain ⟨xm, hxm⟩ : ∃ xm, xm = i % x := ⟨_, rfl⟩
    obtain ⟨ym, hym⟩ : ∃ ym, ym = i / x := ⟨_, rfl⟩
    have em : (i : Int) % (x : Int) = (xm : Int) := by rw [hxm]; simp
    have ed : (i : Int) / (x : Int) = (ym : Int) := by rw [hym]; simp
    have emt : (i : Int).tmod (x : Int) = (xm : Int) := by rw [Int.tmod_eq_emod_of_nonneg (Int.natCast_nonneg i)]; exact em
    have edt : (i : Int).tdiv (x : Int) = (ym : Int) := by rw [Int.tdiv_eq_ediv_of_nonneg (Int.natCast_nonneg i)]; exact ed
    rw [← hxm, ← hym] at hfi
    rw [← hxm] at hm
    rw [← hym] at hd
    have hdm : ((i : Int) % (x : Int) = (xm : Int) ∧ (i : Int) / (x : Int) = (ym : Int) ∧ (i : Int).tmod (x : Int) = (xm : Int) ∧ (i : Int).tdiv (x : Int) = (ym : Int)) := ⟨em, ed, emt, edt⟩
    have HDM := Lib.hid hdm
    clear em ed emt edt hdm hxm hym
    have C1 := fun wx hs => rat_any x y ((xm : Int) - (dx : Int)) ((ym : Int) - (dy : Int)) a n cap us hxy hx1 hy1 hx hy (by omega) (by omega) wx hs
    have C3 := fun wx hs => rat_any x y ((xm : Int) + (dx : Int)) ((ym : Int) + (dy : Int)) a n cap us hxy hx1 hy1 hx hy (by omega) (by omega) wx hs
    refine ⟨xm, ym, _, _, _, _, _, _, _, _, _, _, Lib.hid ⟨HDM.out, IntWalk.i64_in _ (by omega), IntWalk.i64_in _ (by omega), IntWalk.wrap64_in _ (by omega), IntWalk.wrap64_in _ (by omega)⟩, Lib.hid ⟨rfl, rfl, rfl, rfl, IntWalk.wrap64_in _ (by omega), IntWalk.wrap64_in _ (by omega), IntWalk.wrap64_in _ (by omega), IntWalk.wrap64_in _ (by omega)⟩, Lib.hid C1, Lib.hid C3, Lib.hid rfl, Lib.hid ⟨rfl, rfl, rfl⟩, Lib.hid hfi.symm, Lib.hid ⟨hl _, hl _, hl _⟩, Lib.hid ⟨hpl _ _ (hl _) (by omega), hpl _ _ (hl _) (by omega), Nat.le_trans (d16 (m := 1002) (k := k + 10) (by have h1 := mul_pow2 (m := 9) (hl i) (show 256 - 2 * q < 2 ^ 9 by omega); have h2 := mul_pow2 (m := 9) (hl (clp ((ym : Int) - (dy : Int)) y * x + clp ((xm : Int) - (dx : Int)) x)) (show q < 2 ^ 9 by omega); rw [show k + 10 = k + 9 + 1 by omega, Nat.pow_succ]; omega) (by omega)) (by omega), hpl _ _ (hl _) (by omega)⟩⟩
  have HST := Lib.hid hst
  have HLB := Lib.hid hlb
  have HLE := Lib.hid hle1
  have HT := Lib.hid (fun i => tabN_next f i)
  have HTL := Lib.hid (tabN_length f n)
  have HU := Lib.hid hU
  have hmx := hU.max
  obtain ⟨Q2, hQ2⟩ : ∃ Q2, Q2 = 256 - 2 * q := ⟨_, rfl⟩
  have e2q : 2 * (q : Int) ≤ 170 := by omega
  have wq2 : IntKind.u64.wrap (2 * (q : Int)) = 2 * (q : Int) := IntWalk.u64_in _ ⟨by omega, by omega⟩
  have eQ2 : 256 - 2 * (q : Int) = (Q2 : Int) := by omega
  have wQ2 : IntKind.u64.wrap (Q2 : Int) = (Q2 : Int) := IntWalk.u64_in _ ⟨by omega, by omega⟩
  have CQ2 := Lib.hid (small_any Q2 (by omega))
  have CQ := Lib.hid (small_any q (by omega))
  have hq2 : Q2 < 2 ^ 9 := by omega
  have hq8 : q < 2 ^ 9 := by omega
  have HQ2 := Lib.hid hq2
  have HQ := Lib.hid hq8
  rw [← hQ2] at HST
  have HW := Lib.hid (And.intro wq2 (And.intro eQ2 wQ2))
  have hx0 : ¬ ((x : Int) = 0) := by omega
  have hx01 : ¬ (x = 0) := by omega
  have M0 := Mem.start w
  clear hst hpl hlb hle1 hl hlen hpu hU hle hxy hf hQ2 wq2 eQ2 wQ2 hq2 hq8 e2q
  go_enter Tryd.func72, Tryd.ntmps72
  go_upto_region 2 with (((with_reducible refine (?_ : Go.wpList _ _ _ (_ :: _) _ _)); (first | go_skip | (refine wpL_bx M0 rfl rfl rfl rfl ?_; clear M0; intro g1 w1 M1) | (refine wpL_alc M0 rfl rfl ?_; clear M0; intro g1 w1 M1) | (refine wpL_ldc M0 rfl rfl rfl ?_) | (refine wpL_lgc M0 rfl rfl rfl ?_) | (refine wpL_stc M0 rfl rfl rfl rfl ?_; clear M0; intro w' M0) | (refine wpL_sti M0 rfl rfl rfl rfl ?_; clear M0; intro w' M0) | (refine wpL_sth M0 rfl rfl rfl rfl (wr_minus _ _ _) ?_; clear M0; intro w' M0) | (refine wpL_bx M1 rfl rfl rfl rfl ?_; clear M1; intro g2 w2 M2) | (refine wpL_alc M1 rfl rfl ?_; clear M1; intro g2 w2 M2) | (refine wpL_ldc M1 rfl rfl rfl ?_) | (refine wpL_lgc M1 rfl rfl rfl ?_) | (refine wpL_stc M1 rfl rfl rfl rfl ?_; clear M1; intro w' M1) | (refine wpL_sti M1 rfl rfl rfl rfl ?_; clear M1; intro w' M1) | (refine wpL_sth M1 rfl rfl rfl rfl (wr_minus _ _ _) ?_; clear M1; intro w' M1) | (refine wpL_bx M2 rfl rfl rfl rfl ?_; clear M2; intro g3 w3 M3) | (refine wpL_alc M2 rfl rfl ?_; clear M2; intro g3 w3 M3) | (refine wpL_ldc M2 rfl rfl rfl ?_) | (refine wpL_lgc M2 rfl rfl rfl ?_) | (refine wpL_stc M2 rfl rfl rfl rfl ?_; clear M2; intro w' M2) | (refine wpL_sti M2 rfl rfl rfl rfl ?_; clear M2; intro w' M2) | (refine wpL_sth M2 rfl rfl rfl rfl (wr_minus _ _ _) ?_; clear M2; intro w' M2) | (refine wpL_ldc M3 rfl rfl rfl ?_) | (refine wpL_lgc M3 rfl rfl rfl ?_) | (refine wpL_stc M3 rfl rfl rfl rfl ?_; clear M3; intro w' M3) | (refine wpL_sti M3 rfl rfl rfl rfl ?_; clear M3; intro w' M3) | (refine wpL_sth M3 rfl rfl rfl rfl (wr_minus _ _ _) ?_; clear M3; intro w' M3))))
  have hO : OwnU w' w.heap.size (.slice none 0 0) 0 (tabN f 0) := OwnU.nil _ _
  go_wp2_with fail
  go_loopw [10] (fun c wr => ∃ (i : Nat) (va : Value), i ≤ n ∧ c = .int .i64 i ∧ Hid (OwnU wr w.heap.size va i (tabN f i)) ∧ Mem w wr [(g3, 36, fc x y va), (g2, 36, fc 0 0 (.slice none 0 0)), (g1, 36, fc x y (.slice a n cap))]) (fun c _ => n - (intOf c).toNat)
  case atStart => exact ⟨0, _, Nat.zero_le _, rfl, Lib.hid hO, M3⟩
  case round =>
    clear M3 hO
    obtain ⟨i, va, hi, rfl, HO, M0⟩ := hrel
    obtain ⟨a5, c5, rfl⟩ := HO.out.form
    by_cases hlt : i < n
    · obtain ⟨xm, ym, u1, u2, u3, P1, P2, P3, A1, B1, A2, B2, HDM, HAB, C1, C3, HU2, HPP, HFI, HLT, HB⟩ := HST.out i hlt
      obtain ⟨b, o, d, e, f0, rfl, hbl, cu, hd⟩ := (HU.out.below M0.below).cell hlt
      rw [HU2.out] at hd
      have HD := Lib.hid hd
      have hi0 : (i : Int) < n := by omega
      have hb63 : i + 1 ≤ maxLen := by unfold maxLen; omega
      have hb24 : (i + 1) * 24 ≤ 140737488355328 := by omega
      have c1 := M0.cell (.tail _ _ _ _ _ (.tail _ _ _ _ _ (Has.head _ _ _ _))) (i := 0) rfl
      have c12 := M0.cell (.tail _ _ _ _ _ (.tail _ _ _ _ _ (Has.head _ _ _ _))) (i := 2) rfl
      obtain ⟨⟨em, ed, emt, edt⟩, wxm, wym, wxm2, wym2⟩ := HDM.out
      clear hd
      go_upto_region 7 with fail
      clear em ed emt edt wxm wym wxm2 wym2
      obtain ⟨wq2, eQ2, wQ2⟩ := HW.out
      refine wp_region_held_drew (S := (fun w' : World => w'.cell? ⟨g1, 2, none⟩ = some (.slice (some ⟨b, o, none⟩) n cap) ∧ w'.cell? ⟨b, o + i, none⟩ = some (.slice d e f0))) (by kernel_rfl) (⟨c12, cu⟩) (fun hHeld => ?_)
      refine tkT 0 ?v14 ?hy14 hHeld ?rest14
      case hy14 => (intro w' hSw; (try dsimp only at hSw); go_simp; (try with_reducible rfl))
      try simp only [Act.put, puts]
      refine tkT 1 ?v15 ?hy15 hHeld ?rest15
      case hy15 => (intro w' hSw; (try dsimp only at hSw); go_simp; (try with_reducible rfl))
      try simp only [Act.put, puts]
      refine tkT 2 ?v16 ?hy16 hHeld ?rest16
      case hy16 => (intro w' hSw; (try dsimp only at hSw); go_simp; (try with_reducible rfl))
      try simp only [Act.put, puts]
      refine tkT 3 ?v17 ?hy17 hHeld ?rest17
      case hy17 => (intro w' hSw; (try dsimp only at hSw); go_simp; (try with_reducible rfl))
      try simp only [Act.put, puts]
      refine tkT 4 ?v18 ?hy18 hHeld ?rest18
      case hy18 => (intro w' hSw; (try dsimp only at hSw); go_simp; (try with_reducible rfl))
      try simp only [Act.put, puts]
      refine tkT 5 ?v19 ?hy19 hHeld ?rest19
      case hy19 => (intro w' hSw; (try dsimp only at hSw); go_simp; (try with_reducible rfl))
      try simp only [Act.put, puts]
      refine tkT 6 ?v20 ?hy20 hHeld ?rest20
      case hy20 => (intro w' hSw; (try dsimp only at hSw); go_simp; (try with_reducible rfl))
      try simp only [Act.put, puts]
      refine tkT 7 ?v21 ?hy21 hHeld ?rest21
      case hy21 => (intro w' hSw; (try dsimp only at hSw); go_simp; (try with_reducible rfl))
      try simp only [Act.put, puts]
      refine wpAnyH_ready (rs := [8]) (by kernel_rfl) (by simp) ?_
      refine AllReadyH.cons rfl (fun K hK => ?_) AllReadyH.nil
      go_simp
      refine (CQ2.out _).mono ?_
      rintro e w8 ⟨v8, rfl, hv8, hA⟩
      have M8 := M0.drew.call hA
      obtain ⟨a8, n8, c8, rfl, -, hd8⟩ := hv8.form
      have HD8 := Lib.hid hd8
      have HDU := Lib.hid (D16.below (w := wr.drew) HD.out hA)
      have HO8 := Lib.hid (OwnU.below (w := wr.drew) HO.out hA)
      have cu8 := (hA.cell (p := ⟨b, o + i, none⟩) hbl).trans cu
      have hb8 : b < w8.heap.size := Nat.lt_of_lt_of_le hbl hA.size
      clear hv8 hd8 hA
      try go_wp2_with fail
      refine hK.out _ _ (⟨M8.cell (.tail _ _ _ _ _ (.tail _ _ _ _ _ (Has.head _ _ _ _))) (i := 2) rfl, cu8⟩) (fun hHeld => ?_)
      clear hK K
      try simp only [Act.put, puts]
      refine wpAnyH_ready (rs := [9]) (by kernel_rfl) (by simp) ?_
      refine AllReadyH.cons rfl (fun K hK => ?_) AllReadyH.nil
      go_simp
      refine (mul_u _ _ u2 Q2 _ HDU.out HD8.out (HLE.out _ HLT.out.2.1) (Nat.le_trans (d16 (m := 2) HQ2.out (by omega)) (by omega))).mono ?_
      rw [HPP.out.1]
      rintro e w9 ⟨v9, rfl, hv9, hA⟩
      have M9 := M8.call hA
      obtain ⟨a9, n9, c9, rfl, -, hd9⟩ := hv9.form
      have HD9 := Lib.hid hd9
      have HO9 := Lib.hid (HO8.out.below hA)
      have cu9 := (hA.cell (p := ⟨b, o + i, none⟩) hb8).trans cu8
      clear hv9 hd9 hA HDU HD8 HO8
      try go_wp2_with fail
      refine hK.out _ _ (⟨M9.cell (.tail _ _ _ _ _ (.tail _ _ _ _ _ (Has.head _ _ _ _))) (i := 2) rfl, cu9⟩) (fun hHeld => ?_)
      clear hK K
      try simp only [Act.put, puts]
      refine tkT 10 ?v24 ?hy24 hHeld ?rest24
      case hy24 => (intro w' hSw; (try dsimp only at hSw); go_simp; (try with_reducible rfl))
      try simp only [Act.put, puts]
      refine wpAnyH_done (by kernel_rfl) ?_ _
      clear wq2 eQ2 wQ2 c1 c12 cu cu8 cu9 M8 M0 HO HD HU2 hb8
      obtain ⟨eA1, eB1, eA2, eB2, wA1, wB1, wA2, wB2⟩ := HAB.out
      go_wp2_with ((with_reducible refine (?_ : Go.wpList _ _ _ (_ :: _) _ _)); (first | go_skip | (refine wpL_ldc M9 rfl rfl rfl ?_) | (refine wpL_lgc M9 rfl rfl rfl ?_) | (refine wpL_stc M9 rfl rfl rfl rfl ?_; clear M9; intro w' M9) | (refine wpL_sti M9 rfl rfl rfl rfl ?_; clear M9; intro w' M9) | (refine wpL_sth M9 rfl rfl rfl rfl (wr_minus _ _ _) ?_; clear M9; intro w' M9)))
      refine (C1.out _ (HU.out.below M9.below)).mono ?_
      rintro e w10 ⟨vw10, rfl, hvw10, hA⟩
      have M10 := M9.call hA
      obtain ⟨aw10, nw10, cw10, rfl, -, hdw10⟩ := hvw10.form
      have HV1 := Lib.hid hdw10
      have HO10 := Lib.hid (HO9.out.below hA)
      have HS10 := Lib.hid (HD9.out.below hA)
      clear hvw10 hdw10 hA M9 HO9 HD9
      go_wp2_with ((with_reducible refine (?_ : Go.wpList _ _ _ (_ :: _) _ _)); (first | go_skip | (refine wpL_ldc M10 rfl rfl rfl ?_) | (refine wpL_lgc M10 rfl rfl rfl ?_) | (refine wpL_stc M10 rfl rfl rfl rfl ?_; clear M10; intro w' M10) | (refine wpL_sti M10 rfl rfl rfl rfl ?_; clear M10; intro w' M10) | (refine wpL_sth M10 rfl rfl rfl rfl (wr_minus _ _ _) ?_; clear M10; intro w' M10)))
      refine (CQ.out _).mono ?_
      rintro e w11 ⟨vw11, rfl, hvw11, hA⟩
      have M11 := M10.call hA
      obtain ⟨aw11, nw11, cw11, rfl, -, hdw11⟩ := hvw11.form
      have HQ1 := Lib.hid hdw11
      have HO11 := Lib.hid (HO10.out.below hA)
      have HS11 := Lib.hid (HS10.out.below hA)
      have HV11 := Lib.hid (HV1.out.below hA)
      clear hvw11 hdw11 hA M10 HO10 HS10 HV1
      go_wp2_with ((with_reducible refine (?_ : Go.wpList _ _ _ (_ :: _) _ _)); (first | go_skip | (refine wpL_ldc M11 rfl rfl rfl ?_) | (refine wpL_lgc M11 rfl rfl rfl ?_) | (refine wpL_stc M11 rfl rfl rfl rfl ?_; clear M11; intro w' M11) | (refine wpL_sti M11 rfl rfl rfl rfl ?_; clear M11; intro w' M11) | (refine wpL_sth M11 rfl rfl rfl rfl (wr_minus _ _ _) ?_; clear M11; intro w' M11)))
      refine (mul_u _ _ u1 q _ HV11.out HQ1.out (HLE.out _ HLT.out.1) (Nat.le_trans (d16 (m := 2) HQ.out (by omega)) (by omega))).mono ?_
      rw [HPP.out.2.1]
      rintro e w12 ⟨vw12, rfl, hvw12, hA⟩
      have M12 := M11.call hA
      obtain ⟨aw12, nw12, cw12, rfl, -, hdw12⟩ := hvw12.form
      have HM1 := Lib.hid hdw12
      have HO12 := Lib.hid (HO11.out.below hA)
      have HS12 := Lib.hid (HS11.out.below hA)
      clear hvw12 hdw12 hA M11 HO11 HS11
      go_wp2_with ((with_reducible refine (?_ : Go.wpList _ _ _ (_ :: _) _ _)); (first | go_skip | (refine wpL_ldc M12 rfl rfl rfl ?_) | (refine wpL_lgc M12 rfl rfl rfl ?_) | (refine wpL_stc M12 rfl rfl rfl rfl ?_; clear M12; intro w' M12) | (refine wpL_sti M12 rfl rfl rfl rfl ?_; clear M12; intro w' M12) | (refine wpL_sth M12 rfl rfl rfl rfl (wr_minus _ _ _) ?_; clear M12; intro w' M12)))
      refine (add_u _ _ P2 P1 _ HS12.out HM1.out HB.out.1 HB.out.2.1).mono ?_
      rintro e w13 ⟨vw13, rfl, hvw13, hA⟩
      have M13 := M12.call hA
      obtain ⟨aw13, nw13, cw13, rfl, -, hdw13⟩ := hvw13.form
      have HS13 := Lib.hid hdw13
      have HO13 := Lib.hid (HO12.out.below hA)
      clear hvw13 hdw13 hA M12 HO12
      clear HM1 HS12 HV11 HQ1
      go_wp2_with ((with_reducible refine (?_ : Go.wpList _ _ _ (_ :: _) _ _)); (first | go_skip | (refine wpL_ldc M13 rfl rfl rfl ?_) | (refine wpL_lgc M13 rfl rfl rfl ?_) | (refine wpL_stc M13 rfl rfl rfl rfl ?_; clear M13; intro w' M13) | (refine wpL_sti M13 rfl rfl rfl rfl ?_; clear M13; intro w' M13) | (refine wpL_sth M13 rfl rfl rfl rfl (wr_minus _ _ _) ?_; clear M13; intro w' M13)))
      refine (C3.out _ (HU.out.below M13.below)).mono ?_
      rintro e w14 ⟨vw14, rfl, hvw14, hA⟩
      have M14 := M13.call hA
      obtain ⟨aw14, nw14, cw14, rfl, -, hdw14⟩ := hvw14.form
      have HV3 := Lib.hid hdw14
      have HO14 := Lib.hid (HO13.out.below hA)
      have HS14 := Lib.hid (HS13.out.below hA)
      clear hvw14 hdw14 hA M13 HO13 HS13
      go_wp2_with ((with_reducible refine (?_ : Go.wpList _ _ _ (_ :: _) _ _)); (first | go_skip | (refine wpL_ldc M14 rfl rfl rfl ?_) | (refine wpL_lgc M14 rfl rfl rfl ?_) | (refine wpL_stc M14 rfl rfl rfl rfl ?_; clear M14; intro w' M14) | (refine wpL_sti M14 rfl rfl rfl rfl ?_; clear M14; intro w' M14) | (refine wpL_sth M14 rfl rfl rfl rfl (wr_minus _ _ _) ?_; clear M14; intro w' M14)))
      refine (CQ.out _).mono ?_
      rintro e w15 ⟨vw15, rfl, hvw15, hA⟩
      have M15 := M14.call hA
      obtain ⟨aw15, nw15, cw15, rfl, -, hdw15⟩ := hvw15.form
      have HQ3 := Lib.hid hdw15
      have HO15 := Lib.hid (HO14.out.below hA)
      have HS15 := Lib.hid (HS14.out.below hA)
      have HV15 := Lib.hid (HV3.out.below hA)
      clear hvw15 hdw15 hA M14 HO14 HS14 HV3
      go_wp2_with ((with_reducible refine (?_ : Go.wpList _ _ _ (_ :: _) _ _)); (first | go_skip | (refine wpL_ldc M15 rfl rfl rfl ?_) | (refine wpL_lgc M15 rfl rfl rfl ?_) | (refine wpL_stc M15 rfl rfl rfl rfl ?_; clear M15; intro w' M15) | (refine wpL_sti M15 rfl rfl rfl rfl ?_; clear M15; intro w' M15) | (refine wpL_sth M15 rfl rfl rfl rfl (wr_minus _ _ _) ?_; clear M15; intro w' M15)))
      refine (mul_u _ _ u3 q _ HV15.out HQ3.out (HLE.out _ HLT.out.2.2) (Nat.le_trans (d16 (m := 2) HQ.out (by omega)) (by omega))).mono ?_
      rw [HPP.out.2.2]
      rintro e w16 ⟨vw16, rfl, hvw16, hA⟩
      have M16 := M15.call hA
      obtain ⟨aw16, nw16, cw16, rfl, -, hdw16⟩ := hvw16.form
      have HM3 := Lib.hid hdw16
      have HO16 := Lib.hid (HO15.out.below hA)
      have HS16 := Lib.hid (HS15.out.below hA)
      clear hvw16 hdw16 hA M15 HO15 HS15
      go_wp2_with ((with_reducible refine (?_ : Go.wpList _ _ _ (_ :: _) _ _)); (first | go_skip | (refine wpL_ldc M16 rfl rfl rfl ?_) | (refine wpL_lgc M16 rfl rfl rfl ?_) | (refine wpL_stc M16 rfl rfl rfl rfl ?_; clear M16; intro w' M16) | (refine wpL_sti M16 rfl rfl rfl rfl ?_; clear M16; intro w' M16) | (refine wpL_sth M16 rfl rfl rfl rfl (wr_minus _ _ _) ?_; clear M16; intro w' M16)))
      refine (add_u _ _ (P2 + P1) P3 _ HS16.out HM3.out HB.out.2.2.1 HB.out.2.2.2).mono ?_
      rw [HFI.out]
      rintro e w17 ⟨vw17, rfl, hvw17, hA⟩
      have M17 := M16.call hA
      obtain ⟨aw17, nw17, cw17, rfl, -, hdw17⟩ := hvw17.form
      have HS17 := Lib.hid hdw17
      have HO17 := Lib.hid (HO16.out.below hA)
      clear hvw17 hdw17 hA M16 HO16
      clear HM3 HS16 HV15 HQ3 eA1 eB1 eA2 eB2 wA1 wB1 wA2 wB2
      obtain ⟨h08, cs8, ho8, hD8⟩ := HO17.out
      have hA9 := (Below.refl w17.heap.size w17).alloc (Nat.le_refl _) (.cells #[.slice aw17 nw17 cw17] 51)
      have M18 := M17.call hA9
      have hd9 := HS17.out.below hA9
      have ho9 := ownsRow_below ho8 hA9
      have hD9 : ∀ j, j < i → ∃ d, cs8[j]? = some d ∧ D16 _ d ((tabN f i).getD j 0) := fun j hj => let ⟨d, e1, e2⟩ := hD8 j hj; ⟨d, e1, e2.below hA9⟩
      have HD9' := Lib.hid hD9
      have HD10 := Lib.hid hd9
      have HH := Lib.hid h08
      clear hD8 hD9 hd9 ho8 HO17 HS17 hA9 h08
      have c32 := M17.cell (Has.head _ _ _ _) (i := 2) rfl
      clear M17
      go_wp2_with (at_builtin; refine wpList_app Edd rfl (.tmp 71) (.tmp 73) rfl w.heap.size rfl ho9 rfl (Sl.one _ _ _) (by intro u hu; simp at hu; subst hu; rfl) hb63 hb24 M18.below.size ?_)
      intro v10 w10 ho10 hg10 _
      have hO10 := own_snoc HH.out ho9 HD9'.out HD10.out ho10 hg10
      rw [HT.out i] at hO10
      have M19 := M18.app ho9 hg10 (Nat.le_refl _) (by simp)
      obtain ⟨a10, c10, rfl⟩ := hO10.form
      have HO10 := Lib.hid hO10
      clear hO10 ho10 hg10 ho9 HD9' HD10 HH M18 c32
      have r1 := M19.cell (Has.head _ _ _ _) (i := 2) rfl
      have f1 := M19.free (Has.head _ _ _ _) 2
      have M20 := M19.set 2 (.slice a10 (i + 1) c10) (Upd.head _ _ _ _ _) (by simp)
      have HO20 := Lib.hid (HO10.out.turnedB (M19.has (Has.head _ _ _ _)) (by decide) (by decide) ((Turned.refl (fun k => k = g3) w10).setCell (a := ⟨g3, 2, none⟩) (.inl rfl) (.slice a10 (i + 1) c10)))
      have HM20 := Lib.hid M20
      clear M20 M19 HO10
      go_wp2_with fail
      go_roundw
      case rel => exact ⟨i + 1, _, by omega, by go_num, HO20.out |> Lib.hid, HM20.out⟩
      case measure => simp [intOf]; omega
    · obtain rfl : i = n := by omega
      have HO2 := HO
      clear HO
      go_wp2_with ((with_reducible refine (?_ : Go.wpList _ _ _ (_ :: _) _ _)); (first | go_skip | (refine wpL_ldc M0 rfl rfl rfl ?_) | (refine wpL_stM (v := fv x y (.slice a5 i c5)) M0 rfl rfl rfl rfl (wr_f _ _ _ _ _ _ _ _) (.tail _ _ _ _ _ _ _ (Upd.head _ _ _ _ _)) ?_; intro w4 M4 hT4)))
      have hO4 := HO2.out.turnedB (M0.has (.tail _ _ _ _ _ (Has.head _ _ _ _))) (by decide) (by decide) hT4
      refine bodyPost_ret (res_cell rfl M4 rfl (.tail _ _ _ _ _ (Has.head _ _ _ _)) (rd_f _ _ _)) rfl ?_
      exact ⟨a5, c5, by rw [HTL.out], by rw [HTL.out]; exact hO4.isU, M4.below⟩
end Go.Proofs.YtanblpfpkohghaaDoor

/-
  A filter that is spread, weighed: the reference's.
-/
namespace Go.Proofs.YtanblpfpkohghaaDoor
open Go Go.RowKit Go.Th Go.Th.Dig Go.Th.Ex Go.Th.Grid

def spreadU (us : List Nat) (x y q : Nat) : List Nat := passU (passU us x y q 1 0) x y q 0 1
theorem spreadU_length (us : List Nat) (x y q : Nat) : (spreadU us x y q).length = us.length := by unfold spreadU; rw [passU_length, passU_length]
theorem Lt.spread {k : Nat} {us : List Nat} (h : Lt k us) {q : Nat} (hq : q ≤ 85) (x y : Nat) : Lt (k + 16) (spreadU us x y q) := Lt.pass (Lt.pass h hq x y 1 0) hq x y 0 1

set_option maxRecDepth 20000 in
set_option maxHeartbeats 1600000 in
theorem rspread17_any (x y q : Nat) (a : Option Addr) (n cap k : Nat) (us : List Nat) (hl : Lt k us) (hk : k ≤ 7000) (hxy : n = x * y) (hx1 : 1 ≤ x) (hy1 : 1 ≤ y) (hx : x ≤ 64) (hy : y ≤ 64) (hq : q ≤ 85) (w : World) (hU : IsU w a n cap us) :
    Calls Tryd.prog 32 #[fv x y (.slice a n cap), .int .u64 q] w (ResF x y (spreadU us x y q) w) := by
  have C1 := Lib.hid (fun wx hs => rpass_any x y q 1 0 a n cap k us hl (by omega) hxy hx1 hy1 hx hy hq (by omega) (by omega) wx hs)
  have hlen := hU.len
  have C2 := Lib.hid (fun a' cap' wx hs => rpass_any x y q 0 1 a' n cap' (k + 8) (passU us x y q 1 0) (Lt.pass hl hq x y 1 0) (by omega) hxy hx1 hy1 hx hy hq (by omega) (by omega) wx hs)
  have HL1 := Lib.hid (show (passU us x y q 1 0).length = n by rw [passU_length]; exact hlen)
  have HL2 := Lib.hid (show (spreadU us x y q).length = n by rw [spreadU_length]; exact hlen)
  have HU := Lib.hid hU
  have M0 := Mem.start w
  unfold spreadU at HL2 ⊢
  clear hl hk hxy hx1 hy1 hx hy hq hU hlen
  go_enter Tryd.func32, Tryd.ntmps32
  go_upto_region 1 with (((with_reducible refine (?_ : Go.wpList _ _ _ (_ :: _) _ _)); (first | go_skip | (refine wpL_bx M0 rfl rfl rfl rfl ?_; clear M0; intro g1 w1 M1) | (refine wpL_alc M0 rfl rfl ?_; clear M0; intro g1 w1 M1) | (refine wpL_ldc M0 rfl rfl rfl ?_) | (refine wpL_lgc M0 rfl rfl rfl ?_) | (refine wpL_stc M0 rfl rfl rfl rfl ?_; clear M0; intro w' M0) | (refine wpL_sti M0 rfl rfl rfl rfl ?_; clear M0; intro w' M0) | (refine wpL_sth M0 rfl rfl rfl rfl (wr_minus _ _ _) ?_; clear M0; intro w' M0) | (refine wpL_bx M1 rfl rfl rfl rfl ?_; clear M1; intro g2 w2 M2) | (refine wpL_alc M1 rfl rfl ?_; clear M1; intro g2 w2 M2) | (refine wpL_ldc M1 rfl rfl rfl ?_) | (refine wpL_lgc M1 rfl rfl rfl ?_) | (refine wpL_stc M1 rfl rfl rfl rfl ?_; clear M1; intro w' M1) | (refine wpL_sti M1 rfl rfl rfl rfl ?_; clear M1; intro w' M1) | (refine wpL_sth M1 rfl rfl rfl rfl (wr_minus _ _ _) ?_; clear M1; intro w' M1) | (refine wpL_ldc M2 rfl rfl rfl ?_) | (refine wpL_lgc M2 rfl rfl rfl ?_) | (refine wpL_stc M2 rfl rfl rfl rfl ?_; clear M2; intro w' M2) | (refine wpL_sti M2 rfl rfl rfl rfl ?_; clear M2; intro w' M2) | (refine wpL_sth M2 rfl rfl rfl rfl (wr_minus _ _ _) ?_; clear M2; intro w' M2))))
  go_wp2_with ((with_reducible refine (?_ : Go.wpList _ _ _ (_ :: _) _ _)); (first | go_skip | (refine wpL_ldc M2 rfl rfl rfl ?_) | (refine wpL_lgc M2 rfl rfl rfl ?_) | (refine wpL_stc M2 rfl rfl rfl rfl ?_; clear M2; intro w' M2) | (refine wpL_sti M2 rfl rfl rfl rfl ?_; clear M2; intro w' M2) | (refine wpL_sth M2 rfl rfl rfl rfl (wr_minus _ _ _) ?_; clear M2; intro w' M2)))
  refine (C1.out _ (HU.out.below M2.below)).mono ?_
  rintro e w3 ⟨a3, c3, rfl, hU3, hA⟩
  rw [HL1.out] at hU3 ⊢
  have M3 := M2.call hA
  have HU3 := Lib.hid hU3
  clear hU3 hA M2
  go_wp2_with ((with_reducible refine (?_ : Go.wpList _ _ _ (_ :: _) _ _)); (first | go_skip | (refine wpL_ldc M3 rfl rfl rfl ?_) | (refine wpL_lgc M3 rfl rfl rfl ?_) | (refine wpL_stc M3 rfl rfl rfl rfl ?_; clear M3; intro w' M3) | (refine wpL_sti M3 rfl rfl rfl rfl ?_; clear M3; intro w' M3) | (refine wpL_sth M3 rfl rfl rfl rfl (wr_minus _ _ _) ?_; clear M3; intro w' M3)))
  refine (C2.out a3 c3 _ HU3.out).mono ?_
  rintro e w4 ⟨a4, c4, rfl, hU4, hA⟩
  rw [HL2.out] at hU4 ⊢
  have M4 := M3.call hA
  have HU4 := Lib.hid hU4
  clear hU4 hA M3 HU3
  go_wp2_with ((with_reducible refine (?_ : Go.wpList _ _ _ (_ :: _) _ _)); (first | go_skip | (refine wpL_ldc M4 rfl rfl rfl ?_) | (refine wpL_stM (v := fv x y (.slice a4 n c4)) M4 rfl rfl rfl rfl (wr_f _ _ _ _ _ _ _ _) (Upd.head _ _ _ _ _) ?_; intro w5 M5 hT5)))
  have hU5 := HU4.out.turnedB (M4.has (Has.head _ _ _ _)) (by decide) (by decide) hT5
  refine bodyPost_ret (res_cell rfl M5 rfl (Has.head _ _ _ _) (rd_f _ _ _)) rfl ?_
  exact ⟨a4, c4, by rw [HL2.out], by rw [HL2.out]; exact hU5, M5.below⟩
end Go.Proofs.YtanblpfpkohghaaDoor

/-
  A filter that is weighed: the reference's.
-/
namespace Go.Proofs.YtanblpfpkohghaaDoor
open Go Go.RowKit Go.Th Go.Th.Dig Go.Th.Ex Go.Th.Grid

def weighU (us ls : List Nat) : List Nat := tabN (fun i => us.getD i 0 * ls.getD i 0) us.length
theorem weighU_length (us ls : List Nat) : (weighU us ls).length = us.length := tabN_length _ _
theorem lt_weigh {k m : Nat} {us ls : List Nat} (h : Lt k us) (hl : Lt m ls) : Lt (k + m) (weighU us ls) := Lt.tab fun i _ => mul_pow2 (h i) (hl i)

set_option maxRecDepth 20000 in
set_option maxHeartbeats 6400000 in
theorem rweigh17_any (x y : Nat) (a al : Option Addr) (n cap cl k : Nat) (us ls : List Nat) (hl : Lt k us) (hk : k ≤ 7000) (hm : Lt 63 ls) (hls : ls.length = n) (hn : n ≤ 4096) (w : World) (hU : IsU w a n cap us) (hS : Sl w 1 (.slice al n cl) n (i64s (ls.map Int.ofNat))) :
    Calls Tryd.prog 34 #[fv x y (.slice a n cap), .slice al n cl] w (ResF x y (weighU us ls) w) := by
  have hlen := hU.len
  obtain ⟨f, hf⟩ : ∃ f : Nat → Nat, f = fun i => us.getD i 0 * ls.getD i 0 := ⟨_, rfl⟩
  have hpu : weighU us ls = tabN f n := by rw [hf, ← hlen]; rfl
  rw [hpu]
  have HLB := Lib.hid (fun i => Nat.le_trans (d16 (m := 1000) (hl i) (by omega)) (show 1000 ≤ 10000 by omega))
  have HLL := Lib.hid (fun i => Nat.le_trans (d16 (m := 1000) (hm i) (by omega)) (show 1000 ≤ 10000 by omega))
  have HF := Lib.hid (fun i => (show us.getD i 0 * ls.getD i 0 = f i by rw [hf]))
  have HM := Lib.hid (fun i => hm i)
  have HT := Lib.hid (fun i => tabN_next f i)
  have HTL := Lib.hid (tabN_length f n)
  have HP := Lib.hid (show (ls.map Int.ofNat).length = n by rw [List.length_map]; exact hls)
  have HG := Lib.hid (fun i (h : i < n) => (show (ls.map Int.ofNat).getD i 0 = ((ls.getD i 0 : Nat) : Int) by
    have h2 : i < ls.length := by omega
    simp [List.getD_eq_getElem?_getD, h2]))
  have HU := Lib.hid hU
  have HS := Lib.hid hS
  have hmx := hU.max
  have hmx2 := hS.max
  have M0 := Mem.start w
  clear hl hk hm hls hlen hpu hf hU hS
  go_enter Tryd.func34, Tryd.ntmps34
  go_upto_region 2 with (((with_reducible refine (?_ : Go.wpList _ _ _ (_ :: _) _ _)); (first | go_skip | (refine wpL_bx M0 rfl rfl rfl rfl ?_; clear M0; intro g1 w1 M1) | (refine wpL_alc M0 rfl rfl ?_; clear M0; intro g1 w1 M1) | (refine wpL_ldc M0 rfl rfl rfl ?_) | (refine wpL_lgc M0 rfl rfl rfl ?_) | (refine wpL_stc M0 rfl rfl rfl rfl ?_; clear M0; intro w' M0) | (refine wpL_sti M0 rfl rfl rfl rfl ?_; clear M0; intro w' M0) | (refine wpL_sth M0 rfl rfl rfl rfl (wr_minus _ _ _) ?_; clear M0; intro w' M0) | (refine wpL_bx M1 rfl rfl rfl rfl ?_; clear M1; intro g2 w2 M2) | (refine wpL_alc M1 rfl rfl ?_; clear M1; intro g2 w2 M2) | (refine wpL_ldc M1 rfl rfl rfl ?_) | (refine wpL_lgc M1 rfl rfl rfl ?_) | (refine wpL_stc M1 rfl rfl rfl rfl ?_; clear M1; intro w' M1) | (refine wpL_sti M1 rfl rfl rfl rfl ?_; clear M1; intro w' M1) | (refine wpL_sth M1 rfl rfl rfl rfl (wr_minus _ _ _) ?_; clear M1; intro w' M1) | (refine wpL_bx M2 rfl rfl rfl rfl ?_; clear M2; intro g3 w3 M3) | (refine wpL_alc M2 rfl rfl ?_; clear M2; intro g3 w3 M3) | (refine wpL_ldc M2 rfl rfl rfl ?_) | (refine wpL_lgc M2 rfl rfl rfl ?_) | (refine wpL_stc M2 rfl rfl rfl rfl ?_; clear M2; intro w' M2) | (refine wpL_sti M2 rfl rfl rfl rfl ?_; clear M2; intro w' M2) | (refine wpL_sth M2 rfl rfl rfl rfl (wr_minus _ _ _) ?_; clear M2; intro w' M2) | (refine wpL_ldc M3 rfl rfl rfl ?_) | (refine wpL_lgc M3 rfl rfl rfl ?_) | (refine wpL_stc M3 rfl rfl rfl rfl ?_; clear M3; intro w' M3) | (refine wpL_sti M3 rfl rfl rfl rfl ?_; clear M3; intro w' M3) | (refine wpL_sth M3 rfl rfl rfl rfl (wr_minus _ _ _) ?_; clear M3; intro w' M3))))
  have hO : OwnU w' w.heap.size (.slice none 0 0) 0 (tabN f 0) := OwnU.nil _ _
  go_wp2_with fail
  go_loopw [6] (fun c wr => ∃ (i : Nat) (va : Value), i ≤ n ∧ c = .int .i64 i ∧ Hid (OwnU wr w.heap.size va i (tabN f i)) ∧ Mem w wr [(g3, 36, fc x y va), (g2, 36, fc 0 0 (.slice none 0 0)), (g1, 36, fc x y (.slice a n cap))]) (fun c _ => n - (intOf c).toNat)
  case atStart => exact ⟨0, _, Nat.zero_le _, rfl, Lib.hid hO, M3⟩
  case round =>
    clear M3 hO
    obtain ⟨i, va, hi, rfl, HO, M0⟩ := hrel
    obtain ⟨a5, c5, rfl⟩ := HO.out.form
    have c1 := M0.cell (.tail _ _ _ _ _ (.tail _ _ _ _ _ (Has.head _ _ _ _))) (i := 2) rfl
    have c3 := M0.cell (Has.head _ _ _ _) (i := 2) rfl
    by_cases hlt : i < n
    · obtain ⟨b, o, d, e, f0, rfl, hbl, cu, hd⟩ := (HU.out.below M0.below).cell hlt
      obtain ⟨b2, o2, rfl, hb2, cl2⟩ := cell64 (HS.out.below M0.below) i (by rw [HP.out]; exact hlt)
      rw [HG.out i hlt] at cl2
      have h1 := HLB.out i
      have h2 := HLL.out i
      have h3 := HF.out i
      have h4 := HM.out i
      obtain ⟨u, hu⟩ : ∃ u, u = us.getD i 0 := ⟨_, rfl⟩
      obtain ⟨v, hv⟩ : ∃ v, v = ls.getD i 0 := ⟨_, rfl⟩
      rw [← hu] at hd h1 h3
      rw [← hv] at cl2 h2 h3 h4
      have H1 := Lib.hid h1
      have H2 := Lib.hid h2
      have H3 := Lib.hid h3
      have HD := Lib.hid hd
      have C := Lib.hid (small_any v (by omega))
      have hw : IntKind.u64.wrap (v : Int) = (v : Int) := IntWalk.u64_in _ ⟨by omega, by omega⟩
      have hi0 : (i : Int) < n := by omega
      have hb63 : i + 1 ≤ maxLen := by unfold maxLen; omega
      have hb24 : (i + 1) * 24 ≤ 140737488355328 := by omega
      clear hu hv hd h1 h2 h3 h4
      go_wp2_with fail
      refine wp_region_N_drew (S := (fun w' : World => w'.cell? ⟨g3, 2, none⟩ = some (.slice a5 i c5) ∧ w'.cell? ⟨g1, 2, none⟩ = some (.slice (some ⟨b, o, none⟩) n cap) ∧ w'.cell? ⟨b, o + i, none⟩ = some (.slice d e f0) ∧ w'.cell? ⟨b2, o2 + i, none⟩ = some (.int .i64 (v : Int)))) 17 (by kernel_rfl) ?_
      have hHeld : (fun w' : World => w'.cell? ⟨g3, 2, none⟩ = some (.slice a5 i c5) ∧ w'.cell? ⟨g1, 2, none⟩ = some (.slice (some ⟨b, o, none⟩) n cap) ∧ w'.cell? ⟨b, o + i, none⟩ = some (.slice d e f0) ∧ w'.cell? ⟨b2, o2 + i, none⟩ = some (.int .i64 (v : Int))) wr.drew := ⟨c3, c1, cu, cl2⟩
      refine wpAnyN_takeY (i := 0) (v := ?v25) rfl (by kernel_rfl) (by kernel_rfl) (by kernel_rfl) (fun _ _ _ h => h) rfl (Or.inl ⟨by rfl, ?hy25⟩) (fun _ => hHeld) ?rest25
      case hy25 => (intro w' _; go_simp; (try with_reducible rfl))
      try simp only [Act.put, puts]
      refine wpAnyN_takeY (i := 2) (v := ?v26) rfl (by kernel_rfl) (by kernel_rfl) (by kernel_rfl) (fun _ _ _ h => h) rfl (Or.inl ⟨by rfl, ?hy26⟩) (fun _ => hHeld) ?rest26
      case hy26 => (intro w' _; go_simp; (try with_reducible rfl))
      try simp only [Act.put, puts]
      refine wpAnyN_takeY (i := 4) (v := ?v27) rfl (by kernel_rfl) (by kernel_rfl) (by kernel_rfl) (fun _ _ _ h => h) rfl (Or.inl ⟨by rfl, ?hy27⟩) (fun _ => hHeld) ?rest27
      case hy27 => (intro w' _; go_simp; (try with_reducible rfl))
      try simp only [Act.put, puts]
      refine wpAnyN_take (i := 1) (v := ?v28) rfl (by kernel_rfl) (by kernel_rfl) (by kernel_rfl) (fun _ _ _ h => h) rfl (by kernel_rfl) (by kernel_rfl) (Or.inl ⟨by rfl, ?hy28⟩) hHeld ?rest28
      case hy28 => (intro w' hSw; (try dsimp only at hSw); go_simp; (try with_reducible rfl))
      try simp only [Act.put, puts]
      refine wpAnyN_take (i := 3) (v := ?v29) rfl (by kernel_rfl) (by kernel_rfl) (by kernel_rfl) (fun _ _ _ h => h) rfl (by kernel_rfl) (by kernel_rfl) (Or.inl ⟨by rfl, ?hy29⟩) hHeld ?rest29
      case hy29 => (intro w' hSw; (try dsimp only at hSw); go_simp; (try with_reducible rfl))
      try simp only [Act.put, puts]
      refine wpAnyN_takeY (i := 5) (v := ?v30) rfl (by kernel_rfl) (by kernel_rfl) (by kernel_rfl) (fun _ _ _ h => h) rfl (Or.inl ⟨by rfl, ?hy30⟩) (fun _ => hHeld) ?rest30
      case hy30 => (intro w' _; go_simp; (try with_reducible rfl))
      try simp only [Act.put, puts]
      refine wpAnyN_take (i := 6) (v := ?v31) rfl (by kernel_rfl) (by kernel_rfl) (by kernel_rfl) (fun _ _ _ h => h) rfl (by kernel_rfl) (by kernel_rfl) (Or.inl ⟨by rfl, ?hy31⟩) hHeld ?rest31
      case hy31 => (intro w' hSw; (try dsimp only at hSw); go_simp; (try with_reducible rfl))
      try simp only [Act.put, puts]
      refine wpAnyN_takeY (i := 7) (v := ?v32) rfl (by kernel_rfl) (by kernel_rfl) (by kernel_rfl) (fun _ _ _ h => h) rfl (Or.inl ⟨by rfl, ?hy32⟩) (fun _ => hHeld) ?rest32
      case hy32 => (intro w' _; go_simp; (try with_reducible rfl))
      try simp only [Act.put, puts]
      refine wpAnyN_takeY (i := 8) (v := ?v33) rfl (by kernel_rfl) (by kernel_rfl) (by kernel_rfl) (fun _ _ _ h => h) rfl (Or.inl ⟨by rfl, ?hy33⟩) (fun _ => hHeld) ?rest33
      case hy33 => (intro w' _; go_simp; (try with_reducible rfl))
      try simp only [Act.put, puts]
      refine wpAnyN_takeY (i := 9) (v := ?v34) rfl (by kernel_rfl) (by kernel_rfl) (by kernel_rfl) (fun _ _ _ h => h) rfl (Or.inl ⟨by rfl, ?hy34⟩) (fun _ => hHeld) ?rest34
      case hy34 => (intro w' _; go_simp; (try with_reducible rfl))
      try simp only [Act.put, puts]
      refine wpAnyN_take (i := 10) (v := ?v35) rfl (by kernel_rfl) (by kernel_rfl) (by kernel_rfl) (fun _ _ _ h => h) rfl (by kernel_rfl) (by kernel_rfl) (Or.inl ⟨by rfl, ?hy35⟩) hHeld ?rest35
      case hy35 => (intro w' hSw; (try dsimp only at hSw); go_simp; (try with_reducible rfl))
      try simp only [Act.put, puts]
      refine wpAnyN_takeY (i := 11) (v := ?v36) rfl (by kernel_rfl) (by kernel_rfl) (by kernel_rfl) (fun _ _ _ h => h) rfl (Or.inl ⟨by rfl, ?hy36⟩) (fun _ => hHeld) ?rest36
      case hy36 => (intro w' _; go_simp; (try with_reducible rfl))
      try simp only [Act.put, puts]
      refine wpAnyN_ready (rs := [12]) (by kernel_rfl) (by simp) ?_
      refine AllReadyN.cons rfl (fun K hK => ?_) AllReadyN.nil
      go_simp
      refine (C.out _).mono ?_
      rintro e w8 ⟨v8, rfl, hv8, hA⟩
      have M8 := M0.drew.call hA
      obtain ⟨a8, n8, c8, rfl, -, hd8⟩ := hv8.form
      have HD8 := Lib.hid hd8
      have HDU := Lib.hid (D16.below (w := wr.drew) HD.out hA)
      have HO8 := Lib.hid (OwnU.below (w := wr.drew) HO.out hA)
      have cu8 := (hA.cell (p := ⟨b, o + i, none⟩) hbl).trans cu
      have cl8 := (hA.cell (p := ⟨b2, o2 + i, none⟩) hb2).trans cl2
      have hb8 : b < w8.heap.size := Nat.lt_of_lt_of_le hbl hA.size
      have hbl8 : b2 < w8.heap.size := Nat.lt_of_lt_of_le hb2 hA.size
      clear hv8 hd8 hA
      try go_wp2_with fail
      replace hHeld : (fun w' : World => w'.cell? ⟨g3, 2, none⟩ = some (.slice a5 i c5) ∧ w'.cell? ⟨g1, 2, none⟩ = some (.slice (some ⟨b, o, none⟩) n cap) ∧ w'.cell? ⟨b, o + i, none⟩ = some (.slice d e f0) ∧ w'.cell? ⟨b2, o2 + i, none⟩ = some (.int .i64 (v : Int))) _ := ⟨M8.cell (Has.head _ _ _ _) (i := 2) rfl, M8.cell (.tail _ _ _ _ _ (.tail _ _ _ _ _ (Has.head _ _ _ _))) (i := 2) rfl, cu8, cl8⟩
      refine hK.out _ _ (fun _ => hHeld) ?_
      clear hK K
      try simp only [Act.put, puts]
      refine wpAnyN_ready (rs := [13]) (by kernel_rfl) (by simp) ?_
      refine AllReadyN.cons rfl (fun K hK => ?_) AllReadyN.nil
      go_simp
      refine (mul_u _ _ u v _ HDU.out HD8.out H1.out H2.out).mono ?_
      rw [H3.out]
      rintro e w7 ⟨v7, rfl, hv7, hA⟩
      have M7 := M8.call hA
      obtain ⟨a7, n7, c7, rfl, -, hd7⟩ := hv7.form
      have HD7 := Lib.hid hd7
      have HO7 := Lib.hid (HO8.out.below hA)
      have cu7 := (hA.cell (p := ⟨b, o + i, none⟩) hb8).trans cu8
      have cl7 := (hA.cell (p := ⟨b2, o2 + i, none⟩) hbl8).trans cl8
      have hb7 : b < w7.heap.size := Nat.lt_of_lt_of_le hb8 hA.size
      have hbl7 : b2 < w7.heap.size := Nat.lt_of_lt_of_le hbl8 hA.size
      clear hv7 hd7 hA HDU HD8 HO8
      try go_wp2_with fail
      replace hHeld : (fun w' : World => w'.cell? ⟨g3, 2, none⟩ = some (.slice a5 i c5) ∧ w'.cell? ⟨g1, 2, none⟩ = some (.slice (some ⟨b, o, none⟩) n cap) ∧ w'.cell? ⟨b, o + i, none⟩ = some (.slice d e f0) ∧ w'.cell? ⟨b2, o2 + i, none⟩ = some (.int .i64 (v : Int))) _ := ⟨M7.cell (Has.head _ _ _ _) (i := 2) rfl, M7.cell (.tail _ _ _ _ _ (.tail _ _ _ _ _ (Has.head _ _ _ _))) (i := 2) rfl, cu7, cl7⟩
      refine hK.out _ _ (fun _ => hHeld) ?_
      clear hK K
      try simp only [Act.put, puts]
      refine wpAnyN_ready (rs := [14]) (by kernel_rfl) (by simp) ?_
      refine AllReadyN.cons rfl (fun K hK => ?_) AllReadyN.nil
      go_simp
      obtain ⟨w9, hw9⟩ : ∃ w9, w7.alloc (.cells #[.slice a7 n7 c7] 51) = w9 := ⟨_, rfl⟩
      have hA9 : Below w7.heap.size w7 w9 := by rw [← hw9]; exact (Below.refl _ _).alloc (Nat.le_refl _) _
      have p9 : Sl w9 1 (.slice (some ⟨w7.heap.size, 0, none⟩) 1 1) 1 [.slice a7 n7 c7] := by rw [← hw9]; exact Sl.one w7 _ _
      have M9 := M7.call hA9
      have cu9 := (hA9.cell (p := ⟨b, o + i, none⟩) hb7).trans cu7
      have cl9 := (hA9.cell (p := ⟨b2, o2 + i, none⟩) hbl7).trans cl7
      have hd9 := HD7.out.below hA9
      obtain ⟨h09, cs9, ho9, hD9⟩ := HO7.out.below hA9
      (try simp only [hw9])
      clear hw9
      try go_wp2_with fail
      replace hHeld : (fun w' : World => w'.cell? ⟨g3, 2, none⟩ = some (.slice a5 i c5) ∧ w'.cell? ⟨g1, 2, none⟩ = some (.slice (some ⟨b, o, none⟩) n cap) ∧ w'.cell? ⟨b, o + i, none⟩ = some (.slice d e f0) ∧ w'.cell? ⟨b2, o2 + i, none⟩ = some (.int .i64 (v : Int))) _ := ⟨M9.cell (Has.head _ _ _ _) (i := 2) rfl, M9.cell (.tail _ _ _ _ _ (.tail _ _ _ _ _ (Has.head _ _ _ _))) (i := 2) rfl, cu9, cl9⟩
      refine hK.out _ _ (fun _ => hHeld) ?_
      clear hK K
      try simp only [Act.put, puts]
      refine wpAnyN_ready (rs := [15]) (by kernel_rfl) (by simp) ?_
      refine AllReadyN.cons rfl (fun K hK => ?_) AllReadyN.nil
      rw [if_pos (by rfl)]
      refine wp_app Edd (.tmp 20) (.tmp 33) rfl w.heap.size rfl ho9 rfl p9 (by intro u hu; simp at hu; subst hu; rfl) hb63 hb24 M9.below.size ?_
      intro v10 w10 ho10 hg10 _
      have hO10 := own_snoc h09 ho9 hD9 hd9 ho10 hg10
      rw [HT.out i] at hO10
      have M10 := M9.app ho9 hg10 (Nat.le_refl _) (by simp)
      have hb0 : b < w.heap.size := by
        obtain ⟨_, _, _, _, _, hee, hbb, _⟩ := HU.out.cell hlt
        cases hee; exact hbb
      have cu10 := ((grown_turnedB hg10).cell (p := ⟨b, o + i, none⟩) (Nat.lt_of_lt_of_le hb0 M9.below.size) (fun e => by have := (ho9.lt b e).1; omega)).trans cu9
      obtain ⟨_, _, hee, hbl0, _⟩ := cell64 HS.out i (by rw [HP.out]; exact hlt)
      cases hee
      have cl10 := ((grown_turnedB hg10).cell (p := ⟨b2, o2 + i, none⟩) (Nat.lt_of_lt_of_le hbl0 M9.below.size) (fun e => by have := (ho9.lt b2 e).1; omega)).trans cl9
      obtain ⟨a10, c10, rfl⟩ := hO10.form
      have HO10 := Lib.hid hO10
      have r1 := M10.cell (Has.head _ _ _ _) (i := 2) rfl
      have f1 := M10.free (Has.head _ _ _ _) 2
      clear hO10 ho10 hg10 p9 h09 ho9 hD9 hd9 M9 M8 M7 HD7 HO7
      replace hHeld : (fun w' : World => w'.cell? ⟨g3, 2, none⟩ = some (.slice a5 i c5) ∧ w'.cell? ⟨g1, 2, none⟩ = some (.slice (some ⟨b, o, none⟩) n cap) ∧ w'.cell? ⟨b, o + i, none⟩ = some (.slice d e f0) ∧ w'.cell? ⟨b2, o2 + i, none⟩ = some (.int .i64 (v : Int))) _ := ⟨M10.cell (Has.head _ _ _ _) (i := 2) rfl, M10.cell (.tail _ _ _ _ _ (.tail _ _ _ _ _ (Has.head _ _ _ _))) (i := 2) rfl, cu10, cl10⟩
      refine hK.out _ _ (fun _ => hHeld) ?_
      clear hK K
      try simp only [Act.put, puts]
      refine wpAnyN_takeY (i := 16) (v := ?v41) rfl (by kernel_rfl) (by kernel_rfl) (by kernel_rfl) (fun _ _ _ h => h) rfl (Or.inl ⟨by rfl, ?hy41⟩) (fun _ => hHeld) ?rest41
      case hy41 => (intro w' _; go_simp; (try with_reducible rfl))
      try simp only [Act.put, puts]
      refine wpAnyN_ready (rs := [17]) (by kernel_rfl) (by simp) ?_
      refine AllReadyN.cons rfl (fun K hK => ?_) AllReadyN.nil
      go_simp
      try go_wp2_with fail
      refine hK.out _ _ (fun h => by have h' : (true : Bool) = false := h; cases h') ?_
      clear hK K
      try simp only [Act.put, puts]
      refine wpAnyN_done (by kernel_rfl) ?_ _
      have M11 := M10.set 2 (.slice a10 (i + 1) c10) (Upd.head _ _ _ _ _) (by simp)
      have HO11 := Lib.hid (HO10.out.turnedB (M10.has (Has.head _ _ _ _)) (by decide) (by decide) ((Turned.refl (fun k => k = g3) w10).setCell (a := ⟨g3, 2, none⟩) (.inl rfl) (.slice a10 (i + 1) c10)))
      have M11 : Mem w (w10.setCell ⟨g3, 2, none⟩ (.slice a10 (i + 1) c10)) [(g3, 36, fc x y (.slice a10 (i + 1) c10)), (g2, 36, fc 0 0 (.slice none 0 0)), (g1, 36, fc x y (.slice (some ⟨b, o, none⟩) n cap))] := M11
      obtain ⟨w11, hw11⟩ : ∃ w11, w10.setCell ⟨g3, 2, none⟩ (.slice a10 (i + 1) c10) = w11 := ⟨_, rfl⟩
      rw [hw11] at M11 HO11 ⊢
      clear r1 f1 M10 HO10 hw11 cu cu8 cu7 cu9 cu10 cl2 cl8 cl7 cl9 cl10 c1 c3 M0 HO
      go_wp2_with fail
      go_roundw
      case rel => exact ⟨i + 1, _, by omega, by go_num, HO11, M11⟩
      case measure => simp [intOf]; omega
    · obtain rfl : i = n := by omega
      have HO2 := HO
      clear HO
      go_wp2_with ((with_reducible refine (?_ : Go.wpList _ _ _ (_ :: _) _ _)); (first | go_skip | (refine wpL_ldc M0 rfl rfl rfl ?_) | (refine wpL_stM (v := fv x y (.slice a5 i c5)) M0 rfl rfl rfl rfl (wr_f _ _ _ _ _ _ _ _) (.tail _ _ _ _ _ _ _ (Upd.head _ _ _ _ _)) ?_; intro w4 M4 hT4)))
      have hO4 := HO2.out.turnedB (M0.has (.tail _ _ _ _ _ (Has.head _ _ _ _))) (by decide) (by decide) hT4
      refine bodyPost_ret (res_cell rfl M4 rfl (.tail _ _ _ _ _ (Has.head _ _ _ _)) (rd_f _ _ _)) rfl ?_
      exact ⟨a5, c5, by rw [HTL.out], by rw [HTL.out]; exact hO4.isU, M4.below⟩
end Go.Proofs.YtanblpfpkohghaaDoor

/-
  A part of a filter: the reference's.
-/
namespace Go.Proofs.YtanblpfpkohghaaDoor
open Go Go.RowKit Go.Th Go.Th.Dig Go.Th.Ex Go.Th.Grid

/-- What becomes of a place that is cut out. -/
def cutAt17 (us : List Nat) (x y : Nat) (X Y : Int) (cw j : Nat) : Nat :=
  if 0 ≤ X + ((j % cw : Nat) : Int) ∧ X + ((j % cw : Nat) : Int) < (x : Int) ∧ 0 ≤ Y + ((j / cw : Nat) : Int) ∧ Y + ((j / cw : Nat) : Int) < (y : Int) then
    us.getD ((Y + ((j / cw : Nat) : Int)).toNat * x + (X + ((j % cw : Nat) : Int)).toNat) 0 else 0
def cutU (us : List Nat) (x y : Nat) (X Y : Int) (cw ch : Nat) : List Nat := tabN (cutAt17 us x y X Y cw) (ch * cw)
theorem cutU_length (us : List Nat) (x y : Nat) (X Y : Int) (cw ch : Nat) : (cutU us x y X Y cw ch).length = ch * cw := tabN_length _ _
theorem lt_cut {k : Nat} {us : List Nat} (h : Lt k us) (x y : Nat) (X Y : Int) (cw ch : Nat) : Lt k (cutU us x y X Y cw ch) := Lt.tab fun i _ => by
  unfold cutAt17
  split
  · exact h _
  · exact Nat.pow_pos (by decide)
theorem div_row {cw k i : Nat} (h : i < cw) : (k * cw + i) / cw = k ∧ (k * cw + i) % cw = i := by
  rw [Nat.mul_comm]
  exact ⟨by rw [Nat.mul_add_div (by omega), Nat.div_eq_of_lt h, Nat.add_zero], by rw [Nat.mul_add_mod, Nat.mod_eq_of_lt h]⟩
theorem row_le {cw ch k i : Nat} (hk : k < ch) (hi : i < cw) : k * cw + i < ch * cw := by
  have h1 : (k + 1) * cw ≤ ch * cw := Nat.mul_le_mul_right _ hk
  rw [Nat.add_mul, Nat.one_mul] at h1
  omega

set_option maxRecDepth 20000 in
set_option maxHeartbeats 6400000 in
theorem rcut17_any (x y cw ch : Nat) (X Y : Int) (a : Option Addr) (n cap : Nat) (us : List Nat) (hxy : n = x * y) (hx : x ≤ 64) (hy : y ≤ 64) (hX : -1000 ≤ X ∧ X ≤ 1000) (hY : -1000 ≤ Y ∧ Y ≤ 1000) (hcw : cw ≤ 64) (hch : ch ≤ 64) (w : World) (hU : IsU w a n cap us) :
    Calls Tryd.prog 36 #[fv x y (.slice a n cap), .int .i64 X, .int .i64 Y, .int .i64 cw, .int .i64 ch] w (ResF cw ch (cutU us x y X Y cw ch) w) := by
  have hle : x * y ≤ 64 * 64 := Nat.mul_le_mul hx hy
  have hle2 : ch * cw ≤ 64 * 64 := Nat.mul_le_mul hch hcw
  obtain ⟨f, hf⟩ : ∃ f : Nat → Nat, f = cutAt17 us x y X Y cw := ⟨_, rfl⟩
  have hpu : cutU us x y X Y cw ch = tabN f (ch * cw) := by rw [hf]; rfl
  rw [hpu]
  have hst : ∀ k i, k < ch → i < cw → ∃ (A B : Int) (NN v0 : Nat), Hid (NN = k * cw + i) ∧ NN < ch * cw ∧ Hid (f NN = v0) ∧ Hid (A = X + (i : Int) ∧ B = Y + (k : Int)) ∧
      Hid ((∃ (An Bn P R : Nat) (Q : Int), Hid ((0 ≤ A ∧ A < (x : Int)) ∧ 0 ≤ B ∧ B < (y : Int)) ∧ Hid (B = (Bn : Int) ∧ (Bn : Int) * (x : Int) = (P : Int) ∧ (P : Int) + X = Q ∧ Q + (i : Int) = (R : Int) ∧ Bn ≤ 64 ∧ P ≤ 4096 ∧ -1000 ≤ Q ∧ Q ≤ 6000) ∧ R < n ∧ Hid (us.getD R 0 = v0)) ∨ (v0 = 0 ∧ Hid (A < 0 ∨ (0 ≤ A ∧ ¬ A < (x : Int)) ∨ (0 ≤ A ∧ A < (x : Int) ∧ B < 0) ∨ (0 ≤ A ∧ A < (x : Int) ∧ 0 ≤ B ∧ ¬ B < (y : Int))))) := by
    intro k i hk hi
    have hdr := div_row (cw := cw) (k := k) hi
    have hfv : f (k * cw + i) = if 0 ≤ X + (i : Int) ∧ X + (i : Int) < (x : Int) ∧ 0 ≤ Y + (k : Int) ∧ Y + (k : Int) < (y : Int) then us.getD ((Y + (k : Int)).toNat * x + (X + (i : Int)).toNat) 0 else 0 := by
      rw [hf]; unfold cutAt17; rw [hdr.1, hdr.2]
    refine ⟨_, _, _, _, Lib.hid rfl, row_le hk hi, Lib.hid hfv, Lib.hid ⟨rfl, rfl⟩, ?_⟩
    clear hfv
    obtain ⟨A, hA⟩ : ∃ A, A = X + (i : Int) := ⟨_, rfl⟩
    obtain ⟨B, hB⟩ : ∃ B, B = Y + (k : Int) := ⟨_, rfl⟩
    rw [← hA, ← hB]
    by_cases hin : 0 ≤ A ∧ A < (x : Int) ∧ 0 ≤ B ∧ B < (y : Int)
    · rw [if_pos hin]
      obtain ⟨h1, h2, h3, h4⟩ := hin
      obtain ⟨An, rfl⟩ := Int.eq_ofNat_of_zero_le h1
      obtain ⟨Bn, rfl⟩ := Int.eq_ofNat_of_zero_le h3
      have hR : Bn * x + An < n := by rw [hxy]; exact at_lt17 (by omega) (by omega)
      have hP : Bn * x ≤ 64 * 64 := Nat.mul_le_mul (by omega) hx
      have eP : (Bn : Int) * (x : Int) = ((Bn * x : Nat) : Int) := by simp
      refine Lib.hid (.inl ⟨An, Bn, Bn * x, Bn * x + An, _, Lib.hid ⟨⟨h1, h2⟩, h3, h4⟩, Lib.hid ⟨rfl, eP, rfl, ?_, by omega, by omega, by omega, by omega⟩, hR, Lib.hid ?_⟩)
      · omega
      · simp
    · rw [if_neg hin]
      refine Lib.hid (.inr ⟨rfl, Lib.hid ?_⟩)
      by_cases h1 : 0 ≤ A
      · by_cases h2 : A < (x : Int)
        · by_cases h3 : 0 ≤ B
          · exact .inr (.inr (.inr ⟨h1, h2, h3, fun h4 => hin ⟨h1, h2, h3, h4⟩⟩))
          · exact .inr (.inr (.inl ⟨h1, h2, by omega⟩))
        · exact .inr (.inl ⟨h1, h2⟩)
      · exact .inl (by omega)
  have HST := Lib.hid hst
  have HT := Lib.hid (fun i => tabN_next f i)
  have HTL := Lib.hid (tabN_length f (ch * cw))
  have HU := Lib.hid hU
  have hmx := hU.max
  have M0 := Mem.start w
  clear hst hpu hf hU hxy hle
  go_enter Tryd.func36, Tryd.ntmps36
  go_upto_region 2 with (((with_reducible refine (?_ : Go.wpList _ _ _ (_ :: _) _ _)); (first | go_skip | (refine wpL_bx M0 rfl rfl rfl rfl ?_; clear M0; intro g1 w1 M1) | (refine wpL_alc M0 rfl rfl ?_; clear M0; intro g1 w1 M1) | (refine wpL_ldc M0 rfl rfl rfl ?_) | (refine wpL_lgc M0 rfl rfl rfl ?_) | (refine wpL_stc M0 rfl rfl rfl rfl ?_; clear M0; intro w' M0) | (refine wpL_sti M0 rfl rfl rfl rfl ?_; clear M0; intro w' M0) | (refine wpL_sth M0 rfl rfl rfl rfl (wr_minus _ _ _) ?_; clear M0; intro w' M0) | (refine wpL_bx M1 rfl rfl rfl rfl ?_; clear M1; intro g2 w2 M2) | (refine wpL_alc M1 rfl rfl ?_; clear M1; intro g2 w2 M2) | (refine wpL_ldc M1 rfl rfl rfl ?_) | (refine wpL_lgc M1 rfl rfl rfl ?_) | (refine wpL_stc M1 rfl rfl rfl rfl ?_; clear M1; intro w' M1) | (refine wpL_sti M1 rfl rfl rfl rfl ?_; clear M1; intro w' M1) | (refine wpL_sth M1 rfl rfl rfl rfl (wr_minus _ _ _) ?_; clear M1; intro w' M1) | (refine wpL_bx M2 rfl rfl rfl rfl ?_; clear M2; intro g3 w3 M3) | (refine wpL_alc M2 rfl rfl ?_; clear M2; intro g3 w3 M3) | (refine wpL_ldc M2 rfl rfl rfl ?_) | (refine wpL_lgc M2 rfl rfl rfl ?_) | (refine wpL_stc M2 rfl rfl rfl rfl ?_; clear M2; intro w' M2) | (refine wpL_sti M2 rfl rfl rfl rfl ?_; clear M2; intro w' M2) | (refine wpL_sth M2 rfl rfl rfl rfl (wr_minus _ _ _) ?_; clear M2; intro w' M2) | (refine wpL_ldc M3 rfl rfl rfl ?_) | (refine wpL_lgc M3 rfl rfl rfl ?_) | (refine wpL_stc M3 rfl rfl rfl rfl ?_; clear M3; intro w' M3) | (refine wpL_sti M3 rfl rfl rfl rfl ?_; clear M3; intro w' M3) | (refine wpL_sth M3 rfl rfl rfl rfl (wr_minus _ _ _) ?_; clear M3; intro w' M3))))
  have hO : OwnU w' w.heap.size (.slice none 0 0) (0 * cw) (tabN f (0 * cw)) := by rw [Nat.zero_mul]; exact OwnU.nil _ _
  have HO0 := Lib.hid hO
  clear hO
  go_wp2_with fail
  go_loopw [12] (fun c wr => ∃ (k : Nat) (va : Value), k ≤ ch ∧ c = .int .i64 k ∧ Hid (OwnU wr w.heap.size va (k * cw) (tabN f (k * cw))) ∧ Mem w wr [(g3, 36, fc cw ch va), (g2, 36, fc 0 0 (.slice none 0 0)), (g1, 36, fc x y (.slice a n cap))]) (fun c _ => ch - (intOf c).toNat)
  case atStart => exact ⟨0, _, Nat.zero_le _, rfl, HO0, M3⟩
  case round =>
    clear M3 HO0
    obtain ⟨k, va, hk, rfl, HO, M0⟩ := hrel
    obtain ⟨a5, c5, rfl⟩ := HO.out.form
    by_cases hlt : k < ch
    · have hk0 : (k : Int) < ch := by omega
      go_wp2_with fail
      go_loopw [13] (fun c wr => ∃ (i : Nat) (va : Value), i ≤ cw ∧ c = .int .i64 i ∧ Hid (OwnU wr w.heap.size va (k * cw + i) (tabN f (k * cw + i))) ∧ Mem w wr [(g3, 36, fc cw ch va), (g2, 36, fc 0 0 (.slice none 0 0)), (g1, 36, fc x y (.slice a n cap))]) (fun c _ => cw - (intOf c).toNat)
      case atStart => exact ⟨0, _, Nat.zero_le _, rfl, HO, M0⟩
      case round =>
        clear M0 HO
        obtain ⟨i, va, hi, rfl, HO, M0⟩ := hrel
        by_cases hli : i < cw
        · obtain ⟨A, B, NN, v0, HN, hNN, HV, HAB, hcase⟩ := HST.out k i hlt hli
          rw [← HN.out] at HO
          obtain ⟨a6, c6, rfl⟩ := HO.out.form
          have hi0 : (i : Int) < cw := by omega
          have hb63 : NN + 1 ≤ maxLen := by unfold maxLen; omega
          have hb24 : (NN + 1) * 24 ≤ 140737488355328 := by omega
          have c10 := M0.cell (.tail _ _ _ _ _ (.tail _ _ _ _ _ (Has.head _ _ _ _))) (i := 0) rfl
          have c11 := M0.cell (.tail _ _ _ _ _ (.tail _ _ _ _ _ (Has.head _ _ _ _))) (i := 1) rfl
          have c12 := M0.cell (.tail _ _ _ _ _ (.tail _ _ _ _ _ (Has.head _ _ _ _))) (i := 2) rfl
          obtain ⟨Bq, HBq, HBB⟩ : ∃ Bq : Bool, Hid ((Bq = true ∧ ∃ (Bn P R : Nat) (Q : Int), Hid (B = (Bn : Int) ∧ (Bn : Int) * (x : Int) = (P : Int) ∧ (P : Int) + X = Q ∧ Q + (i : Int) = (R : Int) ∧ Bn ≤ 64 ∧ P ≤ 4096 ∧ -1000 ≤ Q ∧ Q ≤ 6000) ∧ R < n ∧ Hid (us.getD R 0 = v0)) ∨ (Bq = false ∧ v0 = 0)) ∧
              Hid ((Bq = true ∧ (0 ≤ A ∧ A < (x : Int)) ∧ 0 ≤ B ∧ B < (y : Int)) ∨ (Bq = false ∧ (A < 0 ∨ (0 ≤ A ∧ ¬ A < (x : Int)) ∨ (0 ≤ A ∧ A < (x : Int) ∧ B < 0) ∨ (0 ≤ A ∧ A < (x : Int) ∧ 0 ≤ B ∧ ¬ B < (y : Int))))) := by
            rcases hcase.out with ⟨An, Bn, P, R, Q, HIN, HR, hR, HVR⟩ | ⟨h1, h2⟩
            · exact ⟨true, Lib.hid (.inl ⟨rfl, Bn, P, R, Q, HR, hR, HVR⟩), Lib.hid (.inl ⟨rfl, HIN.out⟩)⟩
            · exact ⟨false, Lib.hid (.inr ⟨rfl, h1⟩), Lib.hid (.inr ⟨rfl, by simpa only [Int.not_lt] using h2.out⟩)⟩
          clear hcase
          go_upto_region 9 with fail
          go_cut [53] from 28 to 73 (fun s53 wx => wx = wr ∧ s53 = .bool Bq)
          case first =>
            obtain ⟨rfl, rfl⟩ := HAB.out
            rcases HBB.out with ⟨rfl, ⟨h1, h2⟩, h3, h4⟩ | ⟨rfl, h1 | ⟨h1, h2⟩ | ⟨h1, h2, h3⟩ | ⟨h1, h2, h3, h4⟩⟩
            · have d1 : decide (0 ≤ X + (i : Int)) = true := decide_eq_true h1
              have d2 : decide (X + (i : Int) < (x : Int)) = true := decide_eq_true h2
              have d3 : decide (0 ≤ Y + (k : Int)) = true := decide_eq_true h3
              have d4 : decide (Y + (k : Int) < (y : Int)) = true := decide_eq_true h4
              clear h1 h2 h3 h4
              go_wp2_with fail
              go_meet
              exact ⟨rfl, rfl⟩
            · have d1 : decide (0 ≤ X + (i : Int)) = false := decide_eq_false (by omega)
              clear h1
              go_wp2_with fail
              go_meet
              exact ⟨rfl, rfl⟩
            · have d1 : decide (0 ≤ X + (i : Int)) = true := decide_eq_true h1
              have d2 : decide (X + (i : Int) < (x : Int)) = false := decide_eq_false h2
              clear h1 h2
              go_wp2_with fail
              go_meet
              exact ⟨rfl, rfl⟩
            · have d1 : decide (0 ≤ X + (i : Int)) = true := decide_eq_true h1
              have d2 : decide (X + (i : Int) < (x : Int)) = true := decide_eq_true h2
              have d3 : decide (0 ≤ Y + (k : Int)) = false := decide_eq_false (by omega)
              clear h1 h2 h3
              go_wp2_with fail
              go_meet
              exact ⟨rfl, rfl⟩
            · have d1 : decide (0 ≤ X + (i : Int)) = true := decide_eq_true h1
              have d2 : decide (X + (i : Int) < (x : Int)) = true := decide_eq_true h2
              have d3 : decide (0 ≤ Y + (k : Int)) = true := decide_eq_true h3
              have d4 : decide (Y + (k : Int) < (y : Int)) = false := decide_eq_false h4
              clear h1 h2 h3 h4
              go_wp2_with fail
              go_meet
              exact ⟨rfl, rfl⟩
          obtain ⟨rfl, rfl⟩ := hcut
          clear HBB
          go_upto_if 53 with fail
          go_cut [14] from 28 to 73 (fun s14 wx => wx = wc ∧ ∃ d e f0, s14 = .slice d e f0 ∧ Hid (D16 wc (.slice d e f0) v0))
          case first =>
            obtain ⟨rfl, rfl⟩ := HAB.out
            rcases HBq.out with ⟨rfl, Bn, P, R, Q, HR, hR, HVR⟩ | ⟨rfl, rfl⟩
            · obtain ⟨b, o, d, e, f0, rfl, hbl, cu, hd⟩ := (HU.out.below M0.below).cell hR
              rw [HVR.out] at hd
              have HD := Lib.hid hd
              have hR0 : (R : Int) < n := by omega
              have hR1 : (0 : Int) ≤ R := by omega
              obtain ⟨eB, eP, eQ, eR, hBn, hPn, hQ1, hQ2⟩ := HR.out
              clear hd hR
              go_wp2_with fail
              go_meet
              exact ⟨rfl, _, _, _, rfl, HD⟩
            · have HZ := Lib.hid (d16_nil wc)
              go_wp2_with fail
              go_meet
              exact ⟨rfl, _, _, _, rfl, HZ⟩
          obtain ⟨rfl, d, e, f0, rfl, HD⟩ := hcut
          clear HBq HAB c10 c11 c12
          obtain ⟨h08, cs8, ho8, hD8⟩ := HO.out
          have hA9 := (Below.refl wc.heap.size wc).alloc (Nat.le_refl _) (.cells #[.slice d e f0] 51)
          have M18 := M0.call hA9
          have hd9 := HD.out.below hA9
          have ho9 := ownsRow_below ho8 hA9
          have hD9 : ∀ j, j < NN → ∃ d, cs8[j]? = some d ∧ D16 _ d ((tabN f NN).getD j 0) := fun j hj => let ⟨d, e1, e2⟩ := hD8 j hj; ⟨d, e1, e2.below hA9⟩
          have HD9' := Lib.hid hD9
          have HD10 := Lib.hid hd9
          have HH := Lib.hid h08
          clear hD8 hD9 hd9 ho8 HO HD hA9 h08
          have c32 := M0.cell (Has.head _ _ _ _) (i := 2) rfl
          clear M0
          go_wp2_with (at_builtin; refine wpList_app Edd rfl (.tmp 69) (.tmp 71) rfl w.heap.size rfl ho9 rfl (Sl.one _ _ _) (by intro u hu; simp at hu; subst hu; rfl) hb63 hb24 M18.below.size ?_)
          intro v10 w10 ho10 hg10 _
          have hO10 := own_snoc HH.out ho9 HD9'.out HD10.out ho10 hg10
          rw [show tabN f NN ++ [v0] = tabN f (NN + 1) by rw [← HV.out]; exact HT.out _] at hO10
          have M19 := M18.app ho9 hg10 (Nat.le_refl _) (by simp)
          obtain ⟨a10, c10, rfl⟩ := hO10.form
          have HO10 := Lib.hid hO10
          clear hO10 ho10 hg10 ho9 HD9' HD10 HH M18 c32
          have r1 := M19.cell (Has.head _ _ _ _) (i := 2) rfl
          have f1 := M19.free (Has.head _ _ _ _) 2
          have M20 := M19.set 2 (.slice a10 (NN + 1) c10) (Upd.head _ _ _ _ _) (by simp)
          have HO20 := Lib.hid (HO10.out.turnedB (M19.has (Has.head _ _ _ _)) (by decide) (by decide) ((Turned.refl (fun k => k = g3) w10).setCell (a := ⟨g3, 2, none⟩) (.inl rfl) (.slice a10 (NN + 1) c10)))
          have HM20 := Lib.hid M20
          clear M20 M19 HO10
          go_wp2_with fail
          go_roundw
          case rel => exact ⟨i + 1, _, by omega, by go_num, by rw [← Nat.add_assoc, ← HN.out]; exact HO20, HM20.out⟩
          case measure => simp [intOf]; omega
        · obtain rfl : i = cw := by omega
          have hO := HO.out
          rw [show k * i + i = (k + 1) * i by rw [Nat.add_mul, Nat.one_mul]] at hO
          have HO2 := Lib.hid hO
          clear hO HO
          go_wp2_with fail
          go_roundw
          case rel => exact ⟨k + 1, _, by omega, by go_num, HO2, M0⟩
          case measure => simp [intOf]; omega
    · obtain rfl : k = ch := by omega
      have HO2 := HO
      clear HO
      go_wp2_with ((with_reducible refine (?_ : Go.wpList _ _ _ (_ :: _) _ _)); (first | go_skip | (refine wpL_ldc M0 rfl rfl rfl ?_) | (refine wpL_stM (v := fv cw k (.slice a5 (k * cw) c5)) M0 rfl rfl rfl rfl (wr_f _ _ _ _ _ _ _ _) (.tail _ _ _ _ _ _ _ (Upd.head _ _ _ _ _)) ?_; intro w4 M4 hT4)))
      have hO4 := HO2.out.turnedB (M0.has (.tail _ _ _ _ _ (Has.head _ _ _ _))) (by decide) (by decide) hT4
      refine bodyPost_ret (res_cell rfl M4 rfl (.tail _ _ _ _ _ (Has.head _ _ _ _)) (rd_f _ _ _)) rfl ?_
      exact ⟨a5, c5, by rw [HTL.out], by rw [HTL.out]; exact hO4.isU, M4.below⟩
end Go.Proofs.YtanblpfpkohghaaDoor

/-
  A filter with four places for each: the reference's.
-/
namespace Go.Proofs.YtanblpfpkohghaaDoor
open Go Go.RowKit Go.Th Go.Th.Dig Go.Th.Ex Go.Th.Grid

def splitAt17 (us : List Nat) (x W j : Nat) : Nat := us.getD (j / W / 2 * x + j % W / 2) 0
def splitU (us : List Nat) (x y : Nat) : List Nat := tabN (splitAt17 us x (2 * x)) (2 * y * (2 * x))
theorem splitU_length (us : List Nat) (x y : Nat) : (splitU us x y).length = 2 * y * (2 * x) := tabN_length _ _
theorem lt_split {k : Nat} {us : List Nat} (h : Lt k us) (x y : Nat) : Lt k (splitU us x y) := Lt.tab fun i _ => h _

set_option maxRecDepth 20000 in
set_option maxHeartbeats 6400000 in
theorem rsplit17_any (x y : Nat) (a : Option Addr) (n cap : Nat) (us : List Nat) (hxy : n = x * y) (hx : x ≤ 64) (hy : y ≤ 64) (w : World) (hU : IsU w a n cap us) :
    Calls Tryd.prog 37 #[fv x y (.slice a n cap)] w (ResF (2 * x : Nat) (2 * y : Nat) (splitU us x y) w) := by
  obtain ⟨W2, hW2⟩ : ∃ W2, W2 = 2 * x := ⟨_, rfl⟩
  obtain ⟨H2, hH2⟩ : ∃ H2, H2 = 2 * y := ⟨_, rfl⟩
  have hle : x * y ≤ 64 * 64 := Nat.mul_le_mul hx hy
  have hle2 : H2 * W2 ≤ 128 * 128 := Nat.mul_le_mul (by omega) (by omega)
  obtain ⟨f, hf⟩ : ∃ f : Nat → Nat, f = splitAt17 us x W2 := ⟨_, rfl⟩
  have hpu : splitU us x y = tabN f (H2 * W2) := by rw [hf, hW2, hH2]; rfl
  rw [hpu, ← hW2, ← hH2]
  have hst : ∀ k i, k < H2 → i < W2 → ∃ (NN v0 k2 i2 P R : Nat), Hid (NN = k * W2 + i) ∧ NN < H2 * W2 ∧ Hid (f NN = v0) ∧ R < n ∧ Hid (us.getD R 0 = v0) ∧
      Hid (((k : Int) / 2 = (k2 : Int) ∧ (k : Int).tdiv 2 = (k2 : Int) ∧ (i : Int) / 2 = (i2 : Int) ∧ (i : Int).tdiv 2 = (i2 : Int)) ∧ (k2 : Int) * (x : Int) = (P : Int) ∧ (P : Int) + (i2 : Int) = (R : Int)) ∧ Hid (k2 ≤ 64 ∧ i2 ≤ 64 ∧ P ≤ 4096) := by
    intro k i hk hi
    have hdr := div_row (cw := W2) (k := k) hi
    have hR : k / 2 * x + i / 2 < n := by rw [hxy]; exact at_lt17 (by omega) (by omega)
    have hP : k / 2 * x ≤ 64 * 64 := Nat.mul_le_mul (by omega) hx
    refine ⟨k * W2 + i, _, k / 2, i / 2, k / 2 * x, k / 2 * x + i / 2, Lib.hid rfl, row_le hk hi, Lib.hid rfl, hR, Lib.hid ?_, Lib.hid ⟨⟨by omega, ?_, by omega, ?_⟩, by simp, by omega⟩, Lib.hid ⟨by omega, by omega, by omega⟩⟩
    · rw [hf]; unfold splitAt17; rw [hdr.1, hdr.2]
    · rw [Int.tdiv_eq_ediv_of_nonneg (Int.natCast_nonneg k)]; omega
    · rw [Int.tdiv_eq_ediv_of_nonneg (Int.natCast_nonneg i)]; omega
  have HST := Lib.hid hst
  have HT := Lib.hid (fun i => tabN_next f i)
  have HTL := Lib.hid (tabN_length f (H2 * W2))
  have HU := Lib.hid hU
  have hmx := hU.max
  have e1 : 2 * (x : Int) = (W2 : Int) := by omega
  have e2 : 2 * (y : Int) = (H2 : Int) := by omega
  have b1 : W2 ≤ 128 := by omega
  have b2 : H2 ≤ 128 := by omega
  have M0 := Mem.start w
  clear hst hpu hf hU hxy hle hW2 hH2
  go_enter Tryd.func37, Tryd.ntmps37
  go_upto_region 2 with (((with_reducible refine (?_ : Go.wpList _ _ _ (_ :: _) _ _)); (first | go_skip | (refine wpL_bx M0 rfl rfl rfl rfl ?_; clear M0; intro g1 w1 M1) | (refine wpL_alc M0 rfl rfl ?_; clear M0; intro g1 w1 M1) | (refine wpL_ldc M0 rfl rfl rfl ?_) | (refine wpL_lgc M0 rfl rfl rfl ?_) | (refine wpL_stc M0 rfl rfl rfl rfl ?_; clear M0; intro w' M0) | (refine wpL_sti M0 rfl rfl rfl rfl ?_; clear M0; intro w' M0) | (refine wpL_sth M0 rfl rfl rfl rfl (wr_minus _ _ _) ?_; clear M0; intro w' M0) | (refine wpL_bx M1 rfl rfl rfl rfl ?_; clear M1; intro g2 w2 M2) | (refine wpL_alc M1 rfl rfl ?_; clear M1; intro g2 w2 M2) | (refine wpL_ldc M1 rfl rfl rfl ?_) | (refine wpL_lgc M1 rfl rfl rfl ?_) | (refine wpL_stc M1 rfl rfl rfl rfl ?_; clear M1; intro w' M1) | (refine wpL_sti M1 rfl rfl rfl rfl ?_; clear M1; intro w' M1) | (refine wpL_sth M1 rfl rfl rfl rfl (wr_minus _ _ _) ?_; clear M1; intro w' M1) | (refine wpL_bx M2 rfl rfl rfl rfl ?_; clear M2; intro g3 w3 M3) | (refine wpL_alc M2 rfl rfl ?_; clear M2; intro g3 w3 M3) | (refine wpL_ldc M2 rfl rfl rfl ?_) | (refine wpL_lgc M2 rfl rfl rfl ?_) | (refine wpL_stc M2 rfl rfl rfl rfl ?_; clear M2; intro w' M2) | (refine wpL_sti M2 rfl rfl rfl rfl ?_; clear M2; intro w' M2) | (refine wpL_sth M2 rfl rfl rfl rfl (wr_minus _ _ _) ?_; clear M2; intro w' M2) | (refine wpL_ldc M3 rfl rfl rfl ?_) | (refine wpL_lgc M3 rfl rfl rfl ?_) | (refine wpL_stc M3 rfl rfl rfl rfl ?_; clear M3; intro w' M3) | (refine wpL_sti M3 rfl rfl rfl rfl ?_; clear M3; intro w' M3) | (refine wpL_sth M3 rfl rfl rfl rfl (wr_minus _ _ _) ?_; clear M3; intro w' M3))))
  clear e1 e2
  have hO : OwnU w' w.heap.size (.slice none 0 0) (0 * W2) (tabN f (0 * W2)) := by rw [Nat.zero_mul]; exact OwnU.nil _ _
  have HO0 := Lib.hid hO
  clear hO
  go_wp2_with fail
  go_loopw [4] (fun c wr => ∃ (k : Nat) (va : Value), k ≤ H2 ∧ c = .int .i64 k ∧ Hid (OwnU wr w.heap.size va (k * W2) (tabN f (k * W2))) ∧ Mem w wr [(g3, 36, fc W2 H2 va), (g2, 36, fc 0 0 (.slice none 0 0)), (g1, 36, fc x y (.slice a n cap))]) (fun c _ => H2 - (intOf c).toNat)
  case atStart => exact ⟨0, _, Nat.zero_le _, rfl, HO0, M3⟩
  case round =>
    clear M3 HO0
    obtain ⟨k, va, hk, rfl, HO, M0⟩ := hrel
    obtain ⟨a5, c5, rfl⟩ := HO.out.form
    have ch3 := M0.cell (Has.head _ _ _ _) (i := 1) rfl
    by_cases hlt : k < H2
    · have hk0 : (k : Int) < H2 := by omega
      go_wp2_with fail
      clear ch3
      go_loopw [5] (fun c wr => ∃ (i : Nat) (va : Value), i ≤ W2 ∧ c = .int .i64 i ∧ Hid (OwnU wr w.heap.size va (k * W2 + i) (tabN f (k * W2 + i))) ∧ Mem w wr [(g3, 36, fc W2 H2 va), (g2, 36, fc 0 0 (.slice none 0 0)), (g1, 36, fc x y (.slice a n cap))]) (fun c _ => W2 - (intOf c).toNat)
      case atStart => exact ⟨0, _, Nat.zero_le _, rfl, HO, M0⟩
      case round =>
        clear M0 HO
        obtain ⟨i, va, hi, rfl, HO, M0⟩ := hrel
        have cw3 := M0.cell (Has.head _ _ _ _) (i := 0) rfl
        by_cases hli : i < W2
        · obtain ⟨NN, v0, k2, i2, P, R, HN, hNN, HV, hR, HVR, HE, HBd⟩ := HST.out k i hlt hli
          rw [← HN.out] at HO
          obtain ⟨a6, c6, rfl⟩ := HO.out.form
          have hi0 : (i : Int) < W2 := by omega
          have hR0 : (R : Int) < n := by omega
          have hb63 : NN + 1 ≤ maxLen := by unfold maxLen; omega
          have hb24 : (NN + 1) * 24 ≤ 140737488355328 := by omega
          have c10 := M0.cell (.tail _ _ _ _ _ (.tail _ _ _ _ _ (Has.head _ _ _ _))) (i := 0) rfl
          have c12 := M0.cell (.tail _ _ _ _ _ (.tail _ _ _ _ _ (Has.head _ _ _ _))) (i := 2) rfl
          have c32 := M0.cell (Has.head _ _ _ _) (i := 2) rfl
          obtain ⟨b, o, d, e, f0, rfl, hbl, cu, hd⟩ := (HU.out.below M0.below).cell hR
          rw [HVR.out] at hd
          have HD := Lib.hid hd
          have hb0 : b < w.heap.size := by
            obtain ⟨_, _, _, _, _, hee, hbb, _⟩ := HU.out.cell hR
            cases hee; exact hbb
          clear hd hR
          go_wp2_with fail
          have b3 := HBd.out
          have wk : IntKind.i64.wrap (k2 : Int) = (k2 : Int) := IntWalk.i64_in _ (by omega)
          have wi : IntKind.i64.wrap (i2 : Int) = (i2 : Int) := IntWalk.i64_in _ (by omega)
          have wP : IntKind.i64.wrap (P : Int) = (P : Int) := IntWalk.i64_in _ (by omega)
          have wR : IntKind.i64.wrap (R : Int) = (R : Int) := IntWalk.i64_in _ (by omega)
          clear b3
          obtain ⟨⟨ek, ekt, ei, eit⟩, eP, eR⟩ := HE.out
          refine wp_region_N_drew (S := (fun w' : World => w'.cell? ⟨g3, 2, none⟩ = some (.slice a6 NN c6) ∧ w'.cell? ⟨g1, 0, none⟩ = some (.int .i64 x) ∧ w'.cell? ⟨g1, 2, none⟩ = some (.slice (some ⟨b, o, none⟩) n cap) ∧ w'.cell? ⟨b, o + R, none⟩ = some (.slice d e f0))) 17 (by kernel_rfl) ?_
          have hHeld : (fun w' : World => w'.cell? ⟨g3, 2, none⟩ = some (.slice a6 NN c6) ∧ w'.cell? ⟨g1, 0, none⟩ = some (.int .i64 x) ∧ w'.cell? ⟨g1, 2, none⟩ = some (.slice (some ⟨b, o, none⟩) n cap) ∧ w'.cell? ⟨b, o + R, none⟩ = some (.slice d e f0)) wr.drew := ⟨c32, c10, c12, cu⟩
          refine wpAnyN_takeY (i := 0) (v := ?v43) rfl (by kernel_rfl) (by kernel_rfl) (by kernel_rfl) (fun _ _ _ h => h) rfl (Or.inl ⟨by rfl, ?hy43⟩) (fun _ => hHeld) ?rest43
          case hy43 => (intro w' _; go_simp; (try with_reducible rfl))
          try simp only [Act.put, puts]
          refine wpAnyN_takeY (i := 2) (v := ?v44) rfl (by kernel_rfl) (by kernel_rfl) (by kernel_rfl) (fun _ _ _ h => h) rfl (Or.inl ⟨by rfl, ?hy44⟩) (fun _ => hHeld) ?rest44
          case hy44 => (intro w' _; go_simp; (try with_reducible rfl))
          try simp only [Act.put, puts]
          refine wpAnyN_takeY (i := 4) (v := ?v45) rfl (by kernel_rfl) (by kernel_rfl) (by kernel_rfl) (fun _ _ _ h => h) rfl (Or.inl ⟨by rfl, ?hy45⟩) (fun _ => hHeld) ?rest45
          case hy45 => (intro w' _; go_simp; (try with_reducible rfl))
          try simp only [Act.put, puts]
          refine wpAnyN_takeY (i := 5) (v := ?v46) rfl (by kernel_rfl) (by kernel_rfl) (by kernel_rfl) (fun _ _ _ h => h) rfl (Or.inl ⟨by rfl, ?hy46⟩) (fun _ => hHeld) ?rest46
          case hy46 => (intro w' _; go_simp; (try with_reducible rfl))
          try simp only [Act.put, puts]
          refine wpAnyN_takeY (i := 6) (v := ?v47) rfl (by kernel_rfl) (by kernel_rfl) (by kernel_rfl) (fun _ _ _ h => h) rfl (Or.inl ⟨by rfl, ?hy47⟩) (fun _ => hHeld) ?rest47
          case hy47 => (intro w' _; go_simp; (try with_reducible rfl))
          try simp only [Act.put, puts]
          refine wpAnyN_take (i := 1) (v := ?v48) rfl (by kernel_rfl) (by kernel_rfl) (by kernel_rfl) (fun _ _ _ h => h) rfl (by kernel_rfl) (by kernel_rfl) (Or.inl ⟨by rfl, ?hy48⟩) hHeld ?rest48
          case hy48 => (intro w' hSw; (try dsimp only at hSw); go_simp; (try with_reducible rfl))
          try simp only [Act.put, puts]
          refine wpAnyN_take (i := 3) (v := ?v49) rfl (by kernel_rfl) (by kernel_rfl) (by kernel_rfl) (fun _ _ _ h => h) rfl (by kernel_rfl) (by kernel_rfl) (Or.inl ⟨by rfl, ?hy49⟩) hHeld ?rest49
          case hy49 => (intro w' hSw; (try dsimp only at hSw); go_simp; (try with_reducible rfl))
          try simp only [Act.put, puts]
          refine wpAnyN_take (i := 7) (v := ?v50) rfl (by kernel_rfl) (by kernel_rfl) (by kernel_rfl) (fun _ _ _ h => h) rfl (by kernel_rfl) (by kernel_rfl) (Or.inl ⟨by rfl, ?hy50⟩) hHeld ?rest50
          case hy50 => (intro w' hSw; (try dsimp only at hSw); go_simp; (try with_reducible rfl))
          try simp only [Act.put, puts]
          refine wpAnyN_takeY (i := 8) (v := ?v51) rfl (by kernel_rfl) (by kernel_rfl) (by kernel_rfl) (fun _ _ _ h => h) rfl (Or.inl ⟨by rfl, ?hy51⟩) (fun _ => hHeld) ?rest51
          case hy51 => (intro w' _; go_simp; (try with_reducible rfl))
          try simp only [Act.put, puts]
          refine wpAnyN_takeY (i := 9) (v := ?v52) rfl (by kernel_rfl) (by kernel_rfl) (by kernel_rfl) (fun _ _ _ h => h) rfl (Or.inl ⟨by rfl, ?hy52⟩) (fun _ => hHeld) ?rest52
          case hy52 => (intro w' _; go_simp; (try with_reducible rfl))
          try simp only [Act.put, puts]
          refine wpAnyN_takeY (i := 10) (v := ?v53) rfl (by kernel_rfl) (by kernel_rfl) (by kernel_rfl) (fun _ _ _ h => h) rfl (Or.inl ⟨by rfl, ?hy53⟩) (fun _ => hHeld) ?rest53
          case hy53 => (intro w' _; go_simp; (try with_reducible rfl))
          try simp only [Act.put, puts]
          refine wpAnyN_takeY (i := 11) (v := ?v54) rfl (by kernel_rfl) (by kernel_rfl) (by kernel_rfl) (fun _ _ _ h => h) rfl (Or.inl ⟨by rfl, ?hy54⟩) (fun _ => hHeld) ?rest54
          case hy54 => (intro w' _; go_simp; (try with_reducible rfl))
          try simp only [Act.put, puts]
          refine wpAnyN_takeY (i := 12) (v := ?v55) rfl (by kernel_rfl) (by kernel_rfl) (by kernel_rfl) (fun _ _ _ h => h) rfl (Or.inl ⟨by rfl, ?hy55⟩) (fun _ => hHeld) ?rest55
          case hy55 => (intro w' _; go_simp; (try with_reducible rfl))
          try simp only [Act.put, puts]
          refine wpAnyN_take (i := 13) (v := ?v56) rfl (by kernel_rfl) (by kernel_rfl) (by kernel_rfl) (fun _ _ _ h => h) rfl (by kernel_rfl) (by kernel_rfl) (Or.inl ⟨by rfl, ?hy56⟩) hHeld ?rest56
          case hy56 => (intro w' hSw; (try dsimp only at hSw); go_simp; (try with_reducible rfl))
          try simp only [Act.put, puts]
          refine wpAnyN_ready (rs := [14]) (by kernel_rfl) (by simp) ?_
          refine AllReadyN.cons rfl (fun K hK => ?_) AllReadyN.nil
          go_simp
          obtain ⟨w9, hw9⟩ : ∃ w9, (wr.alloc (.cells #[.slice d e f0] 51)).drew = w9 := ⟨_, rfl⟩
          have hA9 : Below wr.heap.size wr w9 := by rw [← hw9]; exact ((Below.refl _ _).alloc (Nat.le_refl _) _).drew
          have p9 : Sl w9 1 (.slice (some ⟨wr.heap.size, 0, none⟩) 1 1) 1 [.slice d e f0] := by rw [← hw9]; exact Sl.one wr _ _
          have M9 := M0.call hA9
          have cu9 := (hA9.cell (p := ⟨b, o + R, none⟩) hbl).trans cu
          have hd9 := HD.out.below hA9
          obtain ⟨h09, cs9, ho9, hD9⟩ := HO.out.below hA9
          (try simp only [hw9])
          clear hw9
          try go_wp2_with fail
          replace hHeld : (fun w' : World => w'.cell? ⟨g3, 2, none⟩ = some (.slice a6 NN c6) ∧ w'.cell? ⟨g1, 0, none⟩ = some (.int .i64 x) ∧ w'.cell? ⟨g1, 2, none⟩ = some (.slice (some ⟨b, o, none⟩) n cap) ∧ w'.cell? ⟨b, o + R, none⟩ = some (.slice d e f0)) _ := ⟨M9.cell (Has.head _ _ _ _) (i := 2) rfl, M9.cell (.tail _ _ _ _ _ (.tail _ _ _ _ _ (Has.head _ _ _ _))) (i := 0) rfl, M9.cell (.tail _ _ _ _ _ (.tail _ _ _ _ _ (Has.head _ _ _ _))) (i := 2) rfl, cu9⟩
          refine hK.out _ _ (fun _ => hHeld) ?_
          clear hK K
          try simp only [Act.put, puts]
          refine wpAnyN_ready (rs := [15]) (by kernel_rfl) (by simp) ?_
          refine AllReadyN.cons rfl (fun K hK => ?_) AllReadyN.nil
          rw [if_pos (by rfl)]
          refine wp_app Edd (.tmp 26) (.tmp 39) rfl w.heap.size rfl ho9 rfl p9 (by intro u hu; simp at hu; subst hu; rfl) hb63 hb24 M9.below.size ?_
          intro v10 w10 ho10 hg10 _
          have hO10 := own_snoc h09 ho9 hD9 hd9 ho10 hg10
          rw [show tabN f NN ++ [v0] = tabN f (NN + 1) by rw [← HV.out]; exact HT.out _] at hO10
          have M10 := M9.app ho9 hg10 (Nat.le_refl _) (by simp)
          have cu10 := ((grown_turnedB hg10).cell (p := ⟨b, o + R, none⟩) (Nat.lt_of_lt_of_le hb0 M9.below.size) (fun e => by have := (ho9.lt b e).1; omega)).trans cu9
          obtain ⟨a10, c10', rfl⟩ := hO10.form
          have HO10 := Lib.hid hO10
          have r1 := M10.cell (Has.head _ _ _ _) (i := 2) rfl
          have f1 := M10.free (Has.head _ _ _ _) 2
          clear hO10 ho10 hg10 p9 h09 ho9 hD9 hd9 M9
          replace hHeld : (fun w' : World => w'.cell? ⟨g3, 2, none⟩ = some (.slice a6 NN c6) ∧ w'.cell? ⟨g1, 0, none⟩ = some (.int .i64 x) ∧ w'.cell? ⟨g1, 2, none⟩ = some (.slice (some ⟨b, o, none⟩) n cap) ∧ w'.cell? ⟨b, o + R, none⟩ = some (.slice d e f0)) _ := ⟨M10.cell (Has.head _ _ _ _) (i := 2) rfl, M10.cell (.tail _ _ _ _ _ (.tail _ _ _ _ _ (Has.head _ _ _ _))) (i := 0) rfl, M10.cell (.tail _ _ _ _ _ (.tail _ _ _ _ _ (Has.head _ _ _ _))) (i := 2) rfl, cu10⟩
          refine hK.out _ _ (fun _ => hHeld) ?_
          clear hK K
          try simp only [Act.put, puts]
          refine wpAnyN_takeY (i := 16) (v := ?v59) rfl (by kernel_rfl) (by kernel_rfl) (by kernel_rfl) (fun _ _ _ h => h) rfl (Or.inl ⟨by rfl, ?hy59⟩) (fun _ => hHeld) ?rest59
          case hy59 => (intro w' _; go_simp; (try with_reducible rfl))
          try simp only [Act.put, puts]
          refine wpAnyN_ready (rs := [17]) (by kernel_rfl) (by simp) ?_
          refine AllReadyN.cons rfl (fun K hK => ?_) AllReadyN.nil
          go_simp
          try go_wp2_with fail
          refine hK.out _ _ (fun h => by have h' : (true : Bool) = false := h; cases h') ?_
          clear hK K
          try simp only [Act.put, puts]
          refine wpAnyN_done (by kernel_rfl) ?_ _
          have M11 := M10.set 2 (.slice a10 (NN + 1) c10') (Upd.head _ _ _ _ _) (by simp)
          have HO11 := Lib.hid (HO10.out.turnedB (M10.has (Has.head _ _ _ _)) (by decide) (by decide) ((Turned.refl (fun k => k = g3) w10).setCell (a := ⟨g3, 2, none⟩) (.inl rfl) (.slice a10 (NN + 1) c10')))
          have M11 : Mem w (w10.setCell ⟨g3, 2, none⟩ (.slice a10 (NN + 1) c10')) [(g3, 36, fc W2 H2 (.slice a10 (NN + 1) c10')), (g2, 36, fc 0 0 (.slice none 0 0)), (g1, 36, fc x y (.slice (some ⟨b, o, none⟩) n cap))] := M11
          obtain ⟨w11, hw11⟩ : ∃ w11, w10.setCell ⟨g3, 2, none⟩ (.slice a10 (NN + 1) c10') = w11 := ⟨_, rfl⟩
          rw [hw11] at M11 HO11 ⊢
          clear r1 f1 M10 HO10 hw11 cu cu9 cu10 c10 c12 c32 cw3 M0 HO ek ekt ei eit eP eR wk wi wP wR
          go_wp2_with fail
          go_roundw
          case rel => exact ⟨i + 1, _, by omega, by go_num, by rw [← Nat.add_assoc, ← HN.out]; exact HO11, M11⟩
          case measure => simp [intOf]; omega
        · obtain rfl : i = W2 := by omega
          have hO := HO.out
          rw [show k * i + i = (k + 1) * i by rw [Nat.add_mul, Nat.one_mul]] at hO
          have HO2 := Lib.hid hO
          clear hO HO
          go_wp2_with fail
          go_roundw
          case rel => exact ⟨k + 1, _, by omega, by go_num, HO2, M0⟩
          case measure => simp [intOf]; omega
    · obtain rfl : k = H2 := by omega
      have HO2 := HO
      clear HO
      go_wp2_with ((with_reducible refine (?_ : Go.wpList _ _ _ (_ :: _) _ _)); (first | go_skip | (refine wpL_ldc M0 rfl rfl rfl ?_) | (refine wpL_stM (v := fv W2 k (.slice a5 (k * W2) c5)) M0 rfl rfl rfl rfl (wr_f _ _ _ _ _ _ _ _) (.tail _ _ _ _ _ _ _ (Upd.head _ _ _ _ _)) ?_; intro w4 M4 hT4)))
      have hO4 := HO2.out.turnedB (M0.has (.tail _ _ _ _ _ (Has.head _ _ _ _))) (by decide) (by decide) hT4
      refine bodyPost_ret (res_cell rfl M4 rfl (.tail _ _ _ _ _ (Has.head _ _ _ _)) (rd_f _ _ _)) rfl ?_
      exact ⟨a5, c5, by rw [HTL.out], by rw [HTL.out]; exact hO4.isU, M4.below⟩
end Go.Proofs.YtanblpfpkohghaaDoor

/-
  One number less another one: the reference's.
-/
namespace Go.Th.Ex
open Go.Th.Dig
/-- So many digits of the difference were told; r is borrowed. -/
structure Les (x y : List Nat) (i r : Nat) (pre : List Nat) : Prop where
  len : pre.length = i
  lt : ∀ d ∈ pre, d < 256
  sum : val 256 pre + val 256 (y.take i) = val 256 (x.take i) + 256 ^ i * r
  le : r ≤ 1
theorem Les.start (x y : List Nat) : Les x y 0 0 [] := ⟨rfl, by simp, by simp [val], by omega⟩
theorem take_val17 (l : List Nat) (i : Nat) : val 256 (l.take (i + 1)) = val 256 (l.take i) + 256 ^ i * l.getD i 0 := by
  by_cases h : i < l.length
  · rw [List.take_add_one, List.getElem?_eq_getElem h, Option.toList_some, val_snoc, List.length_take, Nat.min_eq_left (by omega), List.getD_eq_getElem?_getD, List.getElem?_eq_getElem h]; rfl
  · rw [List.take_of_length_le (by omega), List.take_of_length_le (by omega), List.getD_eq_getElem?_getD, List.getElem?_eq_none (by omega)]; simp
theorem Les.step {x y : List Nat} {i r d r' : Nat} {pre : List Nat} (h : Les x y i r pre) (hd : d < 256) (hr : r' ≤ 1) (he : d + r + y.getD i 0 = x.getD i 0 + 256 * r') : Les x y (i + 1) r' (pre ++ [d]) := by
  refine ⟨by simp [h.len], ?_, ?_, hr⟩
  · intro e he
    rcases List.mem_append.1 he with he | he
    · exact h.lt e he
    · rw [List.mem_singleton.1 he]; exact hd
  · have h1 := h.sum
    rw [val_snoc, h.len, take_val17, take_val17, Nat.pow_succ, Nat.mul_assoc]
    have h2 : 256 ^ i * d + 256 ^ i * r + 256 ^ i * y.getD i 0 = 256 ^ i * x.getD i 0 + 256 ^ i * (256 * r') := by rw [← Nat.mul_add, ← Nat.mul_add, ← Nat.mul_add, he]
    omega
theorem Les.done {x y : List Nat} {r : Nat} {pre : List Nat} (h : Les x y x.length r pre) (hy : y.length ≤ x.length) (hle : val 256 y ≤ val 256 x) : val 256 pre = val 256 x - val 256 y := by
  have h1 := h.sum
  rw [List.take_length, List.take_of_length_le hy] at h1
  have h2 := val_lt (B := 256) (by decide) h.lt
  rw [h.len] at h2
  have hr := h.le
  rcases (show r = 0 ∨ r = 1 by omega) with rfl | rfl
  · omega
  · omega
end Go.Th.Ex
namespace Go.Proofs.YtanblpfpkohghaaDoor
open Go Go.RowKit Go.Th Go.Th.Dig Go.Th.Ex

set_option maxRecDepth 20000 in
set_option maxHeartbeats 3200000 in
theorem less17_go (a b : Option Addr) (n m ca cb : Nat) (x y : List Nat) (s : Nat) (w : World) (ha : Sl w 1 (.slice a n ca) n (digs x)) (hb : Sl w 1 (.slice b m cb) m (digs y)) (hn : n ≤ 100000) (hx : ∀ d ∈ x, d < 256) (hy : ∀ d ∈ y, d < 256) (hmn : m ≤ n) (hle : val 256 y ≤ val 256 x) (hs : s = val 256 x - val 256 y) :
    AnsU 50 #[.slice a n ca, .slice b m cb] w s := by
  have lx := sl_len ha
  have ly := sl_len hb
  have HA := Lib.hid ha
  have HB := Lib.hid hb
  have HX := Lib.hid (getD_lt hx)
  have HY := Lib.hid (getD_lt hy)
  have HZ := Lib.hid (fun i (h : ¬ i < m) => (show y.getD i 0 = 0 by rw [List.getD_eq_getElem?_getD, List.getElem?_eq_none (by omega)]; rfl))
  have HD := Lib.hid (fun (r : Nat) (pre : List Nat) (h : Les x y n r pre) => (show val 256 pre = s by
    rw [hs]; rw [← lx] at h; exact h.done (by omega) hle))
  have LX := Lib.hid lx
  have LY := Lib.hid ly
  have mx1 := ha.max
  have mx2 := hb.max
  clear ha hb hx hy hle hs lx ly
  go_enter Tryd.func50, Tryd.ntmps50
  go_wp2_with fail
  go_loopw [5, 6, 7] (fun v c k wr => ∃ (i r : Nat) (pre : List Nat), i ≤ n ∧ r ≤ 1 ∧ c = .int .i64 r ∧ k = .int .i64 i ∧ Hid (Les x y i r pre) ∧ wr.ownsRow w.heap.size 3 1 v i (digs pre) ∧ Below w.heap.size w wr) (fun _ _ k _ => n - (intOf k).toNat)
  case atStart => exact ⟨0, 0, [], Nat.zero_le _, by omega, rfl, rfl, Lib.hid (Les.start x y), World.ownsRow_nil _ _ _ _, Below.refl _ _⟩
  case round =>
    obtain ⟨i, r, pre, hi, hr, rfl, rfl, HI, ho, hB⟩ := hrel
    have hsz := hB.size
    by_cases hlt : i < n
    · obtain ⟨b1, o1, rfl, hb1, cu⟩ := cell_dig (HA.out.below hB) i (by rw [LX.out]; exact hlt)
      have hu := HX.out i
      have hv := HY.out i
      have hz := HZ.out i
      have hst : ∀ d r', d < 256 → r' ≤ 1 → d + r + y.getD i 0 = x.getD i 0 + 256 * r' → Les x y (i + 1) r' (pre ++ [d]) := fun d r' h1 h2 h3 => HI.out.step h1 h2 h3
      have cvv : i < m → ∃ b2 o2, b = some ⟨b2, o2, none⟩ ∧ wr.cell? ⟨b2, o2 + i, none⟩ = some (.int .i64 ((y.getD i 0 : Nat) : Int)) := fun h => by
        obtain ⟨b2, o2, e, _, c⟩ := cell_dig (HB.out.below hB) i (by rw [LY.out]; exact h)
        exact ⟨b2, o2, e, c⟩
      obtain ⟨u, eu⟩ : ∃ u, u = x.getD i 0 := ⟨_, rfl⟩
      obtain ⟨v, ev⟩ : ∃ v, v = y.getD i 0 := ⟨_, rfl⟩
      rw [← eu] at cu hu hst
      rw [← ev] at hv hz hst cvv
      have hi0 : (i : Int) < n := by omega
      have hb63 : i + 1 ≤ maxLen := by unfold maxLen; omega
      have hb8 : (i + 1) * 8 ≤ 140737488355328 := by omega
      obtain ⟨D0, hD0⟩ : ∃ D0 : Int, (u : Int) - (r : Int) - (v : Int) = D0 := ⟨_, rfl⟩
      obtain ⟨d, r', hd, hr', HN, HNE⟩ : ∃ d r' : Nat, d < 256 ∧ r' ≤ 1 ∧ Hid (Les x y (i + 1) r' (pre ++ [d])) ∧ Hid ((D0 < 0 ∧ D0 + 256 = (d : Int) ∧ r' = 1) ∨ (¬ D0 < 0 ∧ D0 = (d : Int) ∧ r' = 0)) := by
        by_cases h : D0 < 0
        · exact ⟨(D0 + 256).toNat, 1, by omega, by omega, Lib.hid (hst _ 1 (by omega) (by omega) (by omega)), Lib.hid (.inl ⟨h, by omega, rfl⟩)⟩
        · exact ⟨D0.toNat, 0, by omega, by omega, Lib.hid (hst _ 0 (by omega) (by omega) (by omega)), Lib.hid (.inr ⟨h, by omega, rfl⟩)⟩
      have HC := Lib.hid cvv
      have HDD := Lib.hid hD0
      have HZZ := Lib.hid hz
      clear eu ev hst HI cvv hD0 hz
      go_upto_if 24 with fail
      go_cut [8] from 9 to 38 (fun s8 wx => wx = wr ∧ s8 = .int .i64 D0)
      case first =>
        have hDD := HDD.out
        by_cases him : i < m
        · obtain ⟨b2, o2, rfl, cv⟩ := HC.out him
          have him0 : (i : Int) < m := by omega
          have e1 := HDD
          clear hDD
          have hDD := HDD.out
          go_wp2_with fail
          go_meet
          exact ⟨rfl, by first | rfl | rw [hDD]⟩
        · have hv0 := HZZ.out him
          have him0 : ¬ (i : Int) < m := by omega
          have hDD2 : (u : Int) - (r : Int) = D0 := by omega
          clear hDD
          go_wp2_with fail
          go_meet
          exact ⟨rfl, by first | rfl | rw [hDD2]⟩
      obtain ⟨rfl, rfl⟩ := hcut
      clear HC HDD HZZ cu
      go_upto_if 32 with fail
      go_cut [6, 8] from 9 to 38 (fun s6 s8 wx => wx = wc ∧ s6 = .int .i64 (r' : Int) ∧ s8 = .int .i64 (d : Int))
      case first =>
        rcases HNE.out with ⟨h1, h2, rfl⟩ | ⟨h1, h2, rfl⟩
        · go_wp2_with fail
          go_meet
          exact ⟨rfl, rfl, by first | rfl | rw [h2]⟩
        · go_wp2_with fail
          go_meet
          exact ⟨rfl, rfl, by first | rfl | rw [h2]⟩
      obtain ⟨rfl, rfl, rfl⟩ := hcut
      clear HNE
      go_wp2_with (at_builtin; refine wpList_app Edig rfl (.tmp 35) (.tmp 37) rfl w.heap.size rfl (ho.alloc _) rfl (Sl.one _ _ _) (by intro u hu; simp at hu; subst hu; rfl) hb63 hb8 (by simp; omega) ?_)
      intro v2 w3 ho3 hg3 _
      have hB3 := hB.trans (app_below ho hsz hg3)
      clear ho hg3 hB
      go_wp2_with fail
      go_roundw
      case rel => exact ⟨i + 1, r', _, by omega, hr', by go_num, by go_num, HN, by rw [digs_snoc]; exact_mod_cast ho3, hB3⟩
      case measure => simp [intOf]; omega
    · obtain rfl : i = n := by omega
      have hv := HD.out r pre HI.out
      have S0 := Sl.of_own ho
      obtain ⟨va, vc, rfl, _⟩ := id S0
      have HTY := Lib.hid (tyR_own ho (dg 256 s).length)
      have CT := Lib.hid (trim_any va i vc pre wr S0 HI.out.lt (by omega))
      rw [hv] at CT
      clear hv S0 HI HX HY HD
      go_wp2_with fail
      refine CT.out.mono ?_
      rintro e w1 ⟨rfl, rfl, S1⟩
      have S2 : Is16 wr (.slice va (dg 256 s).length vc) s := S1
      have HS2 := Lib.hid S2
      clear S1 S2 CT ho
      go_wp2_with fail
      go_ret
      exact ⟨_, rfl, ⟨HS2.out, HTY.out⟩, hB⟩
theorem dg_len_mono {p q : Nat} (h : q ≤ p) : (dg 256 q).length ≤ (dg 256 p).length := by
  refine dg_len_le (by decide) (Nat.lt_of_le_of_lt h ?_)
  have := val_lt (B := 256) (by decide) (dg_lt (B := 256) (by decide) p)
  rwa [dg_val (by decide)] at this
theorem less17_any (v u : Value) (p q : Nat) (w : World) (hp : D16 w v p) (hq : D16 w u q) (h1 : (dg 256 p).length ≤ 100000) (h : q ≤ p) : AnsU 50 #[v, u] w (p - q) := by
  obtain ⟨a, ca, rfl, _⟩ := id hp.1
  obtain ⟨b, cb, rfl, _⟩ := id hq.1
  exact less17_go a b _ _ ca cb _ _ _ w hp.1 hq.1 h1 (dg_lt (by decide) p) (dg_lt (by decide) q) (dg_len_mono h) (by rw [dg_val (by decide), dg_val (by decide)]; exact h) (by rw [dg_val (by decide), dg_val (by decide)])
end Go.Proofs.YtanblpfpkohghaaDoor

/-
  Two filters that are one, each divided by its sum: the reference's.
-/
namespace Go.Proofs.YtanblpfpkohghaaDoor
open Go Go.RowKit Go.Th Go.Th.Dig Go.Th.Ex Go.Th.Grid

theorem dg_len_pos {p : Nat} : 0 < (dg 256 p).length ↔ p ≠ 0 := by
  constructor
  · rintro h rfl
    simp [dg_0] at h
  · intro h
    apply Decidable.byContradiction
    intro h2
    have := dg_val (B := 256) (by decide) p
    have h0 : dg 256 p = [] := List.length_eq_zero_iff.1 (by omega)
    rw [h0] at this
    exact h this.symm
set_option maxRecDepth 20000 in
set_option maxHeartbeats 6400000 in
theorem ralike_any (x y : Int) (a b : Option Addr) (n ca cb k : Nat) (us vs : List Nat) (hl : Lt k us) (hm : Lt k vs) (hk : k ≤ 8000) (hn : n ≤ 4096) (hp : ∀ i, us.getD i 0 * vs.sum = vs.getD i 0 * us.sum) (hz : us.sum = 0 ↔ vs.sum = 0) (w : World) (hU : IsU w a n ca us) (hV : IsU w b n cb vs) :
    Calls Tryd.prog 31 #[fv x y (.slice a n ca), fv x y (.slice b n cb)] w fun e w' => e = .returned (.bool true) ∧ Below w.heap.size w w' := by
  have hsu : us.sum < 2 ^ (k + 13) := by have h := sumN_lt hl us.length (m := 13) (by have := hU.len; omega); rwa [sumN_all] at h
  have hsv : vs.sum < 2 ^ (k + 13) := by have h := sumN_lt hm vs.length (m := 13) (by have := hV.len; omega); rwa [sumN_all] at h
  have HE1 := Lib.hid (fun i => Nat.le_trans (d16 (m := 1000) (hl i) (by omega)) (show 1000 ≤ 10000 by omega))
  have HE2 := Lib.hid (fun i => Nat.le_trans (d16 (m := 1000) (hm i) (by omega)) (show 1000 ≤ 10000 by omega))
  have HP := Lib.hid (fun i => Nat.le_trans (d16 (m := 2010) (mul_pow2 (hl i) hsv) (by omega)) (show 2010 ≤ 1000000 by omega))
  have C1 := Lib.hid (fun wx hx => rsum_any x y a n ca k us hl hk hn wx hx)
  have C2 := Lib.hid (fun wx hx => rsum_any x y b n cb k vs hm hk hn wx hx)
  obtain ⟨s, hs⟩ : ∃ s, s = us.sum := ⟨_, rfl⟩
  obtain ⟨t, ht⟩ : ∃ t, t = vs.sum := ⟨_, rfl⟩
  rw [← hs] at hp hz hsu C1
  rw [← ht] at hp hz hsv C2 HP
  have HS := Lib.hid (Nat.le_trans (d16 (m := 1002) hsu (by omega)) (show 1002 ≤ 10000 by omega))
  have HT := Lib.hid (Nat.le_trans (d16 (m := 1002) hsv (by omega)) (show 1002 ≤ 10000 by omega))
  have HPR := Lib.hid hp
  have HZ := Lib.hid hz
  have HU := Lib.hid hU
  have HV := Lib.hid hV
  have hmx := hU.max
  have hmx2 := hV.max
  have M0 := Mem.start w
  clear hl hm hk hp hz hU hV hsu hsv hs ht
  go_enter Tryd.func31, Tryd.ntmps31
  go_upto_region 3 with (((with_reducible refine (?_ : Go.wpList _ _ _ (_ :: _) _ _)); (first | go_skip | (refine wpL_bx M0 rfl rfl rfl rfl ?_; clear M0; intro g1 w1 M1) | (refine wpL_alc M0 rfl rfl ?_; clear M0; intro g1 w1 M1) | (refine wpL_ldc M0 rfl rfl rfl ?_) | (refine wpL_lgc M0 rfl rfl rfl ?_) | (refine wpL_stc M0 rfl rfl rfl rfl ?_; clear M0; intro w' M0) | (refine wpL_sti M0 rfl rfl rfl rfl ?_; clear M0; intro w' M0) | (refine wpL_sth M0 rfl rfl rfl rfl (wr_minus _ _ _) ?_; clear M0; intro w' M0) | (refine wpL_bx M1 rfl rfl rfl rfl ?_; clear M1; intro g2 w2 M2) | (refine wpL_alc M1 rfl rfl ?_; clear M1; intro g2 w2 M2) | (refine wpL_ldc M1 rfl rfl rfl ?_) | (refine wpL_lgc M1 rfl rfl rfl ?_) | (refine wpL_stc M1 rfl rfl rfl rfl ?_; clear M1; intro w' M1) | (refine wpL_sti M1 rfl rfl rfl rfl ?_; clear M1; intro w' M1) | (refine wpL_sth M1 rfl rfl rfl rfl (wr_minus _ _ _) ?_; clear M1; intro w' M1) | (refine wpL_ldc M2 rfl rfl rfl ?_) | (refine wpL_lgc M2 rfl rfl rfl ?_) | (refine wpL_stc M2 rfl rfl rfl rfl ?_; clear M2; intro w' M2) | (refine wpL_sti M2 rfl rfl rfl rfl ?_; clear M2; intro w' M2) | (refine wpL_sth M2 rfl rfl rfl rfl (wr_minus _ _ _) ?_; clear M2; intro w' M2))))
  go_wp2_with ((with_reducible refine (?_ : Go.wpList _ _ _ (_ :: _) _ _)); (first | go_skip | (refine wpL_ldc M2 rfl rfl rfl ?_) | (refine wpL_lgc M2 rfl rfl rfl ?_) | (refine wpL_stc M2 rfl rfl rfl rfl ?_; clear M2; intro w' M2) | (refine wpL_sti M2 rfl rfl rfl rfl ?_; clear M2; intro w' M2) | (refine wpL_sth M2 rfl rfl rfl rfl (wr_minus _ _ _) ?_; clear M2; intro w' M2)))
  refine (C1.out _ (HU.out.below M2.below)).mono ?_
  rintro e w3 ⟨v3, rfl, hv3, hA⟩
  have M3 := M2.call hA
  obtain ⟨aS, nS, cS, rfl, lS, hS⟩ := hv3.form
  have LS := Lib.hid lS
  have HSS := Lib.hid hS
  clear hv3 hA hS lS M2
  go_wp2_with ((with_reducible refine (?_ : Go.wpList _ _ _ (_ :: _) _ _)); (first | go_skip | (refine wpL_ldc M3 rfl rfl rfl ?_) | (refine wpL_lgc M3 rfl rfl rfl ?_) | (refine wpL_stc M3 rfl rfl rfl rfl ?_; clear M3; intro w' M3) | (refine wpL_sti M3 rfl rfl rfl rfl ?_; clear M3; intro w' M3) | (refine wpL_sth M3 rfl rfl rfl rfl (wr_minus _ _ _) ?_; clear M3; intro w' M3)))
  refine (C2.out _ (HV.out.below M3.below)).mono ?_
  rintro e w4 ⟨v4, rfl, hv4, hA⟩
  have M4 := M3.call hA
  obtain ⟨aT, nT, cT, rfl, lT, hT⟩ := hv4.form
  have LT := Lib.hid lT
  have HTT := Lib.hid hT
  have HSS4 := Lib.hid (HSS.out.below hA)
  clear hv4 hA hT lT M3 HSS
  go_wp2_with ((with_reducible refine (?_ : Go.wpList _ _ _ (_ :: _) _ _)); (first | go_skip | (refine wpL_ldc M4 rfl rfl rfl ?_) | (refine wpL_lgc M4 rfl rfl rfl ?_) | (refine wpL_stc M4 rfl rfl rfl rfl ?_; clear M4; intro w' M4) | (refine wpL_sti M4 rfl rfl rfl rfl ?_; clear M4; intro w' M4) | (refine wpL_sth M4 rfl rfl rfl rfl (wr_minus _ _ _) ?_; clear M4; intro w' M4)))
  go_loopw [7] (fun c wr => ∃ (i : Nat), i ≤ n ∧ c = .int .i64 i ∧ Hid (D16 wr (.slice aS nS cS) s) ∧ Hid (D16 wr (.slice aT nT cT) t) ∧ Mem w wr [(g2, 36, fc x y (.slice b n cb)), (g1, 36, fc x y (.slice a n ca))]) (fun c _ => n - (intOf c).toNat)
  case atStart => exact ⟨0, Nat.zero_le _, rfl, HSS4, HTT, M4⟩
  case round =>
    clear M4 HSS4 HTT
    obtain ⟨i, hi, rfl, HSI, HTI, M0⟩ := hrel
    have c1 := M0.cell (.tail _ _ _ _ _ (Has.head _ _ _ _)) (i := 2) rfl
    have c2 := M0.cell (Has.head _ _ _ _) (i := 2) rfl
    by_cases hlt : i < n
    · obtain ⟨b1, o1, d, e, f0, rfl, hb1, cu, hd⟩ := (HU.out.below M0.below).cell hlt
      obtain ⟨b2, o2, d', e', f0', rfl, hb2, cv, hd'⟩ := (HV.out.below M0.below).cell hlt
      have h1 := HE1.out i
      have h2 := HE2.out i
      have h3 := HP.out i
      have h4 := HPR.out i
      obtain ⟨u, hu⟩ : ∃ u, u = us.getD i 0 := ⟨_, rfl⟩
      obtain ⟨v, hv⟩ : ∃ v, v = vs.getD i 0 := ⟨_, rfl⟩
      rw [← hu] at hd h1 h3 h4
      rw [← hv] at hd' h2 h4
      have H1 := Lib.hid h1
      have H2 := Lib.hid h2
      have H3 := Lib.hid h3
      have H4 := Lib.hid h4
      have HD := Lib.hid hd
      have HD' := Lib.hid hd'
      have hi0 : (i : Int) < n := by omega
      clear hu hv hd hd' h1 h2 h3 h4
      go_wp2_with fail
      refine wp_region_held_drew (S := (fun w' : World => w'.cell? ⟨g1, 2, none⟩ = some (.slice (some ⟨b1, o1, none⟩) n ca) ∧ w'.cell? ⟨g2, 2, none⟩ = some (.slice (some ⟨b2, o2, none⟩) n cb) ∧ w'.cell? ⟨b1, o1 + i, none⟩ = some (.slice d e f0) ∧ w'.cell? ⟨b2, o2 + i, none⟩ = some (.slice d' e' f0'))) (by kernel_rfl) (⟨c1, c2, cu, cv⟩) (fun hHeld => ?_)
      refine tkT 0 ?v61 ?hy61 hHeld ?rest61
      case hy61 => (intro w' hSw; (try dsimp only at hSw); go_simp; (try with_reducible rfl))
      try simp only [Act.put, puts]
      refine tkT 1 ?v62 ?hy62 hHeld ?rest62
      case hy62 => (intro w' hSw; (try dsimp only at hSw); go_simp; (try with_reducible rfl))
      try simp only [Act.put, puts]
      refine tkT 2 ?v63 ?hy63 hHeld ?rest63
      case hy63 => (intro w' hSw; (try dsimp only at hSw); go_simp; (try with_reducible rfl))
      try simp only [Act.put, puts]
      refine tkT 3 ?v64 ?hy64 hHeld ?rest64
      case hy64 => (intro w' hSw; (try dsimp only at hSw); go_simp; (try with_reducible rfl))
      try simp only [Act.put, puts]
      refine tkT 4 ?v65 ?hy65 hHeld ?rest65
      case hy65 => (intro w' hSw; (try dsimp only at hSw); go_simp; (try with_reducible rfl))
      try simp only [Act.put, puts]
      refine tkT 5 ?v66 ?hy66 hHeld ?rest66
      case hy66 => (intro w' hSw; (try dsimp only at hSw); go_simp; (try with_reducible rfl))
      try simp only [Act.put, puts]
      refine tkT 7 ?v67 ?hy67 hHeld ?rest67
      case hy67 => (intro w' hSw; (try dsimp only at hSw); go_simp; (try with_reducible rfl))
      try simp only [Act.put, puts]
      refine tkT 8 ?v68 ?hy68 hHeld ?rest68
      case hy68 => (intro w' hSw; (try dsimp only at hSw); go_simp; (try with_reducible rfl))
      try simp only [Act.put, puts]
      refine tkT 9 ?v69 ?hy69 hHeld ?rest69
      case hy69 => (intro w' hSw; (try dsimp only at hSw); go_simp; (try with_reducible rfl))
      try simp only [Act.put, puts]
      refine tkT 10 ?v70 ?hy70 hHeld ?rest70
      case hy70 => (intro w' hSw; (try dsimp only at hSw); go_simp; (try with_reducible rfl))
      try simp only [Act.put, puts]
      refine tkT 11 ?v71 ?hy71 hHeld ?rest71
      case hy71 => (intro w' hSw; (try dsimp only at hSw); go_simp; (try with_reducible rfl))
      try simp only [Act.put, puts]
      refine tkT 12 ?v72 ?hy72 hHeld ?rest72
      case hy72 => (intro w' hSw; (try dsimp only at hSw); go_simp; (try with_reducible rfl))
      try simp only [Act.put, puts]
      refine wpAnyH_ready (rs := [6]) (by kernel_rfl) (by simp) ?_
      refine AllReadyH.cons rfl (fun K hK => ?_) AllReadyH.nil
      go_simp
      refine (mul_u _ _ u t _ (D16.below (w := wr) (w' := wr.drew) HD.out ((Below.refl wr.heap.size wr).drew)) (D16.below (w := wr) (w' := wr.drew) HTI.out ((Below.refl wr.heap.size wr).drew)) H1.out HT.out).mono ?_
      rintro e w6 ⟨v6, rfl, hv6, hA⟩
      have M6 := M0.drew.call hA
      obtain ⟨a6, n6, c6, rfl, -, hd6⟩ := hv6.form
      have HP6 := Lib.hid hd6
      have HD6 := Lib.hid (D16.below (w := wr.drew) HD'.out hA)
      have HS6 := Lib.hid (D16.below (w := wr.drew) HSI.out hA)
      have HT6 := Lib.hid (D16.below (w := wr.drew) HTI.out hA)
      have cu6 := (hA.cell (p := ⟨b1, o1 + i, none⟩) hb1).trans cu
      have cv6 := (hA.cell (p := ⟨b2, o2 + i, none⟩) hb2).trans cv
      have hb16 : b1 < w6.heap.size := Nat.lt_of_lt_of_le hb1 hA.size
      have hb26 : b2 < w6.heap.size := Nat.lt_of_lt_of_le hb2 hA.size
      clear hv6 hd6 hA
      try go_wp2_with fail
      refine hK.out _ _ (⟨M6.cell (.tail _ _ _ _ _ (Has.head _ _ _ _)) (i := 2) rfl, M6.cell (Has.head _ _ _ _) (i := 2) rfl, cu6, cv6⟩) (fun hHeld => ?_)
      clear hK K
      try simp only [Act.put, puts]
      refine wpAnyH_ready (rs := [13]) (by kernel_rfl) (by simp) ?_
      refine AllReadyH.cons rfl (fun K hK => ?_) AllReadyH.nil
      go_simp
      refine (mul_u _ _ v s _ HD6.out HS6.out H2.out HS.out).mono ?_
      rw [← H4.out]
      rintro e w7 ⟨v7, rfl, hv7, hA⟩
      have M7 := M6.call hA
      obtain ⟨a7, n7, c7, rfl, -, hd7⟩ := hv7.form
      have HP7 := Lib.hid hd7
      have HP67 := Lib.hid (HP6.out.below hA)
      have HS7 := Lib.hid (HS6.out.below hA)
      have HT7 := Lib.hid (HT6.out.below hA)
      have cu7 := (hA.cell (p := ⟨b1, o1 + i, none⟩) hb16).trans cu6
      have cv7 := (hA.cell (p := ⟨b2, o2 + i, none⟩) hb26).trans cv6
      have hb17 : b1 < w7.heap.size := Nat.lt_of_lt_of_le hb16 hA.size
      have hb27 : b2 < w7.heap.size := Nat.lt_of_lt_of_le hb26 hA.size
      clear hv7 hd7 hA
      try go_wp2_with fail
      refine hK.out _ _ (⟨M7.cell (.tail _ _ _ _ _ (Has.head _ _ _ _)) (i := 2) rfl, M7.cell (Has.head _ _ _ _) (i := 2) rfl, cu7, cv7⟩) (fun hHeld => ?_)
      clear hK K
      try simp only [Act.put, puts]
      refine wpAnyH_ready (rs := [14]) (by kernel_rfl) (by simp) ?_
      refine AllReadyH.cons rfl (fun K hK => ?_) AllReadyH.nil
      go_simp
      refine (refSame16_any _ _ (u * t) (u * t) _ HP67.out.1 HP7.out.1 H3.out H3.out).mono ?_
      rw [decide_eq_true rfl]
      rintro e w8 ⟨rfl, hA⟩
      have M8 := M7.call hA
      have HS8 := Lib.hid (HS7.out.below hA)
      have HT8 := Lib.hid (HT7.out.below hA)
      have cu8 := (hA.cell (p := ⟨b1, o1 + i, none⟩) hb17).trans cu7
      have cv8 := (hA.cell (p := ⟨b2, o2 + i, none⟩) hb27).trans cv7
      clear hA
      try go_wp2_with fail
      refine hK.out _ _ (⟨M8.cell (.tail _ _ _ _ _ (Has.head _ _ _ _)) (i := 2) rfl, M8.cell (Has.head _ _ _ _) (i := 2) rfl, cu8, cv8⟩) (fun hHeld => ?_)
      clear hK K
      try simp only [Act.put, puts]
      refine tkT 15 ?v76 ?hy76 hHeld ?rest76
      case hy76 => (intro w' hSw; (try dsimp only at hSw); go_simp; (try with_reducible rfl))
      try simp only [Act.put, puts]
      refine wpAnyH_done (by kernel_rfl) ?_ _
      clear cu cu6 cu7 cu8 cv cv6 cv7 cv8 M0 M6 M7 HSI HTI HS6 HT6 HS7 HT7 HP6 HP7 HP67 HD HD' HD6 c1 c2
      go_wp2_with fail
      go_roundw
      case rel => exact ⟨i + 1, by omega, by go_num, HS8, HT8, M8⟩
      case measure => simp [intOf]; omega
    · obtain rfl : i = n := by omega
      have hz := HZ.out
      have e1 := dg_len_pos (p := s)
      have e2 := dg_len_pos (p := t)
      rw [← LS.out] at e1
      rw [← LT.out] at e2
      rcases (show (0 < nS ∧ 0 < nT) ∨ (¬ 0 < nS ∧ ¬ 0 < nT) by omega) with ⟨h1, h2⟩ | ⟨h1, h2⟩
      · have g1' : decide ((0 : Int) < (nS : Int)) = true := decide_eq_true (by omega)
        have g2' : decide ((0 : Int) < (nT : Int)) = true := decide_eq_true (by omega)
        clear hz e1 e2 LS LT HSI HTI HZ
        go_wp2_with fail
        go_ret
        exact ⟨rfl, M0.below⟩
      · have g1' : decide ((0 : Int) < (nS : Int)) = false := decide_eq_false (by omega)
        have g2' : decide ((0 : Int) < (nT : Int)) = false := decide_eq_false (by omega)
        clear hz e1 e2 LS LT HSI HTI HZ
        go_wp2_with fail
        go_ret
        exact ⟨rfl, M0.below⟩
end Go.Proofs.YtanblpfpkohghaaDoor
