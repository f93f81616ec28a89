/-
  Texts in one: NatSpec, NatA, NatB, NatC, NatD, NatE, NatF, NatG.
-/
import Derived.Test.YtallbegibdlpaaaRows
import Derived.Test.YtallbegibdlpaaaPackBits
import Derived.Laws.OwnMore
set_option linter.unusedVariables false
set_option linter.unusedSimpArgs false

/-
  Numbers by their digits, the lowest first, to any base; plain.
-/
namespace Go.Th.Dig

/-- What digits (of any size) are together. -/
def val (B : Nat) : List Nat → Nat
  | [] => 0
  | d :: r => d + B * val B r
theorem val_app (B : Nat) (a b : List Nat) : val B (a ++ b) = val B a + B ^ a.length * val B b := by
  induction a with
  | nil => simp [val]
  | cons d r ih => rw [List.cons_append, val, val, ih, List.length_cons, Nat.pow_succ, Nat.mul_add, Nat.add_assoc, Nat.mul_comm (B ^ r.length) B, Nat.mul_assoc]
theorem val_snoc (B : Nat) (a : List Nat) (d : Nat) : val B (a ++ [d]) = val B a + B ^ a.length * d := by rw [val_app]; simp [val]
theorem val_zeros (B n : Nat) : val B (List.replicate n 0) = 0 := by
  induction n with
  | zero => rfl
  | succ n ih => rw [List.replicate_succ, val, ih, Nat.mul_zero]
theorem val_lt {B : Nat} (hB : 0 < B) {l : List Nat} (h : ∀ d ∈ l, d < B) : val B l < B ^ l.length := by
  induction l with
  | nil => simp [val]
  | cons d r ih =>
    have h1 := h d (by simp)
    have h2 := ih (fun x hx => h x (by simp [hx]))
    rw [val, List.length_cons, Nat.pow_succ]
    have h3 : B * (val B r + 1) ≤ B * B ^ r.length := Nat.mul_le_mul_left _ h2
    rw [Nat.mul_add] at h3
    rw [Nat.mul_comm (B ^ r.length) B]
    omega
theorem val_drop (B : Nat) (l : List Nat) (i : Nat) (h : i < l.length) : val B (l.drop i) = l[i] + B * val B (l.drop (i + 1)) := by
  rw [List.drop_eq_getElem_cons h, val]
theorem val_take (B : Nat) (l : List Nat) (i : Nat) : val B l = val B (l.take i) + B ^ (min i l.length) * val B (l.drop i) := by
  have h := val_app B (l.take i) (l.drop i)
  rw [List.take_append_drop, List.length_take] at h
  exact h

/-- The digits of a number, no nought behind the highest one. -/
def dgs (B : Nat) : Nat → Nat → List Nat
  | 0, _ => []
  | f + 1, n => if n = 0 then [] else (n % B) :: dgs B f (n / B)
def dg (B n : Nat) : List Nat := dgs B n n
theorem dgs_lt {B : Nat} (hB : 0 < B) : ∀ f n, ∀ d ∈ dgs B f n, d < B
  | 0, n, d, h => by cases h
  | f + 1, n, d, h => by
    unfold dgs at h
    split at h
    · cases h
    · rcases List.mem_cons.1 h with rfl | h
      · exact Nat.mod_lt _ hB
      · exact dgs_lt hB f _ d h
theorem dgs_val {B : Nat} (hB : 2 ≤ B) : ∀ f n, n ≤ f → val B (dgs B f n) = n
  | 0, n, h => by
    obtain rfl : n = 0 := by omega
    rfl
  | f + 1, n, h => by
    unfold dgs
    split
    · rename_i h0; rw [h0]; rfl
    · rename_i h0
      have : n / B < n := Nat.div_lt_self (by omega) (by omega)
      rw [val, dgs_val hB f _ (by omega)]
      exact Nat.mod_add_div n B
theorem dgs_last {B : Nat} (hB : 2 ≤ B) : ∀ f n, n ≤ f → ∀ d, (dgs B f n).getLast? = some d → d ≠ 0
  | 0, n, h, d, hd => by cases hd
  | f + 1, n, h, d, hd => by
    unfold dgs at hd
    split at hd
    · cases hd
    · rename_i h0
      have h1 : n / B < n := Nat.div_lt_self (by omega) (by omega)
      rw [List.getLast?_cons] at hd
      cases hr : (dgs B f (n / B)).getLast? with
      | some e =>
        rw [hr] at hd
        cases hd
        exact dgs_last hB f _ (by omega) _ hr
      | none =>
        rw [hr] at hd
        cases hd
        have hn : dgs B f (n / B) = [] := List.getLast?_eq_none_iff.1 hr
        have hv := dgs_val hB f (n / B) (by omega)
        rw [hn] at hv
        have hq : n / B = 0 := hv.symm
        have hm := Nat.mod_add_div n B
        show n % B ≠ 0
        intro hz
        rw [hz, hq, Nat.mul_zero] at hm
        exact h0 hm.symm
theorem dg_lt {B : Nat} (hB : 0 < B) (n : Nat) : ∀ d ∈ dg B n, d < B := dgs_lt hB n n
theorem dg_val {B : Nat} (hB : 2 ≤ B) (n : Nat) : val B (dg B n) = n := dgs_val hB n n (Nat.le_refl _)
theorem dg_last {B : Nat} (hB : 2 ≤ B) (n : Nat) : ∀ d, (dg B n).getLast? = some d → d ≠ 0 := dgs_last hB n n (Nat.le_refl _)
theorem dg_0 (B : Nat) : dg B 0 = [] := rfl

theorem val_0 {B : Nat} (hB : 0 < B) : ∀ l : List Nat, val B l = 0 → ∀ d ∈ l, d = 0
  | [], _, d, hd => by cases hd
  | x :: r, h0, d, hd => by
    rw [val] at h0
    have h1 : x = 0 := by omega
    have h2 : B * val B r = 0 := by omega
    have h3 : val B r = 0 := by
      rcases Nat.mul_eq_zero.1 h2 with h | h
      · omega
      · exact h
    rcases List.mem_cons.1 hd with rfl | hd
    · exact h1
    · exact val_0 hB r h3 d hd
/-- Digits without a nought at the end are told by what they are together. -/
theorem val_inj {B : Nat} (hB : 2 ≤ B) : ∀ (a b : List Nat), (∀ d ∈ a, d < B) → (∀ d ∈ b, d < B) → (∀ d, a.getLast? = some d → d ≠ 0) → (∀ d, b.getLast? = some d → d ≠ 0) → val B a = val B b → a = b
  | [], [], _, _, _, _, _ => rfl
  | [], e :: s, _, _, _, h4, h => by
    exfalso
    exact h4 _ (List.getLast?_eq_some_getLast (l := e :: s) (by simp)) (val_0 (by omega) _ h.symm _ (List.getLast_mem _))
  | d :: r, [], _, _, h3, _, h => by
    exfalso
    exact h3 _ (List.getLast?_eq_some_getLast (l := d :: r) (by simp)) (val_0 (by omega) _ h _ (List.getLast_mem _))
  | d :: r, e :: s, h1, h2, h3, h4, h => by
    rw [val, val] at h
    have hd := h1 d (by simp)
    have he := h2 e (by simp)
    have hmod : d = e := by
      have := congrArg (· % B) h
      simp only [Nat.add_mul_mod_self_left, Nat.mod_eq_of_lt hd, Nat.mod_eq_of_lt he] at this
      exact this
    subst hmod
    have hv : val B r = val B s := Nat.eq_of_mul_eq_mul_left (by omega) (by omega : B * val B r = B * val B s)
    congr 1
    refine val_inj hB r s (fun x hx => h1 x (by simp [hx])) (fun x hx => h2 x (by simp [hx])) (fun x hx => h3 x ?_) (fun x hx => h4 x ?_) hv
    · rw [List.getLast?_cons, hx]; rfl
    · rw [List.getLast?_cons, hx]; rfl
theorem dg_of {B : Nat} (hB : 2 ≤ B) {l : List Nat} {n : Nat} (h1 : ∀ d ∈ l, d < B) (h2 : ∀ d, l.getLast? = some d → d ≠ 0) (h3 : val B l = n) : l = dg B n :=
  val_inj hB l (dg B n) h1 (dg_lt (by omega) n) h2 (dg_last hB n) (by rw [dg_val hB, h3])
/-- Digits, less the noughts at the end: so many stay. -/
theorem dg_cut {B : Nat} (hB : 2 ≤ B) {l : List Nat} {k : Nat} (h1 : ∀ d ∈ l, d < B) (hz : ∀ i, k ≤ i → i < l.length → l.getD i 0 = 0) (hk : k ≤ l.length) (hl : 0 < k → l.getD (k - 1) 0 ≠ 0) : l.take k = dg B (val B l) := by
  refine dg_of hB (fun d hd => h1 d (List.mem_of_mem_take hd)) ?_ ?_
  · intro d hd
    rw [List.getLast?_eq_getElem?, List.length_take, Nat.min_eq_left hk] at hd
    by_cases h0 : 0 < k
    · have := hl h0
      rw [List.getElem?_take, if_pos (by omega)] at hd
      rw [List.getD_eq_getElem?_getD, hd] at this
      exact this
    · obtain rfl : k = 0 := by omega
      simp at hd
  · have h := val_take B l k
    have hzero : val B (l.drop k) = 0 := by
      have : l.drop k = List.replicate (l.length - k) 0 := by
        refine List.ext_getElem (by simp) fun i h1 h2 => ?_
        have hi : k + i < l.length := by simp at h1; omega
        have := hz (k + i) (by omega) hi
        rw [List.getD_eq_getElem?_getD, List.getElem?_eq_getElem hi] at this
        simp at this ⊢
        exact this
      rw [this, val_zeros]
    rw [hzero, Nat.mul_zero, Nat.add_zero] at h
    exact h.symm
end Go.Th.Dig

/-
  Digits of 256 as a row: one of them, the noughts at the end, the same, less: the reference's.
-/
namespace Go.Proofs.Ytallbegibdlpaaa
open Go Go.RowKit Go.Th Go.Th.Dig

def digs (l : List Nat) : List Value := l.map (fun x : Nat => .int .i64 (x : Int))
theorem digs_length (l : List Nat) : (digs l).length = l.length := by simp [digs]
theorem digs_snoc (l : List Nat) (x : Nat) : digs (l ++ [x]) = digs l ++ [.int .i64 (x : Int)] := by simp [digs]
theorem digs_take (l : List Nat) (k : Nat) : (digs l).take k = digs (l.take k) := by simp [digs, List.map_take]
theorem oneCell_digs (l : List Nat) : ∀ u ∈ digs l, u.oneCell' = true := by
  intro u hu
  obtain ⟨x, _, rfl⟩ := List.mem_map.1 hu
  rfl
theorem Edig : ElemOf Try.prog 48 3 1 8 := ElemOf.mk' Try.underlying48 (z := .int .i64 0) (by kernel_rfl) rfl (by decide)
theorem cell_dig {w : World} {a : Option Addr} {n cap : Nat} {l : List Nat} (hS : Sl w 1 (.slice a n cap) n (digs l)) (i : Nat) (hi : i < l.length) :
    ∃ b o, a = some ⟨b, o, none⟩ ∧ b < w.heap.size ∧ w.cell? ⟨b, o + i, none⟩ = some (.int .i64 ((l.getD i 0 : Nat) : Int)) := by
  obtain ⟨_, _, e, _, _, _, _, h⟩ := id hS
  cases e
  obtain ⟨b, o, e, hc⟩ := h i (.int .i64 ((l.getD i 0 : Nat) : Int)) (by simp [digs, List.getElem?_eq_getElem hi])
  refine ⟨b, o, e, ?_, by simpa using hc⟩
  have := World.block_lt_of_cell? w _ hc
  simpa using this
theorem sl_len {w : World} {a : Option Addr} {n cap : Nat} {l : List Nat} (hS : Sl w 1 (.slice a n cap) n (digs l)) : l.length = n := by
  obtain ⟨_, _, e, h, _⟩ := id hS
  cases e
  simpa [digs] using h

/-- A row that lies in a block of this type. -/
def TyR (T : TypeId) (w : World) (v : Value) : Prop := ∀ x n c, v = .slice (some x) n c → ∃ cur fz, w.heap[x.block]? = some (.cells cur T fz)
theorem tyR_own {w : World} {base k : Nat} {T : TypeId} {size : Nat} {a : Option Addr} {n cap : Nat} {xs : List Value} (ho : w.ownsRow base T size (.slice a n cap) k xs) (m : Nat) : TyR T w (.slice a m cap) := by
  rintro x i c e
  cases e
  rcases ho.2 with ⟨h, _⟩ | ⟨g, cap', cur, h, _, hg, _⟩
  · cases h
  · cases h
    exact ⟨cur, _, hg⟩
theorem TyR.turned {T : TypeId} {w w' : World} {S : Nat → Prop} {v : Value} (h : TyR T w v) (hT : Turned S w w') (hs : ∀ x n c, v = .slice (some x) n c → ¬ S x.block) : TyR T w' v := by
  intro x n c e
  obtain ⟨cur, fz, hg⟩ := h x n c e
  exact ⟨cur, fz, (hT.block _ (Array.getElem?_eq_some_iff.1 hg).1 (hs x n c e)).trans hg⟩
theorem TyR.below {T : TypeId} {w w' : World} {v : Value} (h : TyR T w v) (hB : Below w.heap.size w w') : TyR T w' v :=
  h.turned (Turned.below (S := fun _ => False) hB) (fun _ _ _ _ => id)
theorem TyR.ne {T t : TypeId} {w : World} {g : Nat} {cs : List Value} {v : Value} (h : TyR T w v) (K : Blk w g t cs) (hne : t ≠ T) : ∀ x n c, v = .slice (some x) n c → x.block ≠ g := by
  rintro x n c e rfl
  obtain ⟨cur, fz, hg⟩ := h x n c e
  unfold Blk at K
  rw [K] at hg
  cases hg
  exact hne rfl
theorem tyR_blk {T : TypeId} {w : World} {g : Nat} {cs : List Value} (K : Blk w g T cs) (o : Nat) (n c : Nat) : TyR T w (.slice (some ⟨g, o, none⟩) n c) := by
  rintro x i c e
  cases e
  exact ⟨_, _, K⟩
theorem tyR_nil (T : TypeId) (w : World) (n c : Nat) : TyR T w (.slice none n c) := by
  rintro x i c e
  cases e

/-- Behind the last ones only noughts. -/
def Noughts (l : List Nat) (k : Nat) : Prop := ∀ i, k ≤ i → i < l.length → l.getD i 0 = 0
theorem Noughts.step {l : List Nat} {k : Nat} (h : Noughts l (k + 1)) (h0 : l.getD k 0 = 0) : Noughts l k := by
  intro i hi hl
  by_cases e : i = k
  · rw [e, h0]
  · exact h i (by omega) hl
/-- Digits without the noughts at the end, as a row. -/
theorem trim_any (a : Option Addr) (n cap : Nat) (l : List Nat) (w : World) (hS : Sl w 1 (.slice a n cap) n (digs l)) (hl : ∀ d ∈ l, d < 256) (hn : n ≤ 1000000) :
    Calls Try.prog 33 #[.slice a n cap] w fun e w' => e = .returned (.slice a (dg 256 (val 256 l)).length cap) ∧ w = w' ∧ Sl w 1 (.slice a (dg 256 (val 256 l)).length cap) (dg 256 (val 256 l)).length (digs (dg 256 (val 256 l))) := by
  have hll := sl_len hS
  have HS := Lib.hid hS
  obtain ⟨D, hD⟩ : ∃ D, D = dg 256 (val 256 l) := ⟨_, rfl⟩
  have HL := Lib.hid (fun k (h1 : Noughts l k) (h2 : k ≤ n) (h : 0 < k → l.getD (k - 1) 0 ≠ 0) => (show l.take k = D by rw [hD]; exact dg_cut (by decide) hl h1 (by omega) h))
  rw [← hD]
  clear hl hD
  go_enter Try.func33, Try.ntmps33
  go_wp2
  go_loop [3] (fun c => ∃ k : Nat, k ≤ n ∧ c = .int .i64 k ∧ Hid (Noughts l k)) (fun c => (intOf c).toNat)
  case atStart => exact ⟨n, Nat.le_refl _, rfl, Lib.hid (fun i hi h => by omega)⟩
  case round =>
    obtain ⟨k, hk, rfl, HZ⟩ := hrel
    have out : (0 < k → l.getD (k - 1) 0 ≠ 0) → l.take k = D := fun h => HL.out k HZ.out hk h
    by_cases h0 : k = 0
    · subst h0
      obtain ⟨C1, C2⟩ := Sl.cut_to (t := 48) Edig HS.out 0 (Nat.zero_le _)
      have hd := out (fun h => absurd h (by decide))
      rw [digs_take, hd] at C2
      have hlen : D.length = 0 := by rw [← hd]; simp
      have HD := Lib.hid hlen
      have HC2 := Lib.hid C2
      have HC1 := Lib.hid C1
      clear C1 C2 hd hlen out hS
      go_wp2
      go_ret
      exact ⟨by rw [HD.out]; rfl, rfl, by rw [HD.out]; exact HC2.out⟩
    · obtain ⟨m, rfl⟩ : ∃ m, k = m + 1 := ⟨k - 1, by omega⟩
      obtain ⟨b, o, ea, hb, hc⟩ := cell_dig HS.out m (by omega)
      subst ea
      by_cases hx : l.getD m 0 = 0
      · have HZ2 := Lib.hid (HZ.out.step hx)
        rw [hx] at hc
        clear out hS
        go_wp2
        go_round
        case rel => exact ⟨m, by omega, by first | rfl | skip, HZ2⟩
        case measure => simp [intOf] <;> omega
      · obtain ⟨C1, C2⟩ := Sl.cut_to (t := 48) Edig HS.out (m + 1) hk
        have hd := out (fun _ => by simpa using hx)
        rw [digs_take, hd] at C2
        have hlen : D.length = m + 1 := by rw [← hd, List.length_take]; omega
        have HD := Lib.hid hlen
        have HC2 := Lib.hid C2
        have C1' : ∀ wx, (Instr.slice 48 (.slice (some ⟨b, o, none⟩) n cap) none (some (.int .i64 ((m : Int) + 1))) none).run Try.prog wx = .ok (.slice (some ⟨b, o, none⟩) (m + 1) cap) wx := fun wx => C1 wx
        obtain ⟨x, hxx⟩ : ∃ x, x = l.getD m 0 := ⟨_, rfl⟩
        rw [← hxx] at hc hx
        clear C1 C2 hd hlen out hS hxx
        go_wp2
        go_ret
        exact ⟨by rw [HD.out]; rfl, rfl, by rw [HD.out]; exact HC2.out⟩
end Go.Proofs.Ytallbegibdlpaaa

/-
  Numbers as digits of 256: the same, less: the reference's.
-/
namespace Go.Th.Dig
theorem same_from {a b : List Nat} (hl : a.length = b.length) (i : Nat) (h : ∀ j, j < i → a.getD j 0 = b.getD j 0) (hi : a.length ≤ i) : a = b := by
  refine List.ext_getElem hl fun j h1 h2 => ?_
  have := h j (by omega)
  rwa [List.getD_eq_getElem?_getD, List.getD_eq_getElem?_getD, List.getElem?_eq_getElem h1, List.getElem?_eq_getElem h2] at this
theorem drop_step {l : List Nat} {i : Nat} (h : i < l.length) : l.drop i = l.getD i 0 :: l.drop (i + 1) := by
  rw [List.drop_eq_getElem_cons h, List.getD_eq_getElem?_getD, List.getElem?_eq_getElem h]; rfl
/-- The highest digit that is another one tells. -/
theorem val_differ {B : Nat} (hB : 0 < B) {a b : List Nat} (hl : a.length = b.length) (h1 : ∀ d ∈ a, d < B) (i : Nat) (hi : i < a.length) (hd : a.drop (i + 1) = b.drop (i + 1)) (h : a.getD i 0 < b.getD i 0) : val B a < val B b := by
  have ea := val_take B a i
  have eb := val_take B b i
  rw [drop_step hi, val, Nat.min_eq_left (by omega)] at ea
  rw [drop_step (hl ▸ hi), val, Nat.min_eq_left (by omega)] at eb
  have hlt := val_lt hB (l := a.take i) (fun d hd => h1 d (List.mem_of_mem_take hd))
  rw [List.length_take, Nat.min_eq_left (by omega)] at hlt
  rw [hd] at ea
  have : B ^ i * (a.getD i 0 + 1 + B * val B (b.drop (i + 1))) ≤ B ^ i * (b.getD i 0 + B * val B (b.drop (i + 1))) := Nat.mul_le_mul_left _ (by omega)
  have e2 : B ^ i * (a.getD i 0 + 1 + B * val B (b.drop (i + 1))) = B ^ i * (a.getD i 0 + B * val B (b.drop (i + 1))) + B ^ i := by
    rw [show a.getD i 0 + 1 + B * val B (b.drop (i + 1)) = (a.getD i 0 + B * val B (b.drop (i + 1))) + 1 by omega, Nat.mul_add, Nat.mul_one]
  omega
theorem dg_inj {B : Nat} (hB : 2 ≤ B) {p q : Nat} (h : dg B p = dg B q) : p = q := by rw [← dg_val hB p, h, dg_val hB]
theorem dg_top {B : Nat} (hB : 2 ≤ B) {p : Nat} (h : 0 < (dg B p).length) : B ^ ((dg B p).length - 1) ≤ p := by
  have h1 := val_take B (dg B p) ((dg B p).length - 1)
  rw [Nat.min_eq_left (by omega), dg_val hB, drop_step (by omega), show (dg B p).length - 1 + 1 = (dg B p).length by omega, List.drop_length] at h1
  have hne : (dg B p).getD ((dg B p).length - 1) 0 ≠ 0 := by
    refine dg_last hB p _ ?_
    rw [List.getLast?_eq_getElem?, List.getD_eq_getElem?_getD, List.getElem?_eq_getElem (by omega)]; rfl
  have h2 : B ^ ((dg B p).length - 1) * 1 ≤ B ^ ((dg B p).length - 1) * val B [(dg B p).getD ((dg B p).length - 1) 0] := Nat.mul_le_mul_left _ (by rw [val, val]; omega)
  omega
theorem dg_len_lt {B : Nat} (hB : 2 ≤ B) {p q : Nat} (h : (dg B p).length < (dg B q).length) : p < q := by
  have h1 := dg_top hB (p := q) (by omega)
  have h2 := val_lt (by omega) (dg_lt (by omega : 0 < B) p)
  rw [dg_val hB] at h2
  have h3 : B ^ (dg B p).length ≤ B ^ ((dg B q).length - 1) := Nat.pow_le_pow_right (by omega) (by omega)
  omega
end Go.Th.Dig
namespace Go.Proofs.Ytallbegibdlpaaa
open Go Go.RowKit Go.Th Go.Th.Dig

/-- A row reads as the digits of a number. -/
def Is16 (w : World) (v : Value) (p : Nat) : Prop := Sl w 1 v (dg 256 p).length (digs (dg 256 p))
theorem Is16.below {w w' : World} {v : Value} {p : Nat} (h : Is16 w v p) (hb : Below w.heap.size w w') : Is16 w' v p := Sl.below h hb
theorem getD_lt {l : List Nat} (h : ∀ d ∈ l, d < 256) (i : Nat) : l.getD i 0 < 256 := by
  rw [List.getD_eq_getElem?_getD]
  by_cases hi : i < l.length
  · rw [List.getElem?_eq_getElem hi]; exact h _ (List.getElem_mem _)
  · rw [List.getElem?_eq_none (by omega)]; decide

set_option maxRecDepth 20000 in
theorem less_go (a b : Option Addr) (n m ca cb : Nat) (x y : List Nat) (r : Bool) (w : World) (ha : Sl w 1 (.slice a n ca) n (digs x)) (hb : Sl w 1 (.slice b m cb) m (digs y)) (hn : n ≤ 1000000) (hm : m ≤ 1000000) (hx : ∀ d ∈ x, d < 256) (hy : ∀ d ∈ y, d < 256)
    (hr1 : n = m → r = decide (val 256 x < val 256 y)) (hr2 : n ≠ m → r = decide (n < m)) :
    Calls Try.prog 32 #[.slice a n ca, .slice b m cb] w fun e w' => e = .returned (.bool r) ∧ Below w.heap.size w w' := by
  have lx := sl_len ha
  have ly := sl_len hb
  have HA := Lib.hid ha
  have HB := Lib.hid hb
  have HX := Lib.hid hx
  have HY := Lib.hid hy
  have HR := Lib.hid hr1
  have HR2 := Lib.hid hr2
  clear ha hb hx hy hr1 hr2
  go_enter Try.func32, Try.ntmps32
  by_cases hnm : n = m
  · subst hnm
    clear HR2
    go_wp2_with fail
    go_loopw [5] (fun c wr => ∃ i : Int, -1 ≤ i ∧ i < n ∧ c = .int .i64 i ∧ Hid (x.drop (i + 1).toNat = y.drop (i + 1).toNat) ∧ Below w.heap.size w wr) (fun c _ => (intOf c + 1).toNat)
    case atStart => exact ⟨(n : Int) - 1, by omega, by omega, by first | rfl | simp, Lib.hid (by rw [show ((n : Int) - 1 + 1).toNat = n by omega, List.drop_of_length_le (by omega), List.drop_of_length_le (by omega)]), Below.refl _ _⟩
    case round =>
      obtain ⟨i, hi0, hi, rfl, HI, hB⟩ := hrel
      by_cases hlt : 0 ≤ i
      · obtain ⟨k, rfl⟩ : ∃ k : Nat, i = (k : Int) := ⟨i.toNat, by omega⟩
        have HI := Lib.hid (show x.drop (k + 1) = y.drop (k + 1) from HI.out)
        obtain ⟨b1, o1, rfl, hb1, hc1⟩ := cell_dig (HA.out.below hB) k (by omega)
        obtain ⟨b2, o2, rfl, hb2, hc2⟩ := cell_dig (HB.out.below hB) k (by omega)
        have hu := getD_lt HX.out k
        have hv := getD_lt HY.out k
        obtain ⟨u, eu⟩ : ∃ u, u = x.getD k 0 := ⟨_, rfl⟩
        obtain ⟨v, ev⟩ : ∃ v, v = y.getD k 0 := ⟨_, rfl⟩
        rw [← eu] at hc1 hu
        rw [← ev] at hc2 hv
        have EU := Lib.hid eu
        have EV := Lib.hid ev
        clear eu ev
        by_cases he : u = v
        · subst he
          have hd : ((u : Int) != (u : Int)) = false := by simp
          go_wp2_with fail
          go_quiet (fail)
          go_wp2_with fail
          go_roundw
          case rel => exact ⟨(k : Int) - 1, by omega, by omega, by first | rfl | simp, Lib.hid (by
            rw [show ((k : Int) - 1 + 1).toNat = k by omega, drop_step (l := x) (by omega), drop_step (l := y) (by omega), ← EU.out, ← EV.out, HI.out]), by first | exact below_dN hB _ | exact hB.drew⟩
          case measure => simp [intOf] <;> omega
        · have hd : ((u : Int) != (v : Int)) = true := by simp; omega
          have hf : decide (u < v) = r := by
            rw [HR.out trivial]
            by_cases h : u < v
            · rw [decide_eq_true h]
              symm
              rw [decide_eq_true_eq]
              exact val_differ (by decide) (by omega) HX.out k (by omega) HI.out (by rw [← EU.out, ← EV.out]; exact h)
            · rw [decide_eq_false h]
              symm
              rw [decide_eq_false_iff_not]
              have := val_differ (B := 256) (by decide) (a := y) (b := x) (by omega) HY.out k (by omega) HI.out.symm (by rw [← EU.out, ← EV.out]; omega)
              omega
          have HF := Lib.hid hf
          clear hf
          go_wp2_with fail
          go_quiet (fail)
          go_wp2_with fail
          go_quiet (fail)
          go_wp2_with fail
          go_ret
          exact ⟨ret_bool HF.out, by first | exact below_dN hB _ | exact below_dN (below_dN hB _) _⟩
      · obtain rfl : i = -1 := by omega
        have ht : r = false := by
          rw [HR.out trivial, decide_eq_false_iff_not]
          have h : x = y := HI.out
          rw [h]
          omega
        subst ht
        go_wp2_with fail
        go_ret
        exact ⟨rfl, hB⟩
  · have hf : decide (n < m) = r := by
      rw [HR2.out hnm]
    have HF := Lib.hid hf
    clear hf
    have hd : ((n : Int) != (m : Int)) = true := by simp; omega
    go_wp2_with fail
    go_ret
    exact ⟨ret_bool HF.out, Below.refl _ _⟩
theorem refLess16_any (v u : Value) (p q : Nat) (w : World) (hp : Is16 w v p) (hq : Is16 w u q) (h1 : (dg 256 p).length ≤ 1000000) (h2 : (dg 256 q).length ≤ 1000000) :
    Calls Try.prog 32 #[v, u] w fun e w' => e = .returned (.bool (decide (p < q))) ∧ Below w.heap.size w w' := by
  obtain ⟨a, ca, rfl, _⟩ := id hp
  obtain ⟨b, cb, rfl, _⟩ := id hq
  refine less_go a b _ _ ca cb _ _ _ w hp hq h1 h2 (dg_lt (by decide) p) (dg_lt (by decide) q) (fun _ => by rw [dg_val (by decide), dg_val (by decide)]) (fun hne => ?_)
  by_cases h : (dg 256 p).length < (dg 256 q).length
  · rw [decide_eq_true h, decide_eq_true (dg_len_lt (by decide) h)]
  · have := dg_len_lt (B := 256) (by decide) (p := q) (q := p) (by omega)
    rw [decide_eq_false h, decide_eq_false (by omega)]
end Go.Proofs.Ytallbegibdlpaaa

/-
  Numbers as digits of 256: the sum, a power of two: the reference's.
-/
namespace Go.Th.Dig
theorem drop_any (l : List Nat) (i : Nat) (B : Nat) : val B (l.drop i) = l.getD i 0 + B * val B (l.drop (i + 1)) := by
  by_cases h : i < l.length
  · rw [drop_step h, val]
  · rw [List.drop_of_length_le (by omega), List.drop_of_length_le (by omega), List.getD_eq_getElem?_getD, List.getElem?_eq_none (by omega)]; rfl
theorem getD_out {l : List Nat} {i : Nat} (h : l.length ≤ i) : l.getD i 0 = 0 := by
  rw [List.getD_eq_getElem?_getD, List.getElem?_eq_none h]; rfl
theorem dg_len_le {B : Nat} (hB : 2 ≤ B) {p k : Nat} (h : p < B ^ k) : (dg B p).length ≤ k := by
  refine Nat.le_of_not_lt fun hk => ?_
  have h1 := dg_top hB (p := p) (by omega)
  have h2 : B ^ k ≤ B ^ ((dg B p).length - 1) := Nat.pow_le_pow_right (by omega) (by omega)
  omega
theorem dg_len_of {B : Nat} (hB : 2 ≤ B) {p q k : Nat} (h : p ≤ q) (hq : (dg B q).length ≤ k) : (dg B p).length ≤ k := by
  by_cases e : (dg B p).length ≤ (dg B q).length
  · omega
  · have := dg_len_lt hB (p := q) (q := p) (by omega)
    omega
/-- A sum, digit by digit: so far, with what is carried. -/
structure Sum16 (x y : List Nat) (i c : Nat) (pre : List Nat) : Prop where
  len : pre.length = i
  dig : ∀ d ∈ pre, d < 256
  car : c ≤ 1
  sum : val 256 pre + 256 ^ i * (c + val 256 (x.drop i) + val 256 (y.drop i)) = val 256 x + val 256 y
  fin : i ≤ x.length ∨ i ≤ y.length ∨ c = 0
theorem Sum16.start (x y : List Nat) : Sum16 x y 0 0 [] := ⟨rfl, by simp, by omega, by simp [val], Or.inl (Nat.zero_le _)⟩
theorem Sum16.step {x y : List Nat} {i c : Nat} {pre : List Nat} (h : Sum16 x y i c pre) (hx : ∀ j, x.getD j 0 < 256) (hy : ∀ j, y.getD j 0 < 256) :
    Sum16 x y (i + 1) ((c + x.getD i 0 + y.getD i 0) / 256) (pre ++ [(c + x.getD i 0 + y.getD i 0) % 256]) := by
  obtain ⟨h1, h2, h3, h4, h5⟩ := h
  have a := hx i
  have b := hy i
  refine ⟨by simp [h1], ?_, by omega, ?_, ?_⟩
  · intro d hd
    rcases List.mem_append.1 hd with hd | hd
    · exact h2 d hd
    · rw [List.mem_singleton.1 hd]; omega
  · rw [val_snoc, h1, ← h4, drop_any x i, drop_any y i, Nat.pow_succ]
    obtain ⟨u, hu⟩ : ∃ u, u = c + x.getD i 0 + y.getD i 0 := ⟨_, rfl⟩
    rw [← hu]
    have e := Nat.mod_add_div u 256
    have e2 : c + (x.getD i 0 + 256 * val 256 (x.drop (i + 1))) + (y.getD i 0 + 256 * val 256 (y.drop (i + 1))) = u % 256 + 256 * (u / 256 + val 256 (x.drop (i + 1)) + val 256 (y.drop (i + 1))) := by omega
    rw [e2, Nat.mul_add (256 ^ i) (u % 256), Nat.add_assoc (val 256 pre), Nat.mul_assoc (256 ^ i) 256]
  · by_cases e1 : i < x.length
    · exact Or.inl e1
    · by_cases e2 : i < y.length
      · exact Or.inr (Or.inl e2)
      · rw [getD_out (by omega), getD_out (by omega)]
        exact Or.inr (Or.inr (by omega))
theorem Sum16.done {x y : List Nat} {i : Nat} {pre : List Nat} (h : Sum16 x y i 0 pre) (hx : x.length ≤ i) (hy : y.length ≤ i) : val 256 pre = val 256 x + val 256 y := by
  have := h.sum
  rw [List.drop_of_length_le hx, List.drop_of_length_le hy] at this
  simpa [val] using this
end Go.Th.Dig
namespace Go.Proofs.Ytallbegibdlpaaa
open Go Go.RowKit Go.Th Go.Th.Dig

theorem pow_lt_256 {n k : Nat} (h : n < 8 * k) : 2 ^ n < 256 ^ k := by
  have h1 : 2 ^ n < 2 ^ (8 * k) := Nat.pow_lt_pow_right (by decide) h
  rwa [Nat.pow_mul] at h1
theorem pow_len {n k : Nat} (h : n < 8 * k) : (dg 256 (2 ^ n)).length ≤ k := dg_len_le (by decide) (pow_lt_256 h)
theorem dg_one : dg 256 1 = [1] := by
  unfold dg dgs
  rfl
end Go.Proofs.Ytallbegibdlpaaa

/-
  A number by its parts of 32 bits, as digits of 256: the reference's Of.
-/
namespace Go.Th.Dig
/-- Parts, as digits: so many parts, and so many digits of the next one. -/
structure Of16 (l : List Nat) (i k x : Nat) (pre : List Nat) : Prop where
  len : pre.length = 4 * i + k
  dig : ∀ d ∈ pre, d < 256
  top : x < 256 ^ (4 - k)
  sum : val 256 pre + 256 ^ (4 * i + k) * x = val 4294967296 (l.take (i + 1))
theorem big_pow (i : Nat) : 256 ^ (4 * i) = 4294967296 ^ i := by rw [Nat.pow_mul]
theorem take_val {l : List Nat} {i : Nat} (h : i < l.length) (B : Nat) : val B (l.take (i + 1)) = val B (l.take i) + B ^ i * l.getD i 0 := by
  have e : l.take (i + 1) = l.take i ++ [l.getD i 0] := by
    rw [List.take_add_one, List.getElem?_eq_getElem h, List.getD_eq_getElem?_getD, List.getElem?_eq_getElem h]; rfl
  rw [e, val_snoc, List.length_take, Nat.min_eq_left (by omega)]
theorem Of16.start {l : List Nat} {i : Nat} {pre : List Nat} (hi : i < l.length) (h1 : pre.length = 4 * i) (h2 : ∀ d ∈ pre, d < 256) (h3 : val 256 pre = val 4294967296 (l.take i)) (h4 : l.getD i 0 < 4294967296) : Of16 l i 0 (l.getD i 0) pre :=
  ⟨h1, h2, h4, by rw [take_val hi, h3, Nat.add_zero, big_pow]⟩
theorem Of16.step {l : List Nat} {i k x : Nat} {pre : List Nat} (h : Of16 l i k x pre) (hk : k < 4) : Of16 l i (k + 1) (x / 256) (pre ++ [x % 256]) := by
  obtain ⟨h1, h2, h3, h4⟩ := h
  refine ⟨by simp [h1]; omega, ?_, ?_, ?_⟩
  · intro d hd
    rcases List.mem_append.1 hd with hd | hd
    · exact h2 d hd
    · rw [List.mem_singleton.1 hd]; omega
  · rw [show 4 - k = (4 - (k + 1)) + 1 by omega, Nat.pow_succ] at h3
    exact Nat.div_lt_of_lt_mul (by rw [Nat.mul_comm]; exact h3)
  · rw [val_snoc, h1, ← h4]
    have e := Nat.mod_add_div x 256
    rw [show 4 * i + (k + 1) = (4 * i + k) + 1 by omega, Nat.pow_succ, Nat.add_assoc, Nat.mul_assoc, ← Nat.mul_add, e]
theorem Of16.done {l : List Nat} {i x : Nat} {pre : List Nat} (h : Of16 l i 4 x pre) : pre.length = 4 * (i + 1) ∧ (∀ d ∈ pre, d < 256) ∧ val 256 pre = val 4294967296 (l.take (i + 1)) := by
  obtain ⟨h1, h2, h3, h4⟩ := h
  obtain rfl : x = 0 := by simp at h3; exact h3
  exact ⟨h1, h2, by simpa using h4⟩
end Go.Th.Dig
namespace Go.Proofs.Ytallbegibdlpaaa
open Go Go.RowKit Go.Th Go.Th.Dig

def u32s (l : List Nat) : List Value := l.map (fun x : Nat => .int .u32 (x : Int))
theorem cell_u32 {w : World} {a : Option Addr} {n cap : Nat} {l : List Nat} (hS : Sl w 1 (.slice a n cap) n (u32s l)) (i : Nat) (hi : i < l.length) :
    ∃ b o, a = some ⟨b, o, none⟩ ∧ b < w.heap.size ∧ w.cell? ⟨b, o + i, none⟩ = some (.int .u32 ((l.getD i 0 : Nat) : Int)) := by
  obtain ⟨_, _, e, _, _, _, _, h⟩ := id hS
  cases e
  obtain ⟨b, o, e, hc⟩ := h i (.int .u32 ((l.getD i 0 : Nat) : Int)) (by simp [u32s, List.getElem?_eq_getElem hi])
  refine ⟨b, o, e, ?_, by simpa using hc⟩
  have := World.block_lt_of_cell? w _ hc
  simpa using this
theorem u32_len {w : World} {a : Option Addr} {n cap : Nat} {l : List Nat} (hS : Sl w 1 (.slice a n cap) n (u32s l)) : l.length = n := by
  obtain ⟨_, _, e, h, _⟩ := id hS
  cases e
  simpa [u32s] using h
theorem getD_u32 {l : List Nat} (h : ∀ d ∈ l, d < 4294967296) (i : Nat) : l.getD i 0 < 4294967296 := by
  rw [List.getD_eq_getElem?_getD]
  by_cases hi : i < l.length
  · rw [List.getElem?_eq_getElem hi]; exact h _ (List.getElem_mem _)
  · rw [List.getElem?_eq_none (by omega)]; decide

end Go.Proofs.Ytallbegibdlpaaa

/-
  Numbers as digits of 256: the product: the reference's.
-/
namespace Go.Th.Dig
theorem val_set (B : Nat) (l : List Nat) (j t : Nat) (h : j < l.length) : val B (l.set j (l.getD j 0 + t)) = val B l + B ^ j * t := by
  have a := val_take B l j
  have b := val_take B (l.set j (l.getD j 0 + t)) j
  have e1 : (l.set j (l.getD j 0 + t)).take j = l.take j := by rw [List.take_set_of_le (Nat.le_refl _)]
  have e2 : (l.set j (l.getD j 0 + t)).drop j = (l.getD j 0 + t) :: l.drop (j + 1) := by
    rw [List.drop_set, if_neg (by omega), Nat.sub_self, drop_step h, List.set_cons_zero]
  rw [List.length_set, Nat.min_eq_left (by omega), e1, e2, val] at b
  rw [Nat.min_eq_left (by omega), drop_step h, val] at a
  rw [a, b, Nat.add_right_comm (l.getD j 0) t, Nat.mul_add]
  omega
theorem getD_set (l : List Nat) (j k v : Nat) (h : j < l.length) : (l.set j v).getD k 0 = if k = j then v else l.getD k 0 := by
  rw [List.getD_eq_getElem?_getD, List.getD_eq_getElem?_getD, List.getElem?_set]
  by_cases e : j = k
  · subst e; simp [h]
  · rw [if_neg e, if_neg (fun x => e x.symm)]
theorem set_self (l : List Nat) (i : Nat) (h : i < l.length) : l.set i (l.getD i 0) = l := by
  refine List.ext_getElem (by simp) fun j a b => ?_
  rw [List.getElem_set]
  split
  · rename_i e; subst e; rw [List.getD_eq_getElem?_getD, List.getElem?_eq_getElem h]; rfl
  · rfl
/-- A product, so many digits by so many; nothing is carried yet. -/
structure Mul16 (x y : List Nat) (i k : Nat) (O : List Nat) : Prop where
  len : O.length = x.length + y.length + 1
  sum : val 256 O = val 256 (x.take i) * val 256 y + 256 ^ i * (x.getD i 0 * val 256 (y.take k))
  low : ∀ j, O.getD j 0 ≤ i * 65025 + 65025
  top : ∀ j, i + k ≤ j → O.getD j 0 ≤ i * 65025
theorem getD_rep (n j : Nat) : (List.replicate n 0).getD j 0 = 0 := by
  rw [List.getD_eq_getElem?_getD, List.getElem?_replicate]
  split <;> rfl
theorem Mul16.start (x y : List Nat) : Mul16 x y 0 0 (List.replicate (x.length + y.length + 1) 0) :=
  ⟨by simp, by rw [val_zeros]; simp [val], fun j => by rw [getD_rep]; exact Nat.zero_le _, fun j _ => by rw [getD_rep]; exact Nat.zero_le _⟩
theorem Mul16.step {x y : List Nat} {i k : Nat} {O : List Nat} (h : Mul16 x y i k O) (hi : i < x.length) (hk : k < y.length) (hu : x.getD i 0 < 256) (hv : y.getD k 0 < 256) :
    Mul16 x y i (k + 1) (O.set (i + k) (O.getD (i + k) 0 + x.getD i 0 * y.getD k 0)) := by
  obtain ⟨h1, h2, h3, h4⟩ := h
  have hm : x.getD i 0 * y.getD k 0 ≤ 255 * 255 := Nat.mul_le_mul (by omega) (by omega)
  refine ⟨by simpa using h1, ?_, fun j => ?_, fun j hj => ?_⟩
  · rw [val_set _ _ _ _ (by omega), h2, take_val hk, Nat.mul_add, Nat.mul_add, Nat.pow_add, Nat.add_assoc, Nat.mul_assoc (256 ^ i) (256 ^ k), Nat.mul_left_comm (256 ^ k)]
  · rw [getD_set _ _ _ _ (by omega)]
    have := h4 (i + k) (Nat.le_refl _)
    have := h3 j
    split <;> omega
  · rw [getD_set _ _ _ _ (by omega), if_neg (by omega)]
    exact h4 j (by omega)
theorem Mul16.next {x y : List Nat} {i : Nat} {O : List Nat} (h : Mul16 x y i y.length O) (hi : i < x.length) : Mul16 x y (i + 1) 0 O := by
  obtain ⟨h1, h2, h3, h4⟩ := h
  refine ⟨h1, ?_, fun j => ?_, fun j _ => ?_⟩
  · rw [h2, take_val hi, List.take_length, Nat.add_mul, Nat.mul_assoc]; simp [val]
  · exact Nat.le_trans (h3 j) (by rw [Nat.add_mul, Nat.one_mul]; exact Nat.le_add_right _ _)
  · exact Nat.le_trans (h3 j) (by rw [Nat.add_mul, Nat.one_mul]; exact Nat.le_refl _)
/-- What is carried: so far. -/
structure Car16 (c s i : Nat) (n : Nat) (O : List Nat) : Prop where
  len : O.length = n
  sum : val 256 O = s
  dig : ∀ j, j < i → O.getD j 0 < 256
  cur : O.getD i 0 ≤ 2 * c
  top : ∀ j, i < j → O.getD j 0 ≤ c
theorem Car16.step {c s i n : Nat} {O : List Nat} (h : Car16 c s i n O) (hi : i + 1 < n) :
    Car16 c s (i + 1) n ((O.set (i + 1) (O.getD (i + 1) 0 + O.getD i 0 / 256)).set i (O.getD i 0 % 256)) := by
  obtain ⟨h1, h2, h3, h4, h5⟩ := h
  have g := h5 (i + 1) (by omega)
  refine ⟨by simpa using h1, ?_, fun j hj => ?_, ?_, fun j hj => ?_⟩
  · have e := val_set 256 O (i + 1) (O.getD i 0 / 256) (by omega)
    have hd : (O.set (i + 1) (O.getD (i + 1) 0 + O.getD i 0 / 256)).getD i 0 = O.getD i 0 := by rw [getD_set _ _ _ _ (by omega), if_neg (by omega)]
    have f := val_set 256 ((O.set (i + 1) (O.getD (i + 1) 0 + O.getD i 0 / 256)).set i (O.getD i 0 % 256)) i (256 * (O.getD i 0 / 256)) (by simp; omega)
    rw [getD_set _ i i _ (by simp; omega), if_pos rfl, Nat.mod_add_div, List.set_set] at f
    have hself := set_self (O.set (i + 1) (O.getD (i + 1) 0 + O.getD i 0 / 256)) i (by simp; omega)
    rw [hd] at hself
    rw [hself, e, h2, Nat.pow_succ, Nat.mul_assoc] at f
    omega
  · rw [getD_set _ _ _ _ (by simp; omega)]
    split
    · omega
    · rw [getD_set _ _ _ _ (by omega), if_neg (by omega)]; exact h3 j (by omega)
  · rw [getD_set _ _ _ _ (by simp; omega), if_neg (by omega), getD_set _ _ _ _ (by omega), if_pos rfl]
    omega
  · rw [getD_set _ _ _ _ (by simp; omega), if_neg (by omega), getD_set _ _ _ _ (by omega), if_neg (by omega)]
    exact h5 j (by omega)
/-- Nothing is left for the last one. -/
theorem Car16.done {c s n : Nat} {O : List Nat} (h : Car16 c s n (n + 1) O) (hs : s < 256 ^ n) : ∀ d ∈ O, d < 256 := by
  intro d hd
  obtain ⟨j, hj, rfl⟩ := List.mem_iff_getElem.1 hd
  have hl := h.len
  have e : O.getD j 0 = O[j] := by rw [List.getD_eq_getElem?_getD, List.getElem?_eq_getElem hj]; rfl
  by_cases hjn : j < n
  · rw [← e]; exact h.dig j hjn
  · obtain rfl : j = n := by omega
    have a := val_take 256 O j
    rw [Nat.min_eq_left (by omega), drop_step hj, val, h.sum, e] at a
    by_cases h0 : O[j] = 0
    · omega
    · have : 256 ^ j * 1 ≤ 256 ^ j * (O[j] + 256 * val 256 (O.drop (j + 1))) := Nat.mul_le_mul_left _ (by omega)
      omega
end Go.Th.Dig
namespace Go.Proofs.Ytallbegibdlpaaa
open Go Go.RowKit Go.Th Go.Th.Dig

set_option maxRecDepth 20000 in
theorem run_mkint (m : Nat) (hm : m ≤ 1000000) (wx : World) : (Instr.makeSlice 48 (.int .i64 (m : Int)) (.int .i64 (m : Int))).run Try.prog wx = .ok (.slice (some ⟨wx.heap.size, 0, none⟩) m m) (wx.alloc (.cells (List.replicate m (Value.int .i64 0)).toArray 3)) := by
  obtain ⟨i, hi, h1, h2, h3⟩ := info_parts (P := Try.prog) (e := 3) (z := .int .i64 0) (size := 1) (bytes := 8) (by kernel_rfl)
  have hr := run_make (P := Try.prog) wx 48 3 i (.int .i64 0) Try.underlying48 hi h1 .i64 .i64 (m : Int) (m : Int) (by omega) (Int.le_refl _) (by rw [h3]; omega) (by omega)
  rw [hr, h2, Nat.mul_one]
  simp only [Int.toNat_natCast]
  congr 4
  apply Array.ext'
  exact toList_madeCells_one _ _
theorem digs_rep (m : Nat) : List.replicate m (Value.int .i64 0) = digs (List.replicate m 0) := by simp [digs]
theorem digs_at (l : List Nat) (i : Nat) (h : i < l.length) : (digs l)[i]? = some (.int .i64 ((l.getD i 0 : Nat) : Int)) := by simp [digs, List.getElem?_eq_getElem h]
theorem digs_set (l : List Nat) (i v : Nat) : (digs l).set i (.int .i64 (v : Int)) = digs (l.set i v) := by simp [digs, List.map_set]
theorem sl_mem {w0 w : World} {bs : List (Nat × TypeId × List Value)} {g : Nat} {t : TypeId} {l : List Nat} (M : Mem w0 w bs) (h : Has bs g t (digs l)) (n : Nat) (hn : l.length = n) (hm : n ≤ 1000000) : Sl w 1 (.slice (some ⟨g, 0, none⟩) n n) n (digs l) := by
  subst hn
  refine ⟨_, _, rfl, by rw [digs_length, Nat.mul_one], Nat.le_refl _, by unfold maxLen; omega, fun h => (by cases h), ?_⟩
  intro j u hu
  exact ⟨_, _, rfl, by have := M.cell h hu; simpa using this⟩

set_option maxRecDepth 20000 in
set_option maxHeartbeats 3200000 in
theorem mul_go (a b : Option Addr) (n m ca cb : Nat) (x y : List Nat) (s : Nat) (w : World) (ha : Sl w 1 (.slice a n ca) n (digs x)) (hb : Sl w 1 (.slice b m cb) m (digs y)) (hn : n ≤ 10000) (hm : m ≤ 10000) (hx : ∀ d ∈ x, d < 256) (hy : ∀ d ∈ y, d < 256) (hs : s = val 256 x * val 256 y) :
    Calls Try.prog 23 #[.slice a n ca, .slice b m cb] w fun e w' => ∃ v, e = .returned v ∧ Is16 w' v s ∧ TyR 3 w' v ∧ Below w.heap.size w w' := by
  have lx := sl_len ha
  have ly := sl_len hb
  have hlt : s < 256 ^ (n + m) := by
    rw [hs, Nat.pow_add, ← lx, ← ly]
    exact Nat.mul_lt_mul_of_lt_of_lt (val_lt (by decide) hx) (val_lt (by decide) hy)
  have HLT := Lib.hid hlt
  have HA := Lib.hid ha
  have HB := Lib.hid hb
  have HX := Lib.hid (getD_lt hx)
  have HY := Lib.hid (getD_lt hy)
  have HS := Lib.hid hs
  have LX := Lib.hid lx
  have LY := Lib.hid ly
  have MK : ∀ wx, (Instr.makeSlice 48 (.int .i64 ((n : Int) + (m : Int) + 1)) (.int .i64 ((n : Int) + (m : Int) + 1))).run Try.prog wx = .ok (.slice (some ⟨wx.heap.size, 0, none⟩) (n + m + 1) (n + m + 1)) (wx.alloc (.cells (List.replicate (n + m + 1) (Value.int .i64 0)).toArray 3)) := fun wx => run_mkint (n + m + 1) (by omega) wx
  clear ha hb hx hy hs hlt lx ly
  have M1 : Mem w (w.alloc (.cells (digs (List.replicate (n + m + 1) 0)).toArray 3)) [(w.heap.size, 3, digs (List.replicate (n + m + 1) 0))] := (Mem.start w).alloc _ _
  rw [digs_rep] at MK
  obtain ⟨w1, hw1⟩ : ∃ w1, w.alloc (.cells (digs (List.replicate (n + m + 1) 0)).toArray 3) = w1 := ⟨_, rfl⟩
  have MK1 : (Instr.makeSlice 48 (.int .i64 ((n : Int) + (m : Int) + 1)) (.int .i64 ((n : Int) + (m : Int) + 1))).run Try.prog w = .ok (.slice (some ⟨w.heap.size, 0, none⟩) (n + m + 1) (n + m + 1)) w1 := by rw [MK w, hw1]
  rw [hw1] at M1
  clear MK hw1
  go_enter Try.func23, Try.ntmps23
  obtain ⟨G, hG⟩ : ∃ G, G = w.heap.size := ⟨_, rfl⟩
  rw [← hG] at MK1 M1
  clear hG
  go_wp2_with fail
  go_loopw [6] (fun c wr => ∃ (i : Nat) (O : List Nat), i ≤ n ∧ c = .int .i64 i ∧ Hid (Mul16 x y i 0 O) ∧ Mem w wr [(G, 3, digs O)]) (fun c _ => n - (intOf c).toNat)
  case atStart => exact ⟨0, _, Nat.zero_le _, rfl, Lib.hid (by have := Mul16.start x y; rwa [LX.out, LY.out] at this), M1⟩
  case round =>
    clear M1 MK1
    obtain ⟨i, O, hi, rfl, HI, M⟩ := hrel
    by_cases hlt : i < n
    · go_wp2_with fail
      go_loopw [7] (fun c wr => ∃ (k : Nat) (O : List Nat), k ≤ m ∧ c = .int .i64 k ∧ Hid (Mul16 x y i k O) ∧ Mem w wr [(G, 3, digs O)]) (fun c _ => m - (intOf c).toNat)
      case atStart => exact ⟨0, O, Nat.zero_le _, rfl, HI, M⟩
      case round =>
        clear HI M
        obtain ⟨k, O, hk, rfl, HI, M⟩ := hrel
        by_cases hlk : k < m
        · have hol : O.length = n + m + 1 := by rw [HI.out.len, LX.out, LY.out]
          obtain ⟨b1, o1, rfl, hb1, hc1⟩ := cell_dig (HA.out.below M.below) i (by rw [LX.out]; omega)
          obtain ⟨b2, o2, rfl, hb2, hc2⟩ := cell_dig (HB.out.below M.below) k (by rw [LY.out]; omega)
          have hc0 := M.cell (Has.head _ _ _ _) (digs_at O (i + k) (by omega))
          have hu := HX.out i
          have hv := HY.out k
          have hz := HI.out.top (i + k) (Nat.le_refl _)
          have hst := HI.out.step (by rw [LX.out]; omega) (by rw [LY.out]; omega) hu hv
          have hf0 := M.drew.free (Has.head _ _ _ _) (i + k)
          obtain ⟨p, hp⟩ : ∃ p, p = i + k := ⟨_, rfl⟩
          rw [← hp] at hc0 hz hst hf0
          have hwp : IntKind.i64.wrap ((i : Int) + (k : Int)) = (p : Int) := by
            rw [IntWalk.i64_in _ (by omega)]; omega
          have hpn : (p : Int) < (n : Int) + (m : Int) + 1 := by omega
          obtain ⟨u, eu⟩ : ∃ u, u = x.getD i 0 := ⟨_, rfl⟩
          obtain ⟨v, ev⟩ : ∃ v, v = y.getD k 0 := ⟨_, rfl⟩
          obtain ⟨z, ez⟩ : ∃ z, z = O.getD p 0 := ⟨_, rfl⟩
          rw [← eu] at hc1 hu hst
          rw [← ev] at hc2 hv hst
          rw [← ez] at hc0 hz hst
          obtain ⟨t, ht⟩ : ∃ t, t = u * v := ⟨_, rfl⟩
          have ht2 : t ≤ 65025 := by rw [ht]; exact Nat.mul_le_mul (show u ≤ 255 by omega) (show v ≤ 255 by omega)
          have huv : (u : Int) * (v : Int) = (t : Int) := by rw [ht]; simp
          rw [← ht] at hst
          have hz2 : z ≤ 650250000 := by omega
          obtain ⟨q, hq⟩ : ∃ q, q = z + t := ⟨_, rfl⟩
          rw [← hq] at hst
          have hzt : IntKind.i64.wrap ((z : Int) + (t : Int)) = (q : Int) := by
            rw [IntWalk.i64_in _ (by omega)]; omega
          have HST := Lib.hid hst
          have hw : IntKind.i64.wrap (t : Int) = (t : Int) := IntWalk.i64_in _ (by omega)
          clear eu ev ez ht hst hz HI hp hq
          go_wp2_with fail
          refine wp_region_N_drew (S := (fun w' : World => w'.cell? ⟨G, p, none⟩ = some (.int .i64 (z : Int)) ∧ w'.cell? ⟨b1, o1 + i, none⟩ = some (.int .i64 (u : Int)) ∧ w'.cell? ⟨b2, o2 + k, none⟩ = some (.int .i64 (v : Int)))) 21 (by kernel_rfl) ?_
          have hHeld : (fun w' : World => w'.cell? ⟨G, p, none⟩ = some (.int .i64 (z : Int)) ∧ w'.cell? ⟨b1, o1 + i, none⟩ = some (.int .i64 (u : Int)) ∧ w'.cell? ⟨b2, o2 + k, none⟩ = some (.int .i64 (v : Int))) wr.drew := ⟨hc0, hc1, hc2⟩
          refine wpAnyN_takeY (i := 0) (v := ?v1) rfl (by kernel_rfl) (by kernel_rfl) (by kernel_rfl) (fun _ _ _ h => h) rfl (Or.inl ⟨by rfl, ?hy1⟩) (fun _ => hHeld) ?rest1
          case hy1 => (intro w' _; go_simp; (try with_reducible rfl))
          try simp only [Act.put, puts]
          refine wpAnyN_takeY (i := 1) (v := ?v2) rfl (by kernel_rfl) (by kernel_rfl) (by kernel_rfl) (fun _ _ _ h => h) rfl (Or.inl ⟨by rfl, ?hy2⟩) (fun _ => hHeld) ?rest2
          case hy2 => (intro w' _; go_simp; (try with_reducible rfl))
          try simp only [Act.put, puts]
          refine wpAnyN_takeY (i := 2) (v := ?v3) rfl (by kernel_rfl) (by kernel_rfl) (by kernel_rfl) (fun _ _ _ h => h) rfl (Or.inl ⟨by rfl, ?hy3⟩) (fun _ => hHeld) ?rest3
          case hy3 => (intro w' _; go_simp; (try with_reducible rfl))
          try simp only [Act.put, puts]
          refine wpAnyN_takeY (i := 3) (v := ?v4) rfl (by kernel_rfl) (by kernel_rfl) (by kernel_rfl) (fun _ _ _ h => h) rfl (Or.inl ⟨by rfl, ?hy4⟩) (fun _ => hHeld) ?rest4
          case hy4 => (intro w' _; go_simp; (try with_reducible rfl))
          try simp only [Act.put, puts]
          refine wpAnyN_takeY (i := 4) (v := ?v5) rfl (by kernel_rfl) (by kernel_rfl) (by kernel_rfl) (fun _ _ _ h => h) rfl (Or.inl ⟨by rfl, ?hy5⟩) (fun _ => hHeld) ?rest5
          case hy5 => (intro w' _; go_simp; (try with_reducible rfl))
          try simp only [Act.put, puts]
          refine wpAnyN_takeY (i := 5) (v := ?v6) rfl (by kernel_rfl) (by kernel_rfl) (by kernel_rfl) (fun _ _ _ h => h) rfl (Or.inl ⟨by rfl, ?hy6⟩) (fun _ => hHeld) ?rest6
          case hy6 => (intro w' _; go_simp; (try with_reducible rfl))
          try simp only [Act.put, puts]
          refine wpAnyN_takeY (i := 6) (v := ?v7) rfl (by kernel_rfl) (by kernel_rfl) (by kernel_rfl) (fun _ _ _ h => h) rfl (Or.inl ⟨by rfl, ?hy7⟩) (fun _ => hHeld) ?rest7
          case hy7 => (intro w' _; go_simp; (try with_reducible rfl))
          try simp only [Act.put, puts]
          refine wpAnyN_takeY (i := 7) (v := ?v8) rfl (by kernel_rfl) (by kernel_rfl) (by kernel_rfl) (fun _ _ _ h => h) rfl (Or.inl ⟨by rfl, ?hy8⟩) (fun _ => hHeld) ?rest8
          case hy8 => (intro w' _; go_simp; (try with_reducible rfl))
          try simp only [Act.put, puts]
          refine wpAnyN_takeY (i := 8) (v := ?v9) rfl (by kernel_rfl) (by kernel_rfl) (by kernel_rfl) (fun _ _ _ h => h) rfl (Or.inl ⟨by rfl, ?hy9⟩) (fun _ => hHeld) ?rest9
          case hy9 => (intro w' _; go_simp; (try with_reducible rfl))
          try simp only [Act.put, puts]
          refine wpAnyN_take (i := 9) (v := ?v10) rfl (by kernel_rfl) (by kernel_rfl) (by kernel_rfl) (fun _ _ _ h => h) rfl (by kernel_rfl) (by kernel_rfl) (Or.inl ⟨by rfl, ?hy10⟩) hHeld ?rest10
          case hy10 => (intro w' hSw; (try dsimp only at hSw); go_simp; (try with_reducible rfl))
          try simp only [Act.put, puts]
          refine wpAnyN_takeY (i := 10) (v := ?v11) rfl (by kernel_rfl) (by kernel_rfl) (by kernel_rfl) (fun _ _ _ h => h) rfl (Or.inl ⟨by rfl, ?hy11⟩) (fun _ => hHeld) ?rest11
          case hy11 => (intro w' _; go_simp; (try with_reducible rfl))
          try simp only [Act.put, puts]
          refine wpAnyN_takeY (i := 11) (v := ?v12) rfl (by kernel_rfl) (by kernel_rfl) (by kernel_rfl) (fun _ _ _ h => h) rfl (Or.inl ⟨by rfl, ?hy12⟩) (fun _ => hHeld) ?rest12
          case hy12 => (intro w' _; go_simp; (try with_reducible rfl))
          try simp only [Act.put, puts]
          refine wpAnyN_takeY (i := 12) (v := ?v13) rfl (by kernel_rfl) (by kernel_rfl) (by kernel_rfl) (fun _ _ _ h => h) rfl (Or.inl ⟨by rfl, ?hy13⟩) (fun _ => hHeld) ?rest13
          case hy13 => (intro w' _; go_simp; (try with_reducible rfl))
          try simp only [Act.put, puts]
          refine wpAnyN_take (i := 13) (v := ?v14) rfl (by kernel_rfl) (by kernel_rfl) (by kernel_rfl) (fun _ _ _ h => h) rfl (by kernel_rfl) (by kernel_rfl) (Or.inl ⟨by rfl, ?hy14⟩) hHeld ?rest14
          case hy14 => (intro w' hSw; (try dsimp only at hSw); go_simp; (try with_reducible rfl))
          try simp only [Act.put, puts]
          refine wpAnyN_takeY (i := 14) (v := ?v15) rfl (by kernel_rfl) (by kernel_rfl) (by kernel_rfl) (fun _ _ _ h => h) rfl (Or.inl ⟨by rfl, ?hy15⟩) (fun _ => hHeld) ?rest15
          case hy15 => (intro w' _; go_simp; (try with_reducible rfl))
          try simp only [Act.put, puts]
          refine wpAnyN_takeY (i := 15) (v := ?v16) rfl (by kernel_rfl) (by kernel_rfl) (by kernel_rfl) (fun _ _ _ h => h) rfl (Or.inl ⟨by rfl, ?hy16⟩) (fun _ => hHeld) ?rest16
          case hy16 => (intro w' _; go_simp; (try with_reducible rfl))
          try simp only [Act.put, puts]
          refine wpAnyN_takeY (i := 16) (v := ?v17) rfl (by kernel_rfl) (by kernel_rfl) (by kernel_rfl) (fun _ _ _ h => h) rfl (Or.inl ⟨by rfl, ?hy17⟩) (fun _ => hHeld) ?rest17
          case hy17 => (intro w' _; go_simp; (try with_reducible rfl))
          try simp only [Act.put, puts]
          refine wpAnyN_take (i := 17) (v := ?v18) rfl (by kernel_rfl) (by kernel_rfl) (by kernel_rfl) (fun _ _ _ h => h) rfl (by kernel_rfl) (by kernel_rfl) (Or.inl ⟨by rfl, ?hy18⟩) hHeld ?rest18
          case hy18 => (intro w' hSw; (try dsimp only at hSw); go_simp; (try with_reducible rfl))
          try simp only [Act.put, puts]
          refine wpAnyN_takeY (i := 18) (v := ?v19) rfl (by kernel_rfl) (by kernel_rfl) (by kernel_rfl) (fun _ _ _ h => h) rfl (Or.inl ⟨by rfl, ?hy19⟩) (fun _ => hHeld) ?rest19
          case hy19 => (intro w' _; go_simp; (try with_reducible rfl))
          try simp only [Act.put, puts]
          refine wpAnyN_takeY (i := 19) (v := ?v20) rfl (by kernel_rfl) (by kernel_rfl) (by kernel_rfl) (fun _ _ _ h => h) rfl (Or.inl ⟨by rfl, ?hy20⟩) (fun _ => hHeld) ?rest20
          case hy20 => (intro w' _; go_simp; (try with_reducible rfl))
          try simp only [Act.put, puts]
          refine wpAnyN_takeY (i := 20) (v := ?v21) rfl (by kernel_rfl) (by kernel_rfl) (by kernel_rfl) (fun _ _ _ h => h) rfl (Or.inl ⟨by rfl, ?hy21⟩) (fun _ => hHeld) ?rest21
          case hy21 => (intro w' _; go_simp; (try with_reducible rfl))
          try simp only [Act.put, puts]
          refine wpAnyN_ready (rs := [21]) (by kernel_rfl) (by simp) ?_
          refine AllReadyN.cons rfl (fun K hK => ?_) AllReadyN.nil
          go_simp
          have M7 := M.drew.set p (.int .i64 (q : Int)) (Upd.head _ _ _ _ _) (by rw [digs_length]; omega)
          try go_wp2_with fail
          refine hK.out _ _ (fun h => by have h' : (true : Bool) = false := h; cases h') ?_
          clear hK K
          try simp only [Act.put, puts]
          refine wpAnyN_done (by kernel_rfl) ?_ _
          rw [digs_set] at M7
          clear hc0 hc1 hc2 hf0 M
          go_wp2_with fail
          go_roundw
          case rel => exact ⟨k + 1, _, by omega, by go_num, HST, M7⟩
          case measure => simp [intOf]; omega
        · obtain rfl : k = m := by omega
          have HN := Lib.hid (Mul16.next (x := x) (y := y) (i := i) (O := O) (by have := HI.out; rwa [← LY.out] at this) (by rw [LX.out]; omega))
          clear HI
          go_wp2_with fail
          go_roundw
          case rel => exact ⟨i + 1, _, by omega, by go_num, HN, M⟩
          case measure => simp [intOf]; omega
    · obtain rfl : i = n := by omega
      have HC : Hid (Car16 (i * 65025 + 65025) s 0 (i + m + 1) O) := Lib.hid (by
        obtain ⟨h1, h2, h3, h4⟩ := HI.out
        refine ⟨by rw [h1, LX.out, LY.out], ?_, fun j h => absurd h (Nat.not_lt_zero _), Nat.le_trans (h3 0) (by omega), fun j _ => h3 j⟩
        rw [h2, List.take_of_length_le (by rw [LX.out]; exact Nat.le_refl _), HS.out]
        simp [val])
      obtain ⟨C, hC⟩ : ∃ C, C = i * 65025 + 65025 := ⟨_, rfl⟩
      have hC2 : C ≤ 650315025 := by omega
      rw [← hC] at HC
      clear HI HX HY HS HA HB hC
      go_wp2_with fail
      go_loopw [8] (fun c wr => ∃ (j : Nat) (O : List Nat), j ≤ i + m ∧ c = .int .i64 j ∧ Hid (Car16 C s j (i + m + 1) O) ∧ Mem w wr [(G, 3, digs O)]) (fun c _ => i + m - (intOf c).toNat)
      case atStart => exact ⟨0, O, Nat.zero_le _, rfl, HC, M⟩
      case round =>
        clear HC M
        obtain ⟨j, O, hj, rfl, HC, M⟩ := hrel
        by_cases hlj : j < i + m
        · have hol := HC.out.len
          have hst := HC.out.step (by omega)
          have h0 := HC.out.cur
          have h1 := HC.out.top (j + 1) (by omega)
          have hc0 := M.cell (Has.head _ _ _ _) (digs_at O j (by omega))
          have hc1 := M.cell (Has.head _ _ _ _) (digs_at O (j + 1) (by omega))
          have hf1 := M.drew.free (Has.head _ _ _ _) (j + 1)
          have hne : (O.set (j + 1) (O.getD (j + 1) 0 + O.getD j 0 / 256)).getD j 0 = O.getD j 0 := by rw [getD_set _ _ _ _ (by omega), if_neg (by omega)]
          obtain ⟨p, hp⟩ : ∃ p, p = j + 1 := ⟨_, rfl⟩
          have hwp : IntKind.i64.wrap ((j : Int) + 1) = (p : Int) := by
            rw [IntWalk.i64_in _ (by omega)]; omega
          have HP := Lib.hid hp
          rw [← hp] at h1 hc1 hf1 hne hst
          obtain ⟨z, ez⟩ : ∃ z, z = O.getD j 0 := ⟨_, rfl⟩
          obtain ⟨y1, ey⟩ : ∃ y1, y1 = O.getD p 0 := ⟨_, rfl⟩
          rw [← ez] at h0 hc0 hst hne
          rw [← ey] at h1 hc1 hst hne
          obtain ⟨q, hq⟩ : ∃ q, q = y1 + z / 256 := ⟨_, rfl⟩
          rw [← hq] at hst hne
          have hlt1 : (p : Int) < (i : Int) + (m : Int) + 1 := by omega
          have hlt0 : (j : Int) < (i : Int) + (m : Int) + 1 := by omega
          obtain ⟨d, hd⟩ : ∃ d, d = z / 256 := ⟨_, rfl⟩
          have hzd : IntKind.i64.wrap ((z : Int) / 256) = (d : Int) := by
            rw [IntWalk.i64_in _ (by omega)]; omega
          have hyd : IntKind.i64.wrap ((y1 : Int) + (d : Int)) = (q : Int) := by
            rw [IntWalk.i64_in _ (by omega)]; omega
          have HST := Lib.hid hst
          have HNE := Lib.hid hne
          clear ez ey hst hne HC hq hp hd
          go_wp2_with fail
          refine wp_region_N_drew (S := (fun w' : World => w'.cell? ⟨G, p, none⟩ = some (.int .i64 (y1 : Int)) ∧ w'.cell? ⟨G, j, none⟩ = some (.int .i64 (z : Int)))) 15 (by kernel_rfl) ?_
          have hHeld : (fun w' : World => w'.cell? ⟨G, p, none⟩ = some (.int .i64 (y1 : Int)) ∧ w'.cell? ⟨G, j, none⟩ = some (.int .i64 (z : Int))) wr.drew := ⟨hc1, hc0⟩
          refine wpAnyN_takeY (i := 0) (v := ?v23) rfl (by kernel_rfl) (by kernel_rfl) (by kernel_rfl) (fun _ _ _ h => h) rfl (Or.inl ⟨by rfl, ?hy23⟩) (fun _ => hHeld) ?rest23
          case hy23 => (intro w' _; go_simp; (try with_reducible rfl))
          try simp only [Act.put, puts]
          refine wpAnyN_takeY (i := 1) (v := ?v24) rfl (by kernel_rfl) (by kernel_rfl) (by kernel_rfl) (fun _ _ _ h => h) rfl (Or.inl ⟨by rfl, ?hy24⟩) (fun _ => hHeld) ?rest24
          case hy24 => (intro w' _; go_simp; (try with_reducible rfl))
          try simp only [Act.put, puts]
          refine wpAnyN_takeY (i := 2) (v := ?v25) rfl (by kernel_rfl) (by kernel_rfl) (by kernel_rfl) (fun _ _ _ h => h) rfl (Or.inl ⟨by rfl, ?hy25⟩) (fun _ => hHeld) ?rest25
          case hy25 => (intro w' _; go_simp; (try with_reducible rfl))
          try simp only [Act.put, puts]
          refine wpAnyN_takeY (i := 3) (v := ?v26) rfl (by kernel_rfl) (by kernel_rfl) (by kernel_rfl) (fun _ _ _ h => h) rfl (Or.inl ⟨by rfl, ?hy26⟩) (fun _ => hHeld) ?rest26
          case hy26 => (intro w' _; go_simp; (try with_reducible rfl))
          try simp only [Act.put, puts]
          refine wpAnyN_takeY (i := 4) (v := ?v27) rfl (by kernel_rfl) (by kernel_rfl) (by kernel_rfl) (fun _ _ _ h => h) rfl (Or.inl ⟨by rfl, ?hy27⟩) (fun _ => hHeld) ?rest27
          case hy27 => (intro w' _; go_simp; (try with_reducible rfl))
          try simp only [Act.put, puts]
          refine wpAnyN_takeY (i := 5) (v := ?v28) rfl (by kernel_rfl) (by kernel_rfl) (by kernel_rfl) (fun _ _ _ h => h) rfl (Or.inl ⟨by rfl, ?hy28⟩) (fun _ => hHeld) ?rest28
          case hy28 => (intro w' _; go_simp; (try with_reducible rfl))
          try simp only [Act.put, puts]
          refine wpAnyN_takeY (i := 6) (v := ?v29) rfl (by kernel_rfl) (by kernel_rfl) (by kernel_rfl) (fun _ _ _ h => h) rfl (Or.inl ⟨by rfl, ?hy29⟩) (fun _ => hHeld) ?rest29
          case hy29 => (intro w' _; go_simp; (try with_reducible rfl))
          try simp only [Act.put, puts]
          refine wpAnyN_take (i := 7) (v := ?v30) rfl (by kernel_rfl) (by kernel_rfl) (by kernel_rfl) (fun _ _ _ h => h) rfl (by kernel_rfl) (by kernel_rfl) (Or.inl ⟨by rfl, ?hy30⟩) hHeld ?rest30
          case hy30 => (intro w' hSw; (try dsimp only at hSw); go_simp; (try with_reducible rfl))
          try simp only [Act.put, puts]
          refine wpAnyN_takeY (i := 8) (v := ?v31) rfl (by kernel_rfl) (by kernel_rfl) (by kernel_rfl) (fun _ _ _ h => h) rfl (Or.inl ⟨by rfl, ?hy31⟩) (fun _ => hHeld) ?rest31
          case hy31 => (intro w' _; go_simp; (try with_reducible rfl))
          try simp only [Act.put, puts]
          refine wpAnyN_takeY (i := 9) (v := ?v32) rfl (by kernel_rfl) (by kernel_rfl) (by kernel_rfl) (fun _ _ _ h => h) rfl (Or.inl ⟨by rfl, ?hy32⟩) (fun _ => hHeld) ?rest32
          case hy32 => (intro w' _; go_simp; (try with_reducible rfl))
          try simp only [Act.put, puts]
          refine wpAnyN_takeY (i := 10) (v := ?v33) rfl (by kernel_rfl) (by kernel_rfl) (by kernel_rfl) (fun _ _ _ h => h) rfl (Or.inl ⟨by rfl, ?hy33⟩) (fun _ => hHeld) ?rest33
          case hy33 => (intro w' _; go_simp; (try with_reducible rfl))
          try simp only [Act.put, puts]
          refine wpAnyN_take (i := 11) (v := ?v34) rfl (by kernel_rfl) (by kernel_rfl) (by kernel_rfl) (fun _ _ _ h => h) rfl (by kernel_rfl) (by kernel_rfl) (Or.inl ⟨by rfl, ?hy34⟩) hHeld ?rest34
          case hy34 => (intro w' hSw; (try dsimp only at hSw); go_simp; (try with_reducible rfl))
          try simp only [Act.put, puts]
          refine wpAnyN_takeY (i := 12) (v := ?v35) rfl (by kernel_rfl) (by kernel_rfl) (by kernel_rfl) (fun _ _ _ h => h) rfl (Or.inl ⟨by rfl, ?hy35⟩) (fun _ => hHeld) ?rest35
          case hy35 => (intro w' _; go_simp; (try with_reducible rfl))
          try simp only [Act.put, puts]
          refine wpAnyN_takeY (i := 13) (v := ?v36) rfl (by kernel_rfl) (by kernel_rfl) (by kernel_rfl) (fun _ _ _ h => h) rfl (Or.inl ⟨by rfl, ?hy36⟩) (fun _ => hHeld) ?rest36
          case hy36 => (intro w' _; go_simp; (try with_reducible rfl))
          try simp only [Act.put, puts]
          refine wpAnyN_takeY (i := 14) (v := ?v37) rfl (by kernel_rfl) (by kernel_rfl) (by kernel_rfl) (fun _ _ _ h => h) rfl (Or.inl ⟨by rfl, ?hy37⟩) (fun _ => hHeld) ?rest37
          case hy37 => (intro w' _; go_simp; (try with_reducible rfl))
          try simp only [Act.put, puts]
          refine wpAnyN_ready (rs := [15]) (by kernel_rfl) (by simp) ?_
          refine AllReadyN.cons rfl (fun K hK => ?_) AllReadyN.nil
          go_simp
          have M7 := M.drew.set p (.int .i64 (q : Int)) (Upd.head _ _ _ _ _) (by rw [digs_length]; omega)
          try go_wp2_with fail
          refine hK.out _ _ (fun h => by have h' : (true : Bool) = false := h; cases h') ?_
          clear hK K
          try simp only [Act.put, puts]
          refine wpAnyN_done (by kernel_rfl) ?_ _
          rw [digs_set] at M7
          obtain ⟨w7, hw7⟩ : ∃ w7, (wr.setCell ⟨G, p, none⟩ (.int .i64 (q : Int))).drew = w7 := ⟨_, rfl⟩
          have M7 : Mem w (wr.setCell ⟨G, p, none⟩ (.int .i64 (q : Int))).drew [(G, 3, digs (O.set p q))] := M7
          rw [hw7] at M7
          rw [hw7]
          have hc7 := M7.cell (Has.head _ _ _ _) (digs_at (O.set p q) j (by rw [List.length_set]; omega))
          rw [HNE.out] at hc7
          have hf7 := M7.free (Has.head _ _ _ _) j
          have HM7 := Lib.hid M7
          clear hc0 hc1 hf1 M M7
          clear HNE
          go_wp2_with fail
          have M8 := HM7.out.set j (.int .i64 ((z % 256 : Nat) : Int)) (Upd.head _ _ _ _ _) (by rw [digs_length, List.length_set]; omega)
          rw [digs_set] at M8
          go_roundw
          case rel => exact ⟨p, _, by rw [HP.out]; omega, by rw [HP.out], HST, by exact_mod_cast M8⟩
          case measure => have := HP.out; simp [intOf]; omega
        · obtain rfl : j = i + m := by omega
          have hdg := HC.out.done HLT.out
          have S0 := sl_mem M (Has.head _ _ _ _) (i + m + 1) HC.out.len (by omega)
          have CT := Lib.hid (trim_any _ _ _ O wr S0 hdg (by omega))
          rw [HC.out.sum] at CT
          clear hdg S0 HC
          go_wp2_with fail
          refine CT.out.mono ?_
          rintro e w1 ⟨rfl, rfl, S1⟩
          have S2 : Is16 wr (.slice (some ⟨G, 0, none⟩) (dg 256 s).length (i + m + 1)) s := S1
          have HS2 := Lib.hid S2
          clear S1 S2 CT
          go_wp2_with fail
          go_ret
          exact ⟨_, rfl, HS2.out, tyR_blk (M.has (Has.head _ _ _ _)) 0 _ _, M.below⟩
/-- As refMul16_any; the product's digits lie in a block of digits. -/
theorem refMul16_ty (v u : Value) (p q : Nat) (w : World) (hp : Is16 w v p) (hq : Is16 w u q) (h1 : (dg 256 p).length ≤ 10000) (h2 : (dg 256 q).length ≤ 10000) :
    Calls Try.prog 23 #[v, u] w fun e w' => ∃ t, e = .returned t ∧ Is16 w' t (p * q) ∧ TyR 3 w' t ∧ Below w.heap.size w w' := by
  obtain ⟨a, ca, rfl, _⟩ := id hp
  obtain ⟨b, cb, rfl, _⟩ := id hq
  exact mul_go a b _ _ ca cb _ _ _ w hp hq h1 h2 (dg_lt (by decide) p) (dg_lt (by decide) q) (by rw [dg_val (by decide), dg_val (by decide)])
theorem refMul16_any (v u : Value) (p q : Nat) (w : World) (hp : Is16 w v p) (hq : Is16 w u q) (h1 : (dg 256 p).length ≤ 10000) (h2 : (dg 256 q).length ≤ 10000) :
    Calls Try.prog 23 #[v, u] w fun e w' => ∃ t, e = .returned t ∧ Is16 w' t (p * q) ∧ Below w.heap.size w w' := by
  refine (refMul16_ty v u p q w hp hq h1 h2).mono ?_
  rintro e w' ⟨t, h1, h2, _, h3⟩
  exact ⟨t, h1, h2, h3⟩
end Go.Proofs.Ytallbegibdlpaaa

/-
  Numbers as digits of ten, by those of 256, the highest first: plain.
-/
namespace Go.Th.Dig
/-- The digits of a number; of 0 one. -/
def dz (B n : Nat) : List Nat := if n = 0 then [0] else dg B n
theorem dz_val {B : Nat} (hB : 2 ≤ B) (n : Nat) : val B (dz B n) = n := by
  unfold dz
  split
  · rename_i h; subst h; simp [val]
  · exact dg_val hB n
theorem dz_lt {B : Nat} (hB : 2 ≤ B) (n : Nat) : ∀ d ∈ dz B n, d < B := by
  unfold dz
  split
  · intro d hd; rw [List.mem_singleton.1 hd]; omega
  · exact dg_lt (by omega) n
theorem dz_last {B : Nat} (hB : 2 ≤ B) {n d : Nat} (h : (dz B n).getLast? = some d) : d = 0 → n = 0 := by
  unfold dz at h
  split at h
  · rename_i h0; exact fun _ => h0
  · exact fun e => absurd e (dg_last hB n d h)
theorem dz_pos {B : Nat} (hB : 2 ≤ B) (n : Nat) : 0 < (dz B n).length := by
  refine Nat.pos_of_ne_zero fun h => ?_
  have e := dz_val hB n
  rw [List.eq_nil_of_length_eq_zero h] at e
  have e : 0 = n := e
  subst e
  simp [dz] at h
theorem dz_of {B : Nat} (hB : 2 ≤ B) {l : List Nat} {n : Nat} (h1 : ∀ d ∈ l, d < B) (h2 : ∀ d, l.getLast? = some d → d = 0 → l = [0]) (h3 : val B l = n) (h4 : l ≠ []) : l = dz B n := by
  unfold dz
  split
  · rename_i h0
    rw [h0] at h3
    have hz := val_0 (by omega) l h3
    have hl := List.getLast?_eq_some_getLast h4
    exact h2 _ hl (hz _ (List.getLast_mem _))
  · rename_i h0
    refine dg_of hB h1 (fun d hd e => h0 ?_) h3
    rw [h2 d hd e] at h3
    rw [← h3]
    simp [val]
/-- Digits of ten, times 256, and so much more: so many are done. -/
structure Row16 (v a k c : Nat) (N : List Nat) : Prop where
  len : N.length = (dz 10 v).length
  dig : ∀ d ∈ N, d < 10
  car : c ≤ 255
  sum : val 10 (N.take k) + 10 ^ k * (c + 256 * val 10 (N.drop k)) = a + 256 * v
  rest : N.drop k = (dz 10 v).drop k
  fin : N.length ≤ k → c = 0 → v = 0
theorem Row16.start (v a : Nat) (h : a ≤ 255) : Row16 v a 0 a (dz 10 v) :=
  ⟨rfl, dz_lt (by decide) v, h, by rw [List.drop_zero, dz_val (by decide)]; simp [val], rfl, fun h => absurd (dz_pos (by decide : 2 ≤ 10) v) (by omega)⟩
theorem Row16.step {v a k c : Nat} {N : List Nat} (h : Row16 v a k c N) (hk : k < N.length) : Row16 v a (k + 1) ((c + 256 * N.getD k 0) / 10) (N.set k ((c + 256 * N.getD k 0) % 10)) := by
  obtain ⟨h1, h2, h3, h4, h5, h6⟩ := h
  have hd : N.getD k 0 < 10 := by
    rw [List.getD_eq_getElem?_getD, List.getElem?_eq_getElem hk]; exact h2 _ (List.getElem_mem _)
  have e2 : (N.set k ((c + 256 * N.getD k 0) % 10)).drop (k + 1) = N.drop (k + 1) := by rw [List.drop_set, if_pos (by omega)]
  have e1 : (N.set k ((c + 256 * N.getD k 0) % 10)).take (k + 1) = N.take k ++ [(c + 256 * N.getD k 0) % 10] := by
    rw [List.take_add_one, List.take_set_of_le (Nat.le_refl _), List.getElem?_set, if_pos rfl, if_pos hk]; rfl
  refine ⟨by simpa using h1, fun d hd' => ?_, by omega, ?_, ?_, fun hl hc => ?_⟩
  · rcases List.mem_or_eq_of_mem_set hd' with h | h
    · exact h2 d h
    · rw [h]; omega
  · rw [e1, e2, val_snoc, List.length_take, Nat.min_eq_left (by omega), ← h4, drop_step hk, val, Nat.pow_succ, Nat.add_assoc, Nat.mul_assoc, ← Nat.mul_add]
    congr 2
    omega
  · rw [e2]
    have e := congrArg (List.drop 1) h5
    simpa using e
  · rw [List.length_set] at hl
    have hz : N.getD k 0 = 0 := by omega
    refine dz_last (B := 10) (by decide) (d := N.getD k 0) ?_ hz
    have e := congrArg (fun l : List Nat => l[0]?) h5
    simp only [List.getElem?_drop, Nat.add_zero] at e
    rw [List.getLast?_eq_getElem?, ← h1, show N.length - 1 = k by omega, ← e, List.getD_eq_getElem?_getD, List.getElem?_eq_getElem hk]
    rfl
/-- What is carried behind the last one. -/
structure App16 (s c : Nat) (N : List Nat) : Prop where
  dig : ∀ d ∈ N, d < 10
  car : c ≤ 255
  sum : val 10 N + 10 ^ N.length * c = s
  pos : 0 < N.length
  fin : c = 0 → ∀ d, N.getLast? = some d → d = 0 → N = [0]
theorem Row16.done {v a k c : Nat} {N : List Nat} (h : Row16 v a k c N) (hk : N.length = k) : App16 (a + 256 * v) c N := by
  obtain ⟨h1, h2, h3, h4, h5, h6⟩ := h
  refine ⟨h2, h3, ?_, by rw [h1]; exact dz_pos (by decide) v, fun hc d hd e => ?_⟩
  · rw [← h4, List.take_of_length_le (by omega), List.drop_of_length_le (by omega), hk]; simp [val]
  · have hv := h6 (by omega) hc
    subst hv
    have hl : N.length = 1 := h1
    obtain ⟨x, rfl⟩ := List.length_eq_one_iff.1 hl
    simp at hd
    rw [hd, e]
theorem App16.step {s c : Nat} {N : List Nat} (h : App16 s c N) (hc : 0 < c) : App16 s (c / 10) (N ++ [c % 10]) := by
  obtain ⟨h1, h2, h3, h4, h5⟩ := h
  refine ⟨fun d hd => ?_, by omega, ?_, by simp, fun h0 d hd e => ?_⟩
  · rcases List.mem_append.1 hd with hd | hd
    · exact h1 d hd
    · rw [List.mem_singleton.1 hd]; omega
  · rw [val_snoc, List.length_append, List.length_singleton, Nat.pow_succ, ← h3, Nat.add_assoc, Nat.mul_assoc, ← Nat.mul_add, Nat.mod_add_div]
  · rw [List.getLast?_append] at hd
    simp at hd
    omega
theorem App16.done {s : Nat} {N : List Nat} (h : App16 s 0 N) : N = dz 10 s :=
  dz_of (by decide) h.dig (h.fin rfl) (by simpa using h.sum) (fun e => by have := h.pos; rw [e] at this; simp at this)
/-- There are not many of them. -/
theorem App16.len {s c n : Nat} {N : List Nat} (h : App16 s c N) (hc : 0 < c) (hs : s < 256 ^ n) : N.length < 3 * n := by
  have h1 : 10 ^ N.length * 1 ≤ 10 ^ N.length * c := Nat.mul_le_mul_left _ hc
  have h2 := h.sum
  have h3 : 256 ^ n ≤ (10 ^ 3) ^ n := Nat.pow_le_pow_left (by decide) n
  rw [← Nat.pow_mul] at h3
  exact (Nat.pow_lt_pow_iff_right (by decide : 1 < 10)).1 (show 10 ^ N.length < 10 ^ (3 * n) by omega)
theorem dz_len {s n : Nat} (hs : s < 256 ^ n) : (dz 10 s).length ≤ 3 * n + 1 := by
  unfold dz
  split
  · simp
  · have h3 : 256 ^ n ≤ (10 ^ 3) ^ n := Nat.pow_le_pow_left (by decide) n
    rw [← Nat.pow_mul] at h3
    have := dg_len_le (B := 10) (by decide) (p := s) (k := 3 * n) (by omega)
    omega
/-- A number's text. -/
def txt (s : Nat) : List Nat := ((dz 10 s).map (48 + ·)).reverse
end Go.Th.Dig

/-
  A number's text: the reference's.
-/
namespace Go.Proofs.Ytallbegibdlpaaa
open Go Go.RowKit Go.Th Go.Th.Dig

theorem own_form {w : World} {base : Nat} {e : TypeId} {v : Value} {n : Nat} {xs : List Value} (h : w.ownsRow base e 1 v n xs) (hn : 0 < n) : ∃ g cap, v = .slice (some ⟨g, 0, none⟩) n cap ∧ base ≤ g := by
  rcases h.2 with ⟨_, rfl⟩ | ⟨g, cap, cur, rfl, hb, _⟩
  · omega
  · exact ⟨g, cap, rfl, hb⟩
theorem own_lit1 (w : World) (u : Value) (t : TypeId) : (w.alloc (.cells #[u] t)).ownsRow w.heap.size t 1 (.slice (some ⟨w.heap.size, 0, none⟩) 1 1) 1 [u] :=
  ⟨rfl, .inr ⟨w.heap.size, 1, #[u], rfl, Nat.le_refl _, heap_alloc_new w _, Nat.le_refl _, by unfold maxLen; omega, rfl, rfl⟩⟩

theorem strOf_size (l : List Nat) : (strOf l).size = l.length := by simp [strOf, ByteArray.size]
theorem strOf_app (a b : List Nat) : strOf a ++ strOf b = strOf (a ++ b) := by
  apply ByteArray.ext
  simp [strOf]
end Go.Proofs.Ytallbegibdlpaaa
