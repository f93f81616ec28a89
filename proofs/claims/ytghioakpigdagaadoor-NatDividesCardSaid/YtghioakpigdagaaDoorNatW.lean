/-
  A number times a power of two: the code's.
-/
import Derived.Test.YtghioakpigdagaaDoorNatV
import Derived.Test.YtghioakpigdagaaDoorPackBits
set_option linter.unusedVariables false
set_option linter.unusedSimpArgs false
namespace Go.Th
open Go Go.RowKit
theorem over_all16 {l m : List Value} (h : m.length = l.length) : over l 0 m = m := by
  unfold over splice
  rw [List.take_zero, List.nil_append, List.drop_of_length_le (by omega), List.append_nil]
section
variable {P : Program} {w : World} {t e : TypeId} {bytes : Nat}
theorem blk_own {g base : Nat} {cs : List Value} (K : Blk w g e cs) (hb : base ≤ g) (hm : cs.length ≤ maxLen) : w.ownsRow base e 1 (.slice (some ⟨g, 0, none⟩) cs.length cs.length) cs.length cs :=
  ⟨by simp, .inr ⟨g, cs.length, cs.toArray, rfl, hb, K, Nat.le_refl _, hm, by simp, by simp⟩⟩
/-- copy into a block that is known whole. -/
theorem wp_copy_blk (E : ElemOf P t e 1 bytes) {o : Oper} {b : Act} {K : Act → World → Prop} {Q : Exit → Act → World → Prop} (d s : Operand)
    (ho : o.op = .call { callee := .builtin .copy, args := #[d, s], argTypes := #[t, t] }) {g off m dcap sl scap : Nat} {sa : Option Addr} {cs ys : List Value}
    (hd : b.eval d = .slice (some ⟨g, off, none⟩) m dcap) (hs : b.eval s = .slice sa sl scap)
    (HK : Blk w g e cs) (hcm : cs.length ≤ maxLen) (hS : Sl w 1 (.slice sa sl scap) sl ys) (hsm : sl ≤ m) (h0 : 0 < sl) (hfit : off + sl ≤ cs.length) (h1 : ∀ u ∈ ys, u.oneCell' = true)
    (h : ∀ w', Blk w' g e (over cs off ys) → Turned (fun j => j = g) w w' → K (b.put o.dst (goInt sl)) w') : o.wp P b w K Q := by
  have hyl : ys.length = sl := by obtain ⟨_, _, e, h1, _⟩ := hS; cases e; simpa using h1
  refine wp_copy_at E d s ho (base := 0) (g := g) (n := cs.length) (cap := cs.length) (xs := cs) (ys := ys) sl hd hs (blk_own HK (Nat.zero_le _) hcm) hS (Nat.min_eq_left hsm).symm h0 hfit h1 ?_
  intro w' ho' hT
  refine h w' ?_ hT
  obtain ⟨cs', K', k1, k2, _, _, _, k6⟩ := own_blk ho'
  have e : cs' = over cs off (ys.take sl) := by
    rw [← k2]
    exact over_all16 (by rw [k6, k1])
  rw [List.take_of_length_le (by omega)] at e
  rw [e] at K'
  exact K'
end
end Go.Th
namespace Go.Th.Dig
theorem dg_full {B : Nat} (hB : 2 ≤ B) {l : List Nat} {n : Nat} (h1 : ∀ d ∈ l, d < B) (h2 : val B l = n) (h3 : 0 < l.length) (h4 : B ^ (l.length - 1) ≤ n) : l = dg B n := by
  refine dg_of hB h1 (fun d hd e => ?_) h2
  subst e
  rw [List.getLast?_eq_getElem?] at hd
  have hg : l.getD (l.length - 1) 0 = 0 := by rw [List.getD_eq_getElem?_getD, hd]; rfl
  have hj := val_join (B := B) l (i := l.length - 1) (by omega)
  rw [h2, drop_step (by omega), List.drop_of_length_le (by omega), hg, val, val, Nat.mul_zero, Nat.add_zero, Nat.mul_zero, Nat.add_zero] at hj
  have hlow := val_lt (B := B) (by omega) (l := l.take (l.length - 1)) (fun d hd' => h1 d (List.mem_of_mem_take hd'))
  rw [List.length_take, Nat.min_eq_left (by omega)] at hlow
  omega
theorem big_two (k : Nat) : 4294967296 ^ k = 2 ^ (32 * k) := by rw [show 4294967296 = 2 ^ 32 by decide, ← Nat.pow_mul]
/-- How many parts a number has, by its bits. -/
theorem len_nb {p : Nat} (h : p ≠ 0) : (dg 4294967296 p).length = (nb p + 31) / 32 := by
  have hl : 0 < (dg 4294967296 p).length := by
    refine Nat.pos_of_ne_zero fun e => h ?_
    have := dg_val (B := 4294967296) (by decide) p
    rw [List.eq_nil_of_length_eq_zero e] at this
    exact this.symm
  obtain ⟨a1, a2⟩ := nb_ge h
  have a3 := nb_lt p
  have b1 := dg_top (B := 4294967296) (by decide) (p := p) hl
  have b2 := val_lt (B := 4294967296) (by decide) (dg_lt (by decide : 0 < 4294967296) p)
  rw [dg_val (by decide)] at b2
  rw [big_two] at b1 b2
  have c1 := (Nat.pow_lt_pow_iff_right (by decide : 1 < 2)).1 (Nat.lt_of_le_of_lt a2 b2)
  have c2 := (Nat.pow_lt_pow_iff_right (by decide : 1 < 2)).1 (Nat.lt_of_le_of_lt b1 a3)
  omega
/-- The parts of a number times a power of two. -/
theorem shl_parts {p s : Nat} {O : List Nat} (hp : p ≠ 0) (h1 : ∀ d ∈ O, d < 4294967296) (h2 : O.length = (nb p + s % 32 + 31) / 32) (h3 : val 4294967296 O = 2 ^ (s % 32) * p) :
    List.replicate (s / 32) 0 ++ O = dg 4294967296 (p * 2 ^ s) := by
  obtain ⟨a1, a2⟩ := nb_ge hp
  have hr : List.replicate (s / 32) 0 = (List.replicate (s / 32) 0 : List Nat) := rfl
  refine dg_full (by decide) (fun d hd => ?_) ?_ (by rw [List.length_append, h2]; omega) ?_
  · rcases List.mem_append.1 hd with hd | hd
    · rw [(List.mem_replicate.1 hd).2]; decide
    · exact h1 d hd
  · rw [val_app, val_zeros, Nat.zero_add, List.length_replicate, h3, big_two, ← Nat.mul_assoc, ← Nat.pow_add, Nat.mul_comm, Nat.div_add_mod]
  · rw [List.length_append, List.length_replicate, h2, big_two]
    have e : 2 ^ (32 * (s / 32 + (nb p + s % 32 + 31) / 32 - 1)) ≤ 2 ^ (nb p - 1 + s) := Nat.pow_le_pow_right (by decide) (by omega)
    rw [Nat.pow_add] at e
    exact Nat.le_trans e (Nat.mul_le_mul_right _ a2)
theorem shl_room {p s : Nat} : 2 ^ (s % 32) * p < 4294967296 ^ ((nb p + s % 32 + 31) / 32) := by
  have a3 := nb_lt p
  rw [big_two]
  have e : 2 ^ (s % 32 + nb p) ≤ 2 ^ (32 * ((nb p + s % 32 + 31) / 32)) := Nat.pow_le_pow_right (by decide) (by omega)
  rw [Nat.pow_add] at e
  exact Nat.lt_of_lt_of_le (Nat.mul_lt_mul_of_pos_left a3 (Nat.two_pow_pos _)) e
end Go.Th.Dig
namespace Go.Proofs.YtghioakpigdagaaDoor
open Go Go.RowKit Go.Th Go.Th.Dig

set_option maxRecDepth 20000 in
theorem shl_self (v : Value) (p : Nat) (k : Int) (w : World) (hp : IsN w v p) (h1 : len32 p ≤ 1000) (hk : k < 1 ∨ p = 0) :
    Calls Tryd.prog 27 #[v, .int .i64 k] w fun e w' => ∃ t, e = .returned t ∧ IsN w' t p ∧ Below w.heap.size w w' := by
  obtain ⟨a, ca, rfl, hS⟩ := hp.form
  obtain ⟨n, hn⟩ : ∃ n, n = len32 p := ⟨_, rfl⟩
  have HIS : Hid (∀ wx, Sl wx 1 (.slice a n ca) n (u32s (dg 4294967296 p)) → IsN wx (.agg #[.slice a n ca]) p) := Lib.hid (fun wx hx => ⟨a, ca, by rw [hn], by rw [hn] at hx; exact hx⟩)
  have CZ := Lib.hid (fun wx hx => zero_any (.agg #[.slice a n ca]) p wx (HIS.out wx hx) (by omega))
  rw [← hn] at hS ⊢
  have HS := Lib.hid hS
  have M0 := Mem.start w
  clear hp hS hn h1
  by_cases hk1 : k < 1
  · clear hk
    go_enter Tryd.func27, Tryd.ntmps27
    go_upto_region 2 with (((with_reducible refine (?_ : Go.wpList _ _ _ (_ :: _) _ _)); (first | go_skip | (refine wpL_bx M0 rfl rfl rfl rfl ?_; clear M0; intro g1 w1 M1) | (refine wpL_alc M0 rfl rfl ?_; clear M0; intro g1 w1 M1) | (refine wpL_ldc M0 rfl rfl rfl ?_) | (refine wpL_lgc M0 rfl rfl rfl ?_) | (refine wpL_stc M0 rfl rfl rfl rfl ?_; clear M0; intro w' M0) | (refine wpL_sti M0 rfl rfl rfl rfl ?_; clear M0; intro w' M0) | (refine wpL_sth M0 rfl rfl rfl rfl (wr_minus _ _ _) ?_; clear M0; intro w' M0) | (refine wpL_bx M1 rfl rfl rfl rfl ?_; clear M1; intro g2 w2 M2) | (refine wpL_alc M1 rfl rfl ?_; clear M1; intro g2 w2 M2) | (refine wpL_ldc M1 rfl rfl rfl ?_) | (refine wpL_lgc M1 rfl rfl rfl ?_) | (refine wpL_stc M1 rfl rfl rfl rfl ?_; clear M1; intro w' M1) | (refine wpL_sti M1 rfl rfl rfl rfl ?_; clear M1; intro w' M1) | (refine wpL_sth M1 rfl rfl rfl rfl (wr_minus _ _ _) ?_; clear M1; intro w' M1) | (refine wpL_ldc M2 rfl rfl rfl ?_) | (refine wpL_lgc M2 rfl rfl rfl ?_) | (refine wpL_stc M2 rfl rfl rfl rfl ?_; clear M2; intro w' M2) | (refine wpL_sti M2 rfl rfl rfl rfl ?_; clear M2; intro w' M2) | (refine wpL_sth M2 rfl rfl rfl rfl (wr_minus _ _ _) ?_; clear M2; intro w' M2))))
    have K2 := M2.has (Has.head _ _ _ _)
    have hS2 := Lib.hid (HS.out.below M2.below)
    go_wp2_with ((with_reducible refine (?_ : Go.wpList _ _ _ (_ :: _) _ _)); (first | go_skip | (refine wpL_ldc M2 rfl rfl rfl ?_) | (refine wpL_lgc M2 rfl rfl rfl ?_) | (refine wpL_stcT M2 rfl rfl rfl rfl ?_; clear M2; intro w' M2 hT) | (refine wpL_stiT M2 rfl rfl rfl rfl ?_; clear M2; intro w' M2 hT)))
    refine bodyPost_ret (res_cell rfl M2 rfl (Has.head _ _ _ _) (rd_nat _)) rfl ?_
    exact ⟨_, rfl, HIS.out _ (sl_kept hS2.out K2 (noPart_sl _ _ _) hT), M2.below⟩
  · have hp0 : p = 0 := by omega
    rw [decide_eq_true hp0] at CZ
    clear hk hp0
    go_enter Tryd.func27, Tryd.ntmps27
    go_wp2_with ((with_reducible refine (?_ : Go.wpList _ _ _ (_ :: _) _ _)); (first | go_skip | (refine wpL_bx M0 rfl rfl rfl rfl ?_; clear M0; intro g1 w1 M1) | (refine wpL_alc M0 rfl rfl ?_; clear M0; intro g1 w1 M1) | (refine wpL_ldc M0 rfl rfl rfl ?_) | (refine wpL_lgc M0 rfl rfl rfl ?_) | (refine wpL_stc M0 rfl rfl rfl rfl ?_; clear M0; intro w' M0) | (refine wpL_sti M0 rfl rfl rfl rfl ?_; clear M0; intro w' M0) | (refine wpL_sth M0 rfl rfl rfl rfl (wr_minus _ _ _) ?_; clear M0; intro w' M0) | (refine wpL_bx M1 rfl rfl rfl rfl ?_; clear M1; intro g2 w2 M2) | (refine wpL_alc M1 rfl rfl ?_; clear M1; intro g2 w2 M2) | (refine wpL_ldc M1 rfl rfl rfl ?_) | (refine wpL_lgc M1 rfl rfl rfl ?_) | (refine wpL_stc M1 rfl rfl rfl rfl ?_; clear M1; intro w' M1) | (refine wpL_sti M1 rfl rfl rfl rfl ?_; clear M1; intro w' M1) | (refine wpL_sth M1 rfl rfl rfl rfl (wr_minus _ _ _) ?_; clear M1; intro w' M1) | (refine wpL_ldc M2 rfl rfl rfl ?_) | (refine wpL_lgc M2 rfl rfl rfl ?_) | (refine wpL_stc M2 rfl rfl rfl rfl ?_; clear M2; intro w' M2) | (refine wpL_sti M2 rfl rfl rfl rfl ?_; clear M2; intro w' M2) | (refine wpL_sth M2 rfl rfl rfl rfl (wr_minus _ _ _) ?_; clear M2; intro w' M2)))
    refine (CZ.out _ (HS.out.below M2.below)).mono ?_
    rintro e w3 ⟨rfl, hA⟩
    replace M2 := M2.call hA
    have K2 := M2.has (Has.head _ _ _ _)
    have hS2 := Lib.hid (HS.out.below M2.below)
    clear hA
    go_wp2_with ((with_reducible refine (?_ : Go.wpList _ _ _ (_ :: _) _ _)); (first | go_skip | (refine wpL_ldc M2 rfl rfl rfl ?_) | (refine wpL_lgc M2 rfl rfl rfl ?_) | (refine wpL_stcT M2 rfl rfl rfl rfl ?_; clear M2; intro w' M2 hT) | (refine wpL_stiT M2 rfl rfl rfl rfl ?_; clear M2; intro w' M2 hT)))
    refine bodyPost_ret (res_cell rfl M2 rfl (Has.head _ _ _ _) (rd_nat _)) rfl ?_
    exact ⟨_, rfl, HIS.out _ (sl_kept hS2.out K2 (noPart_sl _ _ _) hT), M2.below⟩
end Go.Proofs.YtghioakpigdagaaDoor
