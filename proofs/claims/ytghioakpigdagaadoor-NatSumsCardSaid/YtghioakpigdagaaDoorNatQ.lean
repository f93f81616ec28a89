/-
  How many bits a number has; it as one of 64 bits: the code's.
-/
import Derived.Test.YtghioakpigdagaaDoorNatP
import Derived.Test.YtghioakpigdagaaDoorNatLen
set_option linter.unusedVariables false
set_option linter.unusedSimpArgs false
namespace Go.Th.Dig
open Go
/-- How many bits a number has. -/
def nb (p : Nat) : Nat := if p = 0 then 0 else Nat.log2 p + 1
theorem nb_lt (p : Nat) : p < 2 ^ nb p := by
  unfold nb
  split
  · rename_i h; subst h; decide
  · exact Nat.lt_log2_self
theorem nb_ge {p : Nat} (h : p ≠ 0) : 0 < nb p ∧ 2 ^ (nb p - 1) ≤ p := by
  unfold nb
  rw [if_neg h]
  exact ⟨by omega, by rw [Nat.add_sub_cancel]; exact Nat.log2_self_le h⟩
theorem nb_of {p b : Nat} (h1 : 0 < b) (h2 : 2 ^ (b - 1) ≤ p) (h3 : p < 2 ^ b) : nb p = b := by
  have h0 : p ≠ 0 := by have := Nat.two_pow_pos (b - 1); omega
  obtain ⟨a1, a2⟩ := nb_ge h0
  have a3 := nb_lt p
  have k1 : nb p - 1 < b := (Nat.pow_lt_pow_iff_right (by decide : 1 < 2)).1 (Nat.lt_of_le_of_lt a2 h3)
  have k2 : b - 1 < nb p := (Nat.pow_lt_pow_iff_right (by decide : 1 < 2)).1 (Nat.lt_of_le_of_lt h2 a3)
  omega
theorem nb_le {p b : Nat} (h : p < 2 ^ b) : nb p ≤ b := by
  by_cases h0 : p = 0
  · subst h0; exact Nat.zero_le _
  · obtain ⟨a1, a2⟩ := nb_ge h0
    have := (Nat.pow_lt_pow_iff_right (by decide : 1 < 2)).1 (Nat.lt_of_le_of_lt a2 h)
    omega
theorem bitLenAux_lt16 : ∀ (f x : Nat), x < 2 ^ f → x < 2 ^ Lib.bitLenAux f x
  | 0, x, h => by simpa [Lib.bitLenAux] using h
  | f + 1, x, h => by
    unfold Lib.bitLenAux
    split
    · rename_i h0; subst h0; decide
    · have := bitLenAux_lt16 f (x / 2) (by rw [Nat.pow_succ] at h; omega)
      rw [Nat.add_comm, Nat.pow_succ]
      omega
theorem bitLen_nb {x : Nat} (h : x < 4294967296) : Lib.bitLen x = nb x := by
  by_cases h0 : x = 0
  · subst h0; rfl
  · have h1 : x < 2 ^ Lib.bitLen x := bitLenAux_lt16 64 x (by omega)
    have hp : 0 < Lib.bitLen x := by
      refine Nat.pos_of_ne_zero fun e => ?_
      rw [e] at h1; omega
    refine (nb_of hp ?_ h1).symm
    refine Nat.le_of_not_lt fun hlt => ?_
    have hle := Lib.bitLen_le x (Lib.bitLen x - 1) (by have := Lib.bitLen_le x 32 (by decide) h; omega) hlt
    omega
/-- By the highest part. -/
theorem nb_top {p : Nat} (h : p ≠ 0) : nb p = ((dg 4294967296 p).length - 1) * 32 + nb ((dg 4294967296 p).getD ((dg 4294967296 p).length - 1) 0) := by
  have hl : 0 < (dg 4294967296 p).length := by
    refine Nat.pos_of_ne_zero fun e => h ?_
    have := dg_val (B := 4294967296) (by decide) p
    rw [List.eq_nil_of_length_eq_zero e] at this
    exact this.symm
  obtain ⟨L, hL⟩ : ∃ L, L = dg 4294967296 p := ⟨_, rfl⟩
  have hv : val 4294967296 L = p := by rw [hL]; exact dg_val (by decide) p
  have hd : ∀ d ∈ L, d < 4294967296 := by rw [hL]; exact dg_lt (by decide) p
  have hlast : L.getD (L.length - 1) 0 ≠ 0 := by
    rw [hL]
    refine dg_last (B := 4294967296) (by decide) p _ ?_
    rw [List.getLast?_eq_getElem?, List.getD_eq_getElem?_getD, List.getElem?_eq_getElem (by omega)]; rfl
  rw [← hL] at hl ⊢
  obtain ⟨m, hm⟩ : ∃ m, L.length = m + 1 := ⟨L.length - 1, by omega⟩
  rw [hm, Nat.add_sub_cancel] at hlast ⊢
  have hj := val_join (B := 4294967296) L (i := m) (by omega)
  rw [hv, drop_step (by omega), List.drop_of_length_le (by omega), val, val, Nat.mul_zero, Nat.add_zero] at hj
  have hlow := val_lt (B := 4294967296) (by decide) (l := L.take m) (fun d hd' => hd d (List.mem_of_mem_take hd'))
  rw [List.length_take, Nat.min_eq_left (by omega)] at hlow
  obtain ⟨t, ht⟩ : ∃ t, t = L.getD m 0 := ⟨_, rfl⟩
  rw [← ht] at hj hlast ⊢
  obtain ⟨a1, a2⟩ := nb_ge hlast
  have a3 := nb_lt t
  have e : 4294967296 ^ m = 2 ^ (m * 32) := by rw [show 4294967296 = 2 ^ 32 by decide, ← Nat.pow_mul, Nat.mul_comm]
  rw [e] at hj hlow
  refine nb_of (by omega) ?_ ?_
  · rw [show m * 32 + nb t - 1 = m * 32 + (nb t - 1) by omega, Nat.pow_add]
    have := Nat.mul_le_mul_left (2 ^ (m * 32)) a2
    omega
  · rw [Nat.pow_add]
    have := Nat.mul_le_mul_left (2 ^ (m * 32)) (show t + 1 ≤ 2 ^ nb t from a3)
    rw [Nat.mul_add, Nat.mul_one] at this
    omega
end Go.Th.Dig
namespace Go.Proofs.YtghioakpigdagaaDoor
open Go Go.RowKit Go.Shelf Go.Th Go.Th.Dig
attribute [local go_sem] Oper.semAt_some

set_option maxRecDepth 20000 in
theorem bits_any16 (v : Value) (p : Nat) (w : World) (hp : IsN w v p) (h1 : len32 p ≤ 100000) :
    Calls Tryd.prog 28 #[v] w fun e w' => e = .returned (.int .i64 (nb p : Nat)) ∧ Below w.heap.size w w' := by
  have CZ := Lib.hid (fun wx (hx : IsN wx v p) => zero_any v p wx hx (by omega))
  have HP := Lib.hid hp
  have M0 := Mem.start w
  by_cases h0 : p = 0
  · subst h0
    obtain ⟨a, ca, rfl, hS⟩ := hp
    rw [show decide ((0 : Nat) = 0) = true by decide] at CZ
    clear hS h1
    go_enter Tryd.func28, Tryd.ntmps28
    go_wp2_with ((with_reducible refine (?_ : Go.wpList _ _ _ (_ :: _) _ _)); (first | go_skip | (refine wpL_bx M0 rfl rfl rfl rfl ?_; clear M0; intro g1 w1 M1) | (refine wpL_alc M0 rfl rfl ?_; clear M0; intro g1 w1 M1) | (refine wpL_ldc M0 rfl rfl rfl ?_) | (refine wpL_lgc M0 rfl rfl rfl ?_) | (refine wpL_stc M0 rfl rfl rfl rfl ?_; clear M0; intro w' M0) | (refine wpL_sti M0 rfl rfl rfl rfl ?_; clear M0; intro w' M0) | (refine wpL_sth M0 rfl rfl rfl rfl (wr_minus _ _ _) ?_; clear M0; intro w' M0) | (refine wpL_ldc M1 rfl rfl rfl ?_) | (refine wpL_lgc M1 rfl rfl rfl ?_) | (refine wpL_stc M1 rfl rfl rfl rfl ?_; clear M1; intro w' M1) | (refine wpL_sti M1 rfl rfl rfl rfl ?_; clear M1; intro w' M1) | (refine wpL_sth M1 rfl rfl rfl rfl (wr_minus _ _ _) ?_; clear M1; intro w' M1)))
    refine (CZ.out _ (HP.out.below M1.below)).mono ?_
    rintro e w2 ⟨rfl, hB⟩
    replace M1 := M1.call hB
    go_wp2_with fail
    go_ret
    exact ⟨rfl, M1.below⟩
  · have hnt := nb_top h0
    have hb := getD_mem (by decide : 0 < 4294967296) (dg_lt (by decide : 0 < 4294967296) p) ((dg 4294967296 p).length - 1)
    have hl : 0 < (dg 4294967296 p).length := Nat.pos_of_ne_zero fun e => h0 ((len32_0 p).1 e)
    have hl1 : (dg 4294967296 p).length ≤ 100000 := h1
    obtain ⟨a, ca, rfl, hS⟩ := hp
    rw [show decide (p = 0) = false by simp [h0]] at CZ
    obtain ⟨L, hL⟩ : ∃ L, L = dg 4294967296 p := ⟨_, rfl⟩
    rw [← hL] at hS hnt hb hl hl1 CZ HP ⊢
    have hLL : L.length = L.length := rfl
    obtain ⟨n, hn⟩ : ∃ n, L.length = n + 1 := ⟨L.length - 1, by omega⟩
    rw [hn] at hS hnt hb hl1 CZ HP ⊢
    rw [Nat.add_sub_cancel] at hnt hb
    obtain ⟨b, o, rfl, _, hc⟩ := cell_u32 hS n (by omega)
    have CL := fun w => Len32_any ((L.getD n 0 : Nat) : Int) w (by omega) (by omega)
    rw [Int.toNat_natCast, bitLen_nb hb] at CL
    have hnl := nb_le (b := 32) hb
    obtain ⟨t, ht⟩ : ∃ t, t = L.getD n 0 := ⟨_, rfl⟩
    rw [← ht] at hc CL hnt hnl
    obtain ⟨c, hc2⟩ : ∃ c, c = nb t := ⟨_, rfl⟩
    rw [← hc2] at CL hnt hnl
    have HNT := Lib.hid hnt
    have CL := Lib.hid CL
    have HC := Lib.hid hc
    have hlc := World.block_lt_of_cell? w _ hc
    clear hS hb ht hc2 hnt h0 hL hLL hn h1 hc
    go_enter Tryd.func28, Tryd.ntmps28
    go_wp2_with ((with_reducible refine (?_ : Go.wpList _ _ _ (_ :: _) _ _)); (first | go_skip | (refine wpL_bx M0 rfl rfl rfl rfl ?_; clear M0; intro g1 w1 M1) | (refine wpL_alc M0 rfl rfl ?_; clear M0; intro g1 w1 M1) | (refine wpL_ldc M0 rfl rfl rfl ?_) | (refine wpL_lgc M0 rfl rfl rfl ?_) | (refine wpL_stc M0 rfl rfl rfl rfl ?_; clear M0; intro w' M0) | (refine wpL_sti M0 rfl rfl rfl rfl ?_; clear M0; intro w' M0) | (refine wpL_sth M0 rfl rfl rfl rfl (wr_minus _ _ _) ?_; clear M0; intro w' M0) | (refine wpL_ldc M1 rfl rfl rfl ?_) | (refine wpL_lgc M1 rfl rfl rfl ?_) | (refine wpL_stc M1 rfl rfl rfl rfl ?_; clear M1; intro w' M1) | (refine wpL_sti M1 rfl rfl rfl rfl ?_; clear M1; intro w' M1) | (refine wpL_sth M1 rfl rfl rfl rfl (wr_minus _ _ _) ?_; clear M1; intro w' M1)))
    refine (CZ.out _ (HP.out.below M1.below)).mono ?_
    rintro e w2 ⟨rfl, hB⟩
    replace M1 := M1.call hB
    have hc := (M1.below.cell (p := ⟨b, o + n, none⟩) hlc).trans HC.out
    clear HC
    go_wp2_with ((with_reducible refine (?_ : Go.wpList _ _ _ (_ :: _) _ _)); (first | go_skip | (refine wpL_ldc M1 rfl rfl rfl ?_) | (refine wpL_lgc M1 rfl rfl rfl ?_) | (refine wpL_stc M1 rfl rfl rfl rfl ?_; clear M1; intro w' M1) | (refine wpL_sti M1 rfl rfl rfl rfl ?_; clear M1; intro w' M1) | (refine wpL_sth M1 rfl rfl rfl rfl (wr_minus _ _ _) ?_; clear M1; intro w' M1)))
    refine (CL.out _).mono ?_
    rintro e w3 ⟨rfl, rfl⟩
    go_wp2_with fail
    go_ret
    exact ⟨by rw [HNT.out]; first | rfl | (congr 2; omega), M1.below⟩

theorem lz_any (x : Nat) (hx : x < 4294967296) (w : World) :
    Calls Tryd.prog 43 #[.int .u32 x] w fun e w' => e = .returned (.int .i64 ((32 - nb x : Nat) : Int)) ∧ w = w' := by
  have CL := fun w => Len32_any ((x : Nat) : Int) w (by omega) (by omega)
  rw [Int.toNat_natCast, bitLen_nb hx] at CL
  have hnl := nb_le (b := 32) hx
  obtain ⟨c, hc⟩ : ∃ c, c = nb x := ⟨_, rfl⟩
  rw [← hc] at CL hnl ⊢
  have CL := Lib.hid CL
  clear hc
  go_enter Tryd.func43, Tryd.ntmps43
  go_wp2_with fail
  refine (CL.out _).mono ?_
  rintro e w1 ⟨rfl, rfl⟩
  go_wp2_with fail
  go_ret
  exact ⟨ret_int (by omega), rfl⟩
end Go.Proofs.YtghioakpigdagaaDoor
