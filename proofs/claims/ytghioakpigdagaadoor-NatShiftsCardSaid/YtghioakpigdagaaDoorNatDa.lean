/-
  How often one number goes into another one: where it doesn't; plain facts of the long way: the code's.
-/
import Derived.Test.YtghioakpigdagaaDoorNatZ
set_option linter.unusedVariables false
set_option linter.unusedSimpArgs false
namespace Go.Th.Dig
/-- The long way: rows of parts; so many of the quotient's are known. -/
structure Lon (P D m N i : Nat) (R O : List Nat) : Prop where
  lenR : R.length = N + m + 1
  lenO : O.length = N
  digR : ∀ d ∈ R, d < 4294967296
  digO : ∀ d ∈ O, d < 4294967296
  sum : val 4294967296 R + D * (4294967296 ^ i * val 4294967296 (O.drop i)) = P
  lt : val 4294967296 (R.drop i) < D
theorem Lon.window {P D m N i : Nat} {R O : List Nat} (h : Lon P D m N (i + 1) R O) (hi : i < N) (hD : D < 4294967296 ^ (m + 1)) :
    val 4294967296 (R.drop i) < 4294967296 * D ∧ val 4294967296 ((R.drop i).take (m + 2)) = val 4294967296 (R.drop i) ∧ val 4294967296 (R.drop (i + (m + 2))) = 0 := by
  obtain ⟨h1, h2, h3, h4, h5, h6⟩ := h
  have e := drop_any R i 4294967296
  have hb := getD_mem (by decide : 0 < 4294967296) h3 i
  have hlt : val 4294967296 (R.drop i) < 4294967296 * D := by
    rw [e]
    have : 4294967296 * (val 4294967296 (R.drop (i + 1)) + 1) ≤ 4294967296 * D := Nat.mul_le_mul_left _ h6
    omega
  have hj := val_join (B := 4294967296) (R.drop i) (i := m + 2) (by rw [List.length_drop]; omega)
  rw [List.drop_drop] at hj
  have hz : val 4294967296 (R.drop (i + (m + 2))) = 0 := by
    refine Nat.eq_zero_of_not_pos fun hp => ?_
    have k1 : 4294967296 ^ (m + 2) * 1 ≤ 4294967296 ^ (m + 2) * val 4294967296 (R.drop (i + (m + 2))) := Nat.mul_le_mul_left _ hp
    have k2 : 4294967296 * D < 4294967296 ^ (m + 2) := by
      rw [show m + 2 = m + 1 + 1 by omega, Nat.pow_succ, Nat.mul_comm (4294967296 ^ (m + 1))]
      exact Nat.mul_lt_mul_of_pos_left hD (by decide)
    omega
  refine ⟨hlt, ?_, hz⟩
  rw [hz, Nat.mul_zero, Nat.add_zero] at hj
  exact hj.symm
theorem Lon.step {P D m N i : Nat} {R O W : List Nat} (h : Lon P D m N (i + 1) R O) (hi : i < N) (hD : D < 4294967296 ^ (m + 1)) (hD0 : 0 < D) (hW : W.length = m + 2) (hd : ∀ d ∈ W, d < 4294967296)
    (hv : val 4294967296 W = val 4294967296 (R.drop i) % D) : Lon P D m N i (R.take i ++ W ++ R.drop (i + (m + 2))) (O.set i (val 4294967296 (R.drop i) / D)) := by
  obtain ⟨w1, w2, w3⟩ := h.window hi hD
  obtain ⟨h1, h2, h3, h4, h5, h6⟩ := h
  have hq : val 4294967296 (R.drop i) / D < 4294967296 := (Nat.div_lt_iff_lt_mul hD0).2 w1
  have e1 : (R.take i).length = i := by rw [List.length_take]; omega
  have e2 : (R.take i ++ W ++ R.drop (i + (m + 2))).drop i = W ++ R.drop (i + (m + 2)) := by
    rw [List.append_assoc, List.drop_append, e1, Nat.sub_self, List.drop_zero, List.drop_of_length_le (by omega), List.nil_append]
  have e3 : val 4294967296 (W ++ R.drop (i + (m + 2))) = val 4294967296 (R.drop i) % D := by rw [val_app, w3, Nat.mul_zero, Nat.add_zero, hv]
  have e4 : val 4294967296 (R.take i ++ W ++ R.drop (i + (m + 2))) = val 4294967296 (R.take i) + 4294967296 ^ i * (val 4294967296 (R.drop i) % D) := by
    rw [List.append_assoc, val_app, e1, e3]
  refine ⟨?_, by simpa using h2, fun d hd' => ?_, mem_set h4 hq, ?_, ?_⟩
  · rw [List.length_append, List.length_append, e1, hW, List.length_drop]; omega
  · rcases List.mem_append.1 hd' with hd' | hd'
    · rcases List.mem_append.1 hd' with hd' | hd'
      · exact h3 d (List.mem_of_mem_take hd')
      · exact hd d hd'
    · exact h3 d (List.mem_of_mem_drop hd')
  · rw [e4, ← h5, val_set_high (by omega)]
    have hj := val_join (B := 4294967296) R (i := i) (by omega)
    obtain ⟨V, hV⟩ : ∃ V, V = val 4294967296 (R.drop i) := ⟨_, rfl⟩
    obtain ⟨X, hX⟩ : ∃ X, X = val 4294967296 (O.drop (i + 1)) := ⟨_, rfl⟩
    rw [← hV] at hj ⊢
    rw [← hX]
    have hm := Nat.div_add_mod V D
    rw [hj, Nat.pow_succ]
    have k : 4294967296 ^ i * (V % D) + D * (4294967296 ^ i * (V / D)) = 4294967296 ^ i * V := by
      rw [Nat.mul_left_comm D, ← Nat.mul_add, Nat.add_comm, hm]
    rw [Nat.mul_add (4294967296 ^ i), Nat.mul_add D, Nat.mul_assoc (4294967296 ^ i) 4294967296]
    omega
  · rw [e2, e3]; exact Nat.mod_lt _ hD0
theorem Lon.done {P D m N : Nat} {R O : List Nat} (h : Lon P D m N 0 R O) : val 4294967296 O = P / D ∧ val 4294967296 R = P % D := by
  have hs := h.sum
  have hl := h.lt
  rw [List.drop_zero] at hs hl
  rw [Nat.pow_zero, Nat.one_mul] at hs
  have hD : 0 < D := by omega
  rw [← hs, Nat.add_comm]
  exact ⟨by rw [Nat.mul_add_div hD, Nat.div_eq_of_lt hl, Nat.add_zero], by rw [Nat.mul_add_mod, Nat.mod_eq_of_lt hl]⟩
/-- At the start: nothing of the quotient is known. -/
theorem Lon.start {p q m N b : Nat} {R O : List Nat} (h1 : R.length = N + m + 1) (h2 : O.length = N) (h3 : ∀ d ∈ R, d < 4294967296) (h4 : ∀ d ∈ O, d < 4294967296) (hR : val 4294967296 R = p * 2 ^ b) (hp : p < 4294967296 ^ (N + m)) (hb : b ≤ 31) (hD : 2 ^ (32 * m + 31) ≤ q * 2 ^ b) :
    Lon (p * 2 ^ b) (q * 2 ^ b) m N N R O := by
  refine ⟨h1, h2, h3, h4, by rw [List.drop_of_length_le (by omega)]; simp [val, hR], ?_⟩
  refine Nat.lt_of_lt_of_le ?_ hD
  have hj := val_join (B := 4294967296) R (i := N) (by omega)
  refine Nat.lt_of_mul_lt_mul_left (a := 4294967296 ^ N) ?_
  have k1 : p * 2 ^ b < 4294967296 ^ (N + m) * 2 ^ b := Nat.mul_lt_mul_of_pos_right hp (Nat.two_pow_pos b)
  have k2 : 4294967296 ^ (N + m) * 2 ^ b ≤ 4294967296 ^ N * 2 ^ (32 * m + 31) := by
    rw [Nat.pow_add, Nat.mul_assoc, big_two m, ← Nat.pow_add]
    exact Nat.mul_le_mul_left _ (Nat.pow_le_pow_right (by decide) (by omega))
  omega
end Go.Th.Dig
namespace Go.Proofs.YtghioakpigdagaaDoor
open Go Go.RowKit Go.Th Go.Th.Dig

set_option maxRecDepth 20000 in
set_option maxHeartbeats 1600000 in
theorem div_small (v u : Value) (p q : Nat) (w : World) (hp : IsN w v p) (hq : IsN w u q) (h1 : len32 p ≤ 1000) (h2 : len32 q ≤ 1000) (hs : q = 0 ∨ p < q) :
    Calls Tryd.prog 25 #[v, u] w fun e w' => ∃ t s, e = .returned (.tuple #[t, s]) ∧ IsN w' t 0 ∧ IsN w' s p ∧ Below w.heap.size w w' := by
  have CZ := fun wx (hx : IsN wx u q) => zero_any u q wx hx (by omega)
  have CC := fun wx (hx : IsN wx v p) (hy : IsN wx u q) => cmp_any v u p q wx hx hy (by omega) (by omega)
  have HP := Lib.hid hp
  have HQ := Lib.hid hq
  obtain ⟨a, ca, rfl, hS⟩ := hp.form
  obtain ⟨b, cb, rfl, hT⟩ := hq.form
  have HI0 : Hid (∀ wx, IsN wx (.agg #[.slice none 0 0]) 0) := Lib.hid (fun wx => ⟨none, 0, rfl, Sl.nil _ _⟩)
  obtain ⟨n, hn⟩ : ∃ n, n = len32 p := ⟨_, rfl⟩
  obtain ⟨m, hm⟩ : ∃ m, m = len32 q := ⟨_, rfl⟩
  rw [← hn] at HP CC hS ⊢
  rw [← hm] at HQ CZ CC ⊢
  have HIS : Hid (∀ wx, Sl wx 1 (.slice a n ca) n (u32s (dg 4294967296 p)) → IsN wx (.agg #[.slice a n ca]) p) := Lib.hid (fun wx hx => ⟨a, ca, by rw [hn], by rw [hn] at hx; exact hx⟩)
  have HS := Lib.hid hS
  have M0 := Mem.start w
  by_cases hq0 : q = 0
  · rw [decide_eq_true hq0] at CZ
    have CZ := Lib.hid CZ
    clear hp hq hS hT hn hm h1 h2 hs CC hq0
    go_enter Tryd.func25, Tryd.ntmps25
    go_wp2_with ((with_reducible refine (?_ : Go.wpList _ _ _ (_ :: _) _ _)); (first | go_skip | (refine wpL_bx M0 rfl rfl rfl rfl ?_; clear M0; intro g1 w1 M1) | (refine wpL_alc M0 rfl rfl ?_; clear M0; intro g1 w1 M1) | (refine wpL_ldc M0 rfl rfl rfl ?_) | (refine wpL_lgc M0 rfl rfl rfl ?_) | (refine wpL_stc M0 rfl rfl rfl rfl ?_; clear M0; intro w' M0) | (refine wpL_sti M0 rfl rfl rfl rfl ?_; clear M0; intro w' M0) | (refine wpL_sth M0 rfl rfl rfl rfl (wr_minus _ _ _) ?_; clear M0; intro w' M0) | (refine wpL_bx M1 rfl rfl rfl rfl ?_; clear M1; intro g2 w2 M2) | (refine wpL_alc M1 rfl rfl ?_; clear M1; intro g2 w2 M2) | (refine wpL_ldc M1 rfl rfl rfl ?_) | (refine wpL_lgc M1 rfl rfl rfl ?_) | (refine wpL_stc M1 rfl rfl rfl rfl ?_; clear M1; intro w' M1) | (refine wpL_sti M1 rfl rfl rfl rfl ?_; clear M1; intro w' M1) | (refine wpL_sth M1 rfl rfl rfl rfl (wr_minus _ _ _) ?_; clear M1; intro w' M1) | (refine wpL_bx M2 rfl rfl rfl rfl ?_; clear M2; intro g3 w3 M3) | (refine wpL_alc M2 rfl rfl ?_; clear M2; intro g3 w3 M3) | (refine wpL_ldc M2 rfl rfl rfl ?_) | (refine wpL_lgc M2 rfl rfl rfl ?_) | (refine wpL_stc M2 rfl rfl rfl rfl ?_; clear M2; intro w' M2) | (refine wpL_sti M2 rfl rfl rfl rfl ?_; clear M2; intro w' M2) | (refine wpL_sth M2 rfl rfl rfl rfl (wr_minus _ _ _) ?_; clear M2; intro w' M2) | (refine wpL_bx M3 rfl rfl rfl rfl ?_; clear M3; intro g4 w4 M4) | (refine wpL_alc M3 rfl rfl ?_; clear M3; intro g4 w4 M4) | (refine wpL_ldc M3 rfl rfl rfl ?_) | (refine wpL_lgc M3 rfl rfl rfl ?_) | (refine wpL_stc M3 rfl rfl rfl rfl ?_; clear M3; intro w' M3) | (refine wpL_sti M3 rfl rfl rfl rfl ?_; clear M3; intro w' M3) | (refine wpL_sth M3 rfl rfl rfl rfl (wr_minus _ _ _) ?_; clear M3; intro w' M3) | (refine wpL_ldc M4 rfl rfl rfl ?_) | (refine wpL_lgc M4 rfl rfl rfl ?_) | (refine wpL_stc M4 rfl rfl rfl rfl ?_; clear M4; intro w' M4) | (refine wpL_sti M4 rfl rfl rfl rfl ?_; clear M4; intro w' M4) | (refine wpL_sth M4 rfl rfl rfl rfl (wr_minus _ _ _) ?_; clear M4; intro w' M4)))
    refine (CZ.out _ (HQ.out.below M4.below)).mono ?_
    rintro e w5 ⟨rfl, hA⟩
    replace M4 := M4.call hA
    clear hA CZ
    go_wp2_with ((with_reducible refine (?_ : Go.wpList _ _ _ (_ :: _) _ _)); (first | go_skip | (refine wpL_ldc M4 rfl rfl rfl ?_) | (refine wpL_lgc M4 rfl rfl rfl ?_) | (refine wpL_stc M4 rfl rfl rfl rfl ?_; clear M4; intro w' M4) | (refine wpL_sti M4 rfl rfl rfl rfl ?_; clear M4; intro w' M4) | (refine wpL_sth M4 rfl rfl rfl rfl (wr_minus _ _ _) ?_; clear M4; intro w' M4)))
    have c1 := M4.cell (.tail _ _ _ _ _ (.tail _ _ _ _ _ (.tail _ _ _ _ _ (Has.head _ _ _ _)))) (i := 0) rfl
    have hS4 := HS.out.below M4.drew.below
    refine wp_region_held_drew (S := (fun w' : World => w'.cell? ⟨g1, 0, none⟩ = some (.slice a n ca))) (by kernel_rfl) (c1) (fun hHeld => ?_)
    refine tkT 0 ?v31 ?hy31 hHeld ?rest31
    case hy31 => (intro w' hSw; (try dsimp only at hSw); go_simp; (try with_reducible rfl))
    try simp only [Act.put, puts]
    refine tkT 1 ?v32 ?hy32 hHeld ?rest32
    case hy32 => (intro w' hSw; (try dsimp only at hSw); go_simp; (try with_reducible rfl))
    try simp only [Act.put, puts]
    refine wpAnyH_ready (rs := [2]) (by kernel_rfl) (by simp) ?_
    refine AllReadyH.cons rfl (fun K hK => ?_) AllReadyH.nil
    rw [if_pos (by rfl)]
    refine wp_stM (v := .agg #[.slice none 0 0]) M4.drew rfl rfl rfl (wr_nat _ _ _ _) (.tail _ _ _ _ _ _ _ (Upd.head _ _ _ _ _)) ?_
    intro w5 M5 hT5
    refine hK.out _ _ (M5.cell (.tail _ _ _ _ _ (.tail _ _ _ _ _ (.tail _ _ _ _ _ (Has.head _ _ _ _)))) (i := 0) rfl) (fun hHeld => ?_)
    clear hK K
    try simp only [Act.put, puts]
    refine wpAnyH_ready (rs := [3]) (by kernel_rfl) (by simp) ?_
    refine AllReadyH.cons rfl (fun K hK => ?_) AllReadyH.nil
    rw [if_pos (by rfl)]
    refine wp_stM (v := .agg #[.slice a n ca]) M5 rfl rfl rfl (wr_nat _ _ _ _) (Upd.head _ _ _ _ _) ?_
    intro w6 M6 hT6
    refine hK.out _ _ (M6.cell (.tail _ _ _ _ _ (.tail _ _ _ _ _ (.tail _ _ _ _ _ (Has.head _ _ _ _)))) (i := 0) rfl) (fun hHeld => ?_)
    clear hK K
    try simp only [Act.put, puts]
    refine wpAnyH_done (by kernel_rfl) ?_ _
    have hS6 := sl_kept (sl_kept hS4 (M4.drew.has (.tail _ _ _ _ _ (Has.head _ _ _ _))) (noPart_sl _ _ _) hT5) (M5.has (Has.head _ _ _ _)) (noPart_sl _ _ _) hT6
    go_wp2_with fail
    refine bodyPost_ret (res_cells rfl M6 rfl (.tail _ _ _ _ _ (Has.head _ _ _ _)) (rd_nat _) rfl (Has.head _ _ _ _) (rd_nat _)) rfl ?_
    exact ⟨_, _, rfl, HI0.out _, HIS.out _ hS6, M6.below⟩
  · have hpq : p < q := by omega
    rw [decide_eq_false hq0] at CZ
    rw [(cmpN_lt p q).1 hpq] at CC
    have CZ := Lib.hid CZ
    have CC := Lib.hid CC
    clear hp hq hS hT hn hm h1 h2 hs hq0 hpq
    go_enter Tryd.func25, Tryd.ntmps25
    go_wp2_with ((with_reducible refine (?_ : Go.wpList _ _ _ (_ :: _) _ _)); (first | go_skip | (refine wpL_bx M0 rfl rfl rfl rfl ?_; clear M0; intro g1 w1 M1) | (refine wpL_alc M0 rfl rfl ?_; clear M0; intro g1 w1 M1) | (refine wpL_ldc M0 rfl rfl rfl ?_) | (refine wpL_lgc M0 rfl rfl rfl ?_) | (refine wpL_stc M0 rfl rfl rfl rfl ?_; clear M0; intro w' M0) | (refine wpL_sti M0 rfl rfl rfl rfl ?_; clear M0; intro w' M0) | (refine wpL_sth M0 rfl rfl rfl rfl (wr_minus _ _ _) ?_; clear M0; intro w' M0) | (refine wpL_bx M1 rfl rfl rfl rfl ?_; clear M1; intro g2 w2 M2) | (refine wpL_alc M1 rfl rfl ?_; clear M1; intro g2 w2 M2) | (refine wpL_ldc M1 rfl rfl rfl ?_) | (refine wpL_lgc M1 rfl rfl rfl ?_) | (refine wpL_stc M1 rfl rfl rfl rfl ?_; clear M1; intro w' M1) | (refine wpL_sti M1 rfl rfl rfl rfl ?_; clear M1; intro w' M1) | (refine wpL_sth M1 rfl rfl rfl rfl (wr_minus _ _ _) ?_; clear M1; intro w' M1) | (refine wpL_bx M2 rfl rfl rfl rfl ?_; clear M2; intro g3 w3 M3) | (refine wpL_alc M2 rfl rfl ?_; clear M2; intro g3 w3 M3) | (refine wpL_ldc M2 rfl rfl rfl ?_) | (refine wpL_lgc M2 rfl rfl rfl ?_) | (refine wpL_stc M2 rfl rfl rfl rfl ?_; clear M2; intro w' M2) | (refine wpL_sti M2 rfl rfl rfl rfl ?_; clear M2; intro w' M2) | (refine wpL_sth M2 rfl rfl rfl rfl (wr_minus _ _ _) ?_; clear M2; intro w' M2) | (refine wpL_bx M3 rfl rfl rfl rfl ?_; clear M3; intro g4 w4 M4) | (refine wpL_alc M3 rfl rfl ?_; clear M3; intro g4 w4 M4) | (refine wpL_ldc M3 rfl rfl rfl ?_) | (refine wpL_lgc M3 rfl rfl rfl ?_) | (refine wpL_stc M3 rfl rfl rfl rfl ?_; clear M3; intro w' M3) | (refine wpL_sti M3 rfl rfl rfl rfl ?_; clear M3; intro w' M3) | (refine wpL_sth M3 rfl rfl rfl rfl (wr_minus _ _ _) ?_; clear M3; intro w' M3) | (refine wpL_ldc M4 rfl rfl rfl ?_) | (refine wpL_lgc M4 rfl rfl rfl ?_) | (refine wpL_stc M4 rfl rfl rfl rfl ?_; clear M4; intro w' M4) | (refine wpL_sti M4 rfl rfl rfl rfl ?_; clear M4; intro w' M4) | (refine wpL_sth M4 rfl rfl rfl rfl (wr_minus _ _ _) ?_; clear M4; intro w' M4)))
    refine (CZ.out _ (HQ.out.below M4.below)).mono ?_
    rintro e w5 ⟨rfl, hA⟩
    replace M4 := M4.call hA
    clear hA CZ
    go_wp2_with ((with_reducible refine (?_ : Go.wpList _ _ _ (_ :: _) _ _)); (first | go_skip | (refine wpL_ldc M4 rfl rfl rfl ?_) | (refine wpL_lgc M4 rfl rfl rfl ?_) | (refine wpL_stc M4 rfl rfl rfl rfl ?_; clear M4; intro w' M4) | (refine wpL_sti M4 rfl rfl rfl rfl ?_; clear M4; intro w' M4) | (refine wpL_sth M4 rfl rfl rfl rfl (wr_minus _ _ _) ?_; clear M4; intro w' M4)))
    refine (CC.out _ (HP.out.below M4.below) (HQ.out.below M4.below)).mono ?_
    rintro e w5 ⟨rfl, hA⟩
    replace M4 := M4.call hA
    clear hA CC
    go_wp2_with ((with_reducible refine (?_ : Go.wpList _ _ _ (_ :: _) _ _)); (first | go_skip | (refine wpL_ldc M4 rfl rfl rfl ?_) | (refine wpL_lgc M4 rfl rfl rfl ?_) | (refine wpL_stc M4 rfl rfl rfl rfl ?_; clear M4; intro w' M4) | (refine wpL_sti M4 rfl rfl rfl rfl ?_; clear M4; intro w' M4) | (refine wpL_sth M4 rfl rfl rfl rfl (wr_minus _ _ _) ?_; clear M4; intro w' M4)))
    have c1 := M4.cell (.tail _ _ _ _ _ (.tail _ _ _ _ _ (.tail _ _ _ _ _ (Has.head _ _ _ _)))) (i := 0) rfl
    have hS4 := HS.out.below M4.drew.below
    refine wp_region_held_drew (S := (fun w' : World => w'.cell? ⟨g1, 0, none⟩ = some (.slice a n ca))) (by kernel_rfl) (c1) (fun hHeld => ?_)
    refine tkT 0 ?v35 ?hy35 hHeld ?rest35
    case hy35 => (intro w' hSw; (try dsimp only at hSw); go_simp; (try with_reducible rfl))
    try simp only [Act.put, puts]
    refine tkT 1 ?v36 ?hy36 hHeld ?rest36
    case hy36 => (intro w' hSw; (try dsimp only at hSw); go_simp; (try with_reducible rfl))
    try simp only [Act.put, puts]
    refine wpAnyH_ready (rs := [2]) (by kernel_rfl) (by simp) ?_
    refine AllReadyH.cons rfl (fun K hK => ?_) AllReadyH.nil
    rw [if_pos (by rfl)]
    refine wp_stM (v := .agg #[.slice none 0 0]) M4.drew rfl rfl rfl (wr_nat _ _ _ _) (.tail _ _ _ _ _ _ _ (Upd.head _ _ _ _ _)) ?_
    intro w5 M5 hT5
    refine hK.out _ _ (M5.cell (.tail _ _ _ _ _ (.tail _ _ _ _ _ (.tail _ _ _ _ _ (Has.head _ _ _ _)))) (i := 0) rfl) (fun hHeld => ?_)
    clear hK K
    try simp only [Act.put, puts]
    refine wpAnyH_ready (rs := [3]) (by kernel_rfl) (by simp) ?_
    refine AllReadyH.cons rfl (fun K hK => ?_) AllReadyH.nil
    rw [if_pos (by rfl)]
    refine wp_stM (v := .agg #[.slice a n ca]) M5 rfl rfl rfl (wr_nat _ _ _ _) (Upd.head _ _ _ _ _) ?_
    intro w6 M6 hT6
    refine hK.out _ _ (M6.cell (.tail _ _ _ _ _ (.tail _ _ _ _ _ (.tail _ _ _ _ _ (Has.head _ _ _ _)))) (i := 0) rfl) (fun hHeld => ?_)
    clear hK K
    try simp only [Act.put, puts]
    refine wpAnyH_done (by kernel_rfl) ?_ _
    have hS6 := sl_kept (sl_kept hS4 (M4.drew.has (.tail _ _ _ _ _ (Has.head _ _ _ _))) (noPart_sl _ _ _) hT5) (M5.has (Has.head _ _ _ _)) (noPart_sl _ _ _) hT6
    go_wp2_with fail
    refine bodyPost_ret (res_cells rfl M6 rfl (.tail _ _ _ _ _ (Has.head _ _ _ _)) (rd_nat _) rfl (Has.head _ _ _ _) (rd_nat _)) rfl ?_
    exact ⟨_, _, rfl, HI0.out _, HIS.out _ hS6, M6.below⟩
end Go.Proofs.YtghioakpigdagaaDoor
