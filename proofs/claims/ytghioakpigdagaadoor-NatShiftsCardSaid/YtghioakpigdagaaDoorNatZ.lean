/-
  How often one row goes into another that has one part more: the code's.
-/
import Derived.Test.YtghioakpigdagaaDoorNatY
set_option linter.unusedVariables false
set_option linter.unusedSimpArgs false
namespace Go.Th.Dig
theorem dig_high {B : Nat} {l : List Nat} {n : Nat} (hl : l.length = n + 1) : val B l = val B (l.take n) + B ^ n * l.getD n 0 := by
  rw [val_join l (i := n) (by omega), drop_step (by omega), List.drop_of_length_le (by omega), val, val, Nat.mul_zero, Nat.add_zero]
/-- By the highest parts it goes no less often than it does. -/
theorem goes_guess {W L : List Nat} {m : Nat} (hW : W.length = m + 2) (hL : L.length = m + 1) (hd : ∀ d ∈ W, d < 4294967296) (ht : L.getD m 0 ≠ 0) :
    val 4294967296 W / val 4294967296 L ≤ (W.getD (m + 1) 0 * 4294967296 + W.getD m 0) / L.getD m 0 := by
  have h1 := dig_high (B := 4294967296) (l := W) (n := m + 1) hW
  have h2 : val 4294967296 (W.take (m + 1)) = val 4294967296 (W.take m) + 4294967296 ^ m * W.getD m 0 := take_val (by omega) _
  have h3 := dig_high (B := 4294967296) (l := L) (n := m) hL
  have hlow := val_lt (B := 4294967296) (by decide) (l := W.take m) (fun d hd' => hd d (List.mem_of_mem_take hd'))
  rw [List.length_take, Nat.min_eq_left (by omega)] at hlow
  obtain ⟨T, hT⟩ : ∃ T, T = W.getD (m + 1) 0 * 4294967296 + W.getD m 0 := ⟨_, rfl⟩
  obtain ⟨t, htt⟩ : ∃ t, t = L.getD m 0 := ⟨_, rfl⟩
  rw [← htt] at ht h3 ⊢
  rw [← hT]
  have hV : val 4294967296 W < 4294967296 ^ m * (T + 1) := by
    rw [h1, h2, hT, Nat.mul_add, Nat.mul_add, Nat.mul_one, Nat.pow_succ, Nat.mul_comm (W.getD (m + 1) 0), ← Nat.mul_assoc]
    omega
  have hDl : 4294967296 ^ m * t ≤ val 4294967296 L := by omega
  rw [Nat.le_div_iff_mul_le (by omega)]
  obtain ⟨q, hq⟩ : ∃ q, q = val 4294967296 W / val 4294967296 L := ⟨_, rfl⟩
  rw [← hq]
  have h4 : q * val 4294967296 L ≤ val 4294967296 W := by rw [hq]; exact Nat.div_mul_le_self _ _
  have h5 : q * (4294967296 ^ m * t) ≤ q * val 4294967296 L := Nat.mul_le_mul_left _ hDl
  have h6 : 4294967296 ^ m * (q * t) < 4294967296 ^ m * (T + 1) := by rw [Nat.mul_left_comm]; omega
  have := Nat.lt_of_mul_lt_mul_left h6
  omega
/-- So often it was taken off; c: that was too often. -/
structure Goe (V D n f c : Nat) (O : List Nat) : Prop where
  len : O.length = n
  dig : ∀ d ∈ O, d < 4294967296
  sum : val 4294967296 O + f * D = V + 4294967296 ^ n * c
  ge : V / D ≤ f
theorem Goe.le {V D n f c : Nat} {O : List Nat} (h : Goe V D n f c O) (hD : 0 < D) (hV : V < 4294967296 ^ n) (hf : f * D < 4294967296 ^ n) : c ≤ 1 := by
  have hv := val_lt (B := 4294967296) (by decide) h.dig
  rw [h.len] at hv
  refine Nat.le_of_not_lt fun hc => ?_
  have : 4294967296 ^ n * 2 ≤ 4294967296 ^ n * c := Nat.mul_le_mul_left _ hc
  have := h.sum
  omega
theorem Goe.done {V D n f : Nat} {O : List Nat} (h : Goe V D n f 0 O) (hD : 0 < D) : f = V / D ∧ val 4294967296 O = V % D := by
  have hs := h.sum
  rw [Nat.mul_zero, Nat.add_zero] at hs
  have h1 : f ≤ V / D := (Nat.le_div_iff_mul_le hD).2 (by omega)
  have h2 : f = V / D := Nat.le_antisymm h1 h.ge
  refine ⟨h2, ?_⟩
  have := Nat.div_add_mod V D
  rw [← h2, Nat.mul_comm] at this
  omega
theorem Goe.more {V D n f : Nat} {O : List Nat} (h : Goe V D n f 1 O) (hD : 0 < D) : 0 < f ∧ V / D ≤ f - 1 := by
  have hv := val_lt (B := 4294967296) (by decide) h.dig
  rw [h.len] at hv
  have hs := h.sum
  rw [Nat.mul_one] at hs
  have h1 : V < f * D := by omega
  have h2 : V / D < f := (Nat.div_lt_iff_lt_mul hD).2 h1
  exact ⟨Nat.lt_of_le_of_lt (Nat.zero_le _) h2, Nat.le_sub_one_of_lt h2⟩
theorem Goe.step {V D n f c' : Nat} {O O' : List Nat} (h : Goe V D n f 1 O) (hD : 0 < D) (hDn : D < 4294967296 ^ n) (k1 : O'.length = n) (k2 : ∀ d ∈ O', d < 4294967296) (k3 : val 4294967296 O' + 4294967296 ^ n * c' = val 4294967296 O + D) :
    c' ≤ 1 ∧ Goe V D n (f - 1) (1 - c') O' := by
  have hv := val_lt (B := 4294967296) (by decide) h.dig
  rw [h.len] at hv
  obtain ⟨m1, m2⟩ := h.more hD
  have hc : c' ≤ 1 := by
    refine Nat.le_of_not_lt fun hc => ?_
    have : 4294967296 ^ n * 2 ≤ 4294967296 ^ n * c' := Nat.mul_le_mul_left _ hc
    omega
  refine ⟨hc, k1, k2, ?_, m2⟩
  have hs := h.sum
  rw [Nat.mul_one] at hs
  obtain ⟨e, rfl⟩ : ∃ e, f = e + 1 := ⟨f - 1, by omega⟩
  rw [Nat.add_sub_cancel]
  rw [Nat.add_mul, Nat.one_mul] at hs
  rcases (by omega : c' = 0 ∨ c' = 1) with rfl | rfl
  · rw [Nat.mul_zero] at k3; omega
  · rw [Nat.sub_self, Nat.mul_zero]; omega
end Go.Th.Dig
namespace Go.Proofs.YtghioakpigdagaaDoor
open Go Go.RowKit Go.Th Go.Th.Dig

set_option maxRecDepth 20000 in
set_option maxHeartbeats 3200000 in
theorem goes_go (g o m cap : Nat) (b : Option Addr) (capb : Nat) (W L : List Nat) (cs : List Value) (w : World) (hK : Blk w g 38 (over cs o (u32s W))) (ho : o + (m + 2) ≤ cs.length) (hW : W.length = m + 2) (hd : ∀ d ∈ W, d < 4294967296)
    (hL : Sl w 1 (.slice b (m + 1) capb) (m + 1) (u32s L)) (hap : ∀ q, b = some q → q.block ≠ g) (hm : m ≤ 100000) (hl : ∀ d ∈ L, d < 4294967296) (ht : L.getD m 0 ≠ 0) (hV : val 4294967296 W < 4294967296 * val 4294967296 L) :
    Calls Tryd.prog 45 #[.slice (some ⟨g, o, none⟩) (m + 2) cap, .slice b (m + 1) capb] w fun e w' => ∃ O, e = .returned (.int .u32 ((val 4294967296 W / val 4294967296 L : Nat) : Int)) ∧ Blk w' g 38 (over cs o (u32s O)) ∧ O.length = m + 2 ∧ (∀ d ∈ O, d < 4294967296) ∧
      val 4294967296 O = val 4294967296 W % val 4294967296 L ∧ Turned (fun k => k = g) w w' := by
  have lx := u32_len hL
  have hgu := goes_guess hW lx hd ht
  have hx := getD_mem (by decide : 0 < 4294967296) hd (m + 1)
  have hy := getD_mem (by decide : 0 < 4294967296) hd m
  have htb := getD_mem (by decide : 0 < 4294967296) hl m
  have c0 := hK.cell (win_at (by omega) (by omega : m + 1 < W.length))
  have c1 := hK.cell (win_at (by omega) (by omega : m < W.length))
  obtain ⟨b1, o1, rfl, hb1, c2⟩ := cell_u32 hL m (by omega)
  have hVn := val_lt (B := 4294967296) (by decide) hd
  rw [hW] at hVn
  have hDn := val_lt (B := 4294967296) (by decide) hl
  rw [lx] at hDn
  obtain ⟨V, eV⟩ : ∃ V, V = val 4294967296 W := ⟨_, rfl⟩
  obtain ⟨D, eD⟩ : ∃ D, D = val 4294967296 L := ⟨_, rfl⟩
  have hD0 : 0 < D := by omega
  have hq1 : V / D ≤ 4294967295 := by
    have := (Nat.div_lt_iff_lt_mul hD0).2 (show V < 4294967296 * D by omega)
    omega
  obtain ⟨x, ex⟩ : ∃ x, x = W.getD (m + 1) 0 := ⟨_, rfl⟩
  obtain ⟨y, ey⟩ : ∃ y, y = W.getD m 0 := ⟨_, rfl⟩
  obtain ⟨t, et⟩ : ∃ t, t = L.getD m 0 := ⟨_, rfl⟩
  rw [← ex] at hgu hx c0
  rw [← ey] at hgu hy c1
  rw [← et] at hgu htb c2 ht
  rw [← eV, ← eD] at hgu ⊢
  obtain ⟨v, ev⟩ : ∃ v, v = x * 4294967296 := ⟨_, rfl⟩
  obtain ⟨T, eT⟩ : ∃ T, T = x * 4294967296 + y := ⟨_, rfl⟩
  have e0 : IntKind.u64.wrap (x : Int) = (x : Int) := u64_in _ (by omega)
  have e1 : IntKind.u64.wrap ((x : Int) * 4294967296) = (v : Int) := by
    rw [show ((x : Int) * 4294967296) = ((x * 4294967296 : Nat) : Int) by simp, ← ev]; exact u64_in _ (by omega)
  have e0' : IntKind.u64.wrap (y : Int) = (y : Int) := u64_in _ (by omega)
  have e0'' : IntKind.u64.wrap (t : Int) = (t : Int) := u64_in _ (by omega)
  have e2 : bits .or .u64 (v : Int) (y : Int) = (T : Int) := by
    have h : y ||| x * 4294967296 = y + x * 4294967296 := or_low (s := 32) (r := y) hy x
    rw [bits_or_u64_nat v y (by omega) (by omega), Nat.or_comm, ev, h]
    omega
  rw [← eT] at hgu
  obtain ⟨Q, eQ⟩ : ∃ Q, Q = T / t := ⟨_, rfl⟩
  have e3 : (T : Int) / (t : Int) = (Q : Int) := by rw [eQ]; rfl
  rw [← eQ] at hgu
  obtain ⟨f, ef⟩ : ∃ f, f = min Q 4294967295 := ⟨_, rfl⟩
  have e4 : min (Q : Int) 4294967295 = (f : Int) := by omega
  have hqf : V / D ≤ f := by omega
  have hfb : f ≤ 4294967295 := by omega
  have hQb : Q < 18446744073709551616 := by
    rw [eQ]
    exact Nat.lt_of_le_of_lt (Nat.div_le_self _ _) (by omega)
  have e5 : IntKind.u64.wrap (Q : Int) = (Q : Int) := u64_in _ (by omega)
  have e6 : IntKind.u32.wrap (f : Int) = (f : Int) := by rw [IntKind.wrap_u32']; omega
  have C := fun wx hK hL => lower_go g o (m + 2) cap (some ⟨b1, o1, none⟩) (m + 1) capb f W L cs wx hK ho hW hd hL (fun _ => hap) (by omega) (by omega) (by omega) hl
  rw [← eV, ← eD] at C
  have C2 := fun O wx hK hO hd hL => raise_go g o (m + 2) cap (some ⟨b1, o1, none⟩) (m + 1) capb 1 O L cs wx hK ho hO hd hL (fun _ => hap) (by omega) (by omega) (by decide) hl
  rw [← eD, Nat.one_mul] at C2
  have HC := Lib.hid C
  have HC2 : Hid (∀ O wx, Blk wx g 38 (over cs o (u32s O)) → O.length = m + 2 → (∀ d ∈ O, d < 4294967296) → Sl wx 1 (.slice (some ⟨b1, o1, none⟩) (m + 1) capb) (m + 1) (u32s L) →
    Calls Tryd.prog 42 #[.slice (some ⟨g, o, none⟩) (m + 2) cap, .slice (some ⟨b1, o1, none⟩) (m + 1) capb, .int .u32 1] wx fun e w' => ∃ c O', e = .returned (.bool (decide (c ≠ 0))) ∧ Blk w' g 38 (over cs o (u32s O')) ∧ O'.length = m + 2 ∧ (∀ d ∈ O', d < 4294967296) ∧
      val 4294967296 O' + 4294967296 ^ (m + 2) * c = val 4294967296 O + D ∧ Turned (fun k => k = g) wx w') := Lib.hid C2
  have hfd : f * D < 4294967296 ^ (m + 2) := by
    have h := Nat.mul_lt_mul_of_lt_of_lt (show f < 4294967296 by omega) hDn
    rw [← eD] at h
    rw [show m + 2 = m + 1 + 1 by omega, Nat.pow_succ, Nat.mul_comm (4294967296 ^ (m + 1))]
    exact h
  have HVN : Hid (V < 4294967296 ^ (m + 2)) := Lib.hid (by rw [eV]; exact hVn)
  have HDN : Hid (D < 4294967296 ^ (m + 2)) := Lib.hid (by
    have := Nat.pow_lt_pow_right (a := 4294967296) (by decide) (show m + 1 < m + 2 by omega)
    rw [eD]; omega)
  have HG : Hid (∀ c O, O.length = m + 2 → (∀ d ∈ O, d < 4294967296) → val 4294967296 O + f * D = V + 4294967296 ^ (m + 2) * c → Goe V D (m + 2) f c O ∧ c ≤ 1) := Lib.hid (fun c O k1 k2 k3 =>
    have h : Goe V D (m + 2) f c O := ⟨k1, k2, k3, hqf⟩
    ⟨h, h.le hD0 HVN.out hfd⟩)
  have HLS := Lib.hid hL
  have HK := Lib.hid hK
  have HHL := Lib.hid hl
  have HAP := Lib.hid hap
  have HVD := Lib.hid eD
  have hb0 : ((t : Int) == 0) = false := by simp; omega
  clear hgu hd hL hap hl hV hVn hDn eV ex ey et ev eT eQ ef hqf hq1 hfd hK lx eD hx hy htb hQb C C2
  go_enter Tryd.func45, Tryd.ntmps45
  go_wp2_with fail
  go_quiet (fail)
  go_wp2_with fail
  have hT0 := (Turned.refl (fun k => k = g) w).drewN nq
  refine (HC.out _ (HK.out.drewN nq) (HLS.out.below (below_dN (Below.refl _ _) nq))).mono ?_
  rintro e w1 ⟨c, O, rfl, hK1, k1, k2, k3, hT1⟩
  obtain ⟨hG, hc⟩ := HG.out c O k1 k2 k3
  obtain ⟨u, hu⟩ : ∃ u, u = decide (c ≠ 0) := ⟨_, rfl⟩
  rw [← hu]
  have HU := Lib.hid hu
  have hT2 := hT0.trans hT1 (fun _ _ h => h)
  have HGO := Lib.hid hG
  have HSL := Lib.hid (fun wr (hT : Turned (fun k => k = g) w wr) => sl_turned HLS.out hT (fun _ => HAP.out))
  clear hu hT0 hT1 k1 k2 k3 hG HC HG HK c0 c1 c2 e0 e0' e0'' e1 e2 e3 e4 e5 e6 hb0
  go_wp2_with fail
  go_loopw [7, 8] (fun a u wr => ∃ (f c : Nat) (O : List Nat) (u0 : Bool), f ≤ 4294967295 ∧ c ≤ 1 ∧ a = .int .u32 f ∧ u = .bool u0 ∧ Hid (u0 = decide (c ≠ 0)) ∧ Hid (Goe V D (m + 2) f c O) ∧ Blk wr g 38 (over cs o (u32s O)) ∧ Turned (fun k => k = g) w wr) (fun a _ _ => (intOf a).toNat)
  case atStart => exact ⟨f, c, O, u, hfb, hc, rfl, rfl, HU, HGO, hK1, hT2⟩
  case round =>
    clear hK1 hT2 HGO hc hfb HU
    obtain ⟨f, c, O, u0, hfb, hc, rfl, rfl, HU, HGO, hK1, hT2⟩ := hrel
    by_cases hc0 : c = 0
    · subst hc0
      obtain ⟨hf, hv⟩ := HGO.out.done hD0
      have HV := Lib.hid hv
      have HF := Lib.hid hf
      obtain rfl : u0 = false := by rw [HU.out]; decide
      clear hf hv HU
      go_wp2_with fail
      go_ret
      exact ⟨O, by rw [← HF.out]; rfl, hK1, HGO.out.len, HGO.out.dig, HV.out, hT2⟩
    · obtain rfl : c = 1 := by omega
      obtain rfl : u0 = true := by rw [HU.out]; decide
      obtain ⟨m1, m2⟩ := HGO.out.more hD0
      have CR := Lib.hid (HC2.out O wr hK1 HGO.out.len HGO.out.dig (HSL.out wr hT2))
      obtain ⟨e, rfl⟩ : ∃ e, f = e + 1 := ⟨f - 1, by omega⟩
      have e7 : IntKind.u32.wrap (((e + 1 : Nat) : Int) - 1) = (e : Int) := by rw [IntKind.wrap_u32']; omega
      clear m1 m2 HU
      go_wp2_with fail
      refine CR.out.mono ?_
      rintro e w5 ⟨c', O', rfl, hK5, k1, k2, k3, hT5⟩
      obtain ⟨hc5, hG5⟩ := HGO.out.step hD0 HDN.out k1 k2 k3
      rw [Nat.add_sub_cancel] at hG5
      obtain ⟨u5, hu5⟩ : ∃ u5, u5 = decide (c' ≠ 0) := ⟨_, rfl⟩
      have HU5 : Hid ((!u5) = decide (1 - c' ≠ 0)) := Lib.hid (by
        rw [hu5]
        rcases (by omega : c' = 0 ∨ c' = 1) with rfl | rfl <;> decide)
      rw [← hu5]
      have HG5 := Lib.hid hG5
      have hT6 := hT2.trans hT5 (fun _ _ h => h)
      clear hu5 hG5 k1 k2 k3 hT5 hT2 hK1 CR HGO
      go_wp2_with fail
      go_roundw
      case rel => exact ⟨e, 1 - c', O', !u5, by omega, by omega, by first | rfl | go_num, rfl, HU5, HG5, hK5, hT6⟩
      case measure => simp [intOf]
end Go.Proofs.YtghioakpigdagaaDoor
