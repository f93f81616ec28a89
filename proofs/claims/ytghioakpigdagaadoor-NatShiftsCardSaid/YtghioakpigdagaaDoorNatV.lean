/-
  The product of two numbers: the code's.
-/
import Derived.Test.YtghioakpigdagaaDoorNatU
set_option linter.unusedVariables false
set_option linter.unusedSimpArgs false
namespace Go.Th
open Go Go.RowKit
section
variable {P : Program} {ops : Array Oper} {rest : List Oper} {o : Oper} {a : Act} {w w0 : World} {Q : Exit → Act → World → Prop} {K : Act → World → Prop} {bs bs' : List (Nat × TypeId × List Value)}
  {g off : Nat} {t ty : TypeId} {cs cs' : List Value} {v : Value} {x y : Operand}
theorem wp_stM (M : Mem w0 w bs) (ho : o.op = .store ty x y) (hx : a.eval x = .pointer (some ⟨g, off, none⟩)) (hy : a.eval y = v) (hr : Wr P ty off cs v cs') (hu : Upd bs g t cs cs' bs')
    (h : ∀ w', Mem w0 w' bs' → Turned (fun k => k = g) w w' → K (a.put o.dst undef) w') : o.wp P a w K Q := by
  unfold Oper.wp execOp
  simp only [ho, hx, hy, Instr.storeAt, Instr.sureAddr, Sem.run_bind, Sem.run_pure, Result.andThen_ok, hr.run w g t (M.has hu.has)]
  exact h _ (M.row hu) (turned_row16 _ _ _)
end
end Go.Th
namespace Go.Proofs.YtghioakpigdagaaDoor
open Go Go.RowKit Go.Th Go.Th.Dig

theorem wr_nat (s : Value) (a : Option Addr) (n cap : Nat) : Wr Tryd.prog 26 0 [s] (.agg #[.slice a n cap]) [.slice a n cap] :=
  Wr.whole (ds := [.slice a n cap]) size26 rfl (by intro u hu; simp at hu; subst hu; rfl)
theorem run_from {P : Program} {t e : TypeId} {bytes : Nat} (E : ElemOf P t e 1 bytes) (g o n cap k : Nat) (hk : k < n) (hn : n ≤ cap) (hc : cap ≤ maxLen) (wx : World) :
    (Instr.slice t (.slice (some ⟨g, o, none⟩) n cap) (some (.int .i64 k)) none none).run P wx = .ok (.slice (some ⟨g, o + k, none⟩) (n - k) (cap - k)) wx := by
  obtain ⟨i, z, hi, hz, hsize, hby, hzs⟩ := E.info
  unfold maxLen at hc
  have hb2 : (k : Int) ≤ n := by omega
  have hne : ¬ cap = k := by omega
  simp [Instr.slice, run_underlying E.und, Instr.sliceBounds, run_sliceBound, hb2, sizeOf, typeInfo, hi, hsize, hne, add_none]
theorem over_drop {O R : List Nat} {k : Nat} (hk : k ≤ O.length) (hR : R.length = O.length - k) : over (u32s O) k (u32s R) = u32s (O.take k ++ R) := by
  unfold over splice
  rw [List.drop_of_length_le (by rw [u32s_length, u32s_length]; omega), List.append_nil, u32s_take]
  simp [u32s]
/-- One more part of the first one. -/
theorem mul_step {A O R : List Nat} {q k c n m : Nat} (hA : A.length = n) (hd : ∀ d ∈ A, d < 4294967296) (hk : k < n) (hO : O.length = n + m) (hq : q < 4294967296 ^ m) (hv : val 4294967296 O = val 4294967296 (A.take k) * q) (hR : R.length = n + m - k)
    (h : val 4294967296 R + 4294967296 ^ (n + m - k) * c = val 4294967296 (O.drop k) + A.getD k 0 * q) : val 4294967296 (O.take k ++ R) = val 4294967296 (A.take (k + 1)) * q := by
  have e : (O.take k).length = k := by rw [List.length_take]; omega
  have hj := val_join (B := 4294967296) O (i := k) (by omega)
  rw [hv] at hj
  have ht : val 4294967296 (A.take (k + 1)) * q = val 4294967296 (A.take k) * q + 4294967296 ^ k * (A.getD k 0 * q) := by
    rw [take_val (by omega), Nat.add_mul, Nat.mul_assoc]
  have hs : 4294967296 ^ k * val 4294967296 R + 4294967296 ^ (n + m) * c = 4294967296 ^ k * val 4294967296 (O.drop k) + 4294967296 ^ k * (A.getD k 0 * q) := by
    have := congrArg (4294967296 ^ k * ·) h
    simp only [Nat.mul_add] at this
    rw [← Nat.mul_assoc, ← Nat.pow_add, show k + (n + m - k) = n + m by omega] at this
    exact this
  have hlt : val 4294967296 (A.take (k + 1)) * q < 4294967296 ^ (n + m) := by
    have h1 := val_lt (B := 4294967296) (by decide) (l := A.take (k + 1)) (fun d hd' => hd d (List.mem_of_mem_take hd'))
    rw [List.length_take, Nat.min_eq_left (by omega)] at h1
    refine Nat.lt_of_lt_of_le (Nat.mul_lt_mul_of_lt_of_lt h1 hq) ?_
    rw [← Nat.pow_add]
    exact Nat.pow_le_pow_right (by decide) (by omega)
  rw [val_app, e]
  by_cases h0 : c = 0
  · rw [h0] at hs; omega
  · have : 4294967296 ^ (n + m) * 1 ≤ 4294967296 ^ (n + m) * c := Nat.mul_le_mul_left _ (by omega)
    omega

set_option maxRecDepth 20000 in
set_option maxHeartbeats 3200000 in
theorem mul_any16 (v u : Value) (p q : Nat) (w : World) (hp : IsN w v p) (hq : IsN w u q) (h1 : len32 p ≤ 1000) (h2 : len32 q ≤ 1000) :
    Calls Tryd.prog 21 #[v, u] w fun e w' => ∃ t, e = .returned t ∧ IsN w' t (p * q) ∧ Below w.heap.size w w' := by
  obtain ⟨a, ca, rfl, hS⟩ := hp.form
  obtain ⟨b, cb, rfl, hT⟩ := hq.form
  have hdA := dg_lt (B := 4294967296) (by decide) p
  have hdQ := dg_lt (B := 4294967296) (by decide) q
  have hvA := dg_val (B := 4294967296) (by decide) p
  have hvQ := dg_val (B := 4294967296) (by decide) q
  have hqb := len32_lt q
  have hltT := sl_lt32 hT
  obtain ⟨A, hA⟩ : ∃ A, A = dg 4294967296 p := ⟨_, rfl⟩
  obtain ⟨R, hR⟩ : ∃ R, R = dg 4294967296 q := ⟨_, rfl⟩
  obtain ⟨n, hn⟩ : ∃ n, n = len32 p := ⟨_, rfl⟩
  obtain ⟨m, hm⟩ : ∃ m, m = len32 q := ⟨_, rfl⟩
  have hAl : A.length = n := by rw [hA, hn]
  have hRl : R.length = m := by rw [hR, hm]
  rw [← hA] at hS hdA hvA
  rw [← hR] at hT hdQ hvQ
  rw [← hn] at hS h1 ⊢
  rw [← hm] at hT h2 hqb hltT ⊢
  have HDA := Lib.hid hdA
  have HDQ := Lib.hid hdQ
  have HVA := Lib.hid hvA
  have HVQ := Lib.hid hvQ
  have HQB := Lib.hid hqb
  have HLT := Lib.hid hltT
  have HAL := Lib.hid hAl
  have HS := Lib.hid hS
  have HT := Lib.hid hT
  have M0 := Mem.start w
  clear hp hq hdA hdQ hvA hvQ hqb hltT hA hR hn hm hAl hRl hS hT
  go_enter Tryd.func21, Tryd.ntmps21
  go_upto_region 1 with (((with_reducible refine (?_ : Go.wpList _ _ _ (_ :: _) _ _)); (first | go_skip | (refine wpL_bx M0 rfl rfl rfl rfl ?_; clear M0; intro g1 w1 M1) | (refine wpL_alc M0 rfl rfl ?_; clear M0; intro g1 w1 M1) | (refine wpL_ldc M0 rfl rfl rfl ?_) | (refine wpL_lgc M0 rfl rfl rfl ?_) | (refine wpL_stc M0 rfl rfl rfl rfl ?_; clear M0; intro w' M0) | (refine wpL_sti M0 rfl rfl rfl rfl ?_; clear M0; intro w' M0) | (refine wpL_sth M0 rfl rfl rfl rfl (wr_minus _ _ _) ?_; clear M0; intro w' M0) | (refine wpL_bx M1 rfl rfl rfl rfl ?_; clear M1; intro g2 w2 M2) | (refine wpL_alc M1 rfl rfl ?_; clear M1; intro g2 w2 M2) | (refine wpL_ldc M1 rfl rfl rfl ?_) | (refine wpL_lgc M1 rfl rfl rfl ?_) | (refine wpL_stc M1 rfl rfl rfl rfl ?_; clear M1; intro w' M1) | (refine wpL_sti M1 rfl rfl rfl rfl ?_; clear M1; intro w' M1) | (refine wpL_sth M1 rfl rfl rfl rfl (wr_minus _ _ _) ?_; clear M1; intro w' M1) | (refine wpL_bx M2 rfl rfl rfl rfl ?_; clear M2; intro g3 w3 M3) | (refine wpL_alc M2 rfl rfl ?_; clear M2; intro g3 w3 M3) | (refine wpL_ldc M2 rfl rfl rfl ?_) | (refine wpL_lgc M2 rfl rfl rfl ?_) | (refine wpL_stc M2 rfl rfl rfl rfl ?_; clear M2; intro w' M2) | (refine wpL_sti M2 rfl rfl rfl rfl ?_; clear M2; intro w' M2) | (refine wpL_sth M2 rfl rfl rfl rfl (wr_minus _ _ _) ?_; clear M2; intro w' M2) | (refine wpL_ldc M3 rfl rfl rfl ?_) | (refine wpL_lgc M3 rfl rfl rfl ?_) | (refine wpL_stc M3 rfl rfl rfl rfl ?_; clear M3; intro w' M3) | (refine wpL_sti M3 rfl rfl rfl rfl ?_; clear M3; intro w' M3) | (refine wpL_sth M3 rfl rfl rfl rfl (wr_minus _ _ _) ?_; clear M3; intro w' M3))))
  have MK : (Instr.makeSlice 22 (.int .i64 ((n : Int) + (m : Int))) (.int .i64 ((n : Int) + (m : Int)))).run Tryd.prog w3 = .ok (.slice (some ⟨w3.heap.size, 0, none⟩) (n + m) (n + m)) (w3.alloc (.cells (u32s (List.replicate (n + m) 0)).toArray 38)) := run_mkU32 (n + m) (by omega) w3
  have M4 := M3.alloc 38 (u32s (List.replicate (n + m) 0))
  obtain ⟨w4, hw4⟩ : ∃ w4, w3.alloc (.cells (u32s (List.replicate (n + m) 0)).toArray 38) = w4 := ⟨_, rfl⟩
  obtain ⟨G, hG⟩ : ∃ G, G = w3.heap.size := ⟨_, rfl⟩
  rw [hw4, ← hG] at MK M4
  have hGw : w.heap.size ≤ G := M4.from (Has.head _ _ _ _)
  have HO0 : Hid ((List.replicate (n + m) 0).length = n + m ∧ (∀ d ∈ List.replicate (n + m) 0, d < 4294967296) ∧ val 4294967296 (List.replicate (n + m) 0) = val 4294967296 (A.take 0) * q) := Lib.hid ⟨by simp, rep_lt _, by rw [val_zeros]; simp [val]⟩
  have HM4 := Lib.hid M4
  clear hw4 hG M4
  go_upto_region 2 with (((with_reducible refine (?_ : Go.wpList _ _ _ (_ :: _) _ _)); (first | go_skip | (refine wpL_ldc M3 rfl rfl rfl ?_) | (refine wpL_lgc M3 rfl rfl rfl ?_) | (refine wpL_stc M3 rfl rfl rfl rfl ?_; clear M3; intro w' M3) | (refine wpL_sti M3 rfl rfl rfl rfl ?_; clear M3; intro w' M3) | (refine wpL_sth M3 rfl rfl rfl rfl (wr_minus _ _ _) ?_; clear M3; intro w' M3))))
  have M4 := HM4.out
  clear M3 MK HM4
  go_wp2_with ((with_reducible refine (?_ : Go.wpList _ _ _ (_ :: _) _ _)); (first | go_skip | (refine wpL_ldc M4 rfl rfl rfl ?_) | (refine wpL_lgc M4 rfl rfl rfl ?_) | (refine wpL_stc M4 rfl rfl rfl rfl ?_; clear M4; intro w' M4) | (refine wpL_sti M4 rfl rfl rfl rfl ?_; clear M4; intro w' M4) | (refine wpL_sth M4 rfl rfl rfl rfl (wr_minus _ _ _) ?_; clear M4; intro w' M4)))
  go_loopw [19] (fun i wr => ∃ (k : Nat) (O : List Nat), k ≤ n ∧ i = .int .i64 k ∧ Hid (O.length = n + m ∧ (∀ d ∈ O, d < 4294967296) ∧ val 4294967296 O = val 4294967296 (A.take k) * q) ∧ Mem w wr [(G, 38, u32s O), (g3, 26, [.slice none 0 0]), (g2, 26, [.slice b m cb]), (g1, 26, [.slice a n ca])]) (fun i _ => n - (intOf i).toNat)
  case atStart => exact ⟨0, _, Nat.zero_le _, rfl, HO0, M4⟩
  case round =>
    clear M4 HO0
    obtain ⟨k, O, hk, rfl, HO, M⟩ := hrel
    by_cases hlt : k < n
    · obtain ⟨h3, h4, h5⟩ := HO.out
      obtain ⟨b1, o1, rfl, hb1, hc1⟩ := cell_u32 (HS.out.below M.below) k (by rw [HAL.out]; exact hlt)
      have hx := getD_mem (by decide : 0 < 4294967296) HDA.out k
      have hsl : ∀ wx, (Instr.slice 22 (.slice (some ⟨G, 0, none⟩) (n + m) (n + m)) (some (.int .i64 k)) none none).run Tryd.prog wx = .ok (.slice (some ⟨G, k, none⟩) (n + m - k) (n + m - k)) wx := fun wx => by
        have := run_from Eu32 G 0 (n + m) (n + m) k (by omega) (Nat.le_refl _) (by unfold maxLen; omega) wx
        rwa [Nat.zero_add] at this
      have K := M.drew.has (Has.head _ _ _ _)
      rw [← win_self (l := O) (o := k) (k := n + m - k) (by omega), List.take_of_length_le (by rw [List.length_drop]; omega)] at K
      have C := raise_go G k (n + m - k) (n + m - k) b m cb (A.getD k 0) (O.drop k) R (u32s O) wr.drew K (by rw [u32s_length]; omega) (by rw [List.length_drop, h3]) (fun d hd => h4 d (List.mem_of_mem_drop hd)) (HT.out.below M.drew.below)
        (fun h0 x hx => by have := HLT.out x hx h0; omega) (by omega) (by omega) hx HDQ.out
      rw [HVQ.out] at C
      have HST : Hid (∀ c R', R'.length = n + m - k → (∀ d ∈ R', d < 4294967296) → val 4294967296 R' + 4294967296 ^ (n + m - k) * c = val 4294967296 (O.drop k) + A.getD k 0 * q → (O.take k ++ R').length = n + m ∧ (∀ d ∈ O.take k ++ R', d < 4294967296) ∧ val 4294967296 (O.take k ++ R') = val 4294967296 (A.take (k + 1)) * q ∧ over (u32s O) k (u32s R') = u32s (O.take k ++ R')) := Lib.hid (fun c R' k1 k2 k3 =>
        ⟨by rw [List.length_append, List.length_take]; omega, fun d hd => by
          rcases List.mem_append.1 hd with hd | hd
          · exact h4 d (List.mem_of_mem_take hd)
          · exact k2 d hd, mul_step HAL.out HDA.out hlt h3 HQB.out h5 k1 k3, over_drop (by omega) (by omega)⟩)
      obtain ⟨x, ex⟩ : ∃ x, x = A.getD k 0 := ⟨_, rfl⟩
      rw [← ex] at hc1 hx C HST
      have C := Lib.hid C
      have c2 := M.cell (.tail _ _ _ _ _ (.tail _ _ _ _ _ (Has.head _ _ _ _))) (i := 0) rfl
      clear h3 h4 h5 K ex HO
      go_wp2_with fail
      refine wp_region_held_drew (S := (fun w' : World => w'.cell? ⟨g2, 0, none⟩ = some (.slice b m cb))) (by kernel_rfl) (c2) (fun hHeld => ?_)
      refine tkT 0 ?v13 ?hy13 hHeld ?rest13
      case hy13 => (intro w' hSw; (try dsimp only at hSw); go_simp; (try with_reducible rfl))
      try simp only [Act.put, puts]
      refine tkT 1 ?v14 ?hy14 hHeld ?rest14
      case hy14 => (intro w' hSw; (try dsimp only at hSw); go_simp; (try with_reducible rfl))
      try simp only [Act.put, puts]
      refine tkT 2 ?v15 ?hy15 hHeld ?rest15
      case hy15 => (intro w' hSw; (try dsimp only at hSw); go_simp; (try with_reducible rfl))
      try simp only [Act.put, puts]
      refine tkT 3 ?v16 ?hy16 hHeld ?rest16
      case hy16 => (intro w' hSw; (try dsimp only at hSw); go_simp; (try with_reducible rfl))
      try simp only [Act.put, puts]
      refine tkT 4 ?v17 ?hy17 hHeld ?rest17
      case hy17 => (intro w' hSw; (try dsimp only at hSw); go_simp; (try with_reducible rfl))
      try simp only [Act.put, puts]
      refine tkT 5 ?v18 ?hy18 hHeld ?rest18
      case hy18 => (intro w' hSw; (try dsimp only at hSw); go_simp; (try with_reducible rfl))
      try simp only [Act.put, puts]
      refine wpAnyH_ready (rs := [6]) (by kernel_rfl) (by simp) ?_
      refine AllReadyH.cons rfl (fun K hK => ?_) AllReadyH.nil
      go_simp
      refine C.out.mono ?_
      rintro e w7 ⟨c7, R7, rfl, hK7, k1, k2, k3, hT7⟩
      obtain ⟨k4, k5, k6, k7⟩ := HST.out c7 R7 k1 k2 k3
      rw [k7] at hK7
      have M7 := M.drew.turn (Upd.head _ _ _ _ _) hK7 hT7
      try go_wp2_with fail
      refine hK.out _ _ (M7.cell (.tail _ _ _ _ _ (.tail _ _ _ _ _ (Has.head _ _ _ _))) (i := 0) rfl) (fun hHeld => ?_)
      clear hK K
      try simp only [Act.put, puts]
      refine wpAnyH_done (by kernel_rfl) ?_ _
      have HO7 := Lib.hid (And.intro k4 (And.intro k5 k6))
      clear k1 k2 k3 k4 k5 k6 k7 hK7 hT7
      go_wp2_with fail
      go_roundw
      case rel => exact ⟨k + 1, _, by omega, by go_num, HO7, M7⟩
      case measure => simp [intOf]; omega
    · obtain rfl : k = n := by omega
      obtain ⟨h3, h4, h5⟩ := HO.out
      rw [List.take_of_length_le (by rw [HAL.out]; exact Nat.le_refl _), HVA.out] at h5
      have K := M.has (Has.head _ _ _ _)
      rw [← over_all (l := u32s O) (m := u32s O) rfl] at K
      have S0 := win_sl K (by rw [u32s_length]; omega) h3 (Nat.le_refl _) (by unfold maxLen; omega)
      have C := cut_any _ (k + m) (k + m) O wr S0 h4 (by omega)
      rw [h5] at C
      have C := Lib.hid C
      clear h3 h4 h5 K S0 HO
      go_wp2_with fail
      refine C.out.mono ?_
      rintro e w4 ⟨rfl, rfl, S2⟩
      have K2 := M.has (.tail _ _ _ _ _ (Has.head _ _ _ _))
      have S2 := Lib.hid S2
      have M8 := M
      clear M
      go_wp2_with ((with_reducible refine (?_ : Go.wpList _ _ _ (_ :: _) _ _)); (first | go_skip | (refine wpL_ldc M8 rfl rfl rfl ?_) | (refine wpL_lgc M8 rfl rfl rfl ?_) | (refine wpL_stcT M8 rfl rfl rfl rfl ?_; clear M8; intro w' M8 hT) | (refine wpL_stiT M8 rfl rfl rfl rfl ?_; clear M8; intro w' M8 hT)))
      refine bodyPost_ret (res_cell rfl M8 rfl (.tail _ _ _ _ _ (Has.head _ _ _ _)) (rd_nat _)) rfl ?_
      exact ⟨_, rfl, ⟨_, _, rfl, sl_kept S2.out K2 (noPart_sl _ _ _) hT⟩, M8.below⟩

set_option maxRecDepth 20000 in
theorem times_any16 (v : Value) (p x : Nat) (w : World) (hp : IsN w v p) (h1 : len32 p ≤ 1000) (hx : x < 18446744073709551616) :
    Calls Tryd.prog 23 #[v, .int .u64 x] w fun e w' => ∃ t, e = .returned t ∧ IsN w' t (p * x) ∧ Below w.heap.size w w' := by
  have hxl : len32 x ≤ 1000 := Nat.le_trans (dg_len_le (B := 4294967296) (k := 2) (by decide) (by omega)) (by omega)
  have C1 := Lib.hid (of_any x hx)
  have C2 := Lib.hid (fun u wx (hu : IsN wx u x) (hv : IsN wx v p) => mul_any16 u v x p wx hu hv hxl h1)
  rw [Nat.mul_comm x p] at C2
  have HP := Lib.hid hp
  obtain ⟨a, ca, rfl, hS⟩ := hp.form
  obtain ⟨n, hn⟩ : ∃ n, n = len32 p := ⟨_, rfl⟩
  rw [← hn] at C2 HP ⊢
  have M0 := Mem.start w
  clear hp hS hn hxl hx h1
  go_enter Tryd.func23, Tryd.ntmps23
  go_wp2_with ((with_reducible refine (?_ : Go.wpList _ _ _ (_ :: _) _ _)); (first | go_skip | (refine wpL_bx M0 rfl rfl rfl rfl ?_; clear M0; intro g1 w1 M1) | (refine wpL_alc M0 rfl rfl ?_; clear M0; intro g1 w1 M1) | (refine wpL_ldc M0 rfl rfl rfl ?_) | (refine wpL_lgc M0 rfl rfl rfl ?_) | (refine wpL_stc M0 rfl rfl rfl rfl ?_; clear M0; intro w' M0) | (refine wpL_sti M0 rfl rfl rfl rfl ?_; clear M0; intro w' M0) | (refine wpL_sth M0 rfl rfl rfl rfl (wr_minus _ _ _) ?_; clear M0; intro w' M0) | (refine wpL_bx M1 rfl rfl rfl rfl ?_; clear M1; intro g2 w2 M2) | (refine wpL_alc M1 rfl rfl ?_; clear M1; intro g2 w2 M2) | (refine wpL_ldc M1 rfl rfl rfl ?_) | (refine wpL_lgc M1 rfl rfl rfl ?_) | (refine wpL_stc M1 rfl rfl rfl rfl ?_; clear M1; intro w' M1) | (refine wpL_sti M1 rfl rfl rfl rfl ?_; clear M1; intro w' M1) | (refine wpL_sth M1 rfl rfl rfl rfl (wr_minus _ _ _) ?_; clear M1; intro w' M1) | (refine wpL_ldc M2 rfl rfl rfl ?_) | (refine wpL_lgc M2 rfl rfl rfl ?_) | (refine wpL_stc M2 rfl rfl rfl rfl ?_; clear M2; intro w' M2) | (refine wpL_sti M2 rfl rfl rfl rfl ?_; clear M2; intro w' M2) | (refine wpL_sth M2 rfl rfl rfl rfl (wr_minus _ _ _) ?_; clear M2; intro w' M2)))
  have c1 := M2.cell (.tail _ _ _ _ _ (Has.head _ _ _ _)) (i := 0) rfl
  refine wp_region_held_drew (S := (fun w' : World => w'.cell? ⟨g1, 0, none⟩ = some (.slice a n ca))) (by kernel_rfl) (c1) (fun hHeld => ?_)
  refine tkT 0 ?v20 ?hy20 hHeld ?rest20
  case hy20 => (intro w' hSw; (try dsimp only at hSw); go_simp; (try with_reducible rfl))
  try simp only [Act.put, puts]
  refine tkT 2 ?v21 ?hy21 hHeld ?rest21
  case hy21 => (intro w' hSw; (try dsimp only at hSw); go_simp; (try with_reducible rfl))
  try simp only [Act.put, puts]
  refine wpAnyH_ready (rs := [1]) (by kernel_rfl) (by simp) ?_
  refine AllReadyH.cons rfl (fun K hK => ?_) AllReadyH.nil
  go_simp
  refine (C1.out _).mono ?_
  rintro e w3 ⟨u, rfl, hu, hA⟩
  have M3 := M2.drew.call hA
  obtain ⟨d, cd, rfl, hSd⟩ := hu.form
  try go_wp2_with fail
  refine hK.out _ _ (M3.cell (.tail _ _ _ _ _ (Has.head _ _ _ _)) (i := 0) rfl) (fun hHeld => ?_)
  clear hK K
  try simp only [Act.put, puts]
  refine wpAnyH_ready (rs := [3]) (by kernel_rfl) (by simp) ?_
  refine AllReadyH.cons rfl (fun K hK => ?_) AllReadyH.nil
  go_simp
  refine (C2.out _ _ hu (HP.out.below M3.below)).mono ?_
  rintro e w4 ⟨t, rfl, ht, hA⟩
  have M4 := M3.call hA
  obtain ⟨f, cf, rfl, hSf⟩ := ht.form
  try go_wp2_with fail
  refine hK.out _ _ (M4.cell (.tail _ _ _ _ _ (Has.head _ _ _ _)) (i := 0) rfl) (fun hHeld => ?_)
  clear hK K
  try simp only [Act.put, puts]
  refine wpAnyH_ready (rs := [4]) (by kernel_rfl) (by simp) ?_
  refine AllReadyH.cons rfl (fun K hK => ?_) AllReadyH.nil
  rw [if_pos (by rfl)]
  refine wp_stM (v := .agg #[.slice f (len32 (p * x)) cf]) M4 rfl rfl rfl (wr_nat _ _ _ _) (Upd.head _ _ _ _ _) ?_
  intro w5 M5 hT5
  refine hK.out _ _ (M5.cell (.tail _ _ _ _ _ (Has.head _ _ _ _)) (i := 0) rfl) (fun hHeld => ?_)
  clear hK K
  try simp only [Act.put, puts]
  refine wpAnyH_done (by kernel_rfl) ?_ _
  have hS5 := Lib.hid (sl_kept hSf (M4.has (Has.head _ _ _ _)) (noPart_sl _ _ _) hT5)
  clear hSf hT5 ht hA
  go_wp2_with fail
  refine bodyPost_ret (res_cell rfl M5 rfl (Has.head _ _ _ _) (rd_nat _)) rfl ?_
  exact ⟨_, rfl, ⟨f, cf, rfl, hS5.out⟩, M5.below⟩
end Go.Proofs.YtghioakpigdagaaDoor
