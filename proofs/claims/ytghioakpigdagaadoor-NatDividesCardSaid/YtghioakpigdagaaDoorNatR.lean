/-
  A number as one of 64 bits: the code's.
-/
import Derived.Test.YtghioakpigdagaaDoorNatQ
set_option linter.unusedVariables false
set_option linter.unusedSimpArgs false
namespace Go.Proofs.YtghioakpigdagaaDoor
open Go Go.RowKit Go.Shelf Go.Th Go.Th.Dig
attribute [local go_sem] Oper.semAt_some

theorem val_drop_le (B : Nat) (hB : 0 < B) (l : List Nat) (i : Nat) : val B (l.drop i) ≤ val B l := by
  by_cases h : i ≤ l.length
  · have e := val_join (B := B) l h
    have : 1 * val B (l.drop i) ≤ B ^ i * val B (l.drop i) := Nat.mul_le_mul_right _ (Nat.pow_pos hB)
    omega
  · rw [List.drop_of_length_le (by omega)]; exact Nat.zero_le _

set_option maxRecDepth 100000 in
set_option maxHeartbeats 8000000 in
theorem uint_any (v : Value) (p : Nat) (w : World) (hp : IsN w v p) (h1 : len32 p ≤ 100000) :
    Calls Tryd.prog 30 #[v] w fun e w' => e = .returned (.tuple #[.int .u64 ((if p < 18446744073709551616 then p else 0 : Nat) : Int), .bool (decide (p < 18446744073709551616))]) ∧ Below w.heap.size w w' := by
  have CB := Lib.hid (fun wx (hx : IsN wx v p) => bits_any16 v p wx hx h1)
  have HP := Lib.hid hp
  obtain ⟨b, hb⟩ : ∃ b, b = nb p := ⟨_, rfl⟩
  have hbl : b ≤ 3200000 := by
    rw [hb]
    refine Nat.le_trans (nb_le (b := 32 * len32 p) ?_) (by omega)
    have := len32_lt p
    rwa [show 4294967296 = 2 ^ 32 by decide, ← Nat.pow_mul] at this
  have hiff : p < 18446744073709551616 ↔ b ≤ 64 := by
    constructor
    · intro h; rw [hb]; exact nb_le (b := 64) h
    · intro h
      have := nb_lt p
      rw [← hb] at this
      exact Nat.lt_of_lt_of_le this (Nat.pow_le_pow_right (by decide) h : 2 ^ b ≤ 2 ^ 64)
  rw [← hb] at CB
  by_cases h64 : p < 18446744073709551616
  · have hb64 := hiff.1 h64
    rw [if_pos h64, decide_eq_true h64]
    obtain ⟨a, ca, rfl, hS⟩ := hp
    have hlt := sl_lt32 hS
    have hv := dg_val (B := 4294967296) (by decide) p
    have hdd := getD_mem (by decide : 0 < 4294967296) (dg_lt (by decide : 0 < 4294967296) p)
    have hl1 : (dg 4294967296 p).length ≤ 100000 := h1
    obtain ⟨L, hL⟩ : ∃ L, L = dg 4294967296 p := ⟨_, rfl⟩
    rw [← hL] at hS hlt hv hdd hl1 CB HP ⊢
    obtain ⟨n, hn⟩ : ∃ n, n = L.length := ⟨_, rfl⟩
    rw [← hn] at hS hlt hl1 CB HP ⊢
    have HV : Hid (∀ i, val 4294967296 (L.drop i) < 18446744073709551616) := Lib.hid (fun i => by
      have := val_drop_le 4294967296 (by decide) L i
      rw [hv] at this
      omega)
    have HVP := Lib.hid hv
    have HD := Lib.hid hdd
    have HS := Lib.hid hS
    have HN := Lib.hid hn
    have HLT := Lib.hid hlt
    have hEN := enters_of Tryd.func53 (by kernel_rfl) rfl
    clear hiff hb h64 hL hn hv hdd hS hlt h1
    refine (callsIn_wide (n := 10)).1 ?_
    refine callsIn_of_wp_marks Tryd.func30 rfl trivial ?_ rfl
    simp only [Tryd.ntmps30, List.size_toArray, List.length_cons, List.length_nil, Nat.reduceAdd, Nat.reduceSub, Array.replicate_succ, Array.replicate_zero, List.push_toArray, List.append_toArray, List.nil_append, List.cons_append]
    refine wpIn_wide.2 ?_
    have M0 := Mem.start w
    go_wp2_with ((with_reducible refine (?_ : Go.wpList _ _ _ (_ :: _) _ _)); (first | go_skip | (refine wpL_bx M0 rfl rfl rfl rfl ?_; clear M0; intro g1 w1 M1) | (refine wpL_alc M0 rfl rfl ?_; clear M0; intro g1 w1 M1) | (refine wpL_ldc M0 rfl rfl rfl ?_) | (refine wpL_lgc M0 rfl rfl rfl ?_) | (refine wpL_stc M0 rfl rfl rfl rfl ?_; clear M0; intro w' M0) | (refine wpL_sti M0 rfl rfl rfl rfl ?_; clear M0; intro w' M0) | (refine wpL_sth M0 rfl rfl rfl rfl (wr_minus _ _ _) ?_; clear M0; intro w' M0) | (refine wpL_ldc M1 rfl rfl rfl ?_) | (refine wpL_lgc M1 rfl rfl rfl ?_) | (refine wpL_stc M1 rfl rfl rfl rfl ?_; clear M1; intro w' M1) | (refine wpL_sti M1 rfl rfl rfl rfl ?_; clear M1; intro w' M1) | (refine wpL_sth M1 rfl rfl rfl rfl (wr_minus _ _ _) ?_; clear M1; intro w' M1)))
    refine (CB.out _ (HP.out.below M1.below)).mono ?_
    rintro e w2 ⟨rfl, hB⟩
    replace M1 := M1.call hB
    clear hB
    go_wp2_with ((with_reducible refine (?_ : Go.wpList _ _ _ (_ :: _) _ _)); (first | go_skip | (refine wpL_bx M1 rfl rfl rfl rfl ?_; clear M1; intro g2 w2 M2) | (refine wpL_alc M1 rfl rfl ?_; clear M1; intro g2 w2 M2) | (refine wpL_ldc M1 rfl rfl rfl ?_) | (refine wpL_lgc M1 rfl rfl rfl ?_) | (refine wpL_stc M1 rfl rfl rfl rfl ?_; clear M1; intro w' M1) | (refine wpL_sti M1 rfl rfl rfl rfl ?_; clear M1; intro w' M1) | (refine wpL_sth M1 rfl rfl rfl rfl (wr_minus _ _ _) ?_; clear M1; intro w' M1) | (refine wpL_ldc M2 rfl rfl rfl ?_) | (refine wpL_lgc M2 rfl rfl rfl ?_) | (refine wpL_stc M2 rfl rfl rfl rfl ?_; clear M2; intro w' M2) | (refine wpL_sti M2 rfl rfl rfl rfl ?_; clear M2; intro w' M2) | (refine wpL_sth M2 rfl rfl rfl rfl (wr_minus _ _ _) ?_; clear M2; intro w' M2)))
    refine (backward_any a n ca _).mono ?_
    rintro e W0 ⟨rfl, hW0⟩
    have M3 := M2.alloc 22 [.slice a n ca]
    rw [show w'.alloc (.cells [Value.slice a n ca].toArray 22) = W0 from hW0.symm] at M3
    obtain ⟨gP, hgP⟩ : ∃ gP, gP = w'.heap.size := ⟨_, rfl⟩
    rw [← hgP] at M3 ⊢
    have lP := M3.lt (Has.head _ _ _ _)
    have hzW := M3.below.size
    have hS0 := HS.out.below M3.below
    have HSQ := Lib.hid (backward_at gP a n ca L hl1 W0 (M3.cell (Has.head _ _ _ _) (i := 0) rfl) hS0)
    have N0 := Mew.of_mem (S := fun _ => False) M3
    have hz0 : val 4294967296 (L.drop (n - 0)) = 0 := by rw [Nat.sub_zero, List.drop_of_length_le (by rw [HN.out]; exact Nat.le_refl _)]; rfl
    have HN0 : Hid (Mew (fun _ => False) w W0 [(gP, 22, [.slice a n ca]), (g2, 37, [.int .u64 ((val 4294967296 (L.drop (n - 0)) : Nat) : Int)]), (g1, 26, [.slice a n ca])]) := Lib.hid (by rw [hz0]; exact N0)
    clear hW0 hgP M2 M3 hS0 N0 hz0
    go_wp2_with fail
    refine with_tmps (fun A hA => ?_)
    refine (wpIn_wide (n := 10)).1 ?_
    refine wpIn_rangeFunc_at rfl (by omega) (gf := 53) (lb := #[.pointer (some ⟨gP, 0, none⟩)]) (by rw [hA]; rfl) trivial hEN HSQ.out (backC_lt lP (fun q hq h0 => Nat.lt_of_lt_of_le (HLT.out q hq h0) hzW)) (backs_two L)
      (fun k W => Mew (fun _ => False) w W [(gP, 22, [.slice a n ca]), (g2, 37, [.int .u64 ((val 4294967296 (L.drop (n - k)) : Nat) : Int)]), (g1, 26, [.slice a n ca])])
      (fun _ _ => False) (fun _ _ _ => False) ?own (fun _ _ _ _ h _ _ => h) (fun _ _ _ _ _ h _ _ => h) HN0.out
      (fun k a' _ => a' = { tmps := ((A.setIfInBounds 13 (.int .i64 ((L.length - 1 - k : Nat) : Int))).setIfInBounds 14 (.int .u32 ((L.getD (L.length - 1 - k) 0 : Nat) : Int))).setIfInBounds 6 (.int .u32 ((L.getD (L.length - 1 - k) 0 : Nat) : Int)), defers := [] })
      (fun _ _ _ _ _ h _ _ => h) ?assign ?body ?done ?ret ?stop
    case own =>
      rintro k X Y row h2 hg hr
      exact h2.grown hg (fun r e => ⟨Nat.le_trans hzW (hr r e).1, (hr r e).2⟩)
    case assign =>
      rintro l k x W K hx HI hK
      have HI0 := HI
      rw [backs_at L k (by have := (List.getElem?_eq_some_iff.1 hx).1; rwa [backs_length] at this)] at hx
      cases hx
      subst hA
      obtain ⟨i, hi⟩ : ∃ i, i = L.length - 1 - k := ⟨_, rfl⟩
      obtain ⟨u, eu⟩ : ∃ u, u = L.getD i 0 := ⟨_, rfl⟩
      rw [← hi, ← eu] at hK ⊢
      clear hi eu HI
      gi_wp2
      exact hK _ _ (KeepsFrom.refl _ _) (CellsKept.refl _ _) HI0 rfl
    case body =>
      rintro l k a' W hl hr hk M rfl
      subst hA
      rw [backs_length, ← HN.out] at hk
      rw [← HN.out]
      obtain ⟨i, hi⟩ : ∃ i, n - 1 - k = i := ⟨_, rfl⟩
      rw [hi]
      rw [show n - k = i + 1 by omega] at M
      have hin : i < n := by omega
      have hu := HD.out i
      have hst := drop_any L i 4294967296
      have hv := HV.out i
      obtain ⟨u, eu⟩ : ∃ u, u = L.getD i 0 := ⟨_, rfl⟩
      obtain ⟨x, ex⟩ : ∃ x, x = val 4294967296 (L.drop (i + 1)) := ⟨_, rfl⟩
      rw [← eu] at hu hst ⊢
      rw [← ex] at hst M
      obtain ⟨T, eT⟩ : ∃ T, T = val 4294967296 (L.drop i) := ⟨_, rfl⟩
      rw [← eT] at hv hst
      have e0 : IntKind.u64.wrap (u : Int) = (u : Int) := u64_in _ (by omega)
      obtain ⟨y, ey⟩ : ∃ y, y = x * 4294967296 := ⟨_, rfl⟩
      have e1 : IntKind.u64.wrap ((x : Int) * 4294967296) = (y : Int) := by
        rw [show ((x : Int) * 4294967296) = ((x * 4294967296 : Nat) : Int) by simp, ← ey]; exact u64_in _ (by omega)
      have e2 : bits .or .u64 (y : Int) (u : Int) = (T : Int) := by
        have h : u ||| x * 4294967296 = u + x * 4294967296 := or_low (s := 32) (r := u) hu x
        rw [bits_or_u64_nat y u (by omega) (by omega), Nat.or_comm, ey, h]
        omega
      have c1 := M.cell (.tail _ _ _ _ _ (Has.head _ _ _ _)) (i := 0) rfl
      have f1 := M.free (.tail _ _ _ _ _ (Has.head _ _ _ _)) 0
      have HM := Lib.hid M
      have HM2 := Lib.hid (M.set 0 (.int .u64 (T : Int)) (.tail _ _ _ _ _ _ _ (Upd.head _ _ _ _ _)) (by simp))
      have HT := Lib.hid eT
      clear M hst hv eu ex ey eT
      gi_wp2
      refine ⟨(KeepsOthers.setCell _ _ _).from _, ?_, by rw [show n - (k + 1) = i by omega, ← HT.out]; exact HM2.out⟩
      rintro p (rfl | ⟨b', o', j, e, hj, rfl⟩)
      · exact cell_same HM.out HM2.out (Has.head _ _ _ _) (Has.head _ _ _ _) (i := 0) rfl rfl
      · have hq := HLT.out _ e (by omega)
        refine World.cell?_of_block (w := W) (Below.heap_setCell _ _ _ _ ?_)
        have := HM.out.may _ (Has.mem (.tail _ _ _ _ _ (Has.head _ _ _ _)))
        simp at this
        simp at hq ⊢
        omega
    case done =>
      rintro D W hD M hK
      rw [backs_length, ← HN.out, Nat.sub_self, List.drop_zero, HVP.out] at M
      have c3 := M.cell (.tail _ _ _ _ _ (Has.head _ _ _ _)) (i := 0) rfl
      have HM := Lib.hid M
      have HK := Lib.hid hK
      clear M hK
      subst hA
      go_wp2_with fail
      refine ⟨by simp, .inl ⟨_, _, rfl, run_takeDeferred HK.out, ?_⟩⟩
      have hg := grownBy_putObj' W D (.deferred none)
      have hM2 := HM.out.grown hg (fun r e => by cases e; exact ⟨by omega, _, HK.out, rfl⟩)
      exact ⟨_, results_tmp2 rfl _ _ _, rfl, hM2.below⟩
    case ret => exact fun _ _ _ _ _ h _ => h.elim
    case stop => exact fun _ _ _ _ _ _ h _ => h.elim
  · have hb64 : ¬ b ≤ 64 := fun h => h64 (hiff.2 h)
    rw [if_neg h64, decide_eq_false h64]
    obtain ⟨a, ca, rfl, hS⟩ := hp
    have M0 := Mem.start w
    clear hiff hb h64 hS h1
    go_enter Tryd.func30, Tryd.ntmps30
    go_wp2_with ((with_reducible refine (?_ : Go.wpList _ _ _ (_ :: _) _ _)); (first | go_skip | (refine wpL_bx M0 rfl rfl rfl rfl ?_; clear M0; intro g1 w1 M1) | (refine wpL_alc M0 rfl rfl ?_; clear M0; intro g1 w1 M1) | (refine wpL_ldc M0 rfl rfl rfl ?_) | (refine wpL_lgc M0 rfl rfl rfl ?_) | (refine wpL_stc M0 rfl rfl rfl rfl ?_; clear M0; intro w' M0) | (refine wpL_sti M0 rfl rfl rfl rfl ?_; clear M0; intro w' M0) | (refine wpL_sth M0 rfl rfl rfl rfl (wr_minus _ _ _) ?_; clear M0; intro w' M0) | (refine wpL_ldc M1 rfl rfl rfl ?_) | (refine wpL_lgc M1 rfl rfl rfl ?_) | (refine wpL_stc M1 rfl rfl rfl rfl ?_; clear M1; intro w' M1) | (refine wpL_sti M1 rfl rfl rfl rfl ?_; clear M1; intro w' M1) | (refine wpL_sth M1 rfl rfl rfl rfl (wr_minus _ _ _) ?_; clear M1; intro w' M1)))
    refine (CB.out _ (HP.out.below M1.below)).mono ?_
    rintro e w2 ⟨rfl, hB⟩
    replace M1 := M1.call hB
    go_wp2_with fail
    go_ret2
    exact ⟨rfl, M1.below⟩
end Go.Proofs.YtghioakpigdagaaDoor
