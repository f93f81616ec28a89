/-
  The difference of two numbers: the code's.
-/
import Derived.Test.YtghioakpigdagaaDoorNatT
set_option linter.unusedVariables false
set_option linter.unusedSimpArgs false
namespace Go.Proofs.YtghioakpigdagaaDoor
open Go Go.RowKit Go.Th Go.Th.Dig

theorem cmpN_lt (p q : Nat) : (p < q → cmpN p q = -1) ∧ (¬ p < q → 0 ≤ cmpN p q) := by
  unfold cmpN
  by_cases h : p < q
  · rw [if_pos h]; simp [h]
  · rw [if_neg h]; split <;> simp [h]

theorem mem_aside {w0 w w1 w' : World} {bs : List (Nat × TypeId × List Value)} (M : Mem w0 w bs) (h : (w = w') ∨ ∃ g, w1.heap.size ≤ g ∧ Turned (fun k => k = g) w w') (h0 : w0.heap.size ≤ w1.heap.size) (hl : ∀ e ∈ bs, e.1 < w1.heap.size) : Mem w0 w' bs := by
  rcases h with rfl | ⟨g, hg, hT⟩
  · exact M
  · exact ⟨⟨hT.os.trans M.below.os, hT.tape.trans M.below.tape, hT.output.trans M.below.output, Nat.le_trans M.below.size hT.size, fun k hk => (hT.block k (Nat.lt_of_lt_of_le hk M.below.size) (by omega)).trans (M.below.block k hk)⟩, M.nodup, M.old, fun e he => (M.blk e he).turned hT (by have := hl e he; omega)⟩

set_option maxRecDepth 20000 in
set_option maxHeartbeats 1600000 in
theorem sub_any16 (v u : Value) (p q : Nat) (w : World) (hp : IsN w v p) (hq : IsN w u q) (h1 : len32 p ≤ 1000) (h2 : len32 q ≤ 1000) :
    Calls Tryd.prog 16 #[v, u] w fun e w' => ∃ t, e = .returned t ∧ IsN w' t (if p < q then q - p else p - q) ∧ Below w.heap.size w w' := by
  have C1 := fun wx (hx : IsN wx v p) (hy : IsN wx u q) => cmp_any v u p q wx hx hy (by omega) (by omega)
  have HP := Lib.hid hp
  have HQ := Lib.hid hq
  obtain ⟨a, ca, rfl, hS⟩ := hp.form
  obtain ⟨b, cb, rfl, hT⟩ := hq.form
  have CA := fun wx hx => clone32_any (.slice a (len32 p) ca) (len32 p) (dg 4294967296 p) rfl wx hx (by omega)
  have CB := fun wx hx => clone32_any (.slice b (len32 q) cb) (len32 q) (dg 4294967296 q) rfl wx hx (by omega)
  have LA := fun v w1 w ho hB hT hT2 hq => lower_own v (len32 p) p q b cb w1 w rfl ho hB hT hT2 hq h1
  have LB := fun v w1 w ho hB hT hT2 hq => lower_own v (len32 q) q p a ca w1 w rfl ho hB hT hT2 hq h2
  obtain ⟨n, hn⟩ : ∃ n, n = len32 p := ⟨_, rfl⟩
  obtain ⟨m, hm⟩ : ∃ m, m = len32 q := ⟨_, rfl⟩
  rw [← hn] at C1 CA LA LB hS HP h1
  rw [← hm] at C1 CB LA LB hT HQ h2
  rw [← hn, ← hm]
  have HCA := Lib.hid CA
  have HCB := Lib.hid CB
  have HLA := Lib.hid LA
  have HLB := Lib.hid LB
  have HS := Lib.hid hS
  have HT := Lib.hid hT
  have HD : Hid (∀ O : List Nat, ∀ d, (∀ x ∈ O, x < 4294967296) → val 4294967296 O = d → d ≤ p ∨ d ≤ q → len32 d ≤ 1000) := Lib.hid (fun O d _ _ h => by
    rcases h with h | h
    · exact Nat.le_trans (dg_len_of (by decide) h (Nat.le_refl _)) (by show len32 p ≤ _; omega)
    · exact Nat.le_trans (dg_len_of (by decide) h (Nat.le_refl _)) (by show len32 q ≤ _; omega))
  have M0 := Mem.start w
  clear hp hq hS hT CA CB LA LB hn hm
  by_cases hpq : p < q
  · rw [if_pos hpq]
    rw [(cmpN_lt p q).1 hpq] at C1
    have C1 := Lib.hid C1
    have HLE : Hid (p ≤ q) := Lib.hid (by omega)
    obtain ⟨d, hd⟩ : ∃ d, d = q - p := ⟨_, rfl⟩
    rw [← hd] at HLB ⊢
    have HDL : Hid (d ≤ q) := Lib.hid (by omega)
    clear hpq hd
    go_enter Tryd.func16, Tryd.ntmps16
    go_wp2_with ((with_reducible refine (?_ : Go.wpList _ _ _ (_ :: _) _ _)); (first | go_skip | (refine wpL_bx M0 rfl rfl rfl rfl ?_; clear M0; intro g1 w1 M1) | (refine wpL_alc M0 rfl rfl ?_; clear M0; intro g1 w1 M1) | (refine wpL_ldc M0 rfl rfl rfl ?_) | (refine wpL_lgc M0 rfl rfl rfl ?_) | (refine wpL_stc M0 rfl rfl rfl rfl ?_; clear M0; intro w' M0) | (refine wpL_sti M0 rfl rfl rfl rfl ?_; clear M0; intro w' M0) | (refine wpL_sth M0 rfl rfl rfl rfl (wr_minus _ _ _) ?_; clear M0; intro w' M0) | (refine wpL_bx M1 rfl rfl rfl rfl ?_; clear M1; intro g2 w2 M2) | (refine wpL_alc M1 rfl rfl ?_; clear M1; intro g2 w2 M2) | (refine wpL_ldc M1 rfl rfl rfl ?_) | (refine wpL_lgc M1 rfl rfl rfl ?_) | (refine wpL_stc M1 rfl rfl rfl rfl ?_; clear M1; intro w' M1) | (refine wpL_sti M1 rfl rfl rfl rfl ?_; clear M1; intro w' M1) | (refine wpL_sth M1 rfl rfl rfl rfl (wr_minus _ _ _) ?_; clear M1; intro w' M1) | (refine wpL_bx M2 rfl rfl rfl rfl ?_; clear M2; intro g3 w3 M3) | (refine wpL_alc M2 rfl rfl ?_; clear M2; intro g3 w3 M3) | (refine wpL_ldc M2 rfl rfl rfl ?_) | (refine wpL_lgc M2 rfl rfl rfl ?_) | (refine wpL_stc M2 rfl rfl rfl rfl ?_; clear M2; intro w' M2) | (refine wpL_sti M2 rfl rfl rfl rfl ?_; clear M2; intro w' M2) | (refine wpL_sth M2 rfl rfl rfl rfl (wr_minus _ _ _) ?_; clear M2; intro w' M2) | (refine wpL_ldc M3 rfl rfl rfl ?_) | (refine wpL_lgc M3 rfl rfl rfl ?_) | (refine wpL_stc M3 rfl rfl rfl rfl ?_; clear M3; intro w' M3) | (refine wpL_sti M3 rfl rfl rfl rfl ?_; clear M3; intro w' M3) | (refine wpL_sth M3 rfl rfl rfl rfl (wr_minus _ _ _) ?_; clear M3; intro w' M3)))
    refine (C1.out _ (HP.out.below M3.below) (HQ.out.below M3.below)).mono ?_
    rintro e w4 ⟨rfl, hA⟩
    replace M3 := M3.call hA
    clear hA C1
    go_wp2_with ((with_reducible refine (?_ : Go.wpList _ _ _ (_ :: _) _ _)); (first | go_skip | (refine wpL_ldc M3 rfl rfl rfl ?_) | (refine wpL_lgc M3 rfl rfl rfl ?_) | (refine wpL_stc M3 rfl rfl rfl rfl ?_; clear M3; intro w' M3) | (refine wpL_sti M3 rfl rfl rfl rfl ?_; clear M3; intro w' M3) | (refine wpL_sth M3 rfl rfl rfl rfl (wr_minus _ _ _) ?_; clear M3; intro w' M3)))
    refine (HCB.out _ (HT.out.below M3.below)).mono ?_
    rintro e w5 ⟨x, rfl, ho, hA⟩
    have hT3 := HS.out.below M3.below
    have hT5 := hT3.below hA
    obtain ⟨y, cy, rfl, CLW⟩ := HLB.out x _ w5 ho hA.size hT3 hT5 HLE.out
    have hne3 := M3.lt (Has.head _ _ _ _)
    have hbs := M3.below.size
    have HLT := Lib.hid (fun e he => (M3.blk e he).lt)
    replace M3 := M3.call hA
    have CLW := Lib.hid CLW
    have hz5 := hA.size
    clear ho hA hT3 hT5
    go_wp2_with ((with_reducible refine (?_ : Go.wpList _ _ _ (_ :: _) _ _)); (first | go_skip | (refine wpL_ldc M3 rfl rfl rfl ?_) | (refine wpL_lgc M3 rfl rfl rfl ?_) | (refine wpL_stc M3 rfl rfl rfl rfl ?_; clear M3; intro w' M3) | (refine wpL_sti M3 rfl rfl rfl rfl ?_; clear M3; intro w' M3) | (refine wpL_sth M3 rfl rfl rfl rfl (wr_minus _ _ _) ?_; clear M3; intro w' M3)))
    refine CLW.out.mono ?_
    rintro e w6 ⟨x6, O, rfl, S6, hdg, hval, hw6⟩
    have M6 := mem_aside M3 hw6 hbs HLT.out
    have hol := u32_len S6
    have CC := Lib.hid (cut_any y m cy O w6 S6 hdg (by omega))
    rw [hval] at CC
    have HLD := Lib.hid (HD.out O d hdg hval (.inr HDL.out))
    clear S6 hdg hval hw6 hol M3
    go_wp2_with fail
    refine CC.out.mono ?_
    rintro e w7 ⟨rfl, rfl, S7⟩
    have K2 := M6.has (Has.head _ _ _ _)
    have S7 := Lib.hid S7
    go_wp2_with ((with_reducible refine (?_ : Go.wpList _ _ _ (_ :: _) _ _)); (first | go_skip | (refine wpL_ldc M6 rfl rfl rfl ?_) | (refine wpL_lgc M6 rfl rfl rfl ?_) | (refine wpL_stcT M6 rfl rfl rfl rfl ?_; clear M6; intro w' M6 hT) | (refine wpL_stiT M6 rfl rfl rfl rfl ?_; clear M6; intro w' M6 hT)))
    refine bodyPost_ret (res_cell rfl M6 rfl (Has.head _ _ _ _) (rd_nat _)) rfl ?_
    exact ⟨_, rfl, ⟨_, _, rfl, sl_kept S7.out K2 (noPart_sl _ _ _) hT⟩, M6.below⟩
  · rw [if_neg hpq]
    have hcm := (cmpN_lt p q).2 hpq
    obtain ⟨c, hc⟩ : ∃ c, c = cmpN p q := ⟨_, rfl⟩
    rw [← hc] at C1 hcm
    have hcm2 : ¬ c < 0 := by omega
    have C1 := Lib.hid C1
    clear hc
    have HLE : Hid (q ≤ p) := Lib.hid (by omega)
    obtain ⟨d, hd⟩ : ∃ d, d = p - q := ⟨_, rfl⟩
    rw [← hd] at HLA ⊢
    have HDL : Hid (d ≤ p) := Lib.hid (by omega)
    clear hpq hd
    go_enter Tryd.func16, Tryd.ntmps16
    go_wp2_with ((with_reducible refine (?_ : Go.wpList _ _ _ (_ :: _) _ _)); (first | go_skip | (refine wpL_bx M0 rfl rfl rfl rfl ?_; clear M0; intro g1 w1 M1) | (refine wpL_alc M0 rfl rfl ?_; clear M0; intro g1 w1 M1) | (refine wpL_ldc M0 rfl rfl rfl ?_) | (refine wpL_lgc M0 rfl rfl rfl ?_) | (refine wpL_stc M0 rfl rfl rfl rfl ?_; clear M0; intro w' M0) | (refine wpL_sti M0 rfl rfl rfl rfl ?_; clear M0; intro w' M0) | (refine wpL_sth M0 rfl rfl rfl rfl (wr_minus _ _ _) ?_; clear M0; intro w' M0) | (refine wpL_bx M1 rfl rfl rfl rfl ?_; clear M1; intro g2 w2 M2) | (refine wpL_alc M1 rfl rfl ?_; clear M1; intro g2 w2 M2) | (refine wpL_ldc M1 rfl rfl rfl ?_) | (refine wpL_lgc M1 rfl rfl rfl ?_) | (refine wpL_stc M1 rfl rfl rfl rfl ?_; clear M1; intro w' M1) | (refine wpL_sti M1 rfl rfl rfl rfl ?_; clear M1; intro w' M1) | (refine wpL_sth M1 rfl rfl rfl rfl (wr_minus _ _ _) ?_; clear M1; intro w' M1) | (refine wpL_bx M2 rfl rfl rfl rfl ?_; clear M2; intro g3 w3 M3) | (refine wpL_alc M2 rfl rfl ?_; clear M2; intro g3 w3 M3) | (refine wpL_ldc M2 rfl rfl rfl ?_) | (refine wpL_lgc M2 rfl rfl rfl ?_) | (refine wpL_stc M2 rfl rfl rfl rfl ?_; clear M2; intro w' M2) | (refine wpL_sti M2 rfl rfl rfl rfl ?_; clear M2; intro w' M2) | (refine wpL_sth M2 rfl rfl rfl rfl (wr_minus _ _ _) ?_; clear M2; intro w' M2) | (refine wpL_ldc M3 rfl rfl rfl ?_) | (refine wpL_lgc M3 rfl rfl rfl ?_) | (refine wpL_stc M3 rfl rfl rfl rfl ?_; clear M3; intro w' M3) | (refine wpL_sti M3 rfl rfl rfl rfl ?_; clear M3; intro w' M3) | (refine wpL_sth M3 rfl rfl rfl rfl (wr_minus _ _ _) ?_; clear M3; intro w' M3)))
    refine (C1.out _ (HP.out.below M3.below) (HQ.out.below M3.below)).mono ?_
    rintro e w4 ⟨rfl, hA⟩
    replace M3 := M3.call hA
    clear hA C1
    go_wp2_with ((with_reducible refine (?_ : Go.wpList _ _ _ (_ :: _) _ _)); (first | go_skip | (refine wpL_ldc M3 rfl rfl rfl ?_) | (refine wpL_lgc M3 rfl rfl rfl ?_) | (refine wpL_stc M3 rfl rfl rfl rfl ?_; clear M3; intro w' M3) | (refine wpL_sti M3 rfl rfl rfl rfl ?_; clear M3; intro w' M3) | (refine wpL_sth M3 rfl rfl rfl rfl (wr_minus _ _ _) ?_; clear M3; intro w' M3)))
    refine (HCA.out _ (HS.out.below M3.below)).mono ?_
    rintro e w5 ⟨x, rfl, ho, hA⟩
    have hT3 := HT.out.below M3.below
    have hT5 := hT3.below hA
    obtain ⟨y, cy, rfl, CLW⟩ := HLA.out x _ w5 ho hA.size hT3 hT5 HLE.out
    have hne3 := M3.lt (Has.head _ _ _ _)
    have hbs := M3.below.size
    have HLT := Lib.hid (fun e he => (M3.blk e he).lt)
    replace M3 := M3.call hA
    have CLW := Lib.hid CLW
    have hz5 := hA.size
    clear ho hA hT3 hT5
    go_wp2_with ((with_reducible refine (?_ : Go.wpList _ _ _ (_ :: _) _ _)); (first | go_skip | (refine wpL_ldc M3 rfl rfl rfl ?_) | (refine wpL_lgc M3 rfl rfl rfl ?_) | (refine wpL_stc M3 rfl rfl rfl rfl ?_; clear M3; intro w' M3) | (refine wpL_sti M3 rfl rfl rfl rfl ?_; clear M3; intro w' M3) | (refine wpL_sth M3 rfl rfl rfl rfl (wr_minus _ _ _) ?_; clear M3; intro w' M3)))
    refine CLW.out.mono ?_
    rintro e w6 ⟨x6, O, rfl, S6, hdg, hval, hw6⟩
    have M6 := mem_aside M3 hw6 hbs HLT.out
    have hol := u32_len S6
    have CC := Lib.hid (cut_any y n cy O w6 S6 hdg (by omega))
    rw [hval] at CC
    have HLD := Lib.hid (HD.out O d hdg hval (.inl HDL.out))
    clear S6 hdg hval hw6 hol M3
    go_wp2_with fail
    refine CC.out.mono ?_
    rintro e w7 ⟨rfl, rfl, S7⟩
    have K2 := M6.has (Has.head _ _ _ _)
    have S7 := Lib.hid S7
    go_wp2_with ((with_reducible refine (?_ : Go.wpList _ _ _ (_ :: _) _ _)); (first | go_skip | (refine wpL_ldc M6 rfl rfl rfl ?_) | (refine wpL_lgc M6 rfl rfl rfl ?_) | (refine wpL_stcT M6 rfl rfl rfl rfl ?_; clear M6; intro w' M6 hT) | (refine wpL_stiT M6 rfl rfl rfl rfl ?_; clear M6; intro w' M6 hT)))
    refine bodyPost_ret (res_cell rfl M6 rfl (Has.head _ _ _ _) (rd_nat _)) rfl ?_
    exact ⟨_, rfl, ⟨_, _, rfl, sl_kept S7.out K2 (noPart_sl _ _ _) hT⟩, M6.below⟩
end Go.Proofs.YtghioakpigdagaaDoor
