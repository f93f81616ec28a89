/-
  Roots of a half, powers, logarithms of sums: the reference's.
-/
import Derived.Test.YtaofkoejlpchaaaExpoS
import Derived.Deep.RegionHeld3
set_option linter.unusedVariables false
set_option linter.unusedSimpArgs false
namespace Go.Proofs.Ytaofkoejlpchaaa
open Go Go.RowKit Go.Th Go.Th.Root Go.Th.Wide Go.Th.Expo

theorem pow62_any : Ans 20 #[.int .i64 62] (.int .i64 4611686018427387904) := by
  have C := pow6_any 62 (by decide)
  rw [show (((2 : Nat) ^ 62 : Nat) : Int) = 4611686018427387904 by decide] at C
  exact C
theorem pow61_any : Ans 20 #[.int .i64 61] (.int .i64 2305843009213693952) := by
  have C := pow6_any 61 (by decide)
  rw [show (((2 : Nat) ^ 61 : Nat) : Int) = 2305843009213693952 by decide] at C
  exact C
theorem pow30_any : Ans 20 #[.int .i64 30] (.int .i64 1073741824) := by
  have C := pow6_any 30 (by decide)
  rw [show (((2 : Nat) ^ 30 : Nat) : Int) = 1073741824 by decide] at C
  exact C
theorem cmpN_any (a b : Nat) (ha : a < 2 ^ 129) (hb : b < 2 ^ 129) : Ans 30 #[.agg (numC false a).toArray, .agg (numC false b).toArray] (.int .i64 (cmpS (a : Int) (b : Int))) := fun w => refCmp_any false false a b ha hb w

set_option maxRecDepth 20000 in
set_option maxHeartbeats 3200000 in
theorem root6_go (h W R : Nat) (hh : h ≤ 4611686018427387904) (hR : R ≤ 4611686018427387904)
    (C0 : Ans 20 #[.int .i64 62] (.int .i64 4611686018427387904))
    (C1 : Ans 26 #[.int .i64 h, .int .i64 4611686018427387904] (.agg (numC false W).toArray))
    (C2 : ∀ m : Nat, m ≤ 4611686018427387904 → Ans 26 #[.int .i64 m, .int .i64 m] (.agg (numC false (m * m)).toArray))
    (C3 : ∀ m : Nat, m ≤ 4611686018427387904 → ∃ c : Int, (c ≤ 0 ↔ m ≤ R) ∧ Ans 30 #[.agg (numC false (m * m)).toArray, .agg (numC false W).toArray] (.int .i64 c)) :
    Ans 21 #[.int .u64 h] (.int .u64 R) := by
  intro w
  have H2 := Lib.hid C2
  have H3 := Lib.hid C3
  clear C2 C3
  have M0 := Mem.start w
  go_enter Try.func21, Try.ntmps21
  go_wp2_with ((with_reducible refine (?_ : Go.wpList _ _ _ (_ :: _) _ _)); (first | go_skip | (refine wpL_ld M0 rfl rfl rfl (by repeat (first | exact Has.head _ _ _ _ | apply Has.tail)) (by first | exact rd_num _ _ | exact rd_bits _ | exact rd_part _ _ | exact rd_minus _ _ | assumption) ?_) | (refine wpL_ldg M0 rfl rfl rfl (by repeat (first | exact Has.head _ _ _ _ | apply Has.tail)) (by first | exact rd_num _ _ | exact rd_bits _ | exact rd_part _ _ | exact rd_minus _ _ | assumption) ?_) | (refine wpN_1 rfl rfl rfl ?_) | (refine wpN_0 rfl rfl ?_) | (refine wpN_2 rfl rfl rfl rfl ?_) | (refine wpL_st M0 rfl rfl rfl rfl (by repeat (first | exact Has.head _ _ _ _ | apply Has.tail)) (by first | exact wr_num _ (numC_len _ _) _ _ | exact wr_bits _ (bitsC_len _) _ | exact wr_part _ _ _ | exact wr_minus _ _ _ | assumption) (by repeat (first | exact Upd.head _ _ _ _ _ | apply Upd.tail)) ?_; clear M0; intro w' M0)))
  (refine (C0 _).mono ?_; rintro e w2 ⟨rfl, hBl⟩; replace M0 := M0.call hBl; clear hBl)
  go_wp2_with ((with_reducible refine (?_ : Go.wpList _ _ _ (_ :: _) _ _)); (first | go_skip | (refine wpL_ld M0 rfl rfl rfl (by repeat (first | exact Has.head _ _ _ _ | apply Has.tail)) (by first | exact rd_num _ _ | exact rd_bits _ | exact rd_part _ _ | exact rd_minus _ _ | assumption) ?_) | (refine wpL_ldg M0 rfl rfl rfl (by repeat (first | exact Has.head _ _ _ _ | apply Has.tail)) (by first | exact rd_num _ _ | exact rd_bits _ | exact rd_part _ _ | exact rd_minus _ _ | assumption) ?_) | (refine wpN_1 rfl rfl rfl ?_) | (refine wpN_0 rfl rfl ?_) | (refine wpN_2 rfl rfl rfl rfl ?_) | (refine wpL_st M0 rfl rfl rfl rfl (by repeat (first | exact Has.head _ _ _ _ | apply Has.tail)) (by first | exact wr_num _ (numC_len _ _) _ _ | exact wr_bits _ (bitsC_len _) _ | exact wr_part _ _ _ | exact wr_minus _ _ _ | assumption) (by repeat (first | exact Upd.head _ _ _ _ _ | apply Upd.tail)) ?_; clear M0; intro w' M0)))
  (refine (C1 _).mono ?_; rintro e w2 ⟨rfl, hBl⟩; replace M0 := M0.call hBl; clear hBl C1)
  go_wp2_with ((with_reducible refine (?_ : Go.wpList _ _ _ (_ :: _) _ _)); (first | go_skip | (refine wpL_bx M0 rfl rfl rfl rfl ?_; clear M0; intro g1 w1 M1) | (refine wpL_al M0 rfl rfl zero27 rfl ?_; clear M0; intro g1 w1 M1) | (refine wpL_al M0 rfl rfl zero29 rfl ?_; clear M0; intro g1 w1 M1) | (refine wpL_ld M0 rfl rfl rfl (by repeat (first | exact Has.head _ _ _ _ | apply Has.tail)) (by first | exact rd_num _ _ | exact rd_bits _ | exact rd_part _ _ | exact rd_minus _ _ | assumption) ?_) | (refine wpL_ldg M0 rfl rfl rfl (by repeat (first | exact Has.head _ _ _ _ | apply Has.tail)) (by first | exact rd_num _ _ | exact rd_bits _ | exact rd_part _ _ | exact rd_minus _ _ | assumption) ?_) | (refine wpN_1 rfl rfl rfl ?_) | (refine wpN_0 rfl rfl ?_) | (refine wpN_2 rfl rfl rfl rfl ?_) | (refine wpL_st M0 rfl rfl rfl rfl (by repeat (first | exact Has.head _ _ _ _ | apply Has.tail)) (by first | exact wr_num _ (numC_len _ _) _ _ | exact wr_bits _ (bitsC_len _) _ | exact wr_part _ _ _ | exact wr_minus _ _ _ | assumption) (by repeat (first | exact Upd.head _ _ _ _ _ | apply Upd.tail)) ?_; clear M0; intro w' M0) | (refine wpL_ld M1 rfl rfl rfl (by repeat (first | exact Has.head _ _ _ _ | apply Has.tail)) (by first | exact rd_num _ _ | exact rd_bits _ | exact rd_part _ _ | exact rd_minus _ _ | assumption) ?_) | (refine wpL_ldg M1 rfl rfl rfl (by repeat (first | exact Has.head _ _ _ _ | apply Has.tail)) (by first | exact rd_num _ _ | exact rd_bits _ | exact rd_part _ _ | exact rd_minus _ _ | assumption) ?_) | (refine wpN_1 rfl rfl rfl ?_) | (refine wpN_0 rfl rfl ?_) | (refine wpN_2 rfl rfl rfl rfl ?_) | (refine wpL_st M1 rfl rfl rfl rfl (by repeat (first | exact Has.head _ _ _ _ | apply Has.tail)) (by first | exact wr_num _ (numC_len _ _) _ _ | exact wr_bits _ (bitsC_len _) _ | exact wr_part _ _ _ | exact wr_minus _ _ _ | assumption) (by repeat (first | exact Upd.head _ _ _ _ _ | apply Upd.tail)) ?_; clear M1; intro w' M1)))
  (refine (C0 _).mono ?_; rintro e w2 ⟨rfl, hBl⟩; replace M1 := M1.call hBl; clear hBl C0)
  go_wp2_with ((with_reducible refine (?_ : Go.wpList _ _ _ (_ :: _) _ _)); (first | go_skip | (refine wpL_ld M1 rfl rfl rfl (by repeat (first | exact Has.head _ _ _ _ | apply Has.tail)) (by first | exact rd_num _ _ | exact rd_bits _ | exact rd_part _ _ | exact rd_minus _ _ | assumption) ?_) | (refine wpL_ldg M1 rfl rfl rfl (by repeat (first | exact Has.head _ _ _ _ | apply Has.tail)) (by first | exact rd_num _ _ | exact rd_bits _ | exact rd_part _ _ | exact rd_minus _ _ | assumption) ?_) | (refine wpN_1 rfl rfl rfl ?_) | (refine wpN_0 rfl rfl ?_) | (refine wpN_2 rfl rfl rfl rfl ?_) | (refine wpL_st M1 rfl rfl rfl rfl (by repeat (first | exact Has.head _ _ _ _ | apply Has.tail)) (by first | exact wr_num _ (numC_len _ _) _ _ | exact wr_bits _ (bitsC_len _) _ | exact wr_part _ _ _ | exact wr_minus _ _ _ | assumption) (by repeat (first | exact Upd.head _ _ _ _ _ | apply Upd.tail)) ?_; clear M1; intro w' M1)))
  go_loopw [4, 5] (fun lo hi wx => ∃ l u : Nat, lo = .int .u64 l ∧ hi = .int .u64 u ∧ l ≤ R ∧ R < u ∧ u ≤ 4611686018427387905 ∧ Mem w wx [(g1, 52, numC false W)]) (fun lo hi _ => (intOf hi).toNat - (intOf lo).toNat)
  case atStart => exact ⟨0, 4611686018427387905, rfl, rfl, by omega, by omega, by omega, M1⟩
  case round =>
    clear M1
    obtain ⟨l, u, rfl, rfl, hl, hu, hu2, M1⟩ := hrel
    obtain ⟨d, hd⟩ : ∃ d : Nat, d = u - l := ⟨_, rfl⟩
    have ed : (u : Int) - (l : Int) = (d : Int) := by omega
    by_cases h1 : 1 < d
    · obtain ⟨m, hm⟩ : ∃ m, m = (l + u) / 2 := ⟨_, rfl⟩
      have em : ((l : Int) + (u : Int)) / 2 = (m : Int) := by omega
      have hm1 : l < m := by omega
      have hm2 : m < u := by omega
      have hm3 : m ≤ 4611686018427387904 := by omega
      have D2 := H2.out m hm3
      obtain ⟨c, hc, D3⟩ := H3.out m hm3
      obtain ⟨q, hq⟩ : ∃ q, q = m * m := ⟨_, rfl⟩
      rw [← hq] at D2 D3
      have EM := Lib.hid em
      have ew : IntKind.i64.wrap (((l : Int) + (u : Int)) / 2) = (m : Int) := by rw [em, IntKind.wrap_i64]; omega
      have HC := Lib.hid hc
      have HM := Lib.hid (And.intro hm1 hm2)
      have HL := Lib.hid (And.intro hl hu)
      have HU := Lib.hid (And.intro hd hm)
      have h1 : (1 : Int) < (d : Int) := by omega
      clear hq hc hm1 hm2 hd hm hl hu hR hh em
      by_cases hc0 : c ≤ 0
      · have HRR := Lib.hid ((HC.out).1 hc0)
        go_wp2_with ((with_reducible refine (?_ : Go.wpList _ _ _ (_ :: _) _ _)); (first | go_skip | (refine wpL_ld M1 rfl rfl rfl (by repeat (first | exact Has.head _ _ _ _ | apply Has.tail)) (by first | exact rd_num _ _ | exact rd_bits _ | exact rd_part _ _ | exact rd_minus _ _ | assumption) ?_) | (refine wpL_ldg M1 rfl rfl rfl (by repeat (first | exact Has.head _ _ _ _ | apply Has.tail)) (by first | exact rd_num _ _ | exact rd_bits _ | exact rd_part _ _ | exact rd_minus _ _ | assumption) ?_) | (refine wpN_1 rfl rfl rfl ?_) | (refine wpN_0 rfl rfl ?_) | (refine wpN_2 rfl rfl rfl rfl ?_) | (refine wpL_st M1 rfl rfl rfl rfl (by repeat (first | exact Has.head _ _ _ _ | apply Has.tail)) (by first | exact wr_num _ (numC_len _ _) _ _ | exact wr_bits _ (bitsC_len _) _ | exact wr_part _ _ _ | exact wr_minus _ _ _ | assumption) (by repeat (first | exact Upd.head _ _ _ _ _ | apply Upd.tail)) ?_; clear M1; intro w' M1)))
        replace M1 := M1.drew
        refine wp_region_held_drew (S := (fun w' : World => Mem w w' [(g1, 52, numC false W)])) (by kernel_rfl) ((M1)) (fun hHeld => ?_)
        refine wpAnyH_take (i := 0) (v := ?v1) rfl (by kernel_rfl) (by kernel_rfl) (by kernel_rfl) (fun _ _ _ h => h) (Or.inl ⟨by rfl, ?hy1⟩) hHeld ?rest1
        case hy1 => (intro w' hSw; (try dsimp only at hSw); go_simp; (try with_reducible rfl))
        try simp only [Act.put, List.setIfInBounds_toArray, List.set_cons_zero, List.set_cons_succ, List.getElem_toArray, List.getElem_cons_zero, List.getElem_cons_succ]
        refine wpAnyH_take (i := 1) (v := ?v2) rfl (by kernel_rfl) (by kernel_rfl) (by kernel_rfl) (fun _ _ _ h => h) (Or.inl ⟨by rfl, ?hy2⟩) hHeld ?rest2
        case hy2 => (intro w' hSw; (try dsimp only at hSw); go_simp; (try with_reducible rfl))
        try simp only [Act.put, List.setIfInBounds_toArray, List.set_cons_zero, List.set_cons_succ, List.getElem_toArray, List.getElem_cons_zero, List.getElem_cons_succ]
        refine wpAnyH_take (i := 2) (v := ?v3) rfl (by kernel_rfl) (by kernel_rfl) (by kernel_rfl) (fun _ _ _ h => h) (Or.inl ⟨by rfl, ?hy3⟩) hHeld ?rest3
        case hy3 => (intro w' hSw; (try dsimp only at hSw); go_simp; (try with_reducible rfl))
        try simp only [Act.put, List.setIfInBounds_toArray, List.set_cons_zero, List.set_cons_succ, List.getElem_toArray, List.getElem_cons_zero, List.getElem_cons_succ]
        refine wpAnyH_take (i := 3) (v := ?v4) rfl (by kernel_rfl) (by kernel_rfl) (by kernel_rfl) (fun _ _ _ h => h) (Or.inl ⟨by rfl, ?hy4⟩) hHeld ?rest4
        case hy4 => (intro w' hSw; (try dsimp only at hSw); go_simp; (try with_reducible rfl))
        try simp only [Act.put, List.setIfInBounds_toArray, List.set_cons_zero, List.set_cons_succ, List.getElem_toArray, List.getElem_cons_zero, List.getElem_cons_succ]
        refine wpAnyH_take (i := 5) rfl (by kernel_rfl) (by kernel_rfl) (by kernel_rfl) (fun _ _ _ h => h) (yi_ld (fun _ h => ⟨_, h⟩) (by rfl) rfl rfl (by repeat (first | exact Has.head _ _ _ _ | apply Has.tail)) (by first | exact rd_num _ _ | exact rd_bits _ | exact rd_part _ _ | exact rd_minus _ _ | assumption)) hHeld ?_
        try simp only [Act.put, List.setIfInBounds_toArray, List.set_cons_zero, List.set_cons_succ, List.getElem_toArray, List.getElem_cons_zero, List.getElem_cons_succ]
        refine wpAnyH_ready (rs := [4]) (by kernel_rfl) (by simp) ?_
        refine AllReadyH.cons rfl (fun K hK => ?_) AllReadyH.nil
        go_simp
        refine (D2 _).mono ?_
        rintro e w2 ⟨rfl, hBl⟩
        replace M1 := M1.call hBl
        clear hBl D2
        try go_wp2_with fail
        refine hK.out _ _ (M1) (fun hHeld => ?_)
        clear hK K
        try simp only [Act.put, List.setIfInBounds_toArray, List.set_cons_zero, List.set_cons_succ, List.getElem_toArray, List.getElem_cons_zero, List.getElem_cons_succ]
        refine wpAnyH_ready (rs := [6]) (by kernel_rfl) (by simp) ?_
        refine AllReadyH.cons rfl (fun K hK => ?_) AllReadyH.nil
        go_simp
        refine (D3 _).mono ?_
        rintro e w2 ⟨rfl, hBl⟩
        replace M1 := M1.call hBl
        clear hBl D3
        try go_wp2_with fail
        refine hK.out _ _ (M1) (fun hHeld => ?_)
        clear hK K
        try simp only [Act.put, List.setIfInBounds_toArray, List.set_cons_zero, List.set_cons_succ, List.getElem_toArray, List.getElem_cons_zero, List.getElem_cons_succ]
        refine wpAnyH_take (i := 7) (v := ?v8) rfl (by kernel_rfl) (by kernel_rfl) (by kernel_rfl) (fun _ _ _ h => h) (Or.inl ⟨by rfl, ?hy8⟩) hHeld ?rest8
        case hy8 => (intro w' hSw; (try dsimp only at hSw); go_simp; (try with_reducible rfl))
        try simp only [Act.put, List.setIfInBounds_toArray, List.set_cons_zero, List.set_cons_succ, List.getElem_toArray, List.getElem_cons_zero, List.getElem_cons_succ]
        refine wpAnyH_done (by kernel_rfl) ?_ _
        go_wp2_with ((with_reducible refine (?_ : Go.wpList _ _ _ (_ :: _) _ _)); (first | go_skip | (refine wpL_ld M1 rfl rfl rfl (by repeat (first | exact Has.head _ _ _ _ | apply Has.tail)) (by first | exact rd_num _ _ | exact rd_bits _ | exact rd_part _ _ | exact rd_minus _ _ | assumption) ?_) | (refine wpL_ldg M1 rfl rfl rfl (by repeat (first | exact Has.head _ _ _ _ | apply Has.tail)) (by first | exact rd_num _ _ | exact rd_bits _ | exact rd_part _ _ | exact rd_minus _ _ | assumption) ?_) | (refine wpN_1 rfl rfl rfl ?_) | (refine wpN_0 rfl rfl ?_) | (refine wpN_2 rfl rfl rfl rfl ?_) | (refine wpL_st M1 rfl rfl rfl rfl (by repeat (first | exact Has.head _ _ _ _ | apply Has.tail)) (by first | exact wr_num _ (numC_len _ _) _ _ | exact wr_bits _ (bitsC_len _) _ | exact wr_part _ _ _ | exact wr_minus _ _ _ | assumption) (by repeat (first | exact Upd.head _ _ _ _ _ | apply Upd.tail)) ?_; clear M1; intro w' M1)))
        go_roundw
        case rel => exact ⟨m, u, congrArg (Value.int .u64) EM.out, rfl, HRR.out, HL.out.2, hu2, M1⟩
        case measure =>
          have a := HM.out
          have b := EM.out
          simp only [intOf]
          omega
      · have HRR := Lib.hid (show R < m by have := HC.out; omega)
        go_wp2_with ((with_reducible refine (?_ : Go.wpList _ _ _ (_ :: _) _ _)); (first | go_skip | (refine wpL_ld M1 rfl rfl rfl (by repeat (first | exact Has.head _ _ _ _ | apply Has.tail)) (by first | exact rd_num _ _ | exact rd_bits _ | exact rd_part _ _ | exact rd_minus _ _ | assumption) ?_) | (refine wpL_ldg M1 rfl rfl rfl (by repeat (first | exact Has.head _ _ _ _ | apply Has.tail)) (by first | exact rd_num _ _ | exact rd_bits _ | exact rd_part _ _ | exact rd_minus _ _ | assumption) ?_) | (refine wpN_1 rfl rfl rfl ?_) | (refine wpN_0 rfl rfl ?_) | (refine wpN_2 rfl rfl rfl rfl ?_) | (refine wpL_st M1 rfl rfl rfl rfl (by repeat (first | exact Has.head _ _ _ _ | apply Has.tail)) (by first | exact wr_num _ (numC_len _ _) _ _ | exact wr_bits _ (bitsC_len _) _ | exact wr_part _ _ _ | exact wr_minus _ _ _ | assumption) (by repeat (first | exact Upd.head _ _ _ _ _ | apply Upd.tail)) ?_; clear M1; intro w' M1)))
        replace M1 := M1.drew
        refine wp_region_held_drew (S := (fun w' : World => Mem w w' [(g1, 52, numC false W)])) (by kernel_rfl) ((M1)) (fun hHeld => ?_)
        refine wpAnyH_take (i := 0) (v := ?v9) rfl (by kernel_rfl) (by kernel_rfl) (by kernel_rfl) (fun _ _ _ h => h) (Or.inl ⟨by rfl, ?hy9⟩) hHeld ?rest9
        case hy9 => (intro w' hSw; (try dsimp only at hSw); go_simp; (try with_reducible rfl))
        try simp only [Act.put, List.setIfInBounds_toArray, List.set_cons_zero, List.set_cons_succ, List.getElem_toArray, List.getElem_cons_zero, List.getElem_cons_succ]
        refine wpAnyH_take (i := 1) (v := ?v10) rfl (by kernel_rfl) (by kernel_rfl) (by kernel_rfl) (fun _ _ _ h => h) (Or.inl ⟨by rfl, ?hy10⟩) hHeld ?rest10
        case hy10 => (intro w' hSw; (try dsimp only at hSw); go_simp; (try with_reducible rfl))
        try simp only [Act.put, List.setIfInBounds_toArray, List.set_cons_zero, List.set_cons_succ, List.getElem_toArray, List.getElem_cons_zero, List.getElem_cons_succ]
        refine wpAnyH_take (i := 2) (v := ?v11) rfl (by kernel_rfl) (by kernel_rfl) (by kernel_rfl) (fun _ _ _ h => h) (Or.inl ⟨by rfl, ?hy11⟩) hHeld ?rest11
        case hy11 => (intro w' hSw; (try dsimp only at hSw); go_simp; (try with_reducible rfl))
        try simp only [Act.put, List.setIfInBounds_toArray, List.set_cons_zero, List.set_cons_succ, List.getElem_toArray, List.getElem_cons_zero, List.getElem_cons_succ]
        refine wpAnyH_take (i := 3) (v := ?v12) rfl (by kernel_rfl) (by kernel_rfl) (by kernel_rfl) (fun _ _ _ h => h) (Or.inl ⟨by rfl, ?hy12⟩) hHeld ?rest12
        case hy12 => (intro w' hSw; (try dsimp only at hSw); go_simp; (try with_reducible rfl))
        try simp only [Act.put, List.setIfInBounds_toArray, List.set_cons_zero, List.set_cons_succ, List.getElem_toArray, List.getElem_cons_zero, List.getElem_cons_succ]
        refine wpAnyH_take (i := 5) rfl (by kernel_rfl) (by kernel_rfl) (by kernel_rfl) (fun _ _ _ h => h) (yi_ld (fun _ h => ⟨_, h⟩) (by rfl) rfl rfl (by repeat (first | exact Has.head _ _ _ _ | apply Has.tail)) (by first | exact rd_num _ _ | exact rd_bits _ | exact rd_part _ _ | exact rd_minus _ _ | assumption)) hHeld ?_
        try simp only [Act.put, List.setIfInBounds_toArray, List.set_cons_zero, List.set_cons_succ, List.getElem_toArray, List.getElem_cons_zero, List.getElem_cons_succ]
        refine wpAnyH_ready (rs := [4]) (by kernel_rfl) (by simp) ?_
        refine AllReadyH.cons rfl (fun K hK => ?_) AllReadyH.nil
        go_simp
        refine (D2 _).mono ?_
        rintro e w2 ⟨rfl, hBl⟩
        replace M1 := M1.call hBl
        clear hBl D2
        try go_wp2_with fail
        refine hK.out _ _ (M1) (fun hHeld => ?_)
        clear hK K
        try simp only [Act.put, List.setIfInBounds_toArray, List.set_cons_zero, List.set_cons_succ, List.getElem_toArray, List.getElem_cons_zero, List.getElem_cons_succ]
        refine wpAnyH_ready (rs := [6]) (by kernel_rfl) (by simp) ?_
        refine AllReadyH.cons rfl (fun K hK => ?_) AllReadyH.nil
        go_simp
        refine (D3 _).mono ?_
        rintro e w2 ⟨rfl, hBl⟩
        replace M1 := M1.call hBl
        clear hBl D3
        try go_wp2_with fail
        refine hK.out _ _ (M1) (fun hHeld => ?_)
        clear hK K
        try simp only [Act.put, List.setIfInBounds_toArray, List.set_cons_zero, List.set_cons_succ, List.getElem_toArray, List.getElem_cons_zero, List.getElem_cons_succ]
        refine wpAnyH_take (i := 7) (v := ?v16) rfl (by kernel_rfl) (by kernel_rfl) (by kernel_rfl) (fun _ _ _ h => h) (Or.inl ⟨by rfl, ?hy16⟩) hHeld ?rest16
        case hy16 => (intro w' hSw; (try dsimp only at hSw); go_simp; (try with_reducible rfl))
        try simp only [Act.put, List.setIfInBounds_toArray, List.set_cons_zero, List.set_cons_succ, List.getElem_toArray, List.getElem_cons_zero, List.getElem_cons_succ]
        refine wpAnyH_done (by kernel_rfl) ?_ _
        go_wp2_with ((with_reducible refine (?_ : Go.wpList _ _ _ (_ :: _) _ _)); (first | go_skip | (refine wpL_ld M1 rfl rfl rfl (by repeat (first | exact Has.head _ _ _ _ | apply Has.tail)) (by first | exact rd_num _ _ | exact rd_bits _ | exact rd_part _ _ | exact rd_minus _ _ | assumption) ?_) | (refine wpL_ldg M1 rfl rfl rfl (by repeat (first | exact Has.head _ _ _ _ | apply Has.tail)) (by first | exact rd_num _ _ | exact rd_bits _ | exact rd_part _ _ | exact rd_minus _ _ | assumption) ?_) | (refine wpN_1 rfl rfl rfl ?_) | (refine wpN_0 rfl rfl ?_) | (refine wpN_2 rfl rfl rfl rfl ?_) | (refine wpL_st M1 rfl rfl rfl rfl (by repeat (first | exact Has.head _ _ _ _ | apply Has.tail)) (by first | exact wr_num _ (numC_len _ _) _ _ | exact wr_bits _ (bitsC_len _) _ | exact wr_part _ _ _ | exact wr_minus _ _ _ | assumption) (by repeat (first | exact Upd.head _ _ _ _ _ | apply Upd.tail)) ?_; clear M1; intro w' M1)))
        go_roundw
        case rel => exact ⟨l, m, rfl, congrArg (Value.int .u64) EM.out, HL.out.1, HRR.out, by omega, M1⟩
        case measure =>
          have a := HM.out
          have b := EM.out
          simp only [intOf]
          omega
    · obtain rfl : l = R := by omega
      go_wp2_with ((with_reducible refine (?_ : Go.wpList _ _ _ (_ :: _) _ _)); (first | go_skip | (refine wpL_ld M1 rfl rfl rfl (by repeat (first | exact Has.head _ _ _ _ | apply Has.tail)) (by first | exact rd_num _ _ | exact rd_bits _ | exact rd_part _ _ | exact rd_minus _ _ | assumption) ?_) | (refine wpL_ldg M1 rfl rfl rfl (by repeat (first | exact Has.head _ _ _ _ | apply Has.tail)) (by first | exact rd_num _ _ | exact rd_bits _ | exact rd_part _ _ | exact rd_minus _ _ | assumption) ?_) | (refine wpN_1 rfl rfl rfl ?_) | (refine wpN_0 rfl rfl ?_) | (refine wpN_2 rfl rfl rfl rfl ?_) | (refine wpL_st M1 rfl rfl rfl rfl (by repeat (first | exact Has.head _ _ _ _ | apply Has.tail)) (by first | exact wr_num _ (numC_len _ _) _ _ | exact wr_bits _ (bitsC_len _) _ | exact wr_part _ _ _ | exact wr_minus _ _ _ | assumption) (by repeat (first | exact Upd.head _ _ _ _ _ | apply Upd.tail)) ?_; clear M1; intro w' M1)))
      go_ret
      exact ⟨rfl, M1.below⟩
theorem root6_any (h : Nat) (hh : h ≤ 4611686018427387904) : Ans 21 #[.int .u64 h] (.int .u64 ((rt 2 (h * 4611686018427387904) : Nat) : Int)) := by
  have hW : h * 4611686018427387904 ≤ 4611686018427387904 * 4611686018427387904 := Nat.mul_le_mul_right _ hh
  refine root6_go h (h * 4611686018427387904) _ hh (root_le hh) pow62_any (mulN_any h 4611686018427387904 (by omega) (by omega)) (fun m hm => mulN_any m m (by omega) (by omega)) (fun m hm => ?_)
  have hm2 : m * m ≤ 4611686018427387904 * 4611686018427387904 := Nat.mul_le_mul hm hm
  refine ⟨_, ?_, cmpN_any (m * m) (h * 4611686018427387904) (by omega) (by omega)⟩
  rw [le_rt (by decide), Nat.pow_two]
  unfold cmpS
  generalize m * m = a
  generalize h * 4611686018427387904 = b
  split
  · omega
  · split <;> omega

set_option maxRecDepth 20000 in
set_option maxHeartbeats 3200000 in
theorem refExp_go (d c p R V : Nat) (hd : d < 9223372036854775808) (hc : c ≤ 40) (hp : p < 65536) (ec : (d : Int) / 65536 = (c : Int)) (ep : (d : Int) % 65536 = (p : Int)) (hR : exM p = R) (hV : R / 1073741824 / 2 ^ c = V)
    (C1 : ∀ a b : Nat, a ≤ 4611686018427387904 → b ≤ 4611686018427387904 → Ans 22 #[.int .u64 a, .int .u64 b] (.int .u64 ((a * b / 4611686018427387904 : Nat) : Int)))
    (C2 : ∀ h : Nat, h ≤ 4611686018427387904 → Ans 21 #[.int .u64 h] (.int .u64 ((rt 2 (h * 4611686018427387904) : Nat) : Int)))
    (C3 : Ans 20 #[.int .i64 62] (.int .i64 4611686018427387904)) (C4 : Ans 20 #[.int .i64 61] (.int .i64 2305843009213693952)) (C5 : Ans 20 #[.int .i64 30] (.int .i64 1073741824))
    (C6 : ∀ n : Nat, n ≤ 62 → Ans 20 #[.int .i64 n] (.int .i64 ((2 ^ n : Nat) : Int))) :
    Ans 12 #[.int .i64 d] (.tuple #[.int .u64 V, .int .i64 0]) := by
  intro w
  have HR := Lib.hid hR
  have HV := Lib.hid hV
  have H1 := Lib.hid C1
  have H2 := Lib.hid C2
  have H6 := Lib.hid C6
  clear hR hV C1 C2 C6
  have M0 := Mem.start w
  go_enter Try.func12, Try.ntmps12
  go_wp2_with fail
  (refine (C3 _).mono ?_; rintro e w2 ⟨rfl, hBl⟩; replace M0 := M0.call hBl; clear hBl C3)
  go_wp2_with fail
  (refine (C4 _).mono ?_; rintro e w2 ⟨rfl, hBl⟩; replace M0 := M0.call hBl; clear hBl C4)
  go_wp2_with fail
  clear ec ep
  go_loopw [6, 7, 8] (fun s6 s7 s8 wx => ∃ k h m : Nat, k ≤ 16 ∧ s6 = .int .u64 m ∧ s7 = .int .u64 h ∧ s8 = .int .i64 ((16 - k : Nat) : Int) ∧ h ≤ 4611686018427387904 ∧ m ≤ 4611686018427387904 ∧ Hid (ex k p h m = R) ∧ Mem w wx []) (fun _ _ i _ => 16 - (intOf i).toNat)
  case atStart => exact ⟨16, 2305843009213693952, 4611686018427387904, by omega, rfl, rfl, rfl, by decide, by decide, HR.out, M0⟩
  case round =>
    clear M0 HR
    obtain ⟨k, h, m, hk, rfl, rfl, rfl, hh, hm, HR, M0⟩ := hrel
    cases k with
    | zero =>
      have hmR : m = R := HR.out
      subst hmR
      clear HR
      go_wp2_with fail
      (refine (C5 _).mono ?_; rintro e w2 ⟨rfl, hBl⟩; replace M0 := M0.call hBl; clear hBl C5)
      go_wp2_with fail
      go_loopw [6, 9] (fun s6 s9 wx => ∃ j y : Nat, j ≤ c ∧ s9 = .int .i64 j ∧ s6 = .int .u64 y ∧ y ≤ 4611686018427387904 ∧ Hid (y = m / 1073741824 / 2 ^ j) ∧ Mem w wx []) (fun _ j _ => c - (intOf j).toNat)
      case atStart => exact ⟨0, m / 1073741824, by omega, rfl, congrArg (Value.int .u64) (by omega), by omega, by show _ = m / 1073741824 / 2 ^ 0; rw [Nat.pow_zero, Nat.div_one], M0⟩
      case round =>
        clear M0
        obtain ⟨j, y, hj, rfl, rfl, hy, HY, M0⟩ := hrel
        by_cases hl : j < c
        · have hn := div_succ (m / 1073741824) j
          rw [← HY.out] at hn
          have HN := Lib.hid hn
          clear hn
          go_wp2_with fail
          go_roundw
          case rel => exact ⟨j + 1, y / 2, by omega, by go_num, by go_num, by omega, HN.out, M0⟩
          case measure => simp [intOf] <;> omega
        · have hj2 : j = c := by omega
          subst hj2
          go_wp2_with fail
          go_ret2
          exact ⟨ret_ii (by rw [← HV.out, ← HY.out]) rfl, M0.below⟩
    | succ k =>
      have e : ((16 - (k + 1) : Nat) : Int) = ((15 - k : Nat) : Int) := by omega
      have e2 : ((15 - k : Nat) : Int) + 1 = ((16 - k : Nat) : Int) := by omega
      have e3 : (15 : Int) - ((15 - k : Nat) : Int) = (k : Int) := by omega
      obtain ⟨i, hi⟩ : ∃ i, i = 15 - k := ⟨_, rfl⟩
      rw [e]
      rw [← hi] at e2 e3 ⊢
      have hi2 : i < 16 := by omega
      have E2 := Lib.hid e2
      have HI := Lib.hid hi
      clear hi e e2
      have D2 := H2.out h hh
      have D6 := H6.out k (by omega)
      have hh2 := root_le hh
      have hs := ex_step k p h m
      have hb : p / 2 ^ k % 2 < 2 := Nat.mod_lt _ (by decide)
      have hP0 : 0 < 2 ^ k := Nat.two_pow_pos k
      have hP1 : 2 ^ k ≤ 32768 := (Nat.pow_le_pow_right (by decide) (by omega) : 2 ^ k ≤ 2 ^ 15)
      have hq2 : p / 2 ^ k ≤ p := Nat.div_le_self _ _
      obtain ⟨P, eP⟩ : ∃ P, P = 2 ^ k := ⟨_, rfl⟩
      rw [← eP] at D6 hs hb hP0 hP1 hq2
      obtain ⟨q, eq⟩ : ∃ q, q = p / P := ⟨_, rfl⟩
      have eqI : (p : Int) / (P : Int) = (q : Int) := by rw [eq]; rfl
      rw [← eq] at hs hb hq2
      obtain ⟨h2, eh⟩ : ∃ h2, h2 = rt 2 (h * 4611686018427387904) := ⟨_, rfl⟩
      rw [← eh] at D2 hs hh2
      have hPI : ¬ (P : Int) = 0 := by omega
      have HP := Lib.hid (And.intro eP (And.intro eq eh))
      clear eP eq eh hP0
      by_cases hbit : q % 2 = 1
      · rw [if_pos hbit] at hs
        have G := Lib.hid (HR.out ▸ hs.symm : ex k p h2 (m * h2 / 4611686018427387904) = R)
        have hm2 := prod_le hm hh2
        have D1 := H1.out m h2 hm hh2
        obtain ⟨v, hv⟩ : ∃ v, v = m * h2 / 4611686018427387904 := ⟨_, rfl⟩
        rw [← hv] at G hm2 D1
        have bq : ((q : Int) % 2 == 1) = true := by rw [beq_iff_eq]; omega
        clear hs HR hbit hv
        go_wp2_with fail
        (refine (D2 _).mono ?_; rintro e w2 ⟨rfl, hBl⟩; replace M0 := M0.call hBl; clear hBl D2)
        go_wp2_with fail
        (refine (D6 _).mono ?_; rintro e w2 ⟨rfl, hBl⟩; replace M0 := M0.call hBl; clear hBl D6)
        go_wp2_with fail
        (refine (D1 _).mono ?_; rintro e w2 ⟨rfl, hBl⟩; replace M0 := M0.call hBl; clear hBl D1)
        go_wp2_with fail
        go_roundw
        case rel => exact ⟨k, h2, v, by omega, rfl, rfl, congrArg (Value.int .i64) E2.out, hh2, hm2, G.out, M0⟩
        case measure => simp [intOf] <;> omega
      · rw [if_neg hbit] at hs
        have G := Lib.hid (HR.out ▸ hs.symm : ex k p h2 m = R)
        have bq : ((q : Int) % 2 == 1) = false := beq_eq_false_iff_ne.2 (by omega)
        clear hs HR hbit
        go_wp2_with fail
        (refine (D2 _).mono ?_; rintro e w2 ⟨rfl, hBl⟩; replace M0 := M0.call hBl; clear hBl D2)
        go_wp2_with fail
        (refine (D6 _).mono ?_; rintro e w2 ⟨rfl, hBl⟩; replace M0 := M0.call hBl; clear hBl D6)
        go_wp2_with fail
        go_roundw
        case rel => exact ⟨k, h2, m, by omega, rfl, rfl, congrArg (Value.int .i64) E2.out, hh2, hm, G.out, M0⟩
        case measure => simp [intOf] <;> omega
set_option maxRecDepth 20000 in
set_option maxHeartbeats 3200000 in
theorem refExp_far (d c : Nat) (hd : d < 9223372036854775808) (hc : 40 < c) (ec : (d : Int) / 65536 = (c : Int)) : Ans 12 #[.int .i64 d] (.tuple #[.int .u64 0, .int .i64 0]) := by
  intro w
  go_enter Try.func12, Try.ntmps12
  go_wp2_with fail
  go_ret2
  exact ⟨rfl, Below.refl _ _⟩
set_option maxRecDepth 20000 in
set_option maxHeartbeats 3200000 in
theorem refExp_neg (x : Int) (h : x < 0) : Ans 12 #[.int .i64 x] (.tuple #[.int .u64 0, .int .i64 2]) := by
  intro w
  go_enter Try.func12, Try.ntmps12
  go_wp2_with fail
  go_ret2
  exact ⟨rfl, Below.refl _ _⟩
theorem refExp_any (d : Nat) (hd : d < 9223372036854775808) : Ans 12 #[.int .i64 d] (.tuple #[.int .u64 ((expS d : Nat) : Int), .int .i64 0]) := by
  by_cases h : 40 < d / 65536
  · have e : expS d = 0 := by unfold expS; rw [if_pos h]
    rw [e]
    exact refExp_far d (d / 65536) hd h (by omega)
  · exact refExp_go d (d / 65536) (d % 65536) _ (expS d) hd (by omega) (by omega) (by omega) (by omega) rfl (by unfold expS; rw [if_neg h])
      times6_any root6_any pow62_any pow61_any pow30_any pow6_any

set_option maxRecDepth 20000 in
set_option maxHeartbeats 3200000 in
theorem refSum_a_far (a b : Int) (ha : -9223372036854775808 ≤ a ∧ a ≤ 9223372036854775807) (hb : -9223372036854775808 ≤ b ∧ b ≤ 9223372036854775807) (hs : ¬ a < b) (h1 : b < 0) (h2 : 9223372036854775807 + b < a) : Ans 14 #[.int .i64 a, .int .i64 b] (.int .i64 a) := by
  intro w
  have M0 := Mem.start w
  go_enter Try.func14, Try.ntmps14
  go_wp2_with fail
  go_ret
  exact ⟨rfl, M0.below⟩
set_option maxRecDepth 20000 in
set_option maxHeartbeats 3200000 in
theorem refSum_a_pos0 (a b : Int) (ha : -9223372036854775808 ≤ a ∧ a ≤ 9223372036854775807) (hb : -9223372036854775808 ≤ b ∧ b ≤ 9223372036854775807) (hs : ¬ a < b) (D e A : Nat) (eD : a - b = (D : Int)) (he : e ≤ 4294967296) (hA : A ≤ 65536) (h1 : ¬ b < 0) (h3 : ¬ 9223372036854775807 - (A : Int) < a) (C1 : Ans 12 #[.int .i64 D] (.tuple #[.int .u64 e, .int .i64 0])) (C2 : Ans 9 #[.int .u64 (4294967296 + (e : Int))] (.tuple #[.int .i64 (2097152 + (A : Int)), .int .i64 0])) :
    Ans 14 #[.int .i64 a, .int .i64 b] (.int .i64 (a + (A : Int))) := by
  intro w
  have M0 := Mem.start w
  have eA : (2097152 : Int) + (A : Int) - 2097152 = (A : Int) := by omega
  go_enter Try.func14, Try.ntmps14
  go_wp2_with fail
  (refine (C1 _).mono ?_; rintro e w2 ⟨rfl, hBl⟩; replace M0 := M0.call hBl; clear hBl C1)
  go_wp2_with fail
  (refine (C2 _).mono ?_; rintro e w2 ⟨rfl, hBl⟩; replace M0 := M0.call hBl; clear hBl C2)
  go_wp2_with fail
  go_ret
  exact ⟨rfl, M0.below⟩
set_option maxRecDepth 20000 in
set_option maxHeartbeats 3200000 in
theorem refSum_a_pos1 (a b : Int) (ha : -9223372036854775808 ≤ a ∧ a ≤ 9223372036854775807) (hb : -9223372036854775808 ≤ b ∧ b ≤ 9223372036854775807) (hs : ¬ a < b) (D e A : Nat) (eD : a - b = (D : Int)) (he : e ≤ 4294967296) (hA : A ≤ 65536) (h1 : ¬ b < 0) (h3 : 9223372036854775807 - (A : Int) < a) (C1 : Ans 12 #[.int .i64 D] (.tuple #[.int .u64 e, .int .i64 0])) (C2 : Ans 9 #[.int .u64 (4294967296 + (e : Int))] (.tuple #[.int .i64 (2097152 + (A : Int)), .int .i64 0])) :
    Ans 14 #[.int .i64 a, .int .i64 b] (.int .i64 9223372036854775807) := by
  intro w
  have M0 := Mem.start w
  have eA : (2097152 : Int) + (A : Int) - 2097152 = (A : Int) := by omega
  go_enter Try.func14, Try.ntmps14
  go_wp2_with fail
  (refine (C1 _).mono ?_; rintro e w2 ⟨rfl, hBl⟩; replace M0 := M0.call hBl; clear hBl C1)
  go_wp2_with fail
  (refine (C2 _).mono ?_; rintro e w2 ⟨rfl, hBl⟩; replace M0 := M0.call hBl; clear hBl C2)
  go_wp2_with fail
  go_ret
  exact ⟨rfl, M0.below⟩
set_option maxRecDepth 20000 in
set_option maxHeartbeats 3200000 in
theorem refSum_a_neg0 (a b : Int) (ha : -9223372036854775808 ≤ a ∧ a ≤ 9223372036854775807) (hb : -9223372036854775808 ≤ b ∧ b ≤ 9223372036854775807) (hs : ¬ a < b) (D e A : Nat) (eD : a - b = (D : Int)) (he : e ≤ 4294967296) (hA : A ≤ 65536) (h1 : b < 0) (h2 : ¬ 9223372036854775807 + b < a) (h3 : ¬ 9223372036854775807 - (A : Int) < a) (C1 : Ans 12 #[.int .i64 D] (.tuple #[.int .u64 e, .int .i64 0])) (C2 : Ans 9 #[.int .u64 (4294967296 + (e : Int))] (.tuple #[.int .i64 (2097152 + (A : Int)), .int .i64 0])) :
    Ans 14 #[.int .i64 a, .int .i64 b] (.int .i64 (a + (A : Int))) := by
  intro w
  have M0 := Mem.start w
  have eA : (2097152 : Int) + (A : Int) - 2097152 = (A : Int) := by omega
  go_enter Try.func14, Try.ntmps14
  go_wp2_with fail
  (refine (C1 _).mono ?_; rintro e w2 ⟨rfl, hBl⟩; replace M0 := M0.call hBl; clear hBl C1)
  go_wp2_with fail
  (refine (C2 _).mono ?_; rintro e w2 ⟨rfl, hBl⟩; replace M0 := M0.call hBl; clear hBl C2)
  go_wp2_with fail
  go_ret
  exact ⟨rfl, M0.below⟩
set_option maxRecDepth 20000 in
set_option maxHeartbeats 3200000 in
theorem refSum_a_neg1 (a b : Int) (ha : -9223372036854775808 ≤ a ∧ a ≤ 9223372036854775807) (hb : -9223372036854775808 ≤ b ∧ b ≤ 9223372036854775807) (hs : ¬ a < b) (D e A : Nat) (eD : a - b = (D : Int)) (he : e ≤ 4294967296) (hA : A ≤ 65536) (h1 : b < 0) (h2 : ¬ 9223372036854775807 + b < a) (h3 : 9223372036854775807 - (A : Int) < a) (C1 : Ans 12 #[.int .i64 D] (.tuple #[.int .u64 e, .int .i64 0])) (C2 : Ans 9 #[.int .u64 (4294967296 + (e : Int))] (.tuple #[.int .i64 (2097152 + (A : Int)), .int .i64 0])) :
    Ans 14 #[.int .i64 a, .int .i64 b] (.int .i64 9223372036854775807) := by
  intro w
  have M0 := Mem.start w
  have eA : (2097152 : Int) + (A : Int) - 2097152 = (A : Int) := by omega
  go_enter Try.func14, Try.ntmps14
  go_wp2_with fail
  (refine (C1 _).mono ?_; rintro e w2 ⟨rfl, hBl⟩; replace M0 := M0.call hBl; clear hBl C1)
  go_wp2_with fail
  (refine (C2 _).mono ?_; rintro e w2 ⟨rfl, hBl⟩; replace M0 := M0.call hBl; clear hBl C2)
  go_wp2_with fail
  go_ret
  exact ⟨rfl, M0.below⟩
set_option maxRecDepth 20000 in
set_option maxHeartbeats 3200000 in
theorem refSum_b_far (a b : Int) (ha : -9223372036854775808 ≤ a ∧ a ≤ 9223372036854775807) (hb : -9223372036854775808 ≤ b ∧ b ≤ 9223372036854775807) (hs : a < b) (h1 : a < 0) (h2 : 9223372036854775807 + a < b) : Ans 14 #[.int .i64 a, .int .i64 b] (.int .i64 b) := by
  intro w
  have M0 := Mem.start w
  go_enter Try.func14, Try.ntmps14
  go_wp2_with fail
  go_ret
  exact ⟨rfl, M0.below⟩
set_option maxRecDepth 20000 in
set_option maxHeartbeats 3200000 in
theorem refSum_b_pos0 (a b : Int) (ha : -9223372036854775808 ≤ a ∧ a ≤ 9223372036854775807) (hb : -9223372036854775808 ≤ b ∧ b ≤ 9223372036854775807) (hs : a < b) (D e A : Nat) (eD : b - a = (D : Int)) (he : e ≤ 4294967296) (hA : A ≤ 65536) (h1 : ¬ a < 0) (h3 : ¬ 9223372036854775807 - (A : Int) < b) (C1 : Ans 12 #[.int .i64 D] (.tuple #[.int .u64 e, .int .i64 0])) (C2 : Ans 9 #[.int .u64 (4294967296 + (e : Int))] (.tuple #[.int .i64 (2097152 + (A : Int)), .int .i64 0])) :
    Ans 14 #[.int .i64 a, .int .i64 b] (.int .i64 (b + (A : Int))) := by
  intro w
  have M0 := Mem.start w
  have eA : (2097152 : Int) + (A : Int) - 2097152 = (A : Int) := by omega
  go_enter Try.func14, Try.ntmps14
  go_wp2_with fail
  (refine (C1 _).mono ?_; rintro e w2 ⟨rfl, hBl⟩; replace M0 := M0.call hBl; clear hBl C1)
  go_wp2_with fail
  (refine (C2 _).mono ?_; rintro e w2 ⟨rfl, hBl⟩; replace M0 := M0.call hBl; clear hBl C2)
  go_wp2_with fail
  go_ret
  exact ⟨rfl, M0.below⟩
set_option maxRecDepth 20000 in
set_option maxHeartbeats 3200000 in
theorem refSum_b_pos1 (a b : Int) (ha : -9223372036854775808 ≤ a ∧ a ≤ 9223372036854775807) (hb : -9223372036854775808 ≤ b ∧ b ≤ 9223372036854775807) (hs : a < b) (D e A : Nat) (eD : b - a = (D : Int)) (he : e ≤ 4294967296) (hA : A ≤ 65536) (h1 : ¬ a < 0) (h3 : 9223372036854775807 - (A : Int) < b) (C1 : Ans 12 #[.int .i64 D] (.tuple #[.int .u64 e, .int .i64 0])) (C2 : Ans 9 #[.int .u64 (4294967296 + (e : Int))] (.tuple #[.int .i64 (2097152 + (A : Int)), .int .i64 0])) :
    Ans 14 #[.int .i64 a, .int .i64 b] (.int .i64 9223372036854775807) := by
  intro w
  have M0 := Mem.start w
  have eA : (2097152 : Int) + (A : Int) - 2097152 = (A : Int) := by omega
  go_enter Try.func14, Try.ntmps14
  go_wp2_with fail
  (refine (C1 _).mono ?_; rintro e w2 ⟨rfl, hBl⟩; replace M0 := M0.call hBl; clear hBl C1)
  go_wp2_with fail
  (refine (C2 _).mono ?_; rintro e w2 ⟨rfl, hBl⟩; replace M0 := M0.call hBl; clear hBl C2)
  go_wp2_with fail
  go_ret
  exact ⟨rfl, M0.below⟩
set_option maxRecDepth 20000 in
set_option maxHeartbeats 3200000 in
theorem refSum_b_neg0 (a b : Int) (ha : -9223372036854775808 ≤ a ∧ a ≤ 9223372036854775807) (hb : -9223372036854775808 ≤ b ∧ b ≤ 9223372036854775807) (hs : a < b) (D e A : Nat) (eD : b - a = (D : Int)) (he : e ≤ 4294967296) (hA : A ≤ 65536) (h1 : a < 0) (h2 : ¬ 9223372036854775807 + a < b) (h3 : ¬ 9223372036854775807 - (A : Int) < b) (C1 : Ans 12 #[.int .i64 D] (.tuple #[.int .u64 e, .int .i64 0])) (C2 : Ans 9 #[.int .u64 (4294967296 + (e : Int))] (.tuple #[.int .i64 (2097152 + (A : Int)), .int .i64 0])) :
    Ans 14 #[.int .i64 a, .int .i64 b] (.int .i64 (b + (A : Int))) := by
  intro w
  have M0 := Mem.start w
  have eA : (2097152 : Int) + (A : Int) - 2097152 = (A : Int) := by omega
  go_enter Try.func14, Try.ntmps14
  go_wp2_with fail
  (refine (C1 _).mono ?_; rintro e w2 ⟨rfl, hBl⟩; replace M0 := M0.call hBl; clear hBl C1)
  go_wp2_with fail
  (refine (C2 _).mono ?_; rintro e w2 ⟨rfl, hBl⟩; replace M0 := M0.call hBl; clear hBl C2)
  go_wp2_with fail
  go_ret
  exact ⟨rfl, M0.below⟩
set_option maxRecDepth 20000 in
set_option maxHeartbeats 3200000 in
theorem refSum_b_neg1 (a b : Int) (ha : -9223372036854775808 ≤ a ∧ a ≤ 9223372036854775807) (hb : -9223372036854775808 ≤ b ∧ b ≤ 9223372036854775807) (hs : a < b) (D e A : Nat) (eD : b - a = (D : Int)) (he : e ≤ 4294967296) (hA : A ≤ 65536) (h1 : a < 0) (h2 : ¬ 9223372036854775807 + a < b) (h3 : 9223372036854775807 - (A : Int) < b) (C1 : Ans 12 #[.int .i64 D] (.tuple #[.int .u64 e, .int .i64 0])) (C2 : Ans 9 #[.int .u64 (4294967296 + (e : Int))] (.tuple #[.int .i64 (2097152 + (A : Int)), .int .i64 0])) :
    Ans 14 #[.int .i64 a, .int .i64 b] (.int .i64 9223372036854775807) := by
  intro w
  have M0 := Mem.start w
  have eA : (2097152 : Int) + (A : Int) - 2097152 = (A : Int) := by omega
  go_enter Try.func14, Try.ntmps14
  go_wp2_with fail
  (refine (C1 _).mono ?_; rintro e w2 ⟨rfl, hBl⟩; replace M0 := M0.call hBl; clear hBl C1)
  go_wp2_with fail
  (refine (C2 _).mono ?_; rintro e w2 ⟨rfl, hBl⟩; replace M0 := M0.call hBl; clear hBl C2)
  go_wp2_with fail
  go_ret
  exact ⟨rfl, M0.below⟩
theorem refSum_any (a b : Int) (ha : -9223372036854775808 ≤ a ∧ a ≤ 9223372036854775807) (hb : -9223372036854775808 ≤ b ∧ b ≤ 9223372036854775807) : Ans 14 #[.int .i64 a, .int .i64 b] (.int .i64 (sumS a b)) := by
  have key : ∀ x y : Int, -9223372036854775808 ≤ y → y ≤ x → x ≤ 9223372036854775807 → ¬ 9223372036854775807 < x - y → ∃ (D e A : Nat), x - y = (D : Int) ∧ e ≤ 4294967296 ∧ A ≤ 65536 ∧ Ans 12 #[.int .i64 D] (.tuple #[.int .u64 e, .int .i64 0]) ∧ Ans 9 #[.int .u64 (4294967296 + (e : Int))] (.tuple #[.int .i64 (2097152 + (A : Int)), .int .i64 0]) ∧ sumG x y = if 9223372036854775807 - (A : Int) < x then 9223372036854775807 else x + (A : Int) := by
    intro x y h1 h2 h3 h4
    have c := above_le (x - y).toNat
    have f := expS_le (x - y).toNat
    have C := refLog_any (4294967296 + expS (x - y).toNat) (by omega) (by omega)
    rw [c.1] at C
    refine ⟨(x - y).toNat, expS (x - y).toNat, aboveS (x - y).toNat, by omega, f, c.2, refExp_any _ (by omega), C, ?_⟩
    unfold sumG
    rw [if_neg h4]
    generalize (aboveS (x - y).toNat : Int) = A
    split <;> split <;> omega
  by_cases hs : a < b
  · have e : sumS a b = sumG b a := by unfold sumS; rw [show max a b = b by omega, show min a b = a by omega]
    rw [e]
    by_cases hf : 9223372036854775807 < b - a
    · have e2 : sumG b a = b := by unfold sumG; rw [if_pos hf]
      rw [e2]
      exact refSum_b_far a b ha hb hs (by omega) (by omega)
    · obtain ⟨D, e, A, k1, k2, k3, k4, k5, k6⟩ := key b a (by omega) (by omega) (by omega) hf
      rw [k6]
      split
      · rename_i h3
        by_cases h1 : a < 0
        · exact refSum_b_neg1 a b ha hb hs D e A k1 k2 k3 h1 (by omega) h3 k4 k5
        · exact refSum_b_pos1 a b ha hb hs D e A k1 k2 k3 h1 h3 k4 k5
      · rename_i h3
        by_cases h1 : a < 0
        · exact refSum_b_neg0 a b ha hb hs D e A k1 k2 k3 h1 (by omega) h3 k4 k5
        · exact refSum_b_pos0 a b ha hb hs D e A k1 k2 k3 h1 h3 k4 k5
  · have e : sumS a b = sumG a b := by unfold sumS; rw [show max a b = a by omega, show min a b = b by omega]
    rw [e]
    by_cases hf : 9223372036854775807 < a - b
    · have e2 : sumG a b = a := by unfold sumG; rw [if_pos hf]
      rw [e2]
      exact refSum_a_far a b ha hb hs (by omega) (by omega)
    · obtain ⟨D, e, A, k1, k2, k3, k4, k5, k6⟩ := key a b (by omega) (by omega) (by omega) hf
      rw [k6]
      split
      · rename_i h3
        by_cases h1 : b < 0
        · exact refSum_a_neg1 a b ha hb hs D e A k1 k2 k3 h1 (by omega) h3 k4 k5
        · exact refSum_a_pos1 a b ha hb hs D e A k1 k2 k3 h1 h3 k4 k5
      · rename_i h3
        by_cases h1 : b < 0
        · exact refSum_a_neg0 a b ha hb hs D e A k1 k2 k3 h1 (by omega) h3 k4 k5
        · exact refSum_a_pos0 a b ha hb hs D e A k1 k2 k3 h1 h3 k4 k5
end Go.Proofs.Ytaofkoejlpchaaa
