/-
  The squares together: the reference's.
-/
import Derived.Test.YtbjhbbiahmhdeaaMomentP
import Derived.Test.YtbjhbbiahmhdeaaPackNum
import Derived.Deep.Cut
import Derived.Deep.CutRange
set_option linter.unusedVariables false
set_option linter.unusedSimpArgs false
namespace Go.Proofs.Ytbjhbbiahmhdeaa
open Go Go.RowKit Go.Th Go.Th.Grid Go.Th.Moment Go.Th.Wide

/-- Numbers not below 0. -/
theorem msigned_f (Q : Nat) : signed false Q = (Q : Int) := rfl
theorem madd_any (a b : Nat) (ha : a < 2 ^ 128) (hb : b < 2 ^ 128) : ∃ f : Bool, Ans 25 #[.agg (numC false a).toArray, .agg (numC false b).toArray] (.tuple #[.agg (numC false (a + b)).toArray, .bool f]) := by
  have C1 := refAdd_any false false a b ha hb
  have e1 : sumM false a false b = false := by unfold sumM; rw [msigned_f, msigned_f]; exact decide_eq_false (by omega)
  have e2 : sumN false a false b = a + b := by unfold sumN; rw [msigned_f, msigned_f]; omega
  rw [e1, e2] at C1
  exact ⟨_, C1⟩
theorem mmul_any (x y : Nat) (hx : x ≤ 9223372036854775807) (hy : y ≤ 9223372036854775807) : Ans 26 #[.int .i64 x, .int .i64 y] (.agg (numC false (x * y)).toArray) := by
  have C := refMul_any (x : Int) (y : Int) (by omega) (by omega)
  have e : (x : Int) * (y : Int) = ((x * y : Nat) : Int) := (Int.natCast_mul x y).symm
  rw [e, decide_eq_false (by omega), Int.natAbs_natCast] at C
  exact C

set_option maxRecDepth 20000 in
set_option maxHeartbeats 6400000 in
theorem refSquares_any (x y n : Nat) (X Y s : Int) (b o cap : Nat) (p : List Int) (G : GOk x y n p) (w : World) (hS : Sl w 1 (.slice (some ⟨b, o, none⟩) n cap) n (i64s p)) :
    Calls Try.prog 24 #[gv x y X Y s (.slice (some ⟨b, o, none⟩) n cap)] w fun e w' => e = .returned (.agg (numC false (sqs (en p n)).toNat).toArray) ∧ Below w.heap.size w w' := by
  obtain ⟨⟨q1, q2⟩, q3, q4⟩ := sdG_t G.sd
  have hle : x * y ≤ 64 * 64 := Nat.mul_le_mul (by omega) (by omega)
  have hn4 : n ≤ 4096 := by rw [G.side]; omega
  have HCELL := Lib.hid (fun (W : World) (h : Sl W 1 (.slice (some ⟨b, o, none⟩) n cap) n (i64s p)) k hk => rowcell h k (by rw [G.len]; exact hk : k < p.length))
  have HPR := Lib.hid (fun i hi => getD_mem (P := fun u => 0 ≤ u ∧ u ≤ 1073741824) G.rng (by rw [G.len]; exact hi : i < p.length))
  have HS := Lib.hid hS
  have hsum : ∀ k : Nat, k ≤ n → 0 ≤ sqs (en p k) ∧ sqs (en p k) ≤ 1152921504606846976 * (k : Int) := fun k => by
    induction k with
    | zero => intro _; exact ⟨Int.le_refl _, Int.le_refl _⟩
    | succ k ih =>
      intro hk
      obtain ⟨r1, r2⟩ := ih (by omega)
      have hu := getD_mem (P := fun u => 0 ≤ u ∧ u ≤ 1073741824) G.rng (by rw [G.len]; omega : k < p.length)
      have := prod_rng hu hu
      have e := sqs_snoc (en p k) (k, p.getD k 0)
      rw [← en_next] at e
      rw [e]
      dsimp only
      omega
  have HSUM := Lib.hid hsum
  clear hS G hle q1 q2 q3 q4 hsum
  have M0 := Mem.start w
  go_enter Try.func24, Try.ntmps24
  go_wp2_with ((with_reducible refine (?_ : Go.wpList _ _ _ (_ :: _) _ _)); (first | go_skip | (refine wpL_bx M0 rfl rfl rfl rfl ?_; clear M0; intro g1 w1 M1) | (refine wpL_alc M0 rfl rfl ?_; clear M0; intro g1 w1 M1) | (refine wpL_ldc M0 rfl rfl rfl ?_) | (refine wpL_lgc M0 rfl rfl rfl ?_) | (refine wpL_stc M0 rfl rfl rfl rfl ?_; clear M0; intro w' M0) | (refine wpL_sti M0 rfl rfl rfl rfl ?_; clear M0; intro w' M0) | (refine wpL_sth M0 rfl rfl rfl rfl (wr_minus _ _ _) ?_; clear M0; intro w' M0) | (refine wpL_bx M1 rfl rfl rfl rfl ?_; clear M1; intro g2 w2 M2) | (refine wpL_alc M1 rfl rfl ?_; clear M1; intro g2 w2 M2) | (refine wpL_ldc M1 rfl rfl rfl ?_) | (refine wpL_lgc M1 rfl rfl rfl ?_) | (refine wpL_stc M1 rfl rfl rfl rfl ?_; clear M1; intro w' M1) | (refine wpL_sti M1 rfl rfl rfl rfl ?_; clear M1; intro w' M1) | (refine wpL_sth M1 rfl rfl rfl rfl (wr_minus _ _ _) ?_; clear M1; intro w' M1) | (refine wpL_bx M2 rfl rfl rfl rfl ?_; clear M2; intro g3 w3 M3) | (refine wpL_alc M2 rfl rfl ?_; clear M2; intro g3 w3 M3) | (refine wpL_ldc M2 rfl rfl rfl ?_) | (refine wpL_lgc M2 rfl rfl rfl ?_) | (refine wpL_stc M2 rfl rfl rfl rfl ?_; clear M2; intro w' M2) | (refine wpL_sti M2 rfl rfl rfl rfl ?_; clear M2; intro w' M2) | (refine wpL_sth M2 rfl rfl rfl rfl (wr_minus _ _ _) ?_; clear M2; intro w' M2) | (refine wpL_ldc M3 rfl rfl rfl ?_) | (refine wpL_lgc M3 rfl rfl rfl ?_) | (refine wpL_stc M3 rfl rfl rfl rfl ?_; clear M3; intro w' M3) | (refine wpL_sti M3 rfl rfl rfl rfl ?_; clear M3; intro w' M3) | (refine wpL_sth M3 rfl rfl rfl rfl (wr_minus _ _ _) ?_; clear M3; intro w' M3)))
  go_loopw [4] (fun c wx => ∃ (k N : Nat), k ≤ n ∧ c = .int .i64 k ∧ Hid ((N : Int) = sqs (en p k)) ∧ Mem w wx [(g3, 47, numC false N), (g2, 47, numC false 0), (g1, 26, gc x y X Y s (.slice (some ⟨b, o, none⟩) n cap))]) (fun c _ => n - (intOf c).toNat)
  case atStart => exact ⟨0, 0, Nat.zero_le _, rfl, Lib.hid rfl, M3⟩
  case round =>
    clear M3
    obtain ⟨k, N, hk, rfl, HN, M⟩ := hrel
    by_cases hlt : k < n
    · have hu := HPR.out k hlt
      have HCU := Lib.hid (fun W hW => HCELL.out W hW k hlt)
      have hnx := sqs_snoc (en p k) (k, p.getD k 0)
      rw [← en_next] at hnx
      obtain ⟨r1, r2⟩ := HSUM.out k hk
      obtain ⟨u, huu⟩ : ∃ u, u = p.getD k 0 := ⟨_, rfl⟩
      rw [← huu] at HCU hu hnx
      obtain ⟨v, rfl⟩ := Int.eq_ofNat_of_zero_le hu.1
      have hv : v ≤ 1073741824 := by omega
      have hq : v * v ≤ 1073741824 * 1073741824 := Nat.mul_le_mul hv hv
      have hN := HN.out
      obtain ⟨f, C2⟩ := madd_any N (v * v) (by omega) (by omega)
      have C1 := Lib.hid (mmul_any v v (by omega) (by omega))
      have C2 := Lib.hid C2
      have HN2 : Hid (((N + v * v : Nat) : Int) = sqs (en p (k + 1))) := Lib.hid (by rw [hnx, Int.natCast_add, Int.natCast_mul, hN])
      obtain ⟨z, hz⟩ : ∃ z, z = v * v := ⟨_, rfl⟩
      rw [← hz] at C1 C2 HN2
      have c5 := M.cell (.tail _ _ _ _ _ (.tail _ _ _ _ _ (Has.head _ _ _ _))) (i := 5) rfl
      have hkn : (k : Int) < (n : Int) := by omega
      clear hnx huu hu hq hN hz r1 r2 HCELL HPR HN HSUM hv
      go_upto_region 5 with fail
      go_cut [5] from 7 to 30 (fun s5 wx => ∃ g5, s5 = .pointer (some ⟨g5, 0, none⟩) ∧ Mem w wx [(g5, 47, numC false (N + z)), (g3, 47, numC false N), (g2, 47, numC false 0), (g1, 26, gc x y X Y s (.slice (some ⟨b, o, none⟩) n cap))])
      case first =>
        have M5 := M.drew
        clear M c5
        obtain ⟨u, hu⟩ : ∃ u : Int, u = (v : Int) := ⟨_, rfl⟩
        rw [← hu] at C1 HCU
        clear hu
        try dsimp only [Act.put]
        refine wp_region_held_drew (S := (fun w' : World => Mem w w' [(g3, 47, numC false N), (g2, 47, numC false 0), (g1, 26, gc x y X Y s (.slice (some ⟨b, o, none⟩) n cap))] ∧ w'.cell? ⟨g1, 5, none⟩ = some (.slice (some ⟨b, o, none⟩) n cap) ∧ w'.cell? ⟨b, o + k, none⟩ = some (.int .i64 u))) (by kernel_rfl) (⟨M5.pick (by repeat (first | exact List.nil_sublist _ | apply List.Sublist.cons_cons | apply List.Sublist.cons)), M5.cell (by repeat (first | exact Has.head _ _ _ _ | apply Has.tail)) (i := 5) rfl, HCU.out _ (HS.out.below M5.below)⟩) (fun hHeld => ?_)
        refine wpAnyH_take (i := 0) rfl (by kernel_rfl) (by kernel_rfl) (by kernel_rfl) (fun _ _ _ h => h) (yi_ld (fun _ h => ⟨_, h.1⟩) (by rfl) rfl rfl (by repeat (first | exact Has.head _ _ _ _ | apply Has.tail)) (by first | exact rd_num _ _ | exact rd_bits _ | exact rd_part _ _ | exact rd_minus _ _ | assumption)) hHeld ?_
        try simp only [Act.put, List.setIfInBounds_toArray, List.set_cons_zero, List.set_cons_succ, List.getElem_toArray, List.getElem_cons_zero, List.getElem_cons_succ]
        refine wpAnyH_take (i := 1) (v := ?v3001) rfl (by kernel_rfl) (by kernel_rfl) (by kernel_rfl) (fun _ _ _ h => h) (Or.inl ⟨by rfl, ?hy3001⟩) hHeld ?rest3001
        case hy3001 => (intro w' hSw; (try dsimp only at hSw); go_simp; (try with_reducible rfl))
        try simp only [Act.put, List.setIfInBounds_toArray, List.set_cons_zero, List.set_cons_succ, List.getElem_toArray, List.getElem_cons_zero, List.getElem_cons_succ]
        refine wpAnyH_take (i := 2) (v := ?v3002) rfl (by kernel_rfl) (by kernel_rfl) (by kernel_rfl) (fun _ _ _ h => h) (Or.inl ⟨by rfl, ?hy3002⟩) hHeld ?rest3002
        case hy3002 => (intro w' hSw; (try dsimp only at hSw); go_simp; (try with_reducible rfl))
        try simp only [Act.put, List.setIfInBounds_toArray, List.set_cons_zero, List.set_cons_succ, List.getElem_toArray, List.getElem_cons_zero, List.getElem_cons_succ]
        refine wpAnyH_take (i := 3) (v := ?v3003) rfl (by kernel_rfl) (by kernel_rfl) (by kernel_rfl) (fun _ _ _ h => h) (Or.inl ⟨by rfl, ?hy3003⟩) hHeld ?rest3003
        case hy3003 => (intro w' hSw; (try dsimp only at hSw); go_simp; (try with_reducible rfl))
        try simp only [Act.put, List.setIfInBounds_toArray, List.set_cons_zero, List.set_cons_succ, List.getElem_toArray, List.getElem_cons_zero, List.getElem_cons_succ]
        refine wpAnyH_take (i := 4) (v := ?v3004) rfl (by kernel_rfl) (by kernel_rfl) (by kernel_rfl) (fun _ _ _ h => h) (Or.inl ⟨by rfl, ?hy3004⟩) hHeld ?rest3004
        case hy3004 => (intro w' hSw; (try dsimp only at hSw); go_simp; (try with_reducible rfl))
        try simp only [Act.put, List.setIfInBounds_toArray, List.set_cons_zero, List.set_cons_succ, List.getElem_toArray, List.getElem_cons_zero, List.getElem_cons_succ]
        refine wpAnyH_take (i := 5) (v := ?v3005) rfl (by kernel_rfl) (by kernel_rfl) (by kernel_rfl) (fun _ _ _ h => h) (Or.inl ⟨by rfl, ?hy3005⟩) hHeld ?rest3005
        case hy3005 => (intro w' hSw; (try dsimp only at hSw); go_simp; (try with_reducible rfl))
        try simp only [Act.put, List.setIfInBounds_toArray, List.set_cons_zero, List.set_cons_succ, List.getElem_toArray, List.getElem_cons_zero, List.getElem_cons_succ]
        refine wpAnyH_take (i := 6) (v := ?v3006) rfl (by kernel_rfl) (by kernel_rfl) (by kernel_rfl) (fun _ _ _ h => h) (Or.inl ⟨by rfl, ?hy3006⟩) hHeld ?rest3006
        case hy3006 => (intro w' hSw; (try dsimp only at hSw); go_simp; (try with_reducible rfl))
        try simp only [Act.put, List.setIfInBounds_toArray, List.set_cons_zero, List.set_cons_succ, List.getElem_toArray, List.getElem_cons_zero, List.getElem_cons_succ]
        refine wpAnyH_take (i := 7) (v := ?v3007) rfl (by kernel_rfl) (by kernel_rfl) (by kernel_rfl) (fun _ _ _ h => h) (Or.inl ⟨by rfl, ?hy3007⟩) hHeld ?rest3007
        case hy3007 => (intro w' hSw; (try dsimp only at hSw); go_simp; (try with_reducible rfl))
        try simp only [Act.put, List.setIfInBounds_toArray, List.set_cons_zero, List.set_cons_succ, List.getElem_toArray, List.getElem_cons_zero, List.getElem_cons_succ]
        refine wpAnyH_take (i := 8) (v := ?v3008) rfl (by kernel_rfl) (by kernel_rfl) (by kernel_rfl) (fun _ _ _ h => h) (Or.inl ⟨by rfl, ?hy3008⟩) hHeld ?rest3008
        case hy3008 => (intro w' hSw; (try dsimp only at hSw); go_simp; (try with_reducible rfl))
        try simp only [Act.put, List.setIfInBounds_toArray, List.set_cons_zero, List.set_cons_succ, List.getElem_toArray, List.getElem_cons_zero, List.getElem_cons_succ]
        refine wpAnyH_take (i := 9) (v := ?v3009) rfl (by kernel_rfl) (by kernel_rfl) (by kernel_rfl) (fun _ _ _ h => h) (Or.inl ⟨by rfl, ?hy3009⟩) hHeld ?rest3009
        case hy3009 => (intro w' hSw; (try dsimp only at hSw); go_simp; (try with_reducible rfl))
        try simp only [Act.put, List.setIfInBounds_toArray, List.set_cons_zero, List.set_cons_succ, List.getElem_toArray, List.getElem_cons_zero, List.getElem_cons_succ]
        refine wpAnyH_take (i := 10) (v := ?v3010) rfl (by kernel_rfl) (by kernel_rfl) (by kernel_rfl) (fun _ _ _ h => h) (Or.inl ⟨by rfl, ?hy3010⟩) hHeld ?rest3010
        case hy3010 => (intro w' hSw; (try dsimp only at hSw); go_simp; (try with_reducible rfl))
        try simp only [Act.put, List.setIfInBounds_toArray, List.set_cons_zero, List.set_cons_succ, List.getElem_toArray, List.getElem_cons_zero, List.getElem_cons_succ]
        refine wpAnyH_ready (rs := [11, 16]) (by kernel_rfl) (by simp) ?_
        refine AllReadyH.cons rfl (fun K hK => ?_) (AllReadyH.cons rfl (fun K hK => ?_) AllReadyH.nil)
        · go_simp
          refine (C1.out _).mono ?_
          rintro e w2 ⟨rfl, hBl⟩
          replace M5 := M5.call hBl
          clear hBl
          try go_wp2_with fail
          refine hK.out _ _ (⟨M5.pick (by repeat (first | exact List.nil_sublist _ | apply List.Sublist.cons_cons | apply List.Sublist.cons)), M5.cell (by repeat (first | exact Has.head _ _ _ _ | apply Has.tail)) (i := 5) rfl, HCU.out _ (HS.out.below M5.below)⟩) (fun hHeld => ?_)
          clear hK K
          try simp only [Act.put, List.setIfInBounds_toArray, List.set_cons_zero, List.set_cons_succ, List.getElem_toArray, List.getElem_cons_zero, List.getElem_cons_succ]
          refine wpAnyH_ready (rs := [12, 16]) (by kernel_rfl) (by simp) ?_
          refine AllReadyH.cons rfl (fun K hK => ?_) (AllReadyH.cons rfl (fun K hK => ?_) AllReadyH.nil)
          · go_simp
            refine (C2.out _).mono ?_
            rintro e w2 ⟨rfl, hBl⟩
            replace M5 := M5.call hBl
            clear hBl
            try go_wp2_with fail
            refine hK.out _ _ (⟨M5.pick (by repeat (first | exact List.nil_sublist _ | apply List.Sublist.cons_cons | apply List.Sublist.cons)), M5.cell (by repeat (first | exact Has.head _ _ _ _ | apply Has.tail)) (i := 5) rfl, HCU.out _ (HS.out.below M5.below)⟩) (fun hHeld => ?_)
            clear hK K
            try simp only [Act.put, List.setIfInBounds_toArray, List.set_cons_zero, List.set_cons_succ, List.getElem_toArray, List.getElem_cons_zero, List.getElem_cons_succ]
            refine wpAnyH_take (i := 13) (v := ?v3011) rfl (by kernel_rfl) (by kernel_rfl) (by kernel_rfl) (fun _ _ _ h => h) (Or.inl ⟨by rfl, ?hy3011⟩) hHeld ?rest3011
            case hy3011 => (intro w' hSw; (try dsimp only at hSw); go_simp; (try with_reducible rfl))
            try simp only [Act.put, List.setIfInBounds_toArray, List.set_cons_zero, List.set_cons_succ, List.getElem_toArray, List.getElem_cons_zero, List.getElem_cons_succ]
            refine wpAnyH_take (i := 14) (v := ?v3012) rfl (by kernel_rfl) (by kernel_rfl) (by kernel_rfl) (fun _ _ _ h => h) (Or.inl ⟨by rfl, ?hy3012⟩) hHeld ?rest3012
            case hy3012 => (intro w' hSw; (try dsimp only at hSw); go_simp; (try with_reducible rfl))
            try simp only [Act.put, List.setIfInBounds_toArray, List.set_cons_zero, List.set_cons_succ, List.getElem_toArray, List.getElem_cons_zero, List.getElem_cons_succ]
            refine wpAnyH_take (i := 15) (v := ?v3013) rfl (by kernel_rfl) (by kernel_rfl) (by kernel_rfl) (fun _ _ _ h => h) (Or.inl ⟨by rfl, ?hy3013⟩) hHeld ?rest3013
            case hy3013 => (intro w' hSw; (try dsimp only at hSw); go_simp; (try with_reducible rfl))
            try simp only [Act.put, List.setIfInBounds_toArray, List.set_cons_zero, List.set_cons_succ, List.getElem_toArray, List.getElem_cons_zero, List.getElem_cons_succ]
            refine wpAnyH_ready (rs := [16]) (by kernel_rfl) (by simp) ?_
            refine AllReadyH.cons rfl (fun K hK => ?_) AllReadyH.nil
            rw [if_pos (by rfl)]
            refine wp_al M5 rfl zero29 rfl ?_
            clear M5
            intro g5 wa16 M5
            refine hK.out _ _ (⟨M5.pick (by repeat (first | exact List.nil_sublist _ | apply List.Sublist.cons_cons | apply List.Sublist.cons)), M5.cell (by repeat (first | exact Has.head _ _ _ _ | apply Has.tail)) (i := 5) rfl, HCU.out _ (HS.out.below M5.below)⟩) (fun hHeld => ?_)
            clear hK K
            try simp only [Act.put, List.setIfInBounds_toArray, List.set_cons_zero, List.set_cons_succ, List.getElem_toArray, List.getElem_cons_zero, List.getElem_cons_succ]
            refine wpAnyH_ready (rs := [17]) (by kernel_rfl) (by simp) ?_
            refine AllReadyH.cons rfl (fun K hK => ?_) AllReadyH.nil
            rw [if_pos (by rfl)]
            refine wp_st M5 rfl rfl rfl (by repeat (first | exact Has.head _ _ _ _ | apply Has.tail)) (by first | exact wr_num _ (numC_len _ _) _ _ | exact wr_bits _ (bitsC_len _) _ | exact wr_part _ _ _ | exact wr_minus _ _ _ | assumption) (by repeat (first | exact Upd.head _ _ _ _ _ | apply Upd.tail)) ?_
            clear M5
            intro w2 M5
            refine hK.out _ _ (⟨M5.pick (by repeat (first | exact List.nil_sublist _ | apply List.Sublist.cons_cons | apply List.Sublist.cons)), M5.cell (by repeat (first | exact Has.head _ _ _ _ | apply Has.tail)) (i := 5) rfl, HCU.out _ (HS.out.below M5.below)⟩) (fun hHeld => ?_)
            clear hK K
            try simp only [Act.put, List.setIfInBounds_toArray, List.set_cons_zero, List.set_cons_succ, List.getElem_toArray, List.getElem_cons_zero, List.getElem_cons_succ]
            refine wpAnyH_take (i := 18) (v := ?v3014) rfl (by kernel_rfl) (by kernel_rfl) (by kernel_rfl) (fun _ _ _ h => h) (Or.inl ⟨by rfl, ?hy3014⟩) hHeld ?rest3014
            case hy3014 => (intro w' hSw; (try dsimp only at hSw); go_simp; (try with_reducible rfl))
            try simp only [Act.put, List.setIfInBounds_toArray, List.set_cons_zero, List.set_cons_succ, List.getElem_toArray, List.getElem_cons_zero, List.getElem_cons_succ]
            refine wpAnyH_done (by kernel_rfl) ?_ _
            go_wp2_with fail
            go_meet
            exact ⟨g5, rfl, M5⟩
          · rw [if_pos (by rfl)]
            refine wp_al M5 rfl zero29 rfl ?_
            clear M5
            intro g5 wa16 M5
            refine hK.out _ _ (⟨M5.pick (by repeat (first | exact List.nil_sublist _ | apply List.Sublist.cons_cons | apply List.Sublist.cons)), M5.cell (by repeat (first | exact Has.head _ _ _ _ | apply Has.tail)) (i := 5) rfl, HCU.out _ (HS.out.below M5.below)⟩) (fun hHeld => ?_)
            clear hK K
            try simp only [Act.put, List.setIfInBounds_toArray, List.set_cons_zero, List.set_cons_succ, List.getElem_toArray, List.getElem_cons_zero, List.getElem_cons_succ]
            refine wpAnyH_ready (rs := [12]) (by kernel_rfl) (by simp) ?_
            refine AllReadyH.cons rfl (fun K hK => ?_) AllReadyH.nil
            go_simp
            refine (C2.out _).mono ?_
            rintro e w2 ⟨rfl, hBl⟩
            replace M5 := M5.call hBl
            clear hBl
            try go_wp2_with fail
            refine hK.out _ _ (⟨M5.pick (by repeat (first | exact List.nil_sublist _ | apply List.Sublist.cons_cons | apply List.Sublist.cons)), M5.cell (by repeat (first | exact Has.head _ _ _ _ | apply Has.tail)) (i := 5) rfl, HCU.out _ (HS.out.below M5.below)⟩) (fun hHeld => ?_)
            clear hK K
            try simp only [Act.put, List.setIfInBounds_toArray, List.set_cons_zero, List.set_cons_succ, List.getElem_toArray, List.getElem_cons_zero, List.getElem_cons_succ]
            refine wpAnyH_take (i := 13) (v := ?v3015) rfl (by kernel_rfl) (by kernel_rfl) (by kernel_rfl) (fun _ _ _ h => h) (Or.inl ⟨by rfl, ?hy3015⟩) hHeld ?rest3015
            case hy3015 => (intro w' hSw; (try dsimp only at hSw); go_simp; (try with_reducible rfl))
            try simp only [Act.put, List.setIfInBounds_toArray, List.set_cons_zero, List.set_cons_succ, List.getElem_toArray, List.getElem_cons_zero, List.getElem_cons_succ]
            refine wpAnyH_take (i := 14) (v := ?v3016) rfl (by kernel_rfl) (by kernel_rfl) (by kernel_rfl) (fun _ _ _ h => h) (Or.inl ⟨by rfl, ?hy3016⟩) hHeld ?rest3016
            case hy3016 => (intro w' hSw; (try dsimp only at hSw); go_simp; (try with_reducible rfl))
            try simp only [Act.put, List.setIfInBounds_toArray, List.set_cons_zero, List.set_cons_succ, List.getElem_toArray, List.getElem_cons_zero, List.getElem_cons_succ]
            refine wpAnyH_take (i := 15) (v := ?v3017) rfl (by kernel_rfl) (by kernel_rfl) (by kernel_rfl) (fun _ _ _ h => h) (Or.inl ⟨by rfl, ?hy3017⟩) hHeld ?rest3017
            case hy3017 => (intro w' hSw; (try dsimp only at hSw); go_simp; (try with_reducible rfl))
            try simp only [Act.put, List.setIfInBounds_toArray, List.set_cons_zero, List.set_cons_succ, List.getElem_toArray, List.getElem_cons_zero, List.getElem_cons_succ]
            refine wpAnyH_ready (rs := [17]) (by kernel_rfl) (by simp) ?_
            refine AllReadyH.cons rfl (fun K hK => ?_) AllReadyH.nil
            rw [if_pos (by rfl)]
            refine wp_st M5 rfl rfl rfl (by repeat (first | exact Has.head _ _ _ _ | apply Has.tail)) (by first | exact wr_num _ (numC_len _ _) _ _ | exact wr_bits _ (bitsC_len _) _ | exact wr_part _ _ _ | exact wr_minus _ _ _ | assumption) (by repeat (first | exact Upd.head _ _ _ _ _ | apply Upd.tail)) ?_
            clear M5
            intro w2 M5
            refine hK.out _ _ (⟨M5.pick (by repeat (first | exact List.nil_sublist _ | apply List.Sublist.cons_cons | apply List.Sublist.cons)), M5.cell (by repeat (first | exact Has.head _ _ _ _ | apply Has.tail)) (i := 5) rfl, HCU.out _ (HS.out.below M5.below)⟩) (fun hHeld => ?_)
            clear hK K
            try simp only [Act.put, List.setIfInBounds_toArray, List.set_cons_zero, List.set_cons_succ, List.getElem_toArray, List.getElem_cons_zero, List.getElem_cons_succ]
            refine wpAnyH_take (i := 18) (v := ?v3018) rfl (by kernel_rfl) (by kernel_rfl) (by kernel_rfl) (fun _ _ _ h => h) (Or.inl ⟨by rfl, ?hy3018⟩) hHeld ?rest3018
            case hy3018 => (intro w' hSw; (try dsimp only at hSw); go_simp; (try with_reducible rfl))
            try simp only [Act.put, List.setIfInBounds_toArray, List.set_cons_zero, List.set_cons_succ, List.getElem_toArray, List.getElem_cons_zero, List.getElem_cons_succ]
            refine wpAnyH_done (by kernel_rfl) ?_ _
            go_wp2_with fail
            go_meet
            exact ⟨g5, rfl, M5⟩
        · rw [if_pos (by rfl)]
          refine wp_al M5 rfl zero29 rfl ?_
          clear M5
          intro g5 wa16 M5
          refine hK.out _ _ (⟨M5.pick (by repeat (first | exact List.nil_sublist _ | apply List.Sublist.cons_cons | apply List.Sublist.cons)), M5.cell (by repeat (first | exact Has.head _ _ _ _ | apply Has.tail)) (i := 5) rfl, HCU.out _ (HS.out.below M5.below)⟩) (fun hHeld => ?_)
          clear hK K
          try simp only [Act.put, List.setIfInBounds_toArray, List.set_cons_zero, List.set_cons_succ, List.getElem_toArray, List.getElem_cons_zero, List.getElem_cons_succ]
          refine wpAnyH_ready (rs := [11]) (by kernel_rfl) (by simp) ?_
          refine AllReadyH.cons rfl (fun K hK => ?_) AllReadyH.nil
          go_simp
          refine (C1.out _).mono ?_
          rintro e w2 ⟨rfl, hBl⟩
          replace M5 := M5.call hBl
          clear hBl
          try go_wp2_with fail
          refine hK.out _ _ (⟨M5.pick (by repeat (first | exact List.nil_sublist _ | apply List.Sublist.cons_cons | apply List.Sublist.cons)), M5.cell (by repeat (first | exact Has.head _ _ _ _ | apply Has.tail)) (i := 5) rfl, HCU.out _ (HS.out.below M5.below)⟩) (fun hHeld => ?_)
          clear hK K
          try simp only [Act.put, List.setIfInBounds_toArray, List.set_cons_zero, List.set_cons_succ, List.getElem_toArray, List.getElem_cons_zero, List.getElem_cons_succ]
          refine wpAnyH_ready (rs := [12]) (by kernel_rfl) (by simp) ?_
          refine AllReadyH.cons rfl (fun K hK => ?_) AllReadyH.nil
          go_simp
          refine (C2.out _).mono ?_
          rintro e w2 ⟨rfl, hBl⟩
          replace M5 := M5.call hBl
          clear hBl
          try go_wp2_with fail
          refine hK.out _ _ (⟨M5.pick (by repeat (first | exact List.nil_sublist _ | apply List.Sublist.cons_cons | apply List.Sublist.cons)), M5.cell (by repeat (first | exact Has.head _ _ _ _ | apply Has.tail)) (i := 5) rfl, HCU.out _ (HS.out.below M5.below)⟩) (fun hHeld => ?_)
          clear hK K
          try simp only [Act.put, List.setIfInBounds_toArray, List.set_cons_zero, List.set_cons_succ, List.getElem_toArray, List.getElem_cons_zero, List.getElem_cons_succ]
          refine wpAnyH_take (i := 13) (v := ?v3019) rfl (by kernel_rfl) (by kernel_rfl) (by kernel_rfl) (fun _ _ _ h => h) (Or.inl ⟨by rfl, ?hy3019⟩) hHeld ?rest3019
          case hy3019 => (intro w' hSw; (try dsimp only at hSw); go_simp; (try with_reducible rfl))
          try simp only [Act.put, List.setIfInBounds_toArray, List.set_cons_zero, List.set_cons_succ, List.getElem_toArray, List.getElem_cons_zero, List.getElem_cons_succ]
          refine wpAnyH_take (i := 14) (v := ?v3020) rfl (by kernel_rfl) (by kernel_rfl) (by kernel_rfl) (fun _ _ _ h => h) (Or.inl ⟨by rfl, ?hy3020⟩) hHeld ?rest3020
          case hy3020 => (intro w' hSw; (try dsimp only at hSw); go_simp; (try with_reducible rfl))
          try simp only [Act.put, List.setIfInBounds_toArray, List.set_cons_zero, List.set_cons_succ, List.getElem_toArray, List.getElem_cons_zero, List.getElem_cons_succ]
          refine wpAnyH_take (i := 15) (v := ?v3021) rfl (by kernel_rfl) (by kernel_rfl) (by kernel_rfl) (fun _ _ _ h => h) (Or.inl ⟨by rfl, ?hy3021⟩) hHeld ?rest3021
          case hy3021 => (intro w' hSw; (try dsimp only at hSw); go_simp; (try with_reducible rfl))
          try simp only [Act.put, List.setIfInBounds_toArray, List.set_cons_zero, List.set_cons_succ, List.getElem_toArray, List.getElem_cons_zero, List.getElem_cons_succ]
          refine wpAnyH_ready (rs := [17]) (by kernel_rfl) (by simp) ?_
          refine AllReadyH.cons rfl (fun K hK => ?_) AllReadyH.nil
          rw [if_pos (by rfl)]
          refine wp_st M5 rfl rfl rfl (by repeat (first | exact Has.head _ _ _ _ | apply Has.tail)) (by first | exact wr_num _ (numC_len _ _) _ _ | exact wr_bits _ (bitsC_len _) _ | exact wr_part _ _ _ | exact wr_minus _ _ _ | assumption) (by repeat (first | exact Upd.head _ _ _ _ _ | apply Upd.tail)) ?_
          clear M5
          intro w2 M5
          refine hK.out _ _ (⟨M5.pick (by repeat (first | exact List.nil_sublist _ | apply List.Sublist.cons_cons | apply List.Sublist.cons)), M5.cell (by repeat (first | exact Has.head _ _ _ _ | apply Has.tail)) (i := 5) rfl, HCU.out _ (HS.out.below M5.below)⟩) (fun hHeld => ?_)
          clear hK K
          try simp only [Act.put, List.setIfInBounds_toArray, List.set_cons_zero, List.set_cons_succ, List.getElem_toArray, List.getElem_cons_zero, List.getElem_cons_succ]
          refine wpAnyH_take (i := 18) (v := ?v3022) rfl (by kernel_rfl) (by kernel_rfl) (by kernel_rfl) (fun _ _ _ h => h) (Or.inl ⟨by rfl, ?hy3022⟩) hHeld ?rest3022
          case hy3022 => (intro w' hSw; (try dsimp only at hSw); go_simp; (try with_reducible rfl))
          try simp only [Act.put, List.setIfInBounds_toArray, List.set_cons_zero, List.set_cons_succ, List.getElem_toArray, List.getElem_cons_zero, List.getElem_cons_succ]
          refine wpAnyH_done (by kernel_rfl) ?_ _
          go_wp2_with fail
          go_meet
          exact ⟨g5, rfl, M5⟩
      clear M C1 C2 HCU c5
      obtain ⟨g5, rfl, M5⟩ := hcut
      go_wp2_with ((with_reducible refine (?_ : Go.wpList _ _ _ (_ :: _) _ _)); (first | go_skip | (refine wpL_ldc M5 rfl rfl rfl ?_) | (refine wpL_lgc M5 rfl rfl rfl ?_) | (refine wpL_stc M5 rfl rfl rfl rfl ?_; clear M5; intro w' M5) | (refine wpL_sti M5 rfl rfl rfl rfl ?_; clear M5; intro w' M5) | (refine wpL_sth M5 rfl rfl rfl rfl (wr_minus _ _ _) ?_; clear M5; intro w' M5)))
      go_roundw
      case rel => exact ⟨k + 1, N + z, by omega, by go_num, HN2, M5.drop⟩
      case measure => simp [intOf]; omega
    · obtain rfl : k = n := by omega
      have hN := HN.out
      have HE : Hid ((sqs (en p k)).toNat = N) := Lib.hid (by rw [← hN]; exact Int.toNat_natCast N)
      have c5 := M.cell (.tail _ _ _ _ _ (.tail _ _ _ _ _ (Has.head _ _ _ _))) (i := 5) rfl
      have M3 := M
      clear M hN
      go_wp2_with ((with_reducible refine (?_ : Go.wpList _ _ _ (_ :: _) _ _)); (first | go_skip | (refine wpL_ldc M3 rfl rfl rfl ?_) | (refine wpL_lgc M3 rfl rfl rfl ?_) | (refine wpL_stc M3 rfl rfl rfl rfl ?_; clear M3; intro w' M3) | (refine wpL_sti M3 rfl rfl rfl rfl ?_; clear M3; intro w' M3) | (refine wpL_sth M3 rfl rfl rfl rfl (wr_minus _ _ _) ?_; clear M3; intro w' M3)))
      ((try simp only [Exit.inBlock, Exit.then]); refine bodyPost_ret (res_cell rfl M3 rfl (.tail _ _ _ _ _ (Has.head _ _ _ _)) (rd_num _ _)) rfl ?_)
      exact ⟨by rw [HE.out], M3.below⟩
end Go.Proofs.Ytbjhbbiahmhdeaa
