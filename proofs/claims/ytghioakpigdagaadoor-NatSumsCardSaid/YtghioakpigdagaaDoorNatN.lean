/-
  Parts in a row of the call's own: moved down: the code's.
-/
import Derived.Sort.CutIn
import Derived.Test.YtghioakpigdagaaDoorNatH
import Derived.Test.YtghioakpigdagaaDoorNatM
import Derived.Test.YtghioakpigdagaaDoorMew
import Derived.Test.YtghioakpigdagaaDoorPackBits
set_option linter.unusedVariables false
set_option linter.unusedSimpArgs false
namespace Go.Proofs.YtghioakpigdagaaDoor
open Go Go.RowKit Go.Shelf Go.Th Go.Th.Dig
attribute [local go_sem] Oper.semAt_some

theorem two_div {s : Nat} (hs : s < 32) : 4294967296 = 2 ^ s * 2 ^ (32 - s) := by
  rw [← Nat.pow_add, show s + (32 - s) = 32 by omega]
theorem snk_small {x u : Nat} (hx : x < 4294967296) (hu : u < 4294967296) : x * 4294967296 + u < 18446744073709551616 := by omega

set_option maxRecDepth 100000 in
set_option maxHeartbeats 8000000 in
theorem sink_go (g o n cap s : Nat) (L : List Nat) (cs : List Value) (w : World) (hK : Blk w g 38 (over cs o (u32s L))) (ho : o + n ≤ cs.length) (hL : L.length = n) (hd : ∀ d ∈ L, d < 4294967296) (hn : n ≤ 100000) (hcap : n ≤ cap) (hcm : cap ≤ maxLen) (hs : s < 32) :
    Calls Tryd.prog 47 #[.slice (some ⟨g, o, none⟩) n cap, .int .i64 s] w fun e w' => ∃ O, e = .returned (.tuple #[]) ∧ Blk w' g 38 (over cs o (u32s O)) ∧ O.length = n ∧ (∀ d ∈ O, d < 4294967296) ∧
      val 4294967296 O = val 4294967296 L / 2 ^ s ∧ Turned (fun k => k = g) w w' := by
  have hEN := enters_of Tryd.func53 (by kernel_rfl) rfl
  have HD := Lib.hid (getD_mem (by decide : 0 < 4294967296) hd)
  have HDG := Lib.hid hd
  have HL := Lib.hid hL
  have hglt := hK.lt
  clear hd
  refine (callsIn_wide (n := 10)).1 ?_
  refine callsIn_of_wp_marks Tryd.func47 rfl trivial ?_ rfl
  simp only [Tryd.ntmps47, List.size_toArray, List.length_cons, List.length_nil, Nat.reduceAdd, Nat.reduceSub, Array.replicate_succ, Array.replicate_zero, List.push_toArray, List.append_toArray, List.nil_append, List.cons_append]
  refine wpIn_wide.2 ?_
  have M0 := Mem.start w
  go_wp2_with ((with_reducible refine (?_ : Go.wpList _ _ _ (_ :: _) _ _)); (first | go_skip | (refine wpL_bx M0 rfl rfl rfl rfl ?_; clear M0; intro g1 w1 M1) | (refine wpL_alc M0 rfl rfl ?_; clear M0; intro g1 w1 M1) | (refine wpL_ldc M0 rfl rfl rfl ?_) | (refine wpL_lgc M0 rfl rfl rfl ?_) | (refine wpL_stc M0 rfl rfl rfl rfl ?_; clear M0; intro w' M0) | (refine wpL_sti M0 rfl rfl rfl rfl ?_; clear M0; intro w' M0) | (refine wpL_sth M0 rfl rfl rfl rfl (wr_minus _ _ _) ?_; clear M0; intro w' M0) | (refine wpL_bx M1 rfl rfl rfl rfl ?_; clear M1; intro g2 w2 M2) | (refine wpL_alc M1 rfl rfl ?_; clear M1; intro g2 w2 M2) | (refine wpL_ldc M1 rfl rfl rfl ?_) | (refine wpL_lgc M1 rfl rfl rfl ?_) | (refine wpL_stc M1 rfl rfl rfl rfl ?_; clear M1; intro w' M1) | (refine wpL_sti M1 rfl rfl rfl rfl ?_; clear M1; intro w' M1) | (refine wpL_sth M1 rfl rfl rfl rfl (wr_minus _ _ _) ?_; clear M1; intro w' M1) | (refine wpL_bx M2 rfl rfl rfl rfl ?_; clear M2; intro g3 w3 M3) | (refine wpL_alc M2 rfl rfl ?_; clear M2; intro g3 w3 M3) | (refine wpL_ldc M2 rfl rfl rfl ?_) | (refine wpL_lgc M2 rfl rfl rfl ?_) | (refine wpL_stc M2 rfl rfl rfl rfl ?_; clear M2; intro w' M2) | (refine wpL_sti M2 rfl rfl rfl rfl ?_; clear M2; intro w' M2) | (refine wpL_sth M2 rfl rfl rfl rfl (wr_minus _ _ _) ?_; clear M2; intro w' M2) | (refine wpL_ldc M3 rfl rfl rfl ?_) | (refine wpL_lgc M3 rfl rfl rfl ?_) | (refine wpL_stc M3 rfl rfl rfl rfl ?_; clear M3; intro w' M3) | (refine wpL_sti M3 rfl rfl rfl rfl ?_; clear M3; intro w' M3) | (refine wpL_sth M3 rfl rfl rfl rfl (wr_minus _ _ _) ?_; clear M3; intro w' M3)))
  refine (backward_any (some ⟨g, o, none⟩) n cap _).mono ?_
  rintro e W0 ⟨rfl, hW0⟩
  have hK3 := hK.below M3.below hglt
  have M4 := M3.alloc 22 [.slice (some ⟨g, o, none⟩) n cap]
  rw [show w'.alloc (.cells [Value.slice (some ⟨g, o, none⟩) n cap].toArray 22) = W0 from hW0.symm] at M4
  have hK0 := hK.below M4.below hglt
  have N0 := (Mew.of_mem (S := fun k => k = g) M4).add hK0 (.inl rfl) (fun e he h => by have := M4.old e he; omega)
  obtain ⟨gP, hgP⟩ : ∃ gP, gP = w'.heap.size := ⟨_, rfl⟩
  rw [← hgP] at M4 N0 ⊢
  have lP := N0.lt (.tail _ _ _ _ _ (Has.head _ _ _ _))
  have lg := N0.lt (Has.head _ _ _ _)
  have hzW := N0.turned.size
  have hcP := N0.cell (.tail _ _ _ _ _ (Has.head _ _ _ _)) (i := 0) rfl
  have hS0 := win_sl hK0 (by omega) hL hcap hcm
  have HSQ := Lib.hid (backward_at gP (some ⟨g, o, none⟩) n cap L hn W0 hcP hS0)
  have HI0 : Hid (Snk 4294967296 (2 ^ s) L (n - 0) L) := Lib.hid (by rw [Nat.sub_zero, ← hL]; exact Snk.start HDG.out)
  have hLn : (L.getD (n - 0) 0) = 0 := by rw [List.getD_eq_getElem?_getD, List.getElem?_eq_none (by omega)]; rfl
  have N0 : Mew (fun k => k = g) w W0 [(g, 38, over cs o (u32s L)), (gP, 22, [.slice (some ⟨g, o, none⟩) n cap]), (g3, 37, [.int .u64 ((L.getD (n - 0) 0 : Nat) : Int)]), (g2, 3, [.int .i64 s]), (g1, 22, [.slice (some ⟨g, o, none⟩) n cap])] := by rw [hLn]; exact N0
  have HN0 := Lib.hid N0
  clear hW0 hgP M3 M4 hK hK3 hK0 hcP hS0 hLn N0
  go_wp2_with fail
  refine with_tmps (fun A hA => ?_)
  refine (wpIn_wide (n := 10)).1 ?_
  refine wpIn_rangeFunc_at rfl (by omega) (gf := 53) (lb := #[.pointer (some ⟨gP, 0, none⟩)]) (by rw [hA]; rfl) trivial hEN HSQ.out (backC_lt lP (fun q hq _ => by cases hq; exact lg)) (backs_two L)
    (fun k W => ∃ O, Snk 4294967296 (2 ^ s) L (n - k) O ∧ Mew (fun k => k = g) w W [(g, 38, over cs o (u32s O)), (gP, 22, [.slice (some ⟨g, o, none⟩) n cap]), (g3, 37, [.int .u64 ((L.getD (n - k) 0 : Nat) : Int)]), (g2, 3, [.int .i64 s]), (g1, 22, [.slice (some ⟨g, o, none⟩) n cap])])
    (fun _ _ => False) (fun _ _ _ => False) ?own (fun _ _ _ _ h _ _ => h) (fun _ _ _ _ _ h _ _ => h) ⟨L, HI0.out, HN0.out⟩
    (fun k a' _ => a' = { tmps := (((A.setIfInBounds 9 (.int .i64 ((L.length - 1 - k : Nat) : Int))).setIfInBounds 10 (.int .u32 ((L.getD (L.length - 1 - k) 0 : Nat) : Int))).setIfInBounds 5 (.int .i64 ((L.length - 1 - k : Nat) : Int))).setIfInBounds 6 (.int .u32 ((L.getD (L.length - 1 - k) 0 : Nat) : Int)), defers := [] })
    (fun _ _ _ _ _ h _ _ => h) ?assign ?body ?done ?ret ?stop
  case own =>
    rintro k X Y row ⟨O, h1, h2⟩ hg hr
    exact ⟨O, h1, h2.grown hg (fun r e => ⟨Nat.le_trans hzW (hr r e).1, (hr r e).2⟩)⟩
  case assign =>
    rintro l k x W K hx HI hK
    have HI0 := HI
    rw [backs_at L k (by have := (List.getElem?_eq_some_iff.1 hx).1; rwa [backs_length] at this)] at hx
    cases hx
    subst hA
    obtain ⟨i, hi⟩ : ∃ i, i = L.length - 1 - k := ⟨_, rfl⟩
    obtain ⟨u, eu⟩ : ∃ u, u = L.getD i 0 := ⟨_, rfl⟩
    rw [← hi, ← eu] at hK ⊢
    clear hi eu HI
    gi_wp2
    exact hK _ _ (KeepsFrom.refl _ _) (CellsKept.refl _ _) HI0 rfl
  case body =>
    rintro l k a' W hl hr hk ⟨O, HS, M⟩ rfl
    subst hA
    rw [backs_length, hL] at hk
    rw [hL]
    obtain ⟨i, hi⟩ : ∃ i, n - 1 - k = i := ⟨_, rfl⟩
    rw [hi]
    rw [show n - k = i + 1 by omega] at HS M
    have hin : i < n := by omega
    have hol : O.length = n := by rw [HS.len, hL]
    have hst := HS.step (M := 2 ^ s) (Nat.two_pow_pos s) (two_div hs) (by decide) (by omega)
    have hu := HD.out i
    have hx := HD.out (i + 1)
    obtain ⟨u, eu⟩ : ∃ u, u = L.getD i 0 := ⟨_, rfl⟩
    obtain ⟨x, ex⟩ : ∃ x, x = L.getD (i + 1) 0 := ⟨_, rfl⟩
    rw [← ex] at M
    rw [← eu, ← ex] at hst
    rw [← eu] at hu
    rw [← ex] at hx
    rw [← eu]
    have hq := snk_small hx hu
    obtain ⟨v, ev⟩ : ∃ v, v = x * 4294967296 := ⟨_, rfl⟩
    have e0 : IntKind.u64.wrap (u : Int) = (u : Int) := u64_in _ (by omega)
    have e1 : IntKind.u64.wrap ((x : Int) * 4294967296) = (v : Int) := by
      rw [show ((x : Int) * 4294967296) = ((x * 4294967296 : Nat) : Int) by simp, ← ev]; exact u64_in _ (by omega)
    obtain ⟨T, eT⟩ : ∃ T, T = x * 4294967296 + u := ⟨_, rfl⟩
    have e2 : bits .or .u64 (v : Int) (u : Int) = (T : Int) := by
      have h := or_low (s := 32) (r := u) hu x
      rw [bits_or_u64_nat v u (by omega) (by omega), Nat.or_comm, ev, eT]
      have h : u ||| x * 4294967296 = u + x * 4294967296 := h
      rw [h]; omega
    rw [← eT] at hst
    obtain ⟨Y, eY⟩ : ∃ Y, Y = T / 2 ^ s := ⟨_, rfl⟩
    have e3 : (T : Int) / 2 ^ s = (Y : Int) := by rw [eY]; simp
    rw [← eY] at hst
    obtain ⟨Z, eZ⟩ : ∃ Z, Z = Y % 4294967296 := ⟨_, rfl⟩
    have e4 : IntKind.u32.wrap (Y : Int) = (Z : Int) := by rw [IntKind.wrap_u32', eZ]; rfl
    rw [← eZ] at hst
    have c1 := M.cell (.tail _ _ _ _ _ (.tail _ _ _ _ _ (.tail _ _ _ _ _ (.tail _ _ _ _ _ (Has.head _ _ _ _))))) (i := 0) rfl
    have c2 := M.cell (.tail _ _ _ _ _ (.tail _ _ _ _ _ (.tail _ _ _ _ _ (Has.head _ _ _ _)))) (i := 0) rfl
    have c3 := M.cell (.tail _ _ _ _ _ (.tail _ _ _ _ _ (Has.head _ _ _ _))) (i := 0) rfl
    have f3 := M.free (.tail _ _ _ _ _ (.tail _ _ _ _ _ (Has.head _ _ _ _))) 0
    have c0 := M.cell (Has.head _ _ _ _) (win_at (by omega) (by omega : i < O.length))
    have f0 := M.free (Has.head _ _ _ _) (o + i)
    have HS7 := Lib.hid (win_set (o := o) (R := O) (cs := cs) (by omega) (by omega : i < O.length) Z)
    have M1 := M.set (o + i) (.int .u32 (Z : Int)) (Upd.head _ _ _ _ _) (by rw [win_len (by omega)]; omega)
    rw [HS7.out] at M1
    have HM1 := Lib.hid M1.drew
    have HM := Lib.hid M
    have HST := Lib.hid hst
    have HEU := Lib.hid eu
    clear M M1 hst HS HS7 eu ex ev eT eY eZ hq hx
    gi_wp2
    refine wpIn_region_round (by simp) (fun _ _ h => h) (S := (fun w' : World => w'.cell? ⟨g1, 0, none⟩ = some (.slice (some ⟨g, o, none⟩) n cap) ∧ w'.cell? ⟨g2, 0, none⟩ = some (.int .i64 s) ∧ w'.cell? ⟨g3, 0, none⟩ = some (.int .u64 x))) (by kernel_rfl) (⟨c1, c2, c3⟩) (fun hHeld => ?_)
    refine tkT 0 ?v1 ?hy1 hHeld ?rest1
    case hy1 => (intro w' hSw; (try dsimp only at hSw); go_simp; (try with_reducible rfl))
    try simp only [Act.put, puts]
    refine tkT 1 ?v2 ?hy2 hHeld ?rest2
    case hy2 => (intro w' hSw; (try dsimp only at hSw); go_simp; (try with_reducible rfl))
    try simp only [Act.put, puts]
    refine tkT 2 ?v3 ?hy3 hHeld ?rest3
    case hy3 => (intro w' hSw; (try dsimp only at hSw); go_simp; (try with_reducible rfl))
    try simp only [Act.put, puts]
    refine tkT 3 ?v4 ?hy4 hHeld ?rest4
    case hy4 => (intro w' hSw; (try dsimp only at hSw); go_simp; (try with_reducible rfl))
    try simp only [Act.put, puts]
    refine tkT 4 ?v5 ?hy5 hHeld ?rest5
    case hy5 => (intro w' hSw; (try dsimp only at hSw); go_simp; (try with_reducible rfl))
    try simp only [Act.put, puts]
    refine tkT 5 ?v6 ?hy6 hHeld ?rest6
    case hy6 => (intro w' hSw; (try dsimp only at hSw); go_simp; (try with_reducible rfl))
    try simp only [Act.put, puts]
    refine tkT 6 ?v7 ?hy7 hHeld ?rest7
    case hy7 => (intro w' hSw; (try dsimp only at hSw); go_simp; (try with_reducible rfl))
    try simp only [Act.put, puts]
    refine tkT 7 ?v8 ?hy8 hHeld ?rest8
    case hy8 => (intro w' hSw; (try dsimp only at hSw); go_simp; (try with_reducible rfl))
    try simp only [Act.put, puts]
    refine tkT 8 ?v9 ?hy9 hHeld ?rest9
    case hy9 => (intro w' hSw; (try dsimp only at hSw); go_simp; (try with_reducible rfl))
    try simp only [Act.put, puts]
    refine tkT 9 ?v10 ?hy10 hHeld ?rest10
    case hy10 => (intro w' hSw; (try dsimp only at hSw); go_simp; (try with_reducible rfl))
    try simp only [Act.put, puts]
    refine tkT 10 ?v11 ?hy11 hHeld ?rest11
    case hy11 => (intro w' hSw; (try dsimp only at hSw); go_simp; (try with_reducible rfl))
    try simp only [Act.put, puts]
    refine wpAnyH_ready (rs := [11]) (by kernel_rfl) (by simp) ?_
    refine AllReadyH.cons rfl (fun K hK => ?_) AllReadyH.nil
    go_simp
    try go_wp2_with fail
    refine hK.out _ _ (⟨HM1.out.cell (.tail _ _ _ _ _ (.tail _ _ _ _ _ (.tail _ _ _ _ _ (.tail _ _ _ _ _ (Has.head _ _ _ _))))) (i := 0) rfl, HM1.out.cell (.tail _ _ _ _ _ (.tail _ _ _ _ _ (.tail _ _ _ _ _ (Has.head _ _ _ _)))) (i := 0) rfl, HM1.out.cell (.tail _ _ _ _ _ (.tail _ _ _ _ _ (Has.head _ _ _ _))) (i := 0) rfl⟩) (fun hHeld => ?_)
    clear hK K
    try simp only [Act.put, puts]
    refine wpAnyH_done (by kernel_rfl) ?_ _
    obtain ⟨W1, hW1⟩ : ∃ W1, (W.setCell ⟨g, o + i, none⟩ (.int .u32 (Z : Int))).drew = W1 := ⟨_, rfl⟩
    have HM1 : Hid (Mew (fun k => k = g) w W1 [(g, 38, over cs o (u32s (O.set i Z))), (gP, 22, [.slice (some ⟨g, o, none⟩) n cap]), (g3, 37, [.int .u64 (x : Int)]), (g2, 3, [.int .i64 s]), (g1, 22, [.slice (some ⟨g, o, none⟩) n cap])]) := by rw [← hW1]; exact HM1
    have HKF := Lib.hid (((KeepsOthers.setCell W ⟨g, o + i, none⟩ (.int .u32 (Z : Int))).trans (KeepsOthers.drew _)).from W0.heap.size)
    rw [hW1] at HKF ⊢
    clear hW1 c0 c1 c2 c3 f0 f3
    have c3 := HM1.out.cell (.tail _ _ _ _ _ (.tail _ _ _ _ _ (Has.head _ _ _ _))) (i := 0) rfl
    have f3 := HM1.out.free (.tail _ _ _ _ _ (.tail _ _ _ _ _ (Has.head _ _ _ _))) 0
    have HM2 := Lib.hid (HM1.out.set 0 (.int .u64 (u : Int)) (.tail _ _ _ _ _ _ _ (.tail _ _ _ _ _ _ _ (Upd.head _ _ _ _ _))) (by simp))
    gi_wp2
    refine ⟨HKF.out.trans ((KeepsOthers.setCell _ _ _).from _), ?_, O.set i Z, ?_, by rw [show n - (k + 1) = i by omega, ← HEU.out]; exact HM2.out⟩
    · rintro p (rfl | ⟨b', o', j, e, hj, rfl⟩)
      · exact cell_same HM.out HM2.out (.tail _ _ _ _ _ (Has.head _ _ _ _)) (.tail _ _ _ _ _ (Has.head _ _ _ _)) (i := 0) rfl rfl
      · cases e
        refine cell_same HM.out HM2.out (Has.head _ _ _ _) (Has.head _ _ _ _) (win_at (by omega) (by omega : j < O.length)) ?_
        rw [win_at (by rw [List.length_set]; omega) (by rw [List.length_set]; omega : j < (O.set i Z).length), getD_set _ _ _ _ (by omega), if_neg (by omega)]
    · rw [show n - (k + 1) = i by omega]
      exact HST.out
  case done =>
    rintro D W hD ⟨O, HS, M⟩ hK
    rw [backs_length, hL, Nat.sub_self] at HS
    have HS := Lib.hid HS
    subst hA
    gi_wp2
    refine ⟨by simp, .inl ⟨_, _, rfl, run_takeDeferred hK, ?_⟩⟩
    have hg := grownBy_putObj' W D (.deferred none)
    have hM2 := M.grown hg (fun r e => by cases e; exact ⟨by omega, _, hK, rfl⟩)
    exact ⟨_, results_none rfl _ _ _, O, rfl, hM2.has (Has.head _ _ _ _), by rw [HS.out.len, hL], HS.out.dig, HS.out.total, hM2.turned⟩
  case ret => exact fun _ _ _ _ _ h _ => h.elim
  case stop => exact fun _ _ _ _ _ _ h _ => h.elim
end Go.Proofs.YtghioakpigdagaaDoor
