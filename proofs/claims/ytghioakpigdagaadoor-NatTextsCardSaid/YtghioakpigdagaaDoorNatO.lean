/-
  Parts in a row of the call's own: the lowest nine digits taken away: the code's.
-/
import Derived.Test.YtghioakpigdagaaDoorNatN
set_option linter.unusedVariables false
set_option linter.unusedSimpArgs false
namespace Go.Proofs.YtghioakpigdagaaDoor
open Go Go.RowKit Go.Shelf Go.Th Go.Th.Dig
attribute [local go_sem] Oper.semAt_some

theorem ret_u64 {a b : Nat} (h : a = b) : Ending.returned (.int .u64 (a : Int)) = .returned (.int .u64 (b : Int)) := by rw [h]

set_option maxRecDepth 100000 in
set_option maxHeartbeats 8000000 in
theorem nines_go (g o n cap : Nat) (L : List Nat) (cs : List Value) (w : World) (hK : Blk w g 38 (over cs o (u32s L))) (ho : o + n ≤ cs.length) (hL : L.length = n) (hd : ∀ d ∈ L, d < 4294967296) (hn : n ≤ 100000) (hcap : n ≤ cap) (hcm : cap ≤ maxLen) :
    Calls Tryd.prog 48 #[.slice (some ⟨g, o, none⟩) n cap] w fun e w' => ∃ O, e = .returned (.int .u64 ((val 4294967296 L % 1000000000 : Nat) : Int)) ∧ Blk w' g 38 (over cs o (u32s O)) ∧ O.length = n ∧ (∀ d ∈ O, d < 4294967296) ∧
      val 4294967296 O = val 4294967296 L / 1000000000 ∧ Turned (fun k => k = g) w w' := by
  have hEN := enters_of Tryd.func53 (by kernel_rfl) rfl
  have HD := Lib.hid (getD_mem (by decide : 0 < 4294967296) hd)
  have HDG := Lib.hid hd
  have HL := Lib.hid hL
  have hglt := hK.lt
  clear hd
  refine (callsIn_wide (n := 10)).1 ?_
  refine callsIn_of_wp_marks Tryd.func48 rfl trivial ?_ rfl
  simp only [Tryd.ntmps48, List.size_toArray, List.length_cons, List.length_nil, Nat.reduceAdd, Nat.reduceSub, Array.replicate_succ, Array.replicate_zero, List.push_toArray, List.append_toArray, List.nil_append, List.cons_append]
  refine wpIn_wide.2 ?_
  have M0 := Mem.start w
  go_wp2_with ((with_reducible refine (?_ : Go.wpList _ _ _ (_ :: _) _ _)); (first | go_skip | (refine wpL_bx M0 rfl rfl rfl rfl ?_; clear M0; intro g1 w1 M1) | (refine wpL_alc M0 rfl rfl ?_; clear M0; intro g1 w1 M1) | (refine wpL_ldc M0 rfl rfl rfl ?_) | (refine wpL_lgc M0 rfl rfl rfl ?_) | (refine wpL_stc M0 rfl rfl rfl rfl ?_; clear M0; intro w' M0) | (refine wpL_sti M0 rfl rfl rfl rfl ?_; clear M0; intro w' M0) | (refine wpL_sth M0 rfl rfl rfl rfl (wr_minus _ _ _) ?_; clear M0; intro w' M0) | (refine wpL_bx M1 rfl rfl rfl rfl ?_; clear M1; intro g2 w2 M2) | (refine wpL_alc M1 rfl rfl ?_; clear M1; intro g2 w2 M2) | (refine wpL_ldc M1 rfl rfl rfl ?_) | (refine wpL_lgc M1 rfl rfl rfl ?_) | (refine wpL_stc M1 rfl rfl rfl rfl ?_; clear M1; intro w' M1) | (refine wpL_sti M1 rfl rfl rfl rfl ?_; clear M1; intro w' M1) | (refine wpL_sth M1 rfl rfl rfl rfl (wr_minus _ _ _) ?_; clear M1; intro w' M1) | (refine wpL_ldc M2 rfl rfl rfl ?_) | (refine wpL_lgc M2 rfl rfl rfl ?_) | (refine wpL_stc M2 rfl rfl rfl rfl ?_; clear M2; intro w' M2) | (refine wpL_sti M2 rfl rfl rfl rfl ?_; clear M2; intro w' M2) | (refine wpL_sth M2 rfl rfl rfl rfl (wr_minus _ _ _) ?_; clear M2; intro w' M2)))
  refine (backward_any (some ⟨g, o, none⟩) n cap _).mono ?_
  rintro e W0 ⟨rfl, hW0⟩
  have hK3 := hK.below M2.below hglt
  have M3 := M2.alloc 22 [.slice (some ⟨g, o, none⟩) n cap]
  rw [show w'.alloc (.cells [Value.slice (some ⟨g, o, none⟩) n cap].toArray 22) = W0 from hW0.symm] at M3
  have hK0 := hK.below M3.below hglt
  have N0 := (Mew.of_mem (S := fun k => k = g) M3).add hK0 (.inl rfl) (fun e he h => by have := M3.old e he; omega)
  obtain ⟨gP, hgP⟩ : ∃ gP, gP = w'.heap.size := ⟨_, rfl⟩
  rw [← hgP] at M3 N0 ⊢
  have lP := N0.lt (.tail _ _ _ _ _ (Has.head _ _ _ _))
  have lg := N0.lt (Has.head _ _ _ _)
  have hzW := N0.turned.size
  have hcP := N0.cell (.tail _ _ _ _ _ (Has.head _ _ _ _)) (i := 0) rfl
  have hS0 := win_sl hK0 (by omega) hL hcap hcm
  have HSQ := Lib.hid (backward_at gP (some ⟨g, o, none⟩) n cap L hn W0 hcP hS0)
  have HI0 : Hid (Nin 4294967296 1000000000 L (n - 0) 0 L) := Lib.hid (by rw [Nat.sub_zero, ← hL]; exact Nin.start (by decide) HDG.out)
  have N0 : Mew (fun k => k = g) w W0 [(g, 38, over cs o (u32s L)), (gP, 22, [.slice (some ⟨g, o, none⟩) n cap]), (g2, 37, [.int .u64 ((0 : Nat) : Int)]), (g1, 22, [.slice (some ⟨g, o, none⟩) n cap])] := N0
  have HN0 := Lib.hid N0
  clear hW0 hgP M2 M3 hK hK3 hK0 hcP hS0 N0
  go_wp2_with fail
  refine with_tmps (fun A hA => ?_)
  refine (wpIn_wide (n := 10)).1 ?_
  refine wpIn_rangeFunc_at rfl (by omega) (gf := 53) (lb := #[.pointer (some ⟨gP, 0, none⟩)]) (by rw [hA]; rfl) trivial hEN HSQ.out (backC_lt lP (fun q hq _ => by cases hq; exact lg)) (backs_two L)
    (fun k W => ∃ r O, Nin 4294967296 1000000000 L (n - k) r O ∧ Mew (fun k => k = g) w W [(g, 38, over cs o (u32s O)), (gP, 22, [.slice (some ⟨g, o, none⟩) n cap]), (g2, 37, [.int .u64 (r : Int)]), (g1, 22, [.slice (some ⟨g, o, none⟩) n cap])])
    (fun _ _ => False) (fun _ _ _ => False) ?own (fun _ _ _ _ h _ _ => h) (fun _ _ _ _ _ h _ _ => h) ⟨0, L, HI0.out, HN0.out⟩
    (fun k a' _ => a' = { tmps := (((A.setIfInBounds 8 (.int .i64 ((L.length - 1 - k : Nat) : Int))).setIfInBounds 9 (.int .u32 ((L.getD (L.length - 1 - k) 0 : Nat) : Int))).setIfInBounds 4 (.int .i64 ((L.length - 1 - k : Nat) : Int))).setIfInBounds 5 (.int .u32 ((L.getD (L.length - 1 - k) 0 : Nat) : Int)), defers := [] })
    (fun _ _ _ _ _ h _ _ => h) ?assign ?body ?done ?ret ?stop
  case own =>
    rintro k X Y row ⟨r, O, h1, h2⟩ hg hr
    exact ⟨r, O, h1, h2.grown hg (fun r e => ⟨Nat.le_trans hzW (hr r e).1, (hr r e).2⟩)⟩
  case assign =>
    rintro l k x W K hx HI hK
    have HI0 := HI
    rw [backs_at L k (by have := (List.getElem?_eq_some_iff.1 hx).1; rwa [backs_length] at this)] at hx
    cases hx
    subst hA
    obtain ⟨i, hi⟩ : ∃ i, i = L.length - 1 - k := ⟨_, rfl⟩
    obtain ⟨u, eu⟩ : ∃ u, u = L.getD i 0 := ⟨_, rfl⟩
    rw [← hi, ← eu] at hK ⊢
    clear hi eu HI
    gi_wp2
    exact hK _ _ (KeepsFrom.refl _ _) (CellsKept.refl _ _) HI0 rfl
  case body =>
    rintro l k a' W hl hr hk ⟨r, O, HS, M⟩ rfl
    subst hA
    rw [backs_length, hL] at hk
    rw [hL]
    obtain ⟨i, hi⟩ : ∃ i, n - 1 - k = i := ⟨_, rfl⟩
    rw [hi]
    rw [show n - k = i + 1 by omega] at HS
    have hin : i < n := by omega
    have hol : O.length = n := by rw [HS.len, hL]
    obtain ⟨hst, hlt⟩ := HS.step (by decide) (by omega)
    have hr1 := HS.lt
    have hu := HD.out i
    obtain ⟨u, eu⟩ : ∃ u, u = L.getD i 0 := ⟨_, rfl⟩
    rw [← eu] at hst hlt hu
    rw [← eu]
    obtain ⟨v, ev⟩ : ∃ v, v = r * 4294967296 := ⟨_, rfl⟩
    have e0 : IntKind.u64.wrap (u : Int) = (u : Int) := u64_in _ (by omega)
    have e1 : IntKind.u64.wrap ((r : Int) * 4294967296) = (v : Int) := by
      rw [show ((r : Int) * 4294967296) = ((r * 4294967296 : Nat) : Int) by simp, ← ev]; exact u64_in _ (by omega)
    obtain ⟨T, eT⟩ : ∃ T, T = r * 4294967296 + u := ⟨_, rfl⟩
    have e2 : bits .or .u64 (v : Int) (u : Int) = (T : Int) := by
      have h : u ||| r * 4294967296 = u + r * 4294967296 := or_low (s := 32) (r := u) hu r
      rw [bits_or_u64_nat v u (by omega) (by omega), Nat.or_comm, ev, eT, h]
      omega
    rw [← eT] at hst hlt
    obtain ⟨Y, eY⟩ : ∃ Y, Y = T / 1000000000 := ⟨_, rfl⟩
    obtain ⟨R, eR⟩ : ∃ R, R = T % 1000000000 := ⟨_, rfl⟩
    have e3 : (T : Int) / 1000000000 = (Y : Int) := by rw [eY]; rfl
    have e5 : (T : Int) % 1000000000 = (R : Int) := by rw [eR]; rfl
    rw [← eY] at hst hlt
    rw [← eR] at hst
    have e4 : IntKind.u32.wrap (Y : Int) = (Y : Int) := by rw [IntKind.wrap_u32']; omega
    have e6 : IntKind.u64.wrap (Y : Int) = (Y : Int) := u64_in _ (by omega)
    have e7 : IntKind.u64.wrap (R : Int) = (R : Int) := u64_in _ (by omega)
    have HM := Lib.hid M
    have HST := Lib.hid hst
    have HS7 := Lib.hid (win_set (o := o) (R := O) (cs := cs) (by omega) (by omega : i < O.length) Y)
    have c1 := M.cell (.tail _ _ _ _ _ (.tail _ _ _ _ _ (Has.head _ _ _ _))) (i := 0) rfl
    have f1 := M.free (.tail _ _ _ _ _ (.tail _ _ _ _ _ (Has.head _ _ _ _))) 0
    have M1 := M.set 0 (.int .u64 (T : Int)) (.tail _ _ _ _ _ _ _ (.tail _ _ _ _ _ _ _ (Upd.head _ _ _ _ _))) (by simp)
    have HM1 := Lib.hid M1
    clear M M1 hst HS eu ev eT eY eR hr1 hlt
    have HK1 := Lib.hid ((KeepsOthers.setCell W ⟨g2, 0, none⟩ (.int .u64 (T : Int))).from W0.heap.size)
    gi_upto_region 6 with (fail)
    obtain ⟨V1, hV⟩ : ∃ V1, W.setCell ⟨g2, 0, none⟩ (.int .u64 (T : Int)) = V1 := ⟨_, rfl⟩
    have HM1 : Hid (Mew (fun k => k = g) w V1 [(g, 38, over cs o (u32s O)), (gP, 22, [.slice (some ⟨g, o, none⟩) n cap]), (g2, 37, [.int .u64 (T : Int)]), (g1, 22, [.slice (some ⟨g, o, none⟩) n cap])]) := by rw [← hV]; exact HM1
    rw [hV] at HK1 ⊢
    clear hV c1 f1
    have c0 := HM1.out.cell (Has.head _ _ _ _) (win_at (by omega) (by omega : i < O.length))
    have f0 := HM1.out.free (Has.head _ _ _ _) (o + i)
    have c1 := HM1.out.cell (.tail _ _ _ _ _ (.tail _ _ _ _ _ (Has.head _ _ _ _))) (i := 0) rfl
    have c2 := HM1.out.cell (.tail _ _ _ _ _ (.tail _ _ _ _ _ (.tail _ _ _ _ _ (Has.head _ _ _ _)))) (i := 0) rfl
    have M2 := HM1.out.set (o + i) (.int .u32 (Y : Int)) (Upd.head _ _ _ _ _) (by rw [win_len (by omega)]; omega)
    rw [HS7.out] at M2
    have HM2 := Lib.hid M2
    have HK2 := Lib.hid (HK1.out.trans ((KeepsOthers.setCell V1 ⟨g, o + i, none⟩ (.int .u32 (Y : Int))).from W0.heap.size))
    clear M2 HK1 HM1
    gi_upto_region 7 with (fail)
    obtain ⟨V2, hV⟩ : ∃ V2, V1.setCell ⟨g, o + i, none⟩ (.int .u32 (Y : Int)) = V2 := ⟨_, rfl⟩
    have HM2 : Hid (Mew (fun k => k = g) w V2 [(g, 38, over cs o (u32s (O.set i Y))), (gP, 22, [.slice (some ⟨g, o, none⟩) n cap]), (g2, 37, [.int .u64 (T : Int)]), (g1, 22, [.slice (some ⟨g, o, none⟩) n cap])]) := by rw [← hV]; exact HM2
    rw [hV] at HK2 ⊢
    clear hV c0 f0 c1 c2
    have c1 := HM2.out.cell (.tail _ _ _ _ _ (.tail _ _ _ _ _ (Has.head _ _ _ _))) (i := 0) rfl
    have f1 := HM2.out.free (.tail _ _ _ _ _ (.tail _ _ _ _ _ (Has.head _ _ _ _))) 0
    have HM3 := Lib.hid (HM2.out.set 0 (.int .u64 (R : Int)) (.tail _ _ _ _ _ _ _ (.tail _ _ _ _ _ _ _ (Upd.head _ _ _ _ _))) (by simp))
    gi_wp2
    refine ⟨HK2.out.trans ((KeepsOthers.setCell _ _ _).from _), ?_, R, O.set i Y, ?_, HM3.out⟩
    · rintro p (rfl | ⟨b', o', j, e, hj, rfl⟩)
      · exact cell_same HM.out HM3.out (.tail _ _ _ _ _ (Has.head _ _ _ _)) (.tail _ _ _ _ _ (Has.head _ _ _ _)) (i := 0) rfl rfl
      · cases e
        refine cell_same HM.out HM3.out (Has.head _ _ _ _) (Has.head _ _ _ _) (win_at (by omega) (by omega : j < O.length)) ?_
        rw [win_at (by rw [List.length_set]; omega) (by rw [List.length_set]; omega : j < (O.set i Y).length), getD_set _ _ _ _ (by omega), if_neg (by omega)]
    · rw [show n - (k + 1) = i by omega]
      exact HST.out
  case done =>
    rintro D W hD ⟨r, O, HS, M⟩ hK
    rw [backs_length, hL, Nat.sub_self] at HS
    have HS := Lib.hid HS
    have c1 := M.cell (.tail _ _ _ _ _ (.tail _ _ _ _ _ (Has.head _ _ _ _))) (i := 0) rfl
    have HM := Lib.hid M
    clear M
    subst hA
    go_wp2_with fail
    refine ⟨by simp, .inl ⟨_, _, rfl, run_takeDeferred hK, ?_⟩⟩
    have hg := grownBy_putObj' W D (.deferred none)
    have hM2 := HM.out.grown hg (fun r e => by cases e; exact ⟨by omega, _, hK, rfl⟩)
    exact ⟨_, results_tmp rfl _ _ _, O, (by rw [← HS.out.total.2]; rfl), hM2.has (Has.head _ _ _ _), by rw [HS.out.len, hL], HS.out.dig, HS.out.total.1, hM2.turned⟩
  case ret => exact fun _ _ _ _ _ h _ => h.elim
  case stop => exact fun _ _ _ _ _ _ h _ => h.elim
end Go.Proofs.YtghioakpigdagaaDoor
