/-
  Which of two numbers is less: the code's.
-/
import Derived.Test.YtghioakpigdagaaDoorNatO
set_option linter.unusedVariables false
set_option linter.unusedSimpArgs false
namespace Go.Proofs.YtghioakpigdagaaDoor
open Go Go.RowKit Go.Shelf Go.Th Go.Th.Dig
attribute [local go_sem] Oper.semAt_some

/-- Less, the same, greater. -/
def cmpN (p q : Nat) : Int := if p < q then -1 else if q < p then 1 else 0
set_option maxRecDepth 20000 in
theorem cmpInt_any (x y : Nat) (hx : x ≤ 1000000) (hy : y ≤ 1000000) (w : World) :
    Calls Tryd.prog 39 #[.int .i64 x, .int .i64 y] w fun e w' => e = .returned (.int .i64 (cmpN x y)) ∧ w = w' := by
  have hd : ((x : Int) != (x : Int)) = false := by simp
  have he : ((y : Int) != (y : Int)) = false := by simp
  rcases Nat.lt_trichotomy x y with h | h | h
  · have e : cmpN x y = -1 := by unfold cmpN; rw [if_pos h]
    rw [e]
    clear e
    go_enter Tryd.func39, Tryd.ntmps39
    go_wp2
    go_ret
    exact ⟨rfl, rfl⟩
  · subst h
    have e : cmpN x x = 0 := by unfold cmpN; rw [if_neg (by omega), if_neg (by omega)]
    rw [e]
    clear e
    go_enter Tryd.func39, Tryd.ntmps39
    go_wp2
    go_ret
    exact ⟨rfl, rfl⟩
  · have e : cmpN x y = 1 := by unfold cmpN; rw [if_neg (by omega), if_pos h]
    have h2 : ¬ x < y := by omega
    rw [e]
    clear e
    go_enter Tryd.func39, Tryd.ntmps39
    go_wp2
    go_ret
    exact ⟨rfl, rfl⟩
set_option maxRecDepth 20000 in
theorem cmpU32_any (x y : Nat) (hx : x < 4294967296) (hy : y < 4294967296) (w : World) :
    Calls Tryd.prog 41 #[.int .u32 x, .int .u32 y] w fun e w' => e = .returned (.int .i64 (cmpN x y)) ∧ w = w' := by
  have hd : ((x : Int) != (x : Int)) = false := by simp
  have he : ((y : Int) != (y : Int)) = false := by simp
  clear hx hy
  rcases Nat.lt_trichotomy x y with h | h | h
  · have e : cmpN x y = -1 := by unfold cmpN; rw [if_pos h]
    rw [e]
    clear e
    go_enter Tryd.func41, Tryd.ntmps41
    go_wp2
    go_ret
    exact ⟨rfl, rfl⟩
  · subst h
    have e : cmpN x x = 0 := by unfold cmpN; rw [if_neg (by omega), if_neg (by omega)]
    rw [e]
    clear e
    go_enter Tryd.func41, Tryd.ntmps41
    go_wp2
    go_ret
    exact ⟨rfl, rfl⟩
  · have e : cmpN x y = 1 := by unfold cmpN; rw [if_neg (by omega), if_pos h]
    have h2 : ¬ x < y := by omega
    rw [e]
    clear e
    go_enter Tryd.func41, Tryd.ntmps41
    go_wp2
    go_ret
    exact ⟨rfl, rfl⟩

theorem cmpN_len {p q : Nat} (h : len32 p ≠ len32 q) : cmpN (len32 p) (len32 q) = cmpN p q := by
  unfold cmpN
  by_cases h1 : len32 p < len32 q
  · rw [if_pos h1, if_pos (dg_len_lt (by decide) h1)]
  · have h2 := dg_len_lt (B := 4294967296) (by decide) (show len32 q < len32 p by omega)
    rw [if_neg h1, if_pos (by omega), if_neg (by omega), if_pos h2]
theorem cmpN_dig {p q i : Nat} (hl : len32 p = len32 q) (hi : i < len32 p) (hd : (dg 4294967296 p).drop (i + 1) = (dg 4294967296 q).drop (i + 1)) (h : (dg 4294967296 p).getD i 0 ≠ (dg 4294967296 q).getD i 0) : cmpN ((dg 4294967296 p).getD i 0) ((dg 4294967296 q).getD i 0) = cmpN p q := by
  unfold cmpN
  have a := val_differ (B := 4294967296) (by decide) hl (dg_lt (by decide) p) i hi hd
  have b := val_differ (B := 4294967296) (by decide) hl.symm (dg_lt (by decide) q) i (show i < len32 q by rw [← hl]; exact hi) hd.symm
  rw [dg_val (by decide), dg_val (by decide)] at a b
  by_cases h1 : (dg 4294967296 p).getD i 0 < (dg 4294967296 q).getD i 0
  · rw [if_pos h1, if_pos (a h1)]
  · have h2 := b (by omega)
    rw [if_neg h1, if_pos (by omega), if_neg (by omega), if_pos h2]
theorem cmpN_same {p q : Nat} (h : dg 4294967296 p = dg 4294967296 q) : cmpN p q = 0 := by
  rw [dg_inj (by decide) h]
  unfold cmpN
  rw [if_neg (by omega), if_neg (by omega)]
theorem sl_lt32 {w : World} {a : Option Addr} {n cap : Nat} {l : List Nat} (h : Sl w 1 (.slice a n cap) n (u32s l)) : ∀ q, a = some q → 0 < n → q.block < w.heap.size := by
  rintro q rfl hn
  have hl := u32_len h
  obtain ⟨b, o, e, hb, _⟩ := cell_u32 h 0 (by omega)
  cases e
  exact hb

set_option maxRecDepth 100000 in
set_option maxHeartbeats 8000000 in
theorem cmp_any (v u : Value) (p q : Nat) (w : World) (hp : IsN w v p) (hq : IsN w u q) (h1 : len32 p ≤ 100000) (h2 : len32 q ≤ 100000) :
    Calls Tryd.prog 17 #[v, u] w fun e w' => e = .returned (.int .i64 (cmpN p q)) ∧ Below w.heap.size w w' := by
  obtain ⟨a, ca, rfl, hS⟩ := hp
  obtain ⟨b, cb, rfl, hT⟩ := hq
  have hlt := sl_lt32 hS
  by_cases hne : len32 p = len32 q
  · have HEQ := Lib.hid hne
    have HDG := Lib.hid (fun i hi hd h => cmpN_dig (p := p) (q := q) (i := i) hne hi hd h)
    have HSM := Lib.hid (cmpN_same (p := p) (q := q))
    have hlq : (dg 4294967296 q).length = (dg 4294967296 p).length := hne.symm
    rw [hlq] at hT ⊢
    have hl1 : (dg 4294967296 p).length ≤ 100000 := h1
    have HLP := Lib.hid (getD_mem (by decide : 0 < 4294967296) (dg_lt (by decide : 0 < 4294967296) p))
    have HLQ := Lib.hid (getD_mem (by decide : 0 < 4294967296) (dg_lt (by decide : 0 < 4294967296) q))
    obtain ⟨L, hL⟩ : ∃ L, L = dg 4294967296 p := ⟨_, rfl⟩
    obtain ⟨R, hR⟩ : ∃ R, R = dg 4294967296 q := ⟨_, rfl⟩
    obtain ⟨n, hn⟩ : ∃ n, n = L.length := ⟨_, rfl⟩
    have hnr : R.length = n := by rw [hR, hlq, hn, hL]
    obtain ⟨c, hc⟩ : ∃ c, c = cmpN p q := ⟨_, rfl⟩
    have HDG : Hid (∀ i, i < n → L.drop (i + 1) = R.drop (i + 1) → L.getD i 0 ≠ R.getD i 0 → cmpN (L.getD i 0) (R.getD i 0) = c) := Lib.hid (by
      rw [hn, hL, hR, hc]; exact HDG.out)
    have HSM : Hid (L = R → c = 0) := Lib.hid (by rw [hL, hR, hc]; exact HSM.out)
    rw [← hL] at hS hT hlt HLP hl1 ⊢
    rw [← hR] at hT HLQ
    rw [← hn] at hS hT hlt hl1 ⊢
    rw [← hc]
    have HS := Lib.hid hS
    have HT := Lib.hid hT
    have HN := Lib.hid hn
    have HNR := Lib.hid hnr
    have HLT := Lib.hid hlt
    have hEN := enters_of Tryd.func53 (by kernel_rfl) rfl
    clear HEQ hne hlq hL hR hc hS hT hlt h1 h2 hn hnr
    have hd0 : ((n : Int) != (n : Int)) = false := by simp
    refine (callsIn_wide (n := 10)).1 ?_
    refine callsIn_of_wp_marks Tryd.func17 rfl trivial ?_ rfl
    simp only [Tryd.ntmps17, List.size_toArray, List.length_cons, List.length_nil, Nat.reduceAdd, Nat.reduceSub, Array.replicate_succ, Array.replicate_zero, List.push_toArray, List.append_toArray, List.nil_append, List.cons_append]
    refine wpIn_wide.2 ?_
    have M0 := Mem.start w
    go_wp2_with ((with_reducible refine (?_ : Go.wpList _ _ _ (_ :: _) _ _)); (first | go_skip | (refine wpL_bx M0 rfl rfl rfl rfl ?_; clear M0; intro g1 w1 M1) | (refine wpL_alc M0 rfl rfl ?_; clear M0; intro g1 w1 M1) | (refine wpL_ldc M0 rfl rfl rfl ?_) | (refine wpL_lgc M0 rfl rfl rfl ?_) | (refine wpL_stc M0 rfl rfl rfl rfl ?_; clear M0; intro w' M0) | (refine wpL_sti M0 rfl rfl rfl rfl ?_; clear M0; intro w' M0) | (refine wpL_sth M0 rfl rfl rfl rfl (wr_minus _ _ _) ?_; clear M0; intro w' M0) | (refine wpL_bx M1 rfl rfl rfl rfl ?_; clear M1; intro g2 w2 M2) | (refine wpL_alc M1 rfl rfl ?_; clear M1; intro g2 w2 M2) | (refine wpL_ldc M1 rfl rfl rfl ?_) | (refine wpL_lgc M1 rfl rfl rfl ?_) | (refine wpL_stc M1 rfl rfl rfl rfl ?_; clear M1; intro w' M1) | (refine wpL_sti M1 rfl rfl rfl rfl ?_; clear M1; intro w' M1) | (refine wpL_sth M1 rfl rfl rfl rfl (wr_minus _ _ _) ?_; clear M1; intro w' M1) | (refine wpL_bx M2 rfl rfl rfl rfl ?_; clear M2; intro g3 w3 M3) | (refine wpL_alc M2 rfl rfl ?_; clear M2; intro g3 w3 M3) | (refine wpL_ldc M2 rfl rfl rfl ?_) | (refine wpL_lgc M2 rfl rfl rfl ?_) | (refine wpL_stc M2 rfl rfl rfl rfl ?_; clear M2; intro w' M2) | (refine wpL_sti M2 rfl rfl rfl rfl ?_; clear M2; intro w' M2) | (refine wpL_sth M2 rfl rfl rfl rfl (wr_minus _ _ _) ?_; clear M2; intro w' M2) | (refine wpL_ldc M3 rfl rfl rfl ?_) | (refine wpL_lgc M3 rfl rfl rfl ?_) | (refine wpL_stc M3 rfl rfl rfl rfl ?_; clear M3; intro w' M3) | (refine wpL_sti M3 rfl rfl rfl rfl ?_; clear M3; intro w' M3) | (refine wpL_sth M3 rfl rfl rfl rfl (wr_minus _ _ _) ?_; clear M3; intro w' M3)))
    refine (backward_any a n ca _).mono ?_
    rintro e W0 ⟨rfl, hW0⟩
    have M4 := M3.alloc 22 [.slice a n ca]
    rw [show w3.alloc (.cells [Value.slice a n ca].toArray 22) = W0 from hW0.symm] at M4
    obtain ⟨gP, hgP⟩ : ∃ gP, gP = w3.heap.size := ⟨_, rfl⟩
    rw [← hgP] at M4 ⊢
    have lP := M4.lt (Has.head _ _ _ _)
    have hzW := M4.below.size
    have hS0 := HS.out.below M4.below
    have HT0 := Lib.hid (fun W (hB : Below w.heap.size w W) => HT.out.below hB)
    have HSQ := Lib.hid (backward_at gP a n ca L hl1 W0 (M4.cell (Has.head _ _ _ _) (i := 0) rfl) hS0)
    have HN0 := Lib.hid (Mew.of_mem (S := fun _ => False) M4)
    have HD0 : Hid (L.drop (n - 0) = R.drop (n - 0)) := Lib.hid (by rw [Nat.sub_zero, List.drop_of_length_le (by rw [HN.out]; exact Nat.le_refl _), List.drop_of_length_le (by rw [HNR.out]; exact Nat.le_refl _)])
    clear hW0 hgP M3 M4 hS0
    go_wp2_with fail
    refine with_tmps (fun A hA => ?_)
    refine (wpIn_wide (n := 10)).1 ?_
    refine wpIn_rangeFunc_at rfl (by omega) (gf := 53) (lb := #[.pointer (some ⟨gP, 0, none⟩)]) (by rw [hA]; rfl) trivial hEN HSQ.out (backC_lt lP (fun q hq h0 => Nat.lt_of_lt_of_le (HLT.out q hq h0) hzW)) (backs_two L)
      (fun k W => L.drop (n - k) = R.drop (n - k) ∧ Mew (fun _ => False) w W [(gP, 22, [.slice a n ca]), (g3, 3, [.int .i64 0]), (g2, 26, [.slice b n cb]), (g1, 26, [.slice a n ca])])
      (fun _ W => Mew (fun _ => False) w W [(gP, 22, [.slice a n ca]), (g3, 3, [.int .i64 c]), (g2, 26, [.slice b n cb]), (g1, 26, [.slice a n ca])])
      (fun _ _ _ => False) ?own ?ownr (fun _ _ _ _ _ h _ _ => h) ⟨HD0.out, HN0.out⟩
      (fun k a' _ => a' = { tmps := (((A.setIfInBounds 24 (.int .i64 ((L.length - 1 - k : Nat) : Int))).setIfInBounds 25 (.int .u32 ((L.getD (L.length - 1 - k) 0 : Nat) : Int))).setIfInBounds 5 (.int .i64 ((L.length - 1 - k : Nat) : Int))).setIfInBounds 6 (.int .u32 ((L.getD (L.length - 1 - k) 0 : Nat) : Int)), defers := [] })
      (fun _ _ _ _ _ h _ _ => h) ?assign ?body ?done ?ret ?stop
    case own =>
      rintro k X Y row ⟨h1, h2⟩ hg hr
      exact ⟨h1, h2.grown hg (fun r e => ⟨Nat.le_trans hzW (hr r e).1, (hr r e).2⟩)⟩
    case ownr =>
      rintro k X Y row h2 hg hr
      exact h2.grown hg (fun r e => ⟨Nat.le_trans hzW (hr r e).1, (hr r e).2⟩)
    case assign =>
      rintro l k x W K hx HI hK
      have HI0 := HI
      rw [backs_at L k (by have := (List.getElem?_eq_some_iff.1 hx).1; rwa [backs_length] at this)] at hx
      cases hx
      subst hA
      obtain ⟨i, hi⟩ : ∃ i, i = L.length - 1 - k := ⟨_, rfl⟩
      obtain ⟨u, eu⟩ : ∃ u, u = L.getD i 0 := ⟨_, rfl⟩
      rw [← hi, ← eu] at hK ⊢
      clear hi eu HI
      gi_wp2
      exact hK _ _ (KeepsFrom.refl _ _) (CellsKept.refl _ _) HI0 rfl
    case body =>
      rintro l k a' W hl hr hk ⟨HS7, M⟩ rfl
      subst hA
      rw [backs_length, ← HN.out] at hk
      rw [← HN.out]
      obtain ⟨i, hi⟩ : ∃ i, n - 1 - k = i := ⟨_, rfl⟩
      rw [hi]
      rw [show n - k = i + 1 by omega] at HS7
      have hin : i < n := by omega
      have hu := HLP.out i
      have hx := HLQ.out i
      obtain ⟨b1, o1, rfl, hb1, hc1⟩ := cell_u32 (HT0.out W M.below) i (by rw [HNR.out]; exact hin)
      have hst : L.getD i 0 = R.getD i 0 → L.drop i = R.drop i := fun h => by
        rw [drop_step (by rw [← HN.out]; exact hin), drop_step (l := R) (by rw [HNR.out]; exact hin), h, HS7]
      have hne := HDG.out i hin HS7
      obtain ⟨u, eu⟩ : ∃ u, u = L.getD i 0 := ⟨_, rfl⟩
      obtain ⟨x, ex⟩ : ∃ x, x = R.getD i 0 := ⟨_, rfl⟩
      rw [← eu] at hu hst hne ⊢
      rw [← ex] at hx hst hne hc1
      have HST := Lib.hid hst
      have c2 := M.cell (.tail _ _ _ _ _ (.tail _ _ _ _ _ (Has.head _ _ _ _))) (i := 0) rfl
      have c3 := M.cell (.tail _ _ _ _ _ (Has.head _ _ _ _)) (i := 0) rfl
      have f3 := M.free (.tail _ _ _ _ _ (Has.head _ _ _ _)) 0
      have HM := Lib.hid M
      by_cases he : u = x
      · subst he
        have hd : ((u : Int) != (u : Int)) = false := by simp
        clear M hst hne eu ex
        gi_wp2
        refine ⟨KeepsFrom.refl _ _, CellsKept.refl _ _, ?_, HM.out⟩
        rw [show n - (k + 1) = i by omega]
        exact HST.out trivial
      · have hd : ((u : Int) != (x : Int)) = true := by simp; omega
        have C := Lib.hid (cmpU32_any u x hu hx)
        rw [hne he] at C
        have HM2 := Lib.hid (M.set 0 (.int .i64 c) (.tail _ _ _ _ _ _ _ (Upd.head _ _ _ _ _)) (by simp))
        clear M hst hne eu ex
        gi_wp2
        refine ⟨trivial, (CallsIn.inRound l (callsIn_wide.2 (C.out _))).mono ?_⟩
        rintro e w1 ⟨rfl, rfl⟩
        gi_wp2
        exact ⟨(KeepsOthers.setCell _ _ _).from _, HM2.out⟩
    case done =>
      rintro D W hD ⟨HS7, M⟩ hK
      rw [backs_length, ← HN.out, Nat.sub_self] at HS7
      have hc := HSM.out HS7
      have c3 := M.cell (.tail _ _ _ _ _ (Has.head _ _ _ _)) (i := 0) rfl
      have f3 := M.free (.tail _ _ _ _ _ (Has.head _ _ _ _)) 0
      have HM := Lib.hid (M.set 0 (.int .i64 0) (.tail _ _ _ _ _ _ _ (Upd.head _ _ _ _ _)) (by simp))
      have hK2 := (KeepsOthers.setCell W ⟨g3, 0, none⟩ (.int .i64 0)).same D _ hK rfl
      have HK2 := Lib.hid hK2
      clear M HS7 hK hK2
      subst hA
      subst hc
      go_wp2_with fail
      refine ⟨by simp, .inl ⟨_, _, rfl, run_takeDeferred HK2.out, ?_⟩⟩
      have hg := grownBy_putObj' (W.setCell ⟨g3, 0, none⟩ (.int .i64 0)) D (.deferred none)
      have hM2 := HM.out.grown hg (fun r e => by cases e; exact ⟨by omega, _, HK2.out, rfl⟩)
      exact ⟨_, res_cell rfl (Mem.of_mew hM2) rfl (.tail _ _ _ _ _ (Has.head _ _ _ _)) (Rd.one Tryd.underlying3 rfl rfl), rfl, hM2.below⟩
    case ret =>
      rintro D k W hD hk M hK
      subst hA
      have HM := Lib.hid M
      have HK := Lib.hid hK
      clear M hK
      refine wpIn_ret ?_
      simp only [Exit.inBlock, Exit.then]
      go_wp2_with fail
      refine ⟨by simp, .inl ⟨_, _, rfl, run_takeDeferred HK.out, ?_⟩⟩
      have hg := grownBy_putObj' W D (.deferred none)
      have hM2 := HM.out.grown hg (fun r e => by cases e; exact ⟨by omega, _, HK.out, rfl⟩)
      exact ⟨_, res_cell rfl (Mem.of_mew hM2) rfl (.tail _ _ _ _ _ (Has.head _ _ _ _)) (Rd.one Tryd.underlying3 rfl rfl), rfl, hM2.below⟩
    case stop => exact fun _ _ _ _ _ _ h _ => h.elim
  · have C := Lib.hid (cmpInt_any (len32 p) (len32 q) (by omega) (by omega))
    rw [cmpN_len hne] at C
    have hd0 : (((dg 4294967296 p).length : Int) != ((dg 4294967296 q).length : Int)) = true := by
      have : (dg 4294967296 p).length ≠ (dg 4294967296 q).length := hne
      simp; omega
    obtain ⟨n, hn⟩ : ∃ n, n = (dg 4294967296 p).length := ⟨_, rfl⟩
    obtain ⟨m, hm⟩ : ∃ m, m = (dg 4294967296 q).length := ⟨_, rfl⟩
    have C : Hid (∀ w : World, Calls Tryd.prog 39 #[.int .i64 n, .int .i64 m] w fun e w' => e = .returned (.int .i64 (cmpN p q)) ∧ w = w') := Lib.hid (by rw [hn, hm]; exact C.out)
    rw [← hn, ← hm] at hd0 ⊢
    obtain ⟨c, hc⟩ : ∃ c, c = cmpN p q := ⟨_, rfl⟩
    rw [← hc] at C ⊢
    have M0 := Mem.start w
    clear hS hT hlt hne hn hm hc h1 h2
    go_enter Tryd.func17, Tryd.ntmps17
    go_wp2_with ((with_reducible refine (?_ : Go.wpList _ _ _ (_ :: _) _ _)); (first | go_skip | (refine wpL_bx M0 rfl rfl rfl rfl ?_; clear M0; intro g1 w1 M1) | (refine wpL_alc M0 rfl rfl ?_; clear M0; intro g1 w1 M1) | (refine wpL_ldc M0 rfl rfl rfl ?_) | (refine wpL_lgc M0 rfl rfl rfl ?_) | (refine wpL_stc M0 rfl rfl rfl rfl ?_; clear M0; intro w' M0) | (refine wpL_sti M0 rfl rfl rfl rfl ?_; clear M0; intro w' M0) | (refine wpL_sth M0 rfl rfl rfl rfl (wr_minus _ _ _) ?_; clear M0; intro w' M0) | (refine wpL_bx M1 rfl rfl rfl rfl ?_; clear M1; intro g2 w2 M2) | (refine wpL_alc M1 rfl rfl ?_; clear M1; intro g2 w2 M2) | (refine wpL_ldc M1 rfl rfl rfl ?_) | (refine wpL_lgc M1 rfl rfl rfl ?_) | (refine wpL_stc M1 rfl rfl rfl rfl ?_; clear M1; intro w' M1) | (refine wpL_sti M1 rfl rfl rfl rfl ?_; clear M1; intro w' M1) | (refine wpL_sth M1 rfl rfl rfl rfl (wr_minus _ _ _) ?_; clear M1; intro w' M1) | (refine wpL_bx M2 rfl rfl rfl rfl ?_; clear M2; intro g3 w3 M3) | (refine wpL_alc M2 rfl rfl ?_; clear M2; intro g3 w3 M3) | (refine wpL_ldc M2 rfl rfl rfl ?_) | (refine wpL_lgc M2 rfl rfl rfl ?_) | (refine wpL_stc M2 rfl rfl rfl rfl ?_; clear M2; intro w' M2) | (refine wpL_sti M2 rfl rfl rfl rfl ?_; clear M2; intro w' M2) | (refine wpL_sth M2 rfl rfl rfl rfl (wr_minus _ _ _) ?_; clear M2; intro w' M2) | (refine wpL_ldc M3 rfl rfl rfl ?_) | (refine wpL_lgc M3 rfl rfl rfl ?_) | (refine wpL_stc M3 rfl rfl rfl rfl ?_; clear M3; intro w' M3) | (refine wpL_sti M3 rfl rfl rfl rfl ?_; clear M3; intro w' M3) | (refine wpL_sth M3 rfl rfl rfl rfl (wr_minus _ _ _) ?_; clear M3; intro w' M3)))
    refine (C.out _).mono ?_
    rintro e w1 ⟨rfl, rfl⟩
    go_wp2_with ((with_reducible refine (?_ : Go.wpList _ _ _ (_ :: _) _ _)); (first | go_skip | (refine wpL_ldc M3 rfl rfl rfl ?_) | (refine wpL_lgc M3 rfl rfl rfl ?_) | (refine wpL_stc M3 rfl rfl rfl rfl ?_; clear M3; intro w' M3) | (refine wpL_sti M3 rfl rfl rfl rfl ?_; clear M3; intro w' M3) | (refine wpL_sth M3 rfl rfl rfl rfl (wr_minus _ _ _) ?_; clear M3; intro w' M3)))
    refine bodyPost_ret (res_cell rfl M3 rfl (Has.head _ _ _ _) (Rd.one Tryd.underlying3 rfl rfl)) rfl ?_
    exact ⟨rfl, M3.below⟩
end Go.Proofs.YtghioakpigdagaaDoor
