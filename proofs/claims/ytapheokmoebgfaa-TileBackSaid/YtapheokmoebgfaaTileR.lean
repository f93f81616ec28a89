/-
  The reference's differences and bytes of a tile; heights held against each other.
-/
import Derived.Test.YtapheokmoebgfaaTileB
set_option linter.unusedVariables false
set_option linter.unusedSimpArgs false
namespace Go.Proofs.Ytapheokmoebgfaa
open Go Go.RowKit Go.Th

set_option maxRecDepth 20000 in
set_option maxHeartbeats 1600000 in
theorem ref8Deltas_any (x n : Nat) (a : Option Addr) (cap : Nat) (z : List Int) (hz : z.length = n) (hx1 : 0 < x) (hx2 : x ≤ 1000) (hmax : n ≤ 1000) (h16 : ∀ v ∈ z, In16 v) (w : World) (hS : Sl w 1 (.slice a n cap) n (i16s z)) :
    Calls Try.prog 26 #[.int .i64 x, .slice a n cap] w fun e w' => ∃ v, e = .returned v ∧ w'.ownsRow w.heap.size 21 1 v n (i32s (deltas x z)) ∧ Below w.heap.size w w' := by
  have hdl := deltas_length x z
  have hst : ∀ i, i < n → (deltas x z).take (i + 1) = (deltas x z).take i ++ [z.getD i 0 - bes x z i] := fun i hi => deltas_take x z i (by omega)
  have hg16 : ∀ i, In16 (z.getD i 0) := fun i => getD_in16 h16 i
  have hbes : ∀ i, bes x z i = if i = 0 then 0 else if i % x = 0 then z.getD (i - x) 0 else z.getD (i - 1) 0 := fun i => rfl
  obtain ⟨D, hD⟩ : ∃ D, D = deltas x z := ⟨_, rfl⟩
  rw [← hD] at hdl hst ⊢
  have HD := Lib.hid hdl
  have HST := Lib.hid hst
  have HG := Lib.hid hg16
  have HB := Lib.hid hbes
  have HS := Lib.hid hS
  have HZ := Lib.hid hz
  have hmx := hS.max
  clear hD hdl hst hg16 hbes hS hz h16
  go_enter Try.func26, Try.ntmps26
  go_wp2_with fail
  go_loopw [5, 6] (fun v c wx => ∃ i : Nat, i ≤ n ∧ c = .int .i64 i ∧ wx.ownsRow w.heap.size 21 1 v i (i32s (D.take i)) ∧ Below w.heap.size w wx) (fun _ c _ => n - (intOf c).toNat)
  case atStart => exact ⟨0, Nat.zero_le _, rfl, World.ownsRow_nil _ _ _ _, Below.refl _ _⟩
  case round =>
    obtain ⟨i, hi, rfl, ho, hB⟩ := hrel
    have hsz := hB.size
    by_cases hlt : i < n
    · obtain ⟨b, o, rfl, hbl, hc⟩ := cell_i16D HS.out i (by rw [HZ.out]; exact hlt)
      have hcu := (hB.cell (p := ⟨b, o + i, none⟩) hbl).trans hc
      clear hc
      have hts := HST.out i hlt
      obtain ⟨g1, g2⟩ := in16_def (HG.out i)
      have hbe := HB.out i
      by_cases hm : i % x = 0
      · by_cases hge : x ≤ i
        · obtain ⟨b', o', e', hbl', hc⟩ := cell_i16D HS.out (i - x) (by rw [HZ.out]; omega)
          cases e'
          have hcs := (hB.cell (p := ⟨b, o + (i - x), none⟩) hbl).trans hc
          obtain ⟨s1, s2⟩ := in16_def (HG.out (i - x))
          rw [if_neg (by omega), if_pos hm] at hbe
          obtain ⟨u, hu⟩ : ∃ u, u = z.getD i 0 := ⟨_, rfl⟩
          obtain ⟨s, hs⟩ : ∃ s, s = z.getD (i - x) 0 := ⟨_, rfl⟩
          obtain ⟨k, hk⟩ : ∃ k, k = i - x := ⟨_, rfl⟩
          rw [hbe, ← hu, ← hs] at hts
          rw [← hu] at hcu g1 g2
          rw [← hs] at hcs s1 s2
          rw [← hk] at hcs
          have hki : (i : Int) - (x : Int) = (k : Int) := by omega
          have hkn : k < n := by omega
          have hmod : ((i : Int) % (x : Int)) = 0 := by exact_mod_cast hm
          have HT := Lib.hid hts
          clear hu hs hk hc hbl' hbe hts hm
          go_wp2_with (at_builtin; refine wpList_app E32 rfl (.tmp 34) (.tmp 42) rfl w.heap.size rfl (ho.alloc _) rfl (Sl.one _ _ _) (by intro u hu; simp at hu; subst hu; rfl) (by unfold maxLen; omega) (by omega) (by simp; omega) ?_)
          intro v2 w3 ho3 hg3 _
          have hB3 := hB.trans (app_below ho hsz hg3)
          clear ho hg3 hB
          go_wp2_with fail
          go_roundw
          case rel => exact ⟨i + 1, by omega, by go_num, by rw [HT.out, i32s_snoc]; exact ho3, hB3⟩
          case measure => simp [intOf]; omega
        · have hi0 : i = 0 := by rw [Nat.mod_eq_of_lt (by omega)] at hm; exact hm
          rw [if_pos hi0] at hbe
          obtain ⟨u, hu⟩ : ∃ u, u = z.getD i 0 := ⟨_, rfl⟩
          rw [hbe, ← hu, Int.sub_zero] at hts
          rw [← hu] at hcu g1 g2
          have hlx : (i : Int) < (x : Int) := by omega
          have hmod : ((i : Int) % (x : Int)) = 0 := by exact_mod_cast hm
          have HT := Lib.hid hts
          have HI := Lib.hid hi0
          clear hu hbe hts hm hi0
          go_wp2_with (at_builtin; refine wpList_app E32 rfl (.tmp 34) (.tmp 42) rfl w.heap.size rfl (ho.alloc _) rfl (Sl.one _ _ _) (by intro u hu; simp at hu; subst hu; rfl) (by unfold maxLen; omega) (by omega) (by simp; omega) ?_)
          intro v2 w3 ho3 hg3 _
          have hB3 := hB.trans (app_below ho hsz hg3)
          clear ho hg3 hB
          go_wp2_with fail
          go_roundw
          case rel => exact ⟨i + 1, by omega, by go_num, by rw [HT.out, i32s_snoc]; exact ho3, hB3⟩
          case measure => simp [intOf]; omega
      · obtain ⟨k, rfl⟩ : ∃ k, i = k + 1 := ⟨i - 1, by have : i ≠ 0 := fun e => hm (by rw [e]; exact Nat.zero_mod _); omega⟩
        obtain ⟨b', o', e', hbl', hc⟩ := cell_i16D HS.out k (by rw [HZ.out]; omega)
        cases e'
        have hcs := (hB.cell (p := ⟨b, o + k, none⟩) hbl).trans hc
        obtain ⟨s1, s2⟩ := in16_def (HG.out k)
        rw [if_neg (by omega), if_neg hm, Nat.add_sub_cancel] at hbe
        obtain ⟨u, hu⟩ : ∃ u, u = z.getD (k + 1) 0 := ⟨_, rfl⟩
        obtain ⟨s, hs⟩ : ∃ s, s = z.getD k 0 := ⟨_, rfl⟩
        rw [hbe, ← hu, ← hs] at hts
        rw [← hu] at hcu g1 g2
        rw [← hs] at hcs s1 s2
        have hkn : k < n := by omega
        have hmod : ¬ (((k : Int) + 1) % (x : Int) = 0) := fun e => hm (by exact_mod_cast e)
        have hmod2 : ((((k : Int) + 1) % (x : Int)) != 0) = true := by simpa using hmod
        have HT := Lib.hid hts
        clear hu hs hc hbl' hbe hts hm
        go_wp2_with (at_builtin; refine wpList_app E32 rfl (.tmp 34) (.tmp 42) rfl w.heap.size rfl (ho.alloc _) rfl (Sl.one _ _ _) (by intro u hu; simp at hu; subst hu; rfl) (by unfold maxLen; omega) (by omega) (by simp; omega) ?_)
        intro v2 w3 ho3 hg3 _
        have hB3 := hB.trans (app_below ho hsz hg3)
        clear ho hg3 hB
        go_wp2_with fail
        go_roundw
        case rel => exact ⟨k + 1 + 1, by omega, by go_num, by rw [HT.out, i32s_snoc]; exact ho3, hB3⟩
        case measure => simp [intOf]; omega
    · obtain rfl : i = n := by omega
      rw [List.take_of_length_le (by rw [HD.out, HZ.out]; exact Nat.le_refl _)] at ho
      go_wp2_with fail
      go_ret
      exact ⟨_, rfl, ho, hB⟩

theorem ref8Put_bad (w h : Int) (a : Option Addr) (n cap : Nat) (W : World) (hS : n ≤ 1000000) (H : isT w h = false ∨ (isT w h = true ∧ ((n : Int) = w * h) = False)) :
    Calls Try.prog 8 #[.int .i64 w, .int .i64 h, .slice a n cap] W fun e w' => e = .returned (.tuple #[.slice none 0 0, .int .i64 5]) ∧ W = w' := by
  rcases H with e | ⟨e, hn⟩
  · have hne : ¬ (1 ≤ w ∧ w ≤ 16 ∧ 1 ≤ h ∧ h ≤ 16) := by unfold isT at e; exact of_decide_eq_false e
    clear e
    by_cases a1 : 1 ≤ w
    · by_cases b : w ≤ 16
      · by_cases c : 1 ≤ h
        · have d : ¬ h ≤ 16 := fun d => hne ⟨a1, b, c, d⟩
          clear hne
          go_enter Try.func8, Try.ntmps8
          go_wp2_with fail
          go_ret2
          exact ⟨rfl, rfl⟩
        · clear hne
          go_enter Try.func8, Try.ntmps8
          go_wp2_with fail
          go_ret2
          exact ⟨rfl, rfl⟩
      · clear hne
        go_enter Try.func8, Try.ntmps8
        go_wp2_with fail
        go_ret2
        exact ⟨rfl, rfl⟩
    · clear hne
      go_enter Try.func8, Try.ntmps8
      go_wp2_with fail
      go_ret2
      exact ⟨rfl, rfl⟩
  · obtain ⟨h1, h2, h3, h4⟩ := isT_yes e
    obtain ⟨x, rfl⟩ := Int.eq_ofNat_of_zero_le (by omega : 0 ≤ w)
    obtain ⟨y, rfl⟩ := Int.eq_ofNat_of_zero_le (by omega : 0 ≤ h)
    have hle : x * y ≤ 16 * 16 := Nat.mul_le_mul (by omega) (by omega)
    obtain ⟨p, hp⟩ : ∃ p, p = x * y := ⟨_, rfl⟩
    have hm : (x : Int) * (y : Int) = (p : Int) := by rw [hp]; simp
    rw [← hp] at hle
    rw [hm] at hn
    have hnp : n ≠ p := fun e => by rw [e] at hn; simp at hn
    have hq : ((n : Int) != (p : Int)) = true := by simp; omega
    clear hp e hn
    go_enter Try.func8, Try.ntmps8
    go_wp2_with fail
    go_ret2
    exact ⟨rfl, rfl⟩

set_option maxRecDepth 20000 in
set_option maxHeartbeats 1600000 in
theorem ref8Put_any (x y n : Nat) (a : Option Addr) (cap : Nat) (z : List Int) (hz : z.length = n) (hn : n = x * y) (h16 : ∀ v ∈ z, In16 v) (hT : isT x y = true) (w : World) (hS : Sl w 1 (.slice a n cap) n (i16s z)) :
    Calls Try.prog 8 #[.int .i64 x, .int .i64 y, .slice a n cap] w fun e w' => ∃ v, e = .returned (.tuple #[v, .int .i64 0]) ∧ w'.ownsRow w.heap.size 5 1 v (pack (row (deltas x z))).length (u8s (pack (row (deltas x z)))) ∧ Below w.heap.size w w' := by
  obtain ⟨h1, h2, h3, h4⟩ := isT_yes hT
  have hle : x * y ≤ 16 * 16 := Nat.mul_le_mul (by omega) (by omega)
  have hm : (x : Int) * (y : Int) = (n : Int) := by rw [hn]; simp
  rw [← hn] at hle
  have C1 := Lib.hid (ref8Deltas_any x n a cap z hz (by omega) (by omega) (by omega) h16 w hS)
  have hdl := deltas_length x z
  have hdr := deltas_room h16 x
  obtain ⟨D, hD⟩ : ∃ D, D = deltas x z := ⟨_, rfl⟩
  rw [← hD] at hdl hdr C1 ⊢
  have hrl := row_length D
  have hsl := sizes_le D (best D) (best_le D)
  have CRR := Lib.hid (fun a2 cap2 wx hs => refRow7_any a2 n cap2 D (by omega) (by omega) (fun v hv => rm_32 (hdr v hv)) wx hs)
  have hll : (row D).length ≤ 70000 := by omega
  obtain ⟨L, hL⟩ : ∃ L, L = row D := ⟨_, rfl⟩
  rw [← hL] at CRR hll ⊢
  have hnn : ((n : Int) != (n : Int)) = false := by simp
  have hmx := hS.max
  clear hD hL hdl hdr hrl hsl hS hz hn h16 hT
  go_enter Try.func8, Try.ntmps8
  go_wp2_with fail
  refine C1.out.mono ?_
  rintro e w1 ⟨v1, rfl, ho1, hB1⟩
  clear C1
  obtain ⟨a2, cap2, rfl, hc1, hc2⟩ := ownsRow_slice ho1
  have C2 := Lib.hid (CRR.out a2 cap2 w1 (Sl.of_own ho1))
  clear CRR ho1
  go_wp2_with fail
  refine C2.out.mono ?_
  rintro e w2 ⟨v2, rfl, ho2, hA2⟩
  clear C2
  have hB2 := hB1.trans (hA2.mono hB1.size)
  have C3 := Lib.hid (refBytes_any _ L w2 (Sl.of_own ho2) (by omega))
  clear hB1 hA2
  go_wp2_with fail
  refine C3.out.mono ?_
  rintro e w3 ⟨v3, rfl, ho3, hA3⟩
  go_wp2_with fail
  go_ret2
  exact ⟨v3, rfl, ownsRow_base ho3 hB2.size, hB2.trans (hA3.mono hB2.size)⟩

/-- The same heights. -/
theorem same16_any (a b : Option Addr) (n c1 c2 : Nat) (z : List Int) (hz : z.length = n) (hn : n ≤ 1000000) (w : World) (hA : Sl w 1 (.slice a n c1) n (i16s z)) (hB : Sl w 1 (.slice b n c2) n (i16s z)) :
    Calls Try.prog 11 #[.slice a n c1, .slice b n c2] w fun e w' => e = .returned (.bool true) ∧ Below w.heap.size w w' := by
  have HA := Lib.hid hA
  have HB := Lib.hid hB
  have HZ := Lib.hid hz
  have hm1 := hA.max
  have hm2 := hB.max
  have hnn : ((n : Int) != (n : Int)) = false := by simp
  clear hA hB hz
  go_enter Try.func11, Try.ntmps11
  go_wp2_with fail
  go_loopw [5] (fun c wx => ∃ i : Nat, i ≤ n ∧ c = .int .i64 i ∧ Below w.heap.size w wx) (fun c _ => n - (intOf c).toNat)
  case atStart => exact ⟨0, Nat.zero_le _, rfl, Below.refl _ _⟩
  case round =>
    obtain ⟨i, hi, rfl, hBl⟩ := hrel
    by_cases hlt : i < n
    · obtain ⟨b1, o1, rfl, hb1, hc1⟩ := cell_i16 HA.out i (by rw [HZ.out]; exact hlt)
      obtain ⟨b2, o2, rfl, hb2, hc2⟩ := cell_i16 HB.out i (by rw [HZ.out]; exact hlt)
      have d1 := (hBl.cell (p := ⟨b1, o1 + i, none⟩) hb1).trans hc1
      have d2 := (hBl.cell (p := ⟨b2, o2 + i, none⟩) hb2).trans hc2
      obtain ⟨y, hy⟩ : ∃ y, y = z[i]'(by rw [HZ.out]; exact hlt) := ⟨_, rfl⟩
      rw [← hy] at d1 d2
      have hyy : (y != y) = false := by simp
      clear hy hc1 hc2 hb1 hb2
      go_wp2_with fail
      go_quiet (fail)
      go_wp2_with fail
      go_roundw
      case rel => exact ⟨i + 1, by omega, by go_num, below_dN hBl _⟩
      case measure => simp [intOf]; omega
    · obtain rfl : i = n := by omega
      go_wp2_with fail
      go_ret
      exact ⟨rfl, hBl⟩
end Go.Proofs.Ytapheokmoebgfaa
