/-
  TilePuts, TileBack: the walks.
-/
import Derived.Test.YtapheokmoebgfaaTileW
import Derived.Test.YtapheokmoebgfaaSame
set_option linter.unusedVariables false
set_option linter.unusedSimpArgs false
namespace Go.Proofs.Ytapheokmoebgfaa
open Go Go.RowKit Go.Th

set_option maxRecDepth 20000 in
set_option maxHeartbeats 1600000 in
theorem tilePuts_any (W H : Int) (a : Option Addr) (n cap : Nat) (z : List Int) (hz : z.length = n) (h16 : ∀ u ∈ z, In16 u) (w : World) (hS : Sl w 1 (.slice a n cap) n (i16s z)) :
    Calls Try.prog 3 #[.int .i64 W, .int .i64 H, .slice a n cap] w fun e w' => e = .returned (.bool true) ∧ Below w.heap.size w w' := by
  have hmx := hS.max
  by_cases hbig : 300 < n
  · have hb' : (300 : Int) < (n : Int) := by omega
    go_enter Try.func3, Try.ntmps3
    go_wp2_with fail
    refine (works_any w).mono ?_
    rintro e w1 ⟨rfl, hB⟩
    go_wp2_with fail
    go_ret
    exact ⟨rfl, hB⟩
  have hb' : ¬ ((300 : Int) < (n : Int)) := by omega
  by_cases hok : isT W H = true ∧ (n : Int) = W * H
  · obtain ⟨hT, hn⟩ := hok
    obtain ⟨q1, q2, q3, q4⟩ := isT_yes hT
    obtain ⟨x, rfl⟩ := Int.eq_ofNat_of_zero_le (by omega : 0 ≤ W)
    obtain ⟨y, rfl⟩ := Int.eq_ofNat_of_zero_le (by omega : 0 ≤ H)
    have hxy : n = x * y := by exact_mod_cast hn
    have C1 := Lib.hid (tput_any x y n a cap z hz hxy h16 hT w hS)
    have C2 := Lib.hid (fun wx hs => ref8Put_any x y n a cap z hz hxy h16 hT wx hs)
    have HS := Lib.hid hS
    clear hS hn hxy hT hz h16
    go_enter Try.func3, Try.ntmps3
    go_wp2_with fail
    refine C1.out.mono ?_
    rintro e w1 ⟨v1, rfl, ho1, hB1⟩
    clear C1
    have C3 := Lib.hid (C2.out w1 (HS.out.below hB1))
    clear C2
    go_wp2_with fail
    refine C3.out.mono ?_
    rintro e w2 ⟨v2, rfl, ho2, hA2⟩
    clear C3
    replace ho1 := ownsRow_below ho1 hA2
    have hB2 := hB1.trans (hA2.mono hB1.size)
    have C4 := Lib.hid (same_any v1 v2 _ _ w2 (Sl.of_own ho1) (Sl.of_own ho2) rfl)
    clear ho1 ho2 hB1 hA2
    go_wp2_with fail
    refine C4.out.mono ?_
    rintro e wx ⟨rfl, rfl⟩
    clear C4
    go_wp2_with fail
    refine (works_any w2).mono ?_
    rintro e w3 ⟨rfl, hA3⟩
    go_wp2_with fail
    go_ret
    exact ⟨rfl, hB2.trans (hA3.mono hB2.size)⟩
  · have hbad : isT W H = false ∨ (isT W H = true ∧ ((n : Int) = W * H) = False) := by
      cases hT : isT W H
      · exact .inl rfl
      · exact .inr ⟨rfl, by simpa using fun e => hok ⟨hT, e⟩⟩
    have C1 := Lib.hid (tput_bad W H a n cap w (by omega) hbad)
    have C2 := Lib.hid (ref8Put_bad W H a n cap w (by omega) hbad)
    have C4 := Lib.hid (same_any (.slice none 0 0) (.slice none 0 0) [] [] w (Sl.nil _ _) (Sl.nil _ _) rfl)
    clear hok hbad hS hz h16
    go_enter Try.func3, Try.ntmps3
    go_wp2_with fail
    refine C1.out.mono ?_
    rintro e wx ⟨rfl, rfl⟩
    clear C1
    go_wp2_with fail
    refine C2.out.mono ?_
    rintro e wx ⟨rfl, rfl⟩
    clear C2
    go_wp2_with fail
    refine C4.out.mono ?_
    rintro e wx ⟨rfl, rfl⟩
    clear C4
    go_wp2_with fail
    refine (works_any w).mono ?_
    rintro e w3 ⟨rfl, hA3⟩
    go_wp2_with fail
    go_ret
    exact ⟨rfl, hA3⟩

set_option maxRecDepth 20000 in
set_option maxHeartbeats 1600000 in
theorem tileBack_big (p q : Nat) (a b : Option Addr) (n cap k kcap : Nat) (hn : n ≤ 9223372036854775807) (hk : k ≤ 9223372036854775807) (w : World) (hbig : 300 < n ∨ 1000 < k) :
    Calls Try.prog 4 #[.int .u8 p, .int .u8 q, .slice a n cap, .slice b k kcap] w fun e w' => e = .returned (.bool true) ∧ Below w.heap.size w w' := by
  by_cases h1 : 300 < n
  · have hb' : (300 : Int) < (n : Int) := by omega
    go_enter Try.func4, Try.ntmps4
    go_wp2_with fail
    refine (works_any w).mono ?_
    rintro e w1 ⟨rfl, hB⟩
    go_wp2_with fail
    go_ret
    exact ⟨rfl, hB⟩
  · have hb' : ¬ (300 : Int) < (n : Int) := by omega
    have hb2 : (1000 : Int) < (k : Int) := by omega
    go_enter Try.func4, Try.ntmps4
    go_wp2_with fail
    refine (works_any w).mono ?_
    rintro e w1 ⟨rfl, hB⟩
    go_wp2_with fail
    go_ret
    exact ⟨rfl, hB⟩

set_option maxRecDepth 20000 in
set_option maxHeartbeats 3200000 in
theorem tileBack_any (p q : Nat) (a b : Option Addr) (n cap k kcap : Nat) (z : List Int) (bs : List Nat) (hp : p < 256) (hq : q < 256) (hz : z.length = n) (h16 : ∀ u ∈ z, In16 u) (hk : k = bs.length) (hby : ∀ u ∈ bs, u < 256) (w : World)
    (hS : Sl w 1 (.slice a n cap) n (i16s z)) (hT : Sl w 1 (.slice b k kcap) k (u8s bs)) :
    Calls Try.prog 4 #[.int .u8 p, .int .u8 q, .slice a n cap, .slice b k kcap] w fun e w' => e = .returned (.bool true) ∧ Below w.heap.size w w' := by
  have hmx := hS.max
  have hmk := hT.max
  by_cases hbig : 300 < n ∨ 1000 < k
  · exact tileBack_big p q a b n cap k kcap (by omega) (by omega) w hbig
  have hb1 : ¬ ((300 : Int) < (n : Int)) := by omega
  have hb2 : ¬ ((1000 : Int) < (k : Int)) := by omega
  obtain ⟨x, hx⟩ : ∃ x, x = 1 + p % 16 := ⟨_, rfl⟩
  obtain ⟨y, hy⟩ : ∃ y, y = 1 + q % 16 := ⟨_, rfl⟩
  have ex : (1 : Int) + (p : Int) % 16 = (x : Int) := by omega
  have ey : (1 : Int) + (q : Int) % 16 = (y : Int) := by omega
  have hTT : isT x y = true := isT_of (by omega)
  have hle : x * y ≤ 16 * 16 := Nat.mul_le_mul (by omega) (by omega)
  obtain ⟨m, hm⟩ : ∃ m, m = x * y := ⟨_, rfl⟩
  have hmul : (x : Int) * (y : Int) = (m : Int) := by rw [hm]; simp
  rw [← hm] at hle
  have CP := Lib.hid (fun a cap l hl h16 wx hs => tput_any x y m a cap l hl hm h16 hTT wx hs)
  have CG := Lib.hid (fun v l hl h16 wx hs => tget_back x y m hTT hm v l hl h16 wx hs)
  have CA := Lib.hid (fun wx hs => tget_again x y m hTT hm (.slice b k kcap) bs (by omega) hby wx hs)
  have CR := Lib.hid (fun a cap l hl h16 wx hs => ref8Put_any x y m a cap l hl hm h16 hTT wx hs)
  have hx16 : x ≤ 16 := by omega
  have hy16 : y ≤ 16 := by omega
  have HK := Lib.hid hk
  have H16 := Lib.hid h16
  have HZ := Lib.hid hz
  have HS := Lib.hid hS
  have HT := Lib.hid hT
  clear hx hy hm hTT hk h16 hz hS hT hby hbig
  go_enter Try.func4, Try.ntmps4
  go_wp2_with fail
  go_loopw [11, 12] (fun v c wx => ∃ (i : Nat) (l : List Int), i ≤ m ∧ c = .int .i64 i ∧ Hid (l.length = i) ∧ Hid (∀ u ∈ l, In16 u) ∧ wx.ownsRow w.heap.size 30 1 v i (i16s l) ∧ Below w.heap.size w wx) (fun _ c _ => m - (intOf c).toNat)
  case atStart => exact ⟨0, [], Nat.zero_le _, rfl, Lib.hid rfl, Lib.hid (by intro u hu; cases hu), World.ownsRow_nil _ _ _ _, Below.refl _ _⟩
  case round =>
    obtain ⟨i, l, hi, rfl, hl, hl16, ho, hB⟩ := hrel
    have hsz := hB.size
    by_cases hlt : i < m
    · have fin : ∀ (u : Int) (w3 : World) (v2 : Value), In16 u → w3.ownsRow w.heap.size 30 1 v2 (i + 1) (i16s l ++ [.int .i16 u]) →
          ∃ l2 : List Int, Hid (l2.length = i + 1) ∧ Hid (∀ u ∈ l2, In16 u) ∧ w3.ownsRow w.heap.size 30 1 v2 (i + 1) (i16s l2) := by
        intro u w3 v2 hu ho3
        refine ⟨l ++ [u], Lib.hid (by rw [List.length_append, hl.out]; rfl), Lib.hid ?_, by rw [i16s_snoc]; exact ho3⟩
        intro t ht
        rcases List.mem_append.1 ht with ht | ht
        · exact hl16.out t ht
        · simp at ht; rw [ht]; exact hu
      have FIN := Lib.hid fin
      clear fin
      by_cases hin : i < n
      · obtain ⟨b', o, rfl, hbl, hc⟩ := cell_i16D HS.out i (by rw [HZ.out]; exact hin)
        have hc' := (hB.cell (p := ⟨b', o + i, none⟩) hbl).trans hc
        have hu := getD_in16 H16.out i
        obtain ⟨u, huu⟩ : ∃ u, u = z.getD i 0 := ⟨_, rfl⟩
        rw [← huu] at hc' hu
        clear hc huu
        go_wp2_with (at_builtin; refine wpList_app E16 rfl (.tmp 56) (.tmp 58) rfl w.heap.size rfl (ho.alloc _) rfl (Sl.one _ _ _) (by intro u hu; simp at hu; subst hu; rfl) (by unfold maxLen; omega) (by omega) (by simp; omega) ?_)
        intro v2 w3 ho3 hg3 _
        have hB3 := hB.trans (app_below ho hsz hg3)
        obtain ⟨l2, r1, r2, r3⟩ := FIN.out u w3 _ hu ho3
        clear ho hg3 hB ho3
        go_wp2_with fail
        go_roundw
        case rel => exact ⟨i + 1, l2, by omega, by go_num, r1, r2, r3, hB3⟩
        case measure => simp [intOf]; omega
      · go_wp2_with (at_builtin; refine wpList_app E16 rfl (.tmp 56) (.tmp 58) rfl w.heap.size rfl (ho.alloc _) rfl (Sl.one _ _ _) (by intro u hu; simp at hu; subst hu; rfl) (by unfold maxLen; omega) (by omega) (by simp; omega) ?_)
        intro v2 w3 ho3 hg3 _
        have hB3 := hB.trans (app_below ho hsz hg3)
        obtain ⟨l2, r1, r2, r3⟩ := FIN.out _ w3 _ ⟨by omega, by omega⟩ ho3
        clear ho hg3 hB ho3
        go_wp2_with fail
        go_roundw
        case rel => exact ⟨i + 1, l2, by omega, by go_num, r1, r2, r3, hB3⟩
        case measure => simp [intOf]; omega
    · obtain rfl : i = m := by omega
      obtain ⟨a1, cap1, rfl, hc11, hc12⟩ := ownsRow_slice ho
      have C1 := Lib.hid (CP.out a1 cap1 l hl.out hl16.out wr (Sl.of_own ho))
      clear CP
      go_wp2_with fail
      refine C1.out.mono ?_
      rintro e w2 ⟨v2, rfl, ho2, hA2⟩
      clear C1
      replace ho := ownsRow_below ho hA2
      have hB2 := hB.trans (hA2.mono hsz)
      clear hB hA2
      have C2 := Lib.hid (CG.out v2 l hl.out hl16.out w2 (Sl.of_own ho2))
      clear CG ho2
      go_wp2_with fail
      refine C2.out.mono ?_
      rintro e w3 ⟨v3, rfl, ho3, hA3⟩
      clear C2
      obtain ⟨a3, cap3, rfl, hc31, hc32⟩ := ownsRow_slice ho3
      replace ho := ownsRow_below ho hA3
      have hB3 := hB2.trans (hA3.mono hB2.size)
      clear hB2 hA3
      have C3 := Lib.hid (same16_any a3 a1 i cap3 cap1 l hl.out (by omega) w3 (Sl.of_own ho3) (Sl.of_own ho))
      clear ho ho3
      go_wp2_with fail
      refine C3.out.mono ?_
      rintro e w4 ⟨rfl, hA4⟩
      clear C3
      have hB4 := hB3.trans (hA4.mono hB3.size)
      clear hB3 hA4
      have C4 := Lib.hid (CA.out w4 (by have := HT.out.below hB4; rwa [HK.out] at this ⊢))
      clear CA
      go_wp2_with fail
      refine C4.out.mono ?_
      rintro e w5 (⟨d, v5, rfl, hd, hd16, hbs, ho5, hA5⟩ | ⟨c, hc, rfl, hA5⟩)
      · clear C4
        obtain ⟨a5, cap5, rfl, hc51, hc52⟩ := ownsRow_slice ho5
        have hB5 := hB4.trans (hA5.mono hB4.size)
        have C5 := CR.out a5 cap5 d hd hd16 w5 (Sl.of_own ho5)
        rw [← hbs] at C5
        have C5 := Lib.hid C5
        clear hB4 hA5 CR hbs hd hd16 ho5
        go_wp2_with fail
        refine C5.out.mono ?_
        rintro e w6 ⟨v6, rfl, ho6, hA6⟩
        clear C5
        have hB6 := hB5.trans (hA6.mono hB5.size)
        have C6 := Lib.hid (same_any v6 (.slice b k kcap) bs bs w6 (Sl.of_own ho6) (by have := HT.out.below hB6; rwa [HK.out] at this ⊢) rfl)
        clear hB5 hA6 ho6
        go_wp2_with fail
        refine C6.out.mono ?_
        rintro e wx ⟨rfl, rfl⟩
        clear C6
        go_wp2_with fail
        refine (works_any w6).mono ?_
        rintro e w7 ⟨rfl, hA7⟩
        go_wp2_with fail
        go_ret
        exact ⟨rfl, hB6.trans (hA7.mono hB6.size)⟩
      · clear C4
        have hB5 := hB4.trans (hA5.mono hB4.size)
        clear hB4 hA5
        rcases hc with rfl | rfl
        · go_wp2_with fail
          refine (works_any w5).mono ?_
          rintro e w7 ⟨rfl, hA7⟩
          go_wp2_with fail
          go_ret
          exact ⟨rfl, hB5.trans (hA7.mono hB5.size)⟩
        · go_wp2_with fail
          refine (works_any w5).mono ?_
          rintro e w7 ⟨rfl, hA7⟩
          go_wp2_with fail
          go_ret
          exact ⟨rfl, hB5.trans (hA7.mono hB5.size)⟩
end Go.Proofs.Ytapheokmoebgfaa
