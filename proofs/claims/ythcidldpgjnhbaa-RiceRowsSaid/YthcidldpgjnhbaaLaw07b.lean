/-
  RiceRows, RiceOne: the walks.
-/
import Derived.Test.YthcidldpgjnhbaaRiceU
set_option linter.unusedVariables false
set_option linter.unusedSimpArgs false
namespace Go.Proofs.Ythcidldpgjnhbaa
open Go Go.RowKit Go.Th

theorem rowOf_get (bs : List Nat) (j : Nat) (hj : j < 8 * bs.length) : (rowOf bs)[j]? = some (bitAt bs j) := by
  induction bs generalizing j with
  | nil => simp at hj
  | cons b r ih =>
    have hl : ((List.range 8).map fun k => b / 2 ^ (7 - k) % 2 == 1).length = 8 := by simp
    simp only [rowOf, List.flatMap_cons] at ih ⊢
    by_cases h : j < 8
    · rw [List.getElem?_append_left (by rw [hl]; exact h), List.getElem?_map, List.getElem?_range h]
      simp only [Option.map_some, bitAt, Option.some.injEq]
      rw [Nat.div_eq_of_lt h, Nat.mod_eq_of_lt h]
      rfl
    · rw [List.getElem?_append_right (by rw [hl]; omega), hl, ih (j - 8) (by simp at hj; omega)]
      simp only [bitAt, Option.some.injEq]
      have e1 : j / 8 = (j - 8) / 8 + 1 := by omega
      have e2 : (j - 8) % 8 = j % 8 := by omega
      rw [e1, e2]
      rfl
theorem here_row {bs : List Nat} {l : List Bool} (h : Here bs 0 l) (j : Nat) (hj : j < l.length) : (rowOf bs)[j]? = some l[j] := by
  have h1 := h.1
  have := here_get h j hj
  rw [Nat.zero_add] at this
  rw [rowOf_get bs j (by omega), this]
theorem bls_at (l : List Bool) (j : Nat) (hj : j < l.length) : (bls l)[j]? = some (.bool l[j]) := by simp [bls, hj]

set_option maxRecDepth 20000 in
set_option maxHeartbeats 3200000 in
theorem riceRows_any (a : Option Addr) (n cap : Nat) (m0 : List Int) (hn : m0.length = n) (h32 : ∀ x ∈ m0, In32 x) (w : World) (hS : Sl w 1 (.slice a n cap) n (i32s m0)) :
    Calls Try.prog 5 #[.slice a n cap] w fun e w' => e = .returned (.bool true) ∧ Below w.heap.size w w' := by
  by_cases hbig : 60 < n
  · have hb' : (60 : Int) < (n : Int) := by omega
    have hmx := hS.max
    go_enter Try.func5, Try.ntmps5
    go_wp2_with fail
    refine (works_any w).mono ?_
    rintro e w1 ⟨rfl, hB⟩
    go_wp2_with fail
    go_ret
    exact ⟨rfl, hB⟩
  have hb' : ¬ ((60 : Int) < (n : Int)) := by omega
  have C1 := Lib.hid (small_any a n cap m0 hn (by omega) h32 w hS)
  have hmx := hS.max
  have hml : (m0.map sm).length = n := by rw [List.length_map, hn]
  have hroom := sm_all m0
  obtain ⟨m, hm⟩ : ∃ m, m = m0.map sm := ⟨_, rfl⟩
  rw [← hm] at C1 hml hroom
  clear hm h32 hS hn
  obtain ⟨xs, hxs⟩ := exists_i32 m (fun x hx => rm_32 (hroom x hx))
  have hxl : n = xs.length := by rw [← hml, ← hxs, List.length_map]
  have hm32 : ∀ x ∈ m, In32 x := fun x hx => rm_32 (hroom x hx)
  have hrl := row_length m
  have hsl := sizes_le m (best m) (best_le m)
  have hRA := rowAt_pack m n hml hroom
  have hpl : (pack (row m)).length ≤ 300 := by rw [pack_length, hrl]; omega
  have CROW := fun a2 cap2 pb base v wx h hb hs hA => row_any a2 n cap2 xs hxl (by omega) pb 0 base v [] wx h (by simp) hb hs hA
  rw [hxs] at CROW
  have CB := fun a2 cap2 wx hs => best_any a2 n cap2 xs hxl (by omega) wx hs
  rw [hxs] at CB
  have CRB := fun a2 cap2 wx hs => refBest_any a2 n cap2 m hml (by omega) hm32 wx hs
  have CRR := fun a2 cap2 wx hs => refRow7_any a2 n cap2 m hml (by omega) hm32 wx hs
  obtain ⟨k, hk⟩ : ∃ k, k = best m := ⟨_, rfl⟩
  rw [← hk] at hrl hsl CB CRB
  obtain ⟨z, hz⟩ : ∃ z, z = sizes m k := ⟨_, rfl⟩
  rw [← hz] at hrl hsl CB
  obtain ⟨L, hL⟩ : ∃ L, L = row m := ⟨_, rfl⟩
  rw [← hL] at CROW CRR hRA hpl hrl
  have CI := fun pb base vr wx h => isrow_yes n (by omega) m pb 0 base vr (pack L) 0 wx h hRA
  rw [← hL] at CI
  have hll : L.length ≤ 2400 := by omega
  have hzb : z ≤ 2300 := by omega
  have CROW := Lib.hid CROW
  have CB := Lib.hid CB
  have CRB := Lib.hid CRB
  have CRR := Lib.hid CRR
  have CI := Lib.hid CI
  have HRL := Lib.hid hrl
  have HML := Lib.hid hml
  have hkk : ((k : Int) != (k : Int)) = false := by simp
  have hzL : ((z : Int) + 5 != (L.length : Int)) = false := by simp; omega
  have hLL : ((L.length : Int) != (L.length : Int)) = false := by simp
  have hnn : ((n : Int) != (n : Int)) = false := by simp
  clear hxs hxl hm32 hRA hk hz hL hroom hrl hml hsl hbig
  go_enter Try.func5, Try.ntmps5
  go_wp2_with fail
  refine C1.out.mono ?_
  rintro e w1 ⟨v1, rfl, ho1, hB1⟩
  clear C1
  obtain ⟨a2, cap2, rfl, hc1, hc2⟩ := ownsRow_slice ho1
  have hab := (Sl.of_own ho1).block_lt
  have hob := fun q hq => (ho1.lt q hq).2
  have hz1 := hB1.size
  have hV3 := winv_new w1
  have hA3 : Below w1.heap.size w1 (w1.alloc (.cells #[.slice none 0 0, .int .i64 0] 31)) := (Below.refl _ _).alloc (Nat.le_refl _) _
  go_wp2_with fail
  obtain ⟨w3, hw3⟩ : ∃ w3, w1.alloc (.cells #[.slice none 0 0, .int .i64 0] 31) = w3 := ⟨_, rfl⟩
  rw [hw3] at hV3 hA3 ⊢
  clear hw3
  replace ho1 := ownsRow_below ho1 hA3
  have hB3 := hB1.trans (hA3.mono hB1.size)
  have hz3 := hA3.size
  have hVl := hV3.lt
  obtain ⟨A, hA⟩ : ∃ A, w1.heap.size = A := ⟨_, rfl⟩
  rw [hA] at hV3 hz3 hVl hz1 hab hob ⊢
  clear hA hA3 hB1
  refine (CROW.out a2 cap2 A A _ w3 hV3 hz3 (Sl.of_own ho1) (fun p hp h0 => ⟨hab p hp h0, by have := hab p hp h0; omega⟩)).mono ?_
  rintro e w4 ⟨rfl, v4, hV4, hG4⟩
  rw [List.nil_append] at hV4
  have hB4 := hG4.turned.old hB3 hB3.size (by
    rintro q hq (e | e)
    · omega
    · simp [Value.ownBlock] at e)
  replace ho1 := hG4.turned.own ho1 (by
    rintro q hq (rfl | e)
    · have := hob _ hq; omega
    · simp [Value.ownBlock] at e)
  have hz4 := hG4.turned.size
  clear hV3 hG4 hB3 CROW hab
  have C2 := Lib.hid (CRR.out a2 cap2 w4 (Sl.of_own ho1))
  go_wp2_with fail
  refine C2.out.mono ?_
  rintro e w5 ⟨v5, rfl, ho5, hA5⟩
  clear C2 CRR
  obtain ⟨a5, cap5, rfl, hc51, hc52⟩ := ownsRow_slice ho5
  replace hV4 := hV4.below hA5
  replace ho1 := ownsRow_below ho1 hA5
  have hB5 := hB4.trans (hA5.mono hB4.size)
  have hz5 := hA5.size
  clear hB4 hA5
  have C3 := Lib.hid (CB.out a2 cap2 w5 (Sl.of_own ho1))
  go_wp2_with fail
  refine C3.out.mono ?_
  rintro e w6 ⟨rfl, hA6⟩
  clear C3 CB
  replace hV4 := hV4.below hA6
  replace ho1 := ownsRow_below ho1 hA6
  replace ho5 := ownsRow_below ho5 hA6
  have hB6 := hB5.trans (hA6.mono hB5.size)
  have hz6 := hA6.size
  clear hB5 hA6
  have C4 := Lib.hid (bytes_any _ _ _ _ _ _ hV4 (by omega))
  go_wp2_with fail
  refine C4.out.mono ?_
  rintro e w7 ⟨v7, rfl, ho7, hA7⟩
  clear C4
  have C5 := Lib.hid (read_any v7 _ w7 (Sl.of_own ho7) (by omega) (pack_lt _))
  replace hV4 := hV4.below hA7
  replace ho1 := ownsRow_below ho1 hA7
  replace ho5 := ownsRow_below ho5 hA7
  have hB7 := hB6.trans (hA7.mono hB6.size)
  have hz7 := hA7.size
  clear hB6 hA7 ho7
  go_wp2_with fail
  refine C5.out.mono ?_
  rintro e w8 ⟨rb, vr, rfl, hrb, hR8, hA8⟩
  clear C5
  replace hV4 := hV4.below hA8
  replace ho1 := ownsRow_below ho1 hA8
  replace ho5 := ownsRow_below ho5 hA8
  have hB8 := hB7.trans (hA8.mono hB7.size)
  have hz8 := hA8.size
  clear hB7 hA8
  have C6 := Lib.hid (CRB.out a2 cap2 w8 (Sl.of_own ho1))
  go_wp2_with fail
  refine C6.out.mono ?_
  rintro e w9 ⟨rfl, hA9⟩
  clear C6 CRB
  replace hV4 := hV4.below hA9
  replace hR8 := hR8.below hA9
  replace ho1 := ownsRow_below ho1 hA9
  replace ho5 := ownsRow_below ho5 hA9
  have hB9 := hB8.trans (hA9.mono hB8.size)
  have hz9 := hA9.size
  clear hB8 hA9
  have C7 := Lib.hid (bytes_any _ _ _ _ _ _ hV4 (by omega))
  go_wp2_with fail
  refine C7.out.mono ?_
  rintro e w10 ⟨v10, rfl, ho10, hA10⟩
  clear C7 hV4
  replace hR8 := hR8.below hA10
  replace ho1 := ownsRow_below ho1 hA10
  replace ho5 := ownsRow_below ho5 hA10
  have hB10 := hB9.trans (hA10.mono hB9.size)
  clear hB9 hA10
  have C8 := Lib.hid (refBytes_any _ L w10 (Sl.of_own ho5) (Nat.le_trans hll (by decide)))
  go_wp2_with fail
  refine C8.out.mono ?_
  rintro e w11 ⟨v11, rfl, ho11, hA11⟩
  clear C8
  replace hR8 := hR8.below hA11
  replace ho1 := ownsRow_below ho1 hA11
  replace ho10 := ownsRow_below ho10 hA11
  have hB11 := hB10.trans (hA11.mono hB10.size)
  clear hB10 hA11 ho5
  have C9 := Lib.hid (same_any v10 v11 _ _ w11 (Sl.of_own ho10) (Sl.of_own ho11) rfl)
  go_wp2_with fail
  refine C9.out.mono ?_
  rintro e wx ⟨rfl, rfl⟩
  clear C9 ho10 ho11
  have C10 := Lib.hid (CI.out rb _ vr w11 hR8)
  go_wp2_with fail
  refine C10.out.mono ?_
  rintro e w12 ⟨v12, rfl, ho12, hR12, hT12⟩
  clear C10 CI hR8
  obtain ⟨a12, cap12, rfl, hc121, hc122⟩ := ownsRow_slice ho12
  rw [Nat.zero_add] at hR12
  replace ho1 := hT12.own ho1 (by rintro q hq rfl; have := hob _ hq; omega)
  have hB12 := hT12.old hB11 hB11.size (by rintro q hq rfl; omega)
  clear hB11 hT12 hob
  have C11 := Lib.hid (at_any rb 0 _ vr _ _ _ w12 hR12)
  go_wp2_with fail
  refine C11.out.mono ?_
  rintro e wx ⟨rfl, rfl⟩
  clear C11 hR12
  go_wp2_with fail
  go_loopw [11] (fun c wx => ∃ i : Nat, i ≤ n ∧ c = .int .i64 i ∧ wx.ownsRow w.heap.size 21 1 (.slice a2 n cap2) n (i32s m) ∧ wx.ownsRow w11.heap.size 21 1 (.slice a12 n cap12) n (i32s m) ∧ Below w.heap.size w wx) (fun c _ => n - (intOf c).toNat)
  case atStart => exact ⟨0, Nat.zero_le _, rfl, ho1, ho12, hB12⟩
  case round =>
    clear ho1 ho12 hB12
    obtain ⟨i, hi, rfl, ho1, ho12, hB⟩ := hrel
    by_cases hlt : i < n
    · have him : i < m.length := by rw [HML.out]; exact hlt
      obtain ⟨b1, o1, e1, hbl1, d1⟩ := cell_i32 (Sl.of_own ho1) i him
      obtain ⟨b2, o2, e2, hbl2, d2⟩ := cell_i32 (Sl.of_own ho12) i him
      subst e1 e2
      obtain ⟨y, hy⟩ : ∃ y, y = m[i] := ⟨_, rfl⟩
      rw [← hy] at d1 d2
      clear hy
      have hyy : (y != y) = false := by simp
      go_wp2_with fail
      go_quiet (fail)
      go_wp2_with fail
      go_roundw
      case rel => exact ⟨i + 1, by omega, by go_num, ho1, ho12, below_dN hB _⟩
      case measure => simp [intOf]; omega
    · obtain rfl : i = n := by omega
      go_wp2_with fail
      refine (works_any wr).mono ?_
      rintro e w14 ⟨rfl, hA14⟩
      go_wp2_with fail
      go_ret
      exact ⟨rfl, hB.trans (hA14.mono hB.size)⟩

set_option maxRecDepth 20000 in
set_option maxHeartbeats 3200000 in
theorem riceOne_big (a : Option Addr) (n cap k : Nat) (bs : List Nat) (hn : n = bs.length) (hk : k < 256) (w : World) (hS : Sl w 1 (.slice a n cap) n (u8s bs)) (hbig : 100 < n ∨ 60 < k) :
    Calls Try.prog 6 #[.slice a n cap, .int .u8 k] w fun e w' => e = .returned (.bool true) ∧ Below w.heap.size w w' := by
  have hmx := hS.max
  by_cases h1 : 100 < n
  · have hb' : (100 : Int) < (n : Int) := by omega
    go_enter Try.func6, Try.ntmps6
    go_wp2_with fail
    refine (works_any w).mono ?_
    rintro e w1 ⟨rfl, hB⟩
    go_wp2_with fail
    go_ret
    exact ⟨rfl, hB⟩
  · have hb' : ¬ (100 : Int) < (n : Int) := by omega
    have hb2 : (60 : Int) < (k : Int) := by omega
    go_enter Try.func6, Try.ntmps6
    go_wp2_with fail
    refine (works_any w).mono ?_
    rintro e w1 ⟨rfl, hB⟩
    go_wp2_with fail
    go_ret
    exact ⟨rfl, hB⟩

set_option maxRecDepth 20000 in
set_option maxHeartbeats 3200000 in
theorem riceOne_no (a : Option Addr) (n cap k : Nat) (bs : List Nat) (hn : n = bs.length) (hk : k ≤ 60) (h100 : n ≤ 100) (hbyte : ∀ x ∈ bs, x < 256) (w : World) (hS : Sl w 1 (.slice a n cap) n (u8s bs)) (H : ∀ m, ¬ RowAt bs 0 k m) :
    Calls Try.prog 6 #[.slice a n cap, .int .u8 k] w fun e w' => e = .returned (.bool true) ∧ Below w.heap.size w w' := by
  have hmx := hS.max
  have hb1 : ¬ (100 : Int) < (n : Int) := by omega
  have hb2 : ¬ (60 : Int) < (k : Int) := by omega
  have C1 := Lib.hid (read_any (.slice a n cap) bs w (by rw [← hn]; exact hS) (by omega) hbyte)
  have CI := Lib.hid (fun pb base vr wx h => isrow_no k (by omega) pb 0 base vr bs 0 wx h H)
  clear H hbyte hn
  go_enter Try.func6, Try.ntmps6
  go_wp2_with fail
  refine C1.out.mono ?_
  rintro e w1 ⟨rb, vr, rfl, hrb, hR1, hB1⟩
  clear C1
  have C2 := Lib.hid (CI.out rb _ vr w1 hR1)
  go_wp2_with fail
  refine C2.out.mono ?_
  rintro e w2 ⟨rfl, hT2⟩
  have hB2 := hT2.old hB1 hB1.size (by rintro q hq rfl; omega)
  go_wp2_with fail
  refine (works_any w2).mono ?_
  rintro e w3 ⟨rfl, hA3⟩
  go_wp2_with fail
  go_ret
  exact ⟨rfl, hB2.trans (hA3.mono hB2.size)⟩

theorem cell_bool {w : World} {a : Option Addr} {n cap : Nat} {l : List Bool} {b : Bool} (hS : Sl w 1 (.slice a n cap) n (bls l)) (i : Nat) (hi : l[i]? = some b) :
    ∃ g o, a = some ⟨g, o, none⟩ ∧ w.cell? ⟨g, o + i, none⟩ = some (.bool b) := by
  obtain ⟨a', c', he, _, _, _, _, h5⟩ := hS
  cases he
  obtain ⟨g, o, e, hc⟩ := h5 i (.bool b) (by simp [bls, hi])
  exact ⟨g, o, e, hc⟩

set_option maxRecDepth 20000 in
set_option maxHeartbeats 3200000 in
theorem riceOne_yes (a : Option Addr) (n cap k : Nat) (bs : List Nat) (m : List Int) (hn : n = bs.length) (hk : k ≤ 60) (h100 : n ≤ 100) (hbyte : ∀ x ∈ bs, x < 256) (w : World) (hS : Sl w 1 (.slice a n cap) n (u8s bs)) (H : RowAt bs 0 k m) :
    Calls Try.prog 6 #[.slice a n cap, .int .u8 k] w fun e w' => e = .returned (.bool true) ∧ Below w.heap.size w w' := by
  have hmx := hS.max
  have hb1 : ¬ (100 : Int) < (n : Int) := by omega
  have hb2 : ¬ (60 : Int) < (k : Int) := by omega
  have hS1 : Sl w 1 (.slice a n cap) bs.length (u8s bs) := by rw [← hn]; exact hS
  have C1 := Lib.hid (read_any (.slice a n cap) bs w hS1 (by omega) hbyte)
  have CI := Lib.hid (fun pb base vr wx h => isrow_yes k (by omega) m pb 0 base vr bs 0 wx h H)
  have hm32 : ∀ x ∈ m, In32 x := fun x hx => rm_32 (H.room x hx)
  have CRR := Lib.hid (fun a2 cap2 wx hs => refRow7_any a2 k cap2 m H.len (by omega) hm32 wx hs)
  have CRB := Lib.hid (fun wx hs => refRow_any (.slice a n cap) bs wx hs (by omega) hbyte)
  have hlr := H.here.1
  have hrr := rowOf_length bs
  have hget := here_row H.here
  obtain ⟨L, hL⟩ : ∃ L, L = row m := ⟨_, rfl⟩
  obtain ⟨R, hR⟩ : ∃ R, R = rowOf bs := ⟨_, rfl⟩
  rw [← hL] at hlr hget
  rw [← hR] at hrr hget
  have CI := Lib.hid CI.out
  have CRR := Lib.hid CRR.out
  have CRB := Lib.hid CRB.out
  rw [← hL] at CI CRR
  rw [← hR] at CRB
  have HG := Lib.hid hget
  have HS := Lib.hid hS1
  have hRl : R.length ≤ 800 := by omega
  have hLR : L.length ≤ R.length := by omega
  clear H hbyte hn hL hR hm32 hget hS1 hS hlr hrr
  have hkk : ((k : Int) != (k : Int)) = false := by simp
  have hLL : ((L.length : Int) != (L.length : Int)) = false := by simp
  go_enter Try.func6, Try.ntmps6
  go_wp2_with fail
  refine C1.out.mono ?_
  rintro e w1 ⟨rb, vr, rfl, hrb, hR1, hB1⟩
  clear C1
  have C2 := Lib.hid (CI.out rb _ vr w1 hR1)
  clear CI
  go_wp2_with fail
  refine C2.out.mono ?_
  rintro e w2 ⟨v2, rfl, ho2, hR2, hT2⟩
  clear C2 hR1
  rw [Nat.zero_add] at hR2
  obtain ⟨a2, cap2, rfl, hc1, hc2⟩ := ownsRow_slice ho2
  have hB2 := hT2.old hB1 hB1.size (by rintro q hq rfl; omega)
  clear hT2 hB1
  have C3 := Lib.hid (CRR.out a2 cap2 w2 (Sl.of_own ho2))
  clear CRR
  go_wp2_with fail
  refine C3.out.mono ?_
  rintro e w3 ⟨v3, rfl, ho3, hA3⟩
  clear C3 ho2
  obtain ⟨a3, cap3, rfl, hc31, hc32⟩ := ownsRow_slice ho3
  replace hR2 := hR2.below hA3
  have hB3 := hB2.trans (hA3.mono hB2.size)
  clear hB2 hA3
  have C4 := Lib.hid (CRB.out w3 (HS.out.below hB3))
  clear CRB
  go_wp2_with fail
  refine C4.out.mono ?_
  rintro e w4 ⟨v4, rfl, ho4, hA4⟩
  clear C4
  obtain ⟨a4, cap4, rfl, hc41, hc42⟩ := ownsRow_slice ho4
  replace hR2 := hR2.below hA4
  replace ho3 := ownsRow_below ho3 hA4
  have hB4 := hB3.trans (hA4.mono hB3.size)
  clear hB3 hA4
  have C5 := Lib.hid (at_any rb 0 _ vr _ _ _ w4 hR2)
  go_wp2_with fail
  refine C5.out.mono ?_
  rintro e wx ⟨rfl, rfl⟩
  clear C5 hR2
  go_wp2_with fail
  go_loopw [10] (fun c wx => ∃ i : Nat, i ≤ L.length ∧ c = .int .i64 i ∧ wx.ownsRow w2.heap.size 4 1 (.slice a3 L.length cap3) L.length (bls L) ∧ wx.ownsRow w3.heap.size 4 1 (.slice a4 R.length cap4) R.length (bls R) ∧ Below w.heap.size w wx) (fun c _ => L.length - (intOf c).toNat)
  case atStart => exact ⟨0, Nat.zero_le _, rfl, ho3, ho4, hB4⟩
  case round =>
    clear ho3 ho4 hB4
    obtain ⟨i, hi, rfl, ho3, ho4, hB⟩ := hrel
    by_cases hlt : i < L.length
    · have hg1 := HG.out i hlt
      have hg2 := List.getElem?_eq_getElem hlt
      obtain ⟨y, hy⟩ : ∃ y, y = L[i] := ⟨_, rfl⟩
      rw [← hy] at hg1 hg2
      clear hy
      obtain ⟨b1, o1, e1, d1⟩ := cell_bool (Sl.of_own ho3) i hg2
      obtain ⟨b2, o2, e2, d2⟩ := cell_bool (Sl.of_own ho4) i hg1
      subst e1 e2
      have hyy : (y != y) = false := by simp
      have hiR : i < R.length := by omega
      clear hg1 hg2
      go_wp2_with fail
      go_quiet (fail)
      go_wp2_with fail
      go_roundw
      case rel => exact ⟨i + 1, by omega, by go_num, ho3, ho4, below_dN hB _⟩
      case measure => simp [intOf]; omega
    · obtain rfl : i = L.length := by omega
      go_wp2_with fail
      refine (works_any wr).mono ?_
      rintro e w14 ⟨rfl, hA14⟩
      go_wp2_with fail
      go_ret
      exact ⟨rfl, hB.trans (hA14.mono hB.size)⟩

theorem riceOne_any (a : Option Addr) (n cap k : Nat) (bs : List Nat) (hn : n = bs.length) (hk : k < 256) (hbyte : ∀ x ∈ bs, x < 256) (w : World) (hS : Sl w 1 (.slice a n cap) n (u8s bs)) :
    Calls Try.prog 6 #[.slice a n cap, .int .u8 k] w fun e w' => e = .returned (.bool true) ∧ Below w.heap.size w w' := by
  by_cases hbig : 100 < n ∨ 60 < k
  · exact riceOne_big a n cap k bs hn hk w hS hbig
  · by_cases H : ∃ m, RowAt bs 0 k m
    · obtain ⟨m, H⟩ := H
      exact riceOne_yes a n cap k bs m hn (by omega) (by omega) hbyte w hS H
    · exact riceOne_no a n cap k bs hn (by omega) (by omega) hbyte w hS (fun m h => H ⟨m, h⟩)
end Go.Proofs.Ythcidldpgjnhbaa
