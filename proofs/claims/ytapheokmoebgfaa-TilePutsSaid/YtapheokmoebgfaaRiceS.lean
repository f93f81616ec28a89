/-
  The reference's sizes, best parameter and rows.
-/
import Derived.Test.YtapheokmoebgfaaRiceR
import Derived.Test.YtapheokmoebgfaaRiceC
set_option linter.unusedVariables false
set_option linter.unusedSimpArgs false
namespace Go.Proofs.Ytapheokmoebgfaa
open Go Go.RowKit Go.Th

theorem cell_i32 {w : World} {a : Option Addr} {n cap : Nat} {m : List Int} (hS : Sl w 1 (.slice a n cap) n (i32s m)) (i : Nat) (hi : i < m.length) :
    ∃ b o, a = some ⟨b, o, none⟩ ∧ b < w.heap.size ∧ w.cell? ⟨b, o + i, none⟩ = some (.int .i32 m[i]) := by
  obtain ⟨a', c', he, _, _, _, _, h5⟩ := hS
  cases he
  obtain ⟨b, o, e, hc⟩ := h5 i _ (i32s_at m i hi)
  exact ⟨b, o, e, by have := World.block_lt_of_cell? w _ hc; simpa using this, hc⟩

set_option maxRecDepth 20000 in
set_option maxHeartbeats 1600000 in
theorem refSize_any (a : Option Addr) (n cap k : Nat) (m : List Int) (hn : m.length = n) (hmax : n ≤ 1000) (h32 : ∀ x ∈ m, In32 x) (hk : k ≤ 16) (w : World) (hS : Sl w 1 (.slice a n cap) n (i32s m)) :
    Calls Try.prog 55 #[.slice a n cap, .int .i64 k] w fun e w' => e = .returned (.int .i64 (sizes m k : Nat)) ∧ Below w.heap.size w w' := by
  have hmx := hS.max
  have HN := Lib.hid hn; clear hn
  have H32 := Lib.hid h32; clear h32
  have HS := Lib.hid hS; clear hS
  go_enter Try.func55, Try.ntmps55
  go_wp2_with fail
  go_loopw [5, 6] (fun s c wx => ∃ i : Nat, i ≤ n ∧ c = .int .i64 i ∧ s = .int .i64 (sizes (m.take i) k : Nat) ∧ Below w.heap.size w wx) (fun _ c _ => n - (intOf c).toNat)
  case atStart => exact ⟨0, Nat.zero_le _, rfl, rfl, Below.refl _ _⟩
  case round =>
    obtain ⟨i, hi, rfl, rfl, hB⟩ := hrel
    by_cases hlt : i < n
    · have him : i < m.length := by rw [HN.out]; exact hlt
      obtain ⟨b, o, rfl, hbl, hc⟩ := cell_i32 HS.out i him
      have hc' := (hB.cell (p := ⟨b, o + i, none⟩) hbl).trans hc
      have hts := take_snoc m i him
      obtain ⟨h1, h2⟩ := H32.out m[i] (List.getElem_mem _)
      have hsz := sizes_le (m.take i) k hk
      rw [List.length_take, Nat.min_eq_left (Nat.le_of_lt him)] at hsz
      obtain ⟨y, hy⟩ : ∃ y, y = m[i] := ⟨_, rfl⟩
      rw [← hy] at hc' hts h1 h2
      clear hy hc
      have C1 := refFold_go y h1 h2
      have C2 := fun wx => refCode_any (fold y) k (fold_max y h1 h2) hk wx
      have hss := sizes_snoc (m.take i) y k
      rw [← hts] at hss
      have hsl := size_le (fold y) k hk
      obtain ⟨f, hf⟩ : ∃ f, f = fold y := ⟨_, rfl⟩
      rw [← hf] at C1 C2 hss hsl
      obtain ⟨z, hz⟩ : ∃ z, z = size f k := ⟨_, rfl⟩
      rw [← hz] at C2 hss hsl
      obtain ⟨s, hs⟩ : ∃ s, s = sizes (m.take i) k := ⟨_, rfl⟩
      rw [← hs] at hsz hss ⊢
      have HSS := Lib.hid hss
      have C1 := Lib.hid C1
      have C2 := Lib.hid C2
      clear hss hts hf hz hs h1 h2
      go_wp2_with fail
      refine (C1.out _).mono ?_
      rintro e w1 ⟨rfl, rfl⟩
      clear C1
      go_wp2_with fail
      refine (C2.out _).mono ?_
      rintro e w2 ⟨v2, rfl, ho2, hB2⟩
      clear C2
      obtain ⟨a2, cap2, rfl, hx1, hx2⟩ := ownsRow_slice ho2
      replace hB2 := hB.trans (hB2.mono hB.size)
      clear hB ho2
      go_wp2_with fail
      go_roundw
      case rel => exact ⟨i + 1, by omega, by go_num, by rw [HSS.out, Int.natCast_add], hB2⟩
      case measure => simp [intOf]; omega
    · obtain rfl : i = n := by omega
      rw [List.take_of_length_le (by rw [HN.out]; exact Nat.le_refl _)]
      go_wp2_with fail
      go_ret
      exact ⟨rfl, hB⟩

set_option maxRecDepth 20000 in
set_option maxHeartbeats 1600000 in
theorem refBest_any (a : Option Addr) (n cap : Nat) (m : List Int) (hn : m.length = n) (hmax : n ≤ 1000) (h32 : ∀ x ∈ m, In32 x) (w : World) (hS : Sl w 1 (.slice a n cap) n (i32s m)) :
    Calls Try.prog 39 #[.slice a n cap] w fun e w' => e = .returned (.int .i64 (best m : Nat)) ∧ Below w.heap.size w w' := by
  have CT := fun k hk wx hx => refSize_any a n cap k m hn hmax h32 hk wx hx
  have HC := Lib.hid CT
  have HS := Lib.hid hS
  clear hn hmax h32 CT hS
  go_enter Try.func39, Try.ntmps39
  go_wp2_with fail
  go_loopw [3, 4] (fun b c wr => ∃ j : Nat, j ≤ 16 ∧ c = .int .i64 ((j + 1 : Nat) : Int) ∧ b = .int .i64 (bestTo m j : Nat) ∧ Below w.heap.size w wr) (fun _ c _ => 18 - (intOf c).toNat)
  case atStart => exact ⟨0, by omega, rfl, rfl, Below.refl _ _⟩
  case round =>
    obtain ⟨j, hj, rfl, rfl, hB⟩ := hrel
    have hbl := bestTo_le m j
    by_cases hlt : j < 16
    · have C1 := HC.out (j + 1) (by omega) wr (HS.out.below hB)
      have C2 := fun wx hx => HC.out (bestTo m j) (by omega) wx hx
      have hy := bestTo_yes m j
      have hno := bestTo_no m j
      obtain ⟨s, hs⟩ : ∃ s, s = sizes m (j + 1) := ⟨_, rfl⟩
      obtain ⟨t, ht⟩ : ∃ t, t = sizes m (bestTo m j) := ⟨_, rfl⟩
      rw [← hs, ← ht] at hy hno
      rw [← hs] at C1
      rw [← ht] at C2
      obtain ⟨b, hb⟩ : ∃ b, b = bestTo m j := ⟨_, rfl⟩
      rw [← hb] at hbl C2 hno ⊢
      have HY := Lib.hid hy
      have HNO := Lib.hid hno
      have C1 := Lib.hid C1
      have C2 := Lib.hid C2
      clear hs ht hb hy hno
      go_wp2_with fail
      refine C1.out.mono ?_
      rintro e w2 ⟨rfl, hB2⟩
      clear C1
      replace hB2 := hB.trans (hB2.mono hB.size)
      have hS2 := HS.out.below hB2
      go_wp2_with fail
      refine (C2.out _ hS2).mono ?_
      rintro e w3 ⟨rfl, hB3⟩
      clear C2 hS2
      replace hB3 := hB2.trans (hB3.mono hB2.size)
      clear hB hB2
      by_cases hc : s < t
      · have HB := Lib.hid (HY.out hc)
        clear HY HNO
        go_wp2_with fail
        go_roundw
        case rel => exact ⟨j + 1, by omega, by go_num, by rw [HB.out, Int.natCast_add]; rfl, hB3⟩
        case measure => simp [intOf]; omega
      · have HB := Lib.hid (HNO.out hc)
        clear HY HNO
        go_wp2_with fail
        go_roundw
        case rel => exact ⟨j + 1, by omega, by go_num, by rw [HB.out], hB3⟩
        case measure => simp [intOf]; omega
    · obtain rfl : j = 16 := by omega
      go_wp2_with fail
      go_ret
      exact ⟨rfl, hB⟩

set_option maxRecDepth 20000 in
set_option maxHeartbeats 1600000 in
theorem refRow7_any (a : Option Addr) (n cap : Nat) (m : List Int) (hn : m.length = n) (hmax : n ≤ 1000) (h32 : ∀ x ∈ m, In32 x) (w : World) (hS : Sl w 1 (.slice a n cap) n (i32s m)) :
    Calls Try.prog 25 #[.slice a n cap] w fun e w' => ∃ v, e = .returned v ∧ w'.ownsRow w.heap.size 4 1 v (row m).length (bls (row m)) ∧ Below w.heap.size w w' := by
  have C0 := refBest_any a n cap m hn hmax h32 w hS
  have hmx := hS.max
  have hrl := row_length m
  have hrd : row m = numBits (best m) 5 ++ codes m (best m) := rfl
  have hk := best_le m
  obtain ⟨k, hkk⟩ : ∃ k, k = best m := ⟨_, rfl⟩
  rw [← hkk] at C0 hrl hrd hk
  have HN := Lib.hid hn; clear hn
  have H32 := Lib.hid h32; clear h32
  have HS := Lib.hid hS; clear hS
  have HRL := Lib.hid hrl; clear hrl
  have HRD := Lib.hid hrd; clear hrd
  have C0 := Lib.hid C0
  clear hkk
  go_enter Try.func25, Try.ntmps25
  go_wp2_with fail
  refine C0.out.mono ?_
  rintro e w1 ⟨rfl, hB1⟩
  clear C0
  have hku : IntKind.u32.wrap (k : Int) = (k : Int) := by rw [IntKind.wrap_u32']; omega
  have C1 := Lib.hid (number_any k 5 (by omega) (by omega) w1)
  go_wp2_with fail
  refine C1.out.mono ?_
  rintro e w2 ⟨v2, rfl, ho2, hB2⟩
  clear C1
  replace ho2 := ownsRow_base ho2 hB1.size
  replace hB2 := hB1.trans (hB2.mono hB1.size)
  clear hB1 hku
  go_wp2_with fail
  go_loopw [4, 5] (fun v c wx => ∃ i : Nat, i ≤ n ∧ c = .int .i64 i ∧ wx.ownsRow w.heap.size 4 1 v (5 + sizes (m.take i) k) (bls (numBits k 5 ++ codes (m.take i) k)) ∧ Below w.heap.size w wx) (fun _ c _ => n - (intOf c).toNat)
  case atStart => exact ⟨0, Nat.zero_le _, rfl, by simpa [codes_nil, sizes_nil] using ho2, hB2⟩
  case round =>
    clear ho2 hB2
    obtain ⟨i, hi, rfl, ho, hB⟩ := hrel
    have hszw := hB.size
    by_cases hlt : i < n
    · have him : i < m.length := by rw [HN.out]; exact hlt
      obtain ⟨b, o, rfl, hbl, hc⟩ := cell_i32 HS.out i him
      have hc' := (hB.cell (p := ⟨b, o + i, none⟩) hbl).trans hc
      have hts := take_snoc m i him
      obtain ⟨h1, h2⟩ := H32.out m[i] (List.getElem_mem _)
      have hsz := sizes_le (m.take i) k hk
      rw [List.length_take, Nat.min_eq_left (Nat.le_of_lt him)] at hsz
      obtain ⟨y, hy⟩ : ∃ y, y = m[i] := ⟨_, rfl⟩
      rw [← hy] at hc' hts h1 h2
      clear hy hc
      have C1 := refFold_go y h1 h2
      have C2 := fun wx => refCode_any (fold y) k (fold_max y h1 h2) hk wx
      have hss := sizes_snoc (m.take i) y k
      have hcc := codes_snoc (m.take i) y k
      rw [← hts] at hss hcc
      have hsl := size_le (fold y) k hk
      obtain ⟨f, hf⟩ : ∃ f, f = fold y := ⟨_, rfl⟩
      rw [← hf] at C1 C2 hss hsl hcc
      obtain ⟨z, hz⟩ : ∃ z, z = size f k := ⟨_, rfl⟩
      rw [← hz] at C2 hss hsl
      obtain ⟨s, hs⟩ : ∃ s, s = sizes (m.take i) k := ⟨_, rfl⟩
      rw [← hs] at hsz hss ho
      have HSS := Lib.hid hss
      have HCC := Lib.hid hcc
      have C1 := Lib.hid C1
      have C2 := Lib.hid C2
      clear hss hcc hts hf hz hs h1 h2
      go_wp2_with fail
      refine (C1.out _).mono ?_
      rintro e w3 ⟨rfl, rfl⟩
      clear C1
      go_wp2_with fail
      refine (C2.out _).mono ?_
      rintro e w4 ⟨v4, rfl, ho4, hB4⟩
      clear C2
      have ho5 := ownsRow_below ho hB4
      replace hB4 := hB.trans (hB4.mono hB.size)
      have hsz4 := hB4.size
      clear hB ho
      go_wp2_with (at_builtin; refine wpList_app Ebool rfl (.tmp 17) (.tmp 24) rfl w.heap.size rfl ho5 rfl (Sl.of_own ho4) (oneCell_bls _) (by unfold maxLen; omega) (by omega) (by omega) ?_)
      intro v6 w6 ho6 hg6 _
      have hB6 := hB4.grown hg6 (by omega) (fun j hj => (ho5.lt j hj).1)
      clear ho5 hg6 hB4 ho4
      go_wp2_with fail
      go_roundw
      case rel =>
        refine ⟨i + 1, by omega, by go_num, ?_, hB6⟩
        rw [HSS.out, HCC.out, ← Nat.add_assoc, ← List.append_assoc, bls_append]
        exact ho6
      case measure => simp [intOf]; omega
    · obtain rfl : i = n := by omega
      rw [List.take_of_length_le (by rw [HN.out]; exact Nat.le_refl _)] at ho
      go_wp2_with fail
      go_ret
      refine ⟨_, rfl, ?_, hB⟩
      rw [HRL.out, HRD.out]
      exact ho
end Go.Proofs.Ytapheokmoebgfaa
