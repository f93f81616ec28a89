/-
  The reference's code of a place, and the ground without rounding.
-/
import Derived.Test.YtlkjcamjgaecgaaGreatRef11B
set_option linter.unusedVariables false
set_option linter.unusedSimpArgs false
namespace Go.Proofs.YtlkjcamjgaecgaaGreat
open Go Go.RowKit Go.Th Go.Th.Crc

set_option maxRecDepth 20000 in
set_option maxHeartbeats 3200000 in
theorem code_go (F : List Int) (W H : Int) (a : Option Addr) (n cap : Nat) (x y c : Int) (zc cc : Nat → Int) (hc : ∀ i, i < 4 → (∀ j, j < i → cc j = 0) → cc i ≠ 0 → c = cc i) (h0 : (∀ i, i < 4 → cc i = 0) → c = 0)
    (C : ∀ i : Nat, i < 4 → AnsF F a n cap 17 #[hv W H (.slice a n cap), .int .i64 x, .int .i64 y, .int .i64 ((i : Int) % 2), .int .i64 ((i : Int) / 2)] (.tuple #[.int .i64 (zc i), .int .i64 (cc i)])) :
    AnsF F a n cap 15 #[hv W H (.slice a n cap), .int .i64 x, .int .i64 y] (.int .i64 c) := by
  intro w hS
  obtain ⟨w1, hw1⟩ : ∃ w1, w.alloc (.cells #[.int .i64 W, .int .i64 H, .slice a n cap] 26) = w1 := ⟨_, rfl⟩
  have hB1 : Below w.heap.size w w1 := by rw [← hw1]; exact (Below.refl _ _).alloc (Nat.le_refl _) _
  have K1 : Blk w1 w.heap.size 26 [.int .i64 W, .int .i64 H, .slice a n cap] := by rw [← hw1]; exact Blk.new w _ _
  have HW1 := Lib.hid hw1
  have HS := Lib.hid hS
  have HC := Lib.hid C
  have HC0 := Lib.hid h0
  have HCC := Lib.hid hc
  clear hw1 hS C h0 hc
  go_enter Tryz.func15, Tryz.ntmps15
  go_upto_region 1 with fail
  rw [HW1.out]
  clear HW1
  go_wp2_with fail
  go_loopw [7] (fun q wx => ∃ i : Nat, i ≤ 4 ∧ q = .int .i64 i ∧ Hid (∀ j, j < i → cc j = 0) ∧ Blk wx w.heap.size 26 [.int .i64 W, .int .i64 H, .slice a n cap] ∧ Below w.heap.size w wx) (fun q _ => 4 - (intOf q).toNat)
  case atStart => exact ⟨0, by omega, rfl, Lib.hid (fun j hj => absurd hj (Nat.not_lt_zero j)), K1, hB1⟩
  case round =>
    clear K1 hB1
    obtain ⟨i, hi, rfl, hj, K1, hB1⟩ := hrel
    have c0 := K1.cell (i := 0) rfl
    have c1 := K1.cell (i := 1) rfl
    have c2 := K1.cell (i := 2) rfl
    by_cases hlt : i < 4
    · have D := HC.out i hlt wr (HS.out.below hB1)
      obtain ⟨z, hz⟩ : ∃ z, z = zc i := ⟨_, rfl⟩
      obtain ⟨d, hd⟩ : ∃ d, d = cc i := ⟨_, rfl⟩
      rw [← hz, ← hd] at D
      have HD := Lib.hid hd
      have HI := Lib.hid hlt
      clear hz hd
      by_cases hd0 : d = 0
      · subst hd0
        go_wp2_with fail
        refine D.mono ?_
        rintro e w2 ⟨rfl, hA⟩
        clear D c0 c1 c2
        go_wp2_with fail
        go_roundw
        case rel =>
          exact ⟨i + 1, by omega, by go_num, Lib.hid (fun j hj' => by
            by_cases e : j = i
            · rw [e]; exact HD.out.symm
            · exact hj.out j (by omega)), K1.below hA K1.lt, hB1.trans (hA.mono hB1.size)⟩
        case measure => simp [intOf]; omega
      · have b1 : ((d : Int) != 0) = true := by simp [hd0]
        have HE := Lib.hid (HCC.out i hlt hj.out (by rw [← HD.out]; exact hd0))
        clear hlt
        have hlt := HI.out
        go_wp2_with fail
        refine D.mono ?_
        rintro e w2 ⟨rfl, hA⟩
        clear D c0 c1 c2
        go_wp2_with fail
        go_ret
        exact ⟨ret_int (by rw [HE.out]; exact HD.out), hB1.trans (hA.mono hB1.size)⟩
    · obtain rfl : i = 4 := by omega
      have HE := Lib.hid (HC0.out hj.out)
      clear c0 c1 c2
      go_wp2_with fail
      go_ret
      exact ⟨ret_int HE.out.symm, hB1⟩
theorem code_off (F : List Int) (W H : Nat) (x y : Int) (a : Option Addr) (n cap : Nat) (hW : 1 ≤ W ∧ W ≤ 1000) (hH : 1 ≤ H ∧ H ≤ 1000) (h : ¬ inS W H x y) :
    AnsF F a n cap 15 #[hv W H (.slice a n cap), .int .i64 x, .int .i64 y] (.int .i64 9) :=
  code_go F W H a n cap x y 9 (fun _ => 0) (fun _ => 9) (fun _ _ _ _ => rfl) (fun k => absurd (k 0 (by omega)) (by decide)) (fun i _ w _ => corner_off W H x y _ _ a n cap hW hH h w)
theorem ccT_two (z : Int) : ccT z = 0 ∨ ccT z = 8 := by unfold ccT; split <;> simp
theorem code_in {F : List Int} {W H n : Nat} (O : FldOk F W H n) (X Y : Nat) (a : Option Addr) (cap : Nat) (h : inS W H X Y) :
    AnsF F a n cap 15 #[hv W H (.slice a n cap), .int .i64 X, .int .i64 Y] (.int .i64 (codeT F W X Y)) := by
  refine code_go F W H a n cap X Y _ (fun i => czT (zT F W X Y (i % 2) (i / 2))) (fun i => ccT (zT F W X Y (i % 2) (i / 2))) ?_ ?_ ?_
  · intro i hi _ hne
    have h8 := (ccT_two (zT F W X Y (i % 2) (i / 2))).resolve_left hne
    have hv : zT F W X Y (i % 2) (i / 2) = -32768 := by
      unfold ccT at h8
      by_cases e : zT F W X Y (i % 2) (i / 2) = -32768
      · exact e
      · rw [if_neg e] at h8; cases h8
    show _ = ccT (zT F W X Y (i % 2) (i / 2))
    rw [h8]
    unfold codeT
    rw [if_pos]
    rcases (by omega : i = 0 ∨ i = 1 ∨ i = 2 ∨ i = 3) with rfl | rfl | rfl | rfl
    · exact Or.inl hv
    · exact Or.inr (Or.inl hv)
    · exact Or.inr (Or.inr (Or.inl hv))
    · exact Or.inr (Or.inr (Or.inr hv))
  · intro k
    have f : ∀ i, i < 4 → ¬ zT F W X Y (i % 2) (i / 2) = -32768 := by
      intro i hi e
      have := k i hi
      have h2 : ccT (zT F W X Y (i % 2) (i / 2)) = 0 := this
      rw [e] at h2
      exact absurd h2 (by decide)
    unfold codeT
    rw [if_neg]
    rintro (e | e | e | e)
    · exact f 0 (by omega) e
    · exact f 1 (by omega) e
    · exact f 2 (by omega) e
    · exact f 3 (by omega) e
  · intro i hi
    have := corner_in O X Y (i % 2) (i / 2) a cap h (by omega) (by omega)
    rw [show ((i % 2 : Nat) : Int) = (i : Int) % 2 by omega, show ((i / 2 : Nat) : Int) = (i : Int) / 2 by omega] at this
    exact this

set_option maxRecDepth 20000 in
set_option maxHeartbeats 6400000 in
theorem exact_go (F : List Int) (W H : Int) (a : Option Addr) (n cap : Nat) (X Y : Nat) (R : Int) (zc cc E : Nat → Int) (h0 : E 0 = 0) (h4 : E 4 = R) (hX : (X : Int) ≤ 100000) (hY : (Y : Int) ≤ 100000)
    (hs : ∀ (i : Nat) (u v : Int), i < 4 → u = (if i % 2 = 0 then 256 - (X : Int) % 256 else (X : Int) % 256) → v = (if i / 2 = 0 then 256 - (Y : Int) % 256 else (Y : Int) % 256) →
      ∃ p q, wrap64 (zc i * u) = p ∧ wrap64 (p * v) = q ∧ wrap64 (E i + q) = E (i + 1))
    (C : ∀ i : Nat, i < 4 → AnsF F a n cap 17 #[hv W H (.slice a n cap), .int .i64 X, .int .i64 Y, .int .i64 ((i : Int) % 2), .int .i64 ((i : Int) / 2)] (.tuple #[.int .i64 (zc i), .int .i64 (cc i)])) :
    AnsF F a n cap 16 #[hv W H (.slice a n cap), .int .i64 X, .int .i64 Y] (.int .i64 R) := by
  intro w hS
  obtain ⟨w1, hw1⟩ : ∃ w1, w.alloc (.cells #[.int .i64 W, .int .i64 H, .slice a n cap] 26) = w1 := ⟨_, rfl⟩
  have hB1 : Below w.heap.size w w1 := by rw [← hw1]; exact (Below.refl _ _).alloc (Nat.le_refl _) _
  have K1 : Blk w1 w.heap.size 26 [.int .i64 W, .int .i64 H, .slice a n cap] := by rw [← hw1]; exact Blk.new w _ _
  have HW1 := Lib.hid hw1
  have HS := Lib.hid hS
  have HC := Lib.hid C
  have HH := Lib.hid hs
  have H0 := Lib.hid h0
  have H4 := Lib.hid h4
  clear hw1 hS C hs h0 h4
  go_enter Tryz.func16, Tryz.ntmps16
  go_upto_region 1 with fail
  rw [HW1.out]
  clear HW1
  go_wp2_with fail
  go_loopw [7, 8] (fun s q wx => ∃ (i : Nat) (t : Int), i ≤ 4 ∧ q = .int .i64 i ∧ s = .int .i64 t ∧ Hid (t = E i) ∧ Blk wx w.heap.size 26 [.int .i64 W, .int .i64 H, .slice a n cap] ∧ Below w.heap.size w wx) (fun _ q _ => 4 - (intOf q).toNat)
  case atStart => exact ⟨0, 0, by omega, rfl, rfl, Lib.hid H0.out.symm, K1, hB1⟩
  case round =>
    clear K1 hB1
    obtain ⟨i, t, hi, rfl, rfl, ht, K1, hB1⟩ := hrel
    have c0 := K1.cell (i := 0) rfl
    have c1 := K1.cell (i := 1) rfl
    have c2 := K1.cell (i := 2) rfl
    by_cases hlt : i < 4
    · have D := HC.out i hlt wr (HS.out.below hB1)
      have HT := HH.out i
      obtain ⟨z, hz⟩ : ∃ z, z = zc i := ⟨_, rfl⟩
      obtain ⟨d, hd⟩ : ∃ d, d = cc i := ⟨_, rfl⟩
      obtain ⟨t', ht'⟩ : ∃ t', t' = E (i + 1) := ⟨_, rfl⟩
      rw [← hz, ← hd] at D
      rw [← hz, ← ht.out, ← ht'] at HT
      have HT' := Lib.hid ht'
      clear hz hd ht'
      by_cases hm : i % 2 = 0
      · have hm' : (i : Int) % 2 = 0 := by omega
        by_cases hd : i / 2 = 0
        · have hd' : (i : Int) / 2 = 0 := by omega
          obtain ⟨p, q, g1, g2, g3⟩ := HT (256 - (X : Int) % 256) (256 - (Y : Int) % 256) hlt (by rw [if_pos hm]) (by rw [if_pos hd])
          rw [hm', hd'] at D
          clear HT hm hd
          go_wp2_with fail
          refine D.mono ?_
          rintro e w2 ⟨rfl, hA⟩
          clear D c0 c1 c2
          go_wp2_with fail
          go_roundw
          case rel => exact ⟨i + 1, t', by omega, by go_num, by rw [g3], HT', K1.below hA K1.lt, hB1.trans (hA.mono hB1.size)⟩
          case measure => simp [intOf]; omega
        · have hd' : (i : Int) / 2 = 1 := by omega
          obtain ⟨p, q, g1, g2, g3⟩ := HT (256 - (X : Int) % 256) ((Y : Int) % 256) hlt (by rw [if_pos hm]) (by rw [if_neg hd])
          rw [hm', hd'] at D
          clear HT hm hd
          go_wp2_with fail
          refine D.mono ?_
          rintro e w2 ⟨rfl, hA⟩
          clear D c0 c1 c2
          go_wp2_with fail
          go_roundw
          case rel => exact ⟨i + 1, t', by omega, by go_num, by rw [g3], HT', K1.below hA K1.lt, hB1.trans (hA.mono hB1.size)⟩
          case measure => simp [intOf]; omega
      · have hm' : (i : Int) % 2 = 1 := by omega
        by_cases hd : i / 2 = 0
        · have hd' : (i : Int) / 2 = 0 := by omega
          obtain ⟨p, q, g1, g2, g3⟩ := HT ((X : Int) % 256) (256 - (Y : Int) % 256) hlt (by rw [if_neg hm]) (by rw [if_pos hd])
          rw [hm', hd'] at D
          clear HT hm hd
          go_wp2_with fail
          refine D.mono ?_
          rintro e w2 ⟨rfl, hA⟩
          clear D c0 c1 c2
          go_wp2_with fail
          go_roundw
          case rel => exact ⟨i + 1, t', by omega, by go_num, by rw [g3], HT', K1.below hA K1.lt, hB1.trans (hA.mono hB1.size)⟩
          case measure => simp [intOf]; omega
        · have hd' : (i : Int) / 2 = 1 := by omega
          obtain ⟨p, q, g1, g2, g3⟩ := HT ((X : Int) % 256) ((Y : Int) % 256) hlt (by rw [if_neg hm]) (by rw [if_neg hd])
          rw [hm', hd'] at D
          clear HT hm hd
          go_wp2_with fail
          refine D.mono ?_
          rintro e w2 ⟨rfl, hA⟩
          clear D c0 c1 c2
          go_wp2_with fail
          go_roundw
          case rel => exact ⟨i + 1, t', by omega, by go_num, by rw [g3], HT', K1.below hA K1.lt, hB1.trans (hA.mono hB1.size)⟩
          case measure => simp [intOf]; omega
    · obtain rfl : i = 4 := by omega
      have HE := Lib.hid (ht.out.trans H4.out)
      clear c0 c1 c2
      go_wp2_with fail
      go_ret
      exact ⟨ret_int HE.out, hB1⟩
theorem exact_in {F : List Int} {W H n : Nat} (O : FldOk F W H n) (X Y : Nat) (a : Option Addr) (cap : Nat) (h : inS W H X Y) :
    AnsF F a n cap 16 #[hv W H (.slice a n cap), .int .i64 X, .int .i64 Y] (.int .i64 (exT F W X Y)) := by
  have hW := O.W1
  have hH := O.H1
  have h3 := h.2.2.1
  have h4 := h.2.2.2
  refine exact_go F W H a n cap X Y _ (fun i => czT (zT F W X Y (i % 2) (i / 2))) (fun i => ccT (zT F W X Y (i % 2) (i / 2))) (exTo F W X Y) rfl rfl (by omega) (by omega) ?_ ?_
  · intro i u v hi hu hv
    have eu : u = wT X (i % 2) := by
      rw [hu]; unfold wT
      split <;> omega
    have ev : v = wT Y (i / 2) := by
      rw [hv]; unfold wT
      split <;> omega
    have hz : In16 (zT F W X Y (i % 2) (i / 2)) := getD_in16 O.i16 _
    have r := prod_range (czT_range hz) (wT_range X (i % 2)) (wT_range Y (i / 2))
    have r2 := exTo_range F W X Y O.i16 i
    subst eu ev
    refine ⟨_, _, IntWalk.wrap64_in _ (by show _ ∧ _; omega), IntWalk.wrap64_in _ (by show _ ∧ _; omega), ?_⟩
    rw [exTo]
    exact IntWalk.wrap64_in _ (by omega)
  · intro i hi
    have := corner_in O X Y (i % 2) (i / 2) a cap h (by omega) (by omega)
    rw [show ((i % 2 : Nat) : Int) = (i : Int) % 2 by omega, show ((i / 2 : Nat) : Int) = (i : Int) / 2 by omega] at this
    exact this
end Go.Proofs.YtlkjcamjgaecgaaGreat
