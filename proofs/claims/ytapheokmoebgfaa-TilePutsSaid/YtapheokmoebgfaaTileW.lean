/-
  The examples of the law of layer 8.
-/
import Derived.Test.YtapheokmoebgfaaTileV
set_option linter.unusedVariables false
set_option linter.unusedSimpArgs false
namespace Go.Proofs.Ytapheokmoebgfaa
open Go Go.RowKit Go.Th

abbrev z4 : List Int := [5, 6, 5, -32768]
theorem z4_16 : ∀ u ∈ z4, In16 u := by intro u hu; simp at hu; rcases hu with rfl | rfl | rfl | rfl <;> (constructor <;> decide)
abbrev f6 : List Int := [1, 2, 3, 4, 5, 6]
theorem cut6 : tileTo f6 2 (16 * 0) (16 * 0) (side 2 0) (side 3 0) = f6 := by decide +kernel
theorem lay4 : layTo [0, 0, 0, 0] 2 (16 * 0) (16 * 0) (side 2 0) [1, 2, 3, 4] (side 2 0) = [1, 2, 3, 4] := by decide +kernel

set_option maxRecDepth 20000 in
set_option maxHeartbeats 3200000 in
theorem works_any (w : World) : Calls Try.prog 6 #[] w fun e w' => e = .returned (.bool true) ∧ Below w.heap.size w w' := by
  have hT2 : isT 2 2 = true := by decide
  obtain ⟨w1, hw1⟩ : ∃ w1, w.alloc (.cells #[.int .i16 5, .int .i16 6, .int .i16 5, .int .i16 (-32768)] 30) = w1 := ⟨_, rfl⟩
  have hS1 : Sl w1 1 (.slice (some ⟨w.heap.size, 0, none⟩) 4 4) 4 (i16s z4) := by rw [← hw1]; exact Sl.i16 z4 30 4 rfl (by decide)
  have hB1 : Below w.heap.size w w1 := by rw [← hw1]; exact (Below.refl _ _).alloc (Nat.le_refl _) _
  have C1 := Lib.hid (tput_any 2 2 4 (some ⟨w.heap.size, 0, none⟩) 4 z4 rfl rfl z4_16 hT2 w1 hS1)
  clear hS1
  go_enter Try.func6, Try.ntmps6
  go_wp2_with fail
  clear hw1
  refine C1.out.mono ?_
  rintro e w2 ⟨v2, rfl, ho2, hA2⟩
  clear C1
  have hB2 := hB1.trans (hA2.mono hB1.size)
  clear hB1 hA2
  have C2 := Lib.hid (tget_back 2 2 4 hT2 rfl v2 z4 rfl z4_16 w2 (Sl.of_own ho2))
  clear ho2
  go_wp2_with fail
  refine C2.out.mono ?_
  rintro e w3 ⟨v3, rfl, ho3, hA3⟩
  clear C2
  have hB3 := hB2.trans (hA3.mono hB2.size)
  clear hB2 hA3
  obtain ⟨g3, cap3, rfl, hg31, hg3, hc31, hc32⟩ := ownsRow_val ho3 (by omega)
  go_wp2_with (refine wpList_mk (t := 22) (e := 30) (z := .int .i16 0) (bytes := 2) Try.underlying22 (by kernel_rfl) rfl rfl _ _ rfl w3.heap.size 17 _ _ rfl rfl (by omega) (by unfold maxLen; omega) (Nat.le_refl _) ?_)
  intro w4 ho4 hg4
  have hA4 := grown_below hg4
  replace ho3 := ownsRow_below ho3 hA4
  replace hg3 := Nat.lt_of_lt_of_le hg3 hA4.size
  have hB4 := hB3.trans (hA4.mono hB3.size)
  clear hg4 hA4 hB3 ho4
  have C3 := Lib.hid (tput_bad 17 1 (some ⟨w3.heap.size, 0, none⟩) 17 17 w4 (by omega) (.inl (by decide)))
  go_wp2_with fail
  refine C3.out.mono ?_
  rintro e wx ⟨rfl, rfl⟩
  clear C3
  have C4 := Lib.hid (tget_no 2 2 4 hT2 rfl (.slice none 0 0) [] (by decide) (by intro u hu; cases hu) w4 (Sl.nil _ _) (noRow_nil 4))
  go_wp2_with fail
  refine C4.out.mono ?_
  rintro e w5 ⟨rfl, hA5⟩
  clear C4
  replace ho3 := ownsRow_below ho3 hA5
  replace hg3 := Nat.lt_of_lt_of_le hg3 hA5.size
  have hB5 := hB4.trans (hA5.mono hB4.size)
  clear hA5 hB4
  have C5 := box_yes 40 20 2 1 (by decide) (by decide) (by decide) w5
  rw [show side 40 2 = 8 by decide, show side 20 1 = 4 by decide] at C5
  have C5 := Lib.hid C5
  go_wp2_with fail
  refine C5.out.mono ?_
  rintro e w6 ⟨rfl, hA6⟩
  clear C5
  replace ho3 := ownsRow_below ho3 hA6
  replace hg3 := Nat.lt_of_lt_of_le hg3 hA6.size
  have hB6 := hB5.trans (hA6.mono hB5.size)
  clear hA6 hB5
  obtain ⟨w7, hw7⟩ : ∃ w7, w6.alloc (.cells #[.int .i16 1, .int .i16 2, .int .i16 3, .int .i16 4, .int .i16 5, .int .i16 6] 30) = w7 := ⟨_, rfl⟩
  have hS7 : Sl w7 1 (.slice (some ⟨w6.heap.size, 0, none⟩) 6 6) 6 (i16s f6) := by rw [← hw7]; exact Sl.i16 f6 30 6 rfl (by decide)
  have hA7 : Below w6.heap.size w6 w7 := by rw [← hw7]; exact (Below.refl _ _).alloc (Nat.le_refl _) _
  have C6 := cut_yes 2 3 0 0 6 (some ⟨w6.heap.size, 0, none⟩) 6 f6 (by decide) rfl (by decide) (by decide) rfl w7 hS7
  rw [cut6, show side 3 0 * side 2 0 = 6 by decide] at C6
  have C6 := Lib.hid C6
  replace ho3 := ownsRow_below ho3 hA7
  replace hg3 := Nat.lt_of_lt_of_le hg3 hA7.size
  have hB7 := hB6.trans (hA7.mono hB6.size)
  clear hA7 hB6 hS7
  go_wp2_with fail
  clear hw7
  refine C6.out.mono ?_
  rintro e w8 ⟨v8, rfl, ho8, hA8⟩
  clear C6
  replace ho3 := ownsRow_below ho3 hA8
  replace hg3 := Nat.lt_of_lt_of_le hg3 hA8.size
  have hB8 := hB7.trans (hA8.mono hB7.size)
  clear hA8 hB7
  obtain ⟨g8, cap8, rfl, hg81, hg82, hc81, hc82⟩ := ownsRow_val ho8 (by omega)
  go_wp2_with (refine wpList_mk (t := 22) (e := 30) (z := .int .i16 0) (bytes := 2) Try.underlying22 (by kernel_rfl) rfl rfl _ _ rfl w8.heap.size 4 _ _ rfl rfl (by omega) (by unfold maxLen; omega) (Nat.le_refl _) ?_)
  intro w9 ho9 hg9
  have hA9 := grown_below hg9
  replace ho3 := ownsRow_below ho3 hA9
  replace ho8 := ownsRow_below ho8 hA9
  have hB9 := hB8.trans (hA9.mono hB8.size)
  have hz9 := hA9.size
  clear hg9 hA9
  go_wp2_with fail
  obtain ⟨w10, hw10⟩ : ∃ w10, (w9.alloc (.cells #[.int .i64 2, .int .i64 2, .slice (some ⟨w8.heap.size, 0, none⟩) 4 4] 36)).alloc (.cells #[.int .i16 1, .int .i16 2, .int .i16 3, .int .i16 4] 30) = w10 := ⟨_, rfl⟩
  have K : Blk w10 w9.heap.size 36 [.int .i64 2, .int .i64 2, .slice (some ⟨w8.heap.size, 0, none⟩) 4 4] := by rw [← hw10]; exact (Blk.new w9 _ _).alloc _
  have hA10 : Below w9.heap.size w9 w10 := by rw [← hw10]; exact ((Below.refl _ _).alloc (Nat.le_refl _) _).alloc (by simp) _
  have hS10 : Sl w10 1 (.slice (some ⟨w9.heap.size + 1, 0, none⟩) 4 4) 4 (i16s [1, 2, 3, 4]) := by
    rw [← hw10]
    have := Sl.i16 (w := w9.alloc (.cells #[.int .i64 2, .int .i64 2, .slice (some ⟨w8.heap.size, 0, none⟩) 4 4] 36)) [1, 2, 3, 4] 30 4 rfl (by decide)
    rw [World.size_alloc] at this
    exact this
  rw [hw10]
  clear hw10
  have h98 := (ho9.lt w8.heap.size (by simp [Value.ownBlock])).2
  have ho10 : w10.ownsRow w8.heap.size 30 1 (.slice (some ⟨w8.heap.size, 0, none⟩) 4 4) 4 (i16s [0, 0, 0, 0]) := ownsRow_below ho9 hA10
  have C7 := lay_yes 2 2 0 0 4 w8.heap.size 4 w8.heap.size [0, 0, 0, 0] [1, 2, 3, 4] (some ⟨w9.heap.size + 1, 0, none⟩) 4 4 (by decide) rfl (by decide) (by decide) rfl rfl (by decide) w10 ho10 hS10
  rw [lay4] at C7
  have C7 := Lib.hid C7
  replace ho3 := ownsRow_below ho3 hA10
  replace ho8 := ownsRow_below ho8 hA10
  have hB10 := hB9.trans (hA10.mono hB9.size)
  have hB8s := hB8.size
  clear hS10 ho10 ho9 hA10 hB9
  refine C7.out.mono ?_
  rintro e w11 ⟨rfl, ho11, hT11⟩
  clear C7
  replace ho3 := hT11.own ho3 (by rintro q hq rfl; simp [Value.ownBlock] at hq; omega)
  replace ho8 := hT11.own ho8 (by rintro q hq rfl; simp [Value.ownBlock] at hq; omega)
  replace K := K.turned hT11 (by omega)
  have hB11 := hT11.old hB10 hB10.size (by rintro q hq rfl; omega)
  clear hT11 hB10
  obtain ⟨w12, hw12⟩ : ∃ w12, w11.alloc (.cells #[.int .i16 5, .int .i16 6, .int .i16 5, .int .i16 (-32768)] 30) = w12 := ⟨_, rfl⟩
  have hS12 : Sl w12 1 (.slice (some ⟨w11.heap.size, 0, none⟩) 4 4) 4 (i16s z4) := by rw [← hw12]; exact Sl.i16 z4 30 4 rfl (by decide)
  have hA12 : Below w11.heap.size w11 w12 := by rw [← hw12]; exact (Below.refl _ _).alloc (Nat.le_refl _) _
  replace ho3 := ownsRow_below ho3 hA12
  replace ho8 := ownsRow_below ho8 hA12
  replace ho11 := ownsRow_below ho11 hA12
  replace K := K.below hA12 K.lt
  have hB12 := hB11.trans (hA12.mono hB11.size)
  have C8 := Lib.hid (same16_any (some ⟨g3, 0, none⟩) (some ⟨w11.heap.size, 0, none⟩) 4 cap3 4 z4 rfl (by omega) w12 (Sl.of_own ho3) hS12)
  clear hS12 hA12 hB11 ho3
  go_wp2_with fail
  clear hw12
  refine C8.out.mono ?_
  rintro e w13 ⟨rfl, hA13⟩
  clear C8
  replace ho8 := ownsRow_below ho8 hA13
  replace ho11 := ownsRow_below ho11 hA13
  replace K := K.below hA13 K.lt
  have hB13 := hB12.trans (hA13.mono hB12.size)
  clear hA13 hB12
  have c5 : w13.cell? ⟨g8, 5, none⟩ = some (.int .i16 6) := by rw [ho8.cellAt 5 (by omega)]; rfl
  have l3 : w13.cell? ⟨w8.heap.size, 3, none⟩ = some (.int .i16 4) := by rw [ho11.cellAt 3 (by omega)]; rfl
  have k0 := K.cell (i := 0) rfl
  have k1 := K.cell (i := 1) rfl
  have k2 := K.cell (i := 2) rfl
  have C9 := count_go 17 (by omega) (by omega)
  rw [show cnt 17 = 2 by decide] at C9
  have C9 := Lib.hid C9
  have C10 := Lib.hid (check_ok 2 2 4 (some ⟨w8.heap.size, 0, none⟩) 4 (by decide) rfl w13)
  have C11 := Lib.hid (fun wx => check_range 0 0 (.slice none 0 0) (by decide) wx ⟨none, 0, 0, rfl⟩)
  go_wp2_with fail
  refine (C9.out _).mono ?_
  rintro e wx ⟨rfl, rfl⟩
  clear C9
  go_wp2_with fail
  refine C10.out.mono ?_
  rintro e w14 ⟨rfl, hA14⟩
  have hB14 := hB13.trans (hA14.mono hB13.size)
  clear C10 hA14 hB13 c5 l3 k0 k1 k2 K ho8 ho11
  go_wp2_with (refine wpH_0g rfl rfl ?_)
  refine (C11.out w14).mono ?_
  rintro e w15 ⟨rfl, hA15⟩
  go_wp2_with fail
  go_ret
  exact ⟨rfl, hB14.trans (hA15.mono hB14.size)⟩
end Go.Proofs.Ytapheokmoebgfaa
