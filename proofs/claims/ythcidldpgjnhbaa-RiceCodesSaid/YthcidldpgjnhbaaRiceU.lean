/-
  The examples of the law of layer 7.
-/
import Derived.Test.YthcidldpgjnhbaaRiceT
set_option linter.unusedVariables false
set_option linter.unusedSimpArgs false
namespace Go.Proofs.Ythcidldpgjnhbaa
open Go Go.RowKit Go.Th

abbrev m4 : List Int := [0, -1, 1, 5]
theorem m4_best : best m4 = 1 := by decide +kernel
theorem m4_size : sizes m4 1 = 14 := by decide +kernel
theorem m4_len : (row m4).length = 19 := by rw [row_length, m4_best, m4_size]
theorem m4_room : ∀ x ∈ m4, Rm x := by intro x hx; simp [m4] at hx; rcases hx with rfl | rfl | rfl | rfl <;> (constructor <;> decide)

theorem Sl.i32 {w : World} (m : List Int) (t : TypeId) (n : Nat) (hn : n = m.length) (hm : n ≤ maxLen) : Sl (w.alloc (.cells (i32s m).toArray t)) 1 (.slice (some ⟨w.heap.size, 0, none⟩) n n) n (i32s m) := by
  subst hn
  refine ⟨_, _, rfl, by simp [i32s], Nat.le_refl _, hm, fun h => (by cases h), ?_⟩
  intro j u hu
  refine ⟨_, _, rfl, ?_⟩
  rw [World.cell?_alloc_at _ _ _ _ rfl]
  simpa using hu

/-- What a writer's call leaves, of another writer. -/
theorem WInv.go {w w' : World} {pb po base qb : Nat} {v u u' : Value} {l : List Bool} (h : WInv w pb po base v l) (hG : WGo qb w w' u u') (hp : pb ≠ qb) (hu : u.ownBlock ≠ some pb) (hv : ∀ k, v.ownBlock = some k → k ≠ qb ∧ u.ownBlock ≠ some k) : WInv w' pb po base v l :=
  h.turned hG.turned (by rintro (e | e); · exact hp e
                         · exact hu e) (fun k hk => by rintro (e | e); · exact (hv k hk).1 e
                                                       · exact (hv k hk).2 e)

set_option maxRecDepth 20000 in
set_option maxHeartbeats 3200000 in
theorem works_any (w : World) : Calls Try.prog 10 #[] w fun e w' => e = .returned (.bool true) ∧ Below w.heap.size w w' := by
  obtain ⟨xs, hxs⟩ := exists_i32 m4 (fun x hx => rm_32 (m4_room x hx))
  have hxl : xs.length = 4 := by have := congrArg List.length hxs; simpa [m4] using this
  have CB : ∀ (a : Option Addr) (cap : Nat) (wx : World), Sl wx 1 (.slice a 4 cap) 4 (i32s m4) → Calls Try.prog 24 #[.slice a 4 cap] wx fun e w' => e = .returned (.tuple #[.int .i64 1, .int .i64 14]) ∧ Below wx.heap.size wx w' := by
    intro a cap wx h
    have := best_any a 4 cap xs hxl.symm (by omega) wx (by rw [hxs]; exact h)
    rwa [hxs, m4_best, m4_size] at this
  have CR : ∀ (a : Option Addr) (cap pb base : Nat) (wx : World), WInv wx pb 0 base (.slice none 0 0) [] → base ≤ wx.heap.size → Sl wx 1 (.slice a 4 cap) 4 (i32s m4) → (∀ p, a = some p → p.block < base ∧ p.block ≠ pb) →
      Calls Try.prog 22 #[.pointer (some ⟨pb, 0, none⟩), .slice a 4 cap] wx fun e w' => e = .returned (.tuple #[]) ∧ ∃ v', WInv w' pb 0 base v' (row m4) ∧ WGo pb wx w' (.slice none 0 0) v' := by
    intro a cap pb base wx hW hb h hA
    have := row_any a 4 cap xs hxl.symm (by omega) pb 0 base _ [] wx hW (by simp) hb (by rw [hxs]; exact h) (fun p hp _ => hA p hp)
    rwa [hxs, List.nil_append] at this
  have CB := Lib.hid CB
  have CR := Lib.hid CR
  clear hxs hxl
  have hW0 := winv_new w
  obtain ⟨w1, hw1⟩ : ∃ w1, (w.alloc (.cells #[.slice none 0 0, .int .i64 0] 31)).alloc (.cells #[.int .i32 0, .int .i32 (-1), .int .i32 1, .int .i32 5] 21) = w1 := ⟨_, rfl⟩
  have hS1 : Sl w1 1 (.slice (some ⟨w.heap.size + 1, 0, none⟩) 4 4) 4 (i32s m4) := by
    rw [← hw1]
    have := Sl.i32 (w := w.alloc (.cells #[.slice none 0 0, .int .i64 0] 31)) m4 21 4 rfl (by decide)
    rw [World.size_alloc] at this
    exact this
  have hB1 : Below w.heap.size w w1 := by rw [← hw1]; exact ((Below.refl _ _).alloc (Nat.le_refl _) _).alloc (by simp) _
  have hz1 : w1.heap.size = w.heap.size + 2 := by rw [← hw1]; simp
  have hW1 : WInv w1 w.heap.size 0 (w.heap.size + 2) (.slice none 0 0) [] := by rw [← hw1]; exact (hW0.rebase _).below ((Below.refl _ _).alloc (Nat.le_refl _) _)
  clear hW0
  have C1 := Lib.hid (CR.out (some ⟨w.heap.size + 1, 0, none⟩) 4 w.heap.size (w.heap.size + 2) w1 hW1 (by omega) hS1 (by rintro p e; cases e; simp))
  go_enter Try.func10, Try.ntmps10
  go_wp2_with fail
  clear hw1
  refine C1.out.mono ?_
  rintro e w2 ⟨rfl, v2, hW2, hG2⟩
  have hB2 := hG2.turned.old hB1 hB1.size (by rintro q hq (rfl | e); · omega
                                              · simp [Value.ownBlock] at e)
  have hz2 := hG2.turned.size
  clear C1 CR hW1 hS1 hG2 hB1
  have hv2 : ∀ q, v2.ownBlock = some q → w.heap.size + 2 ≤ q ∧ q < w2.heap.size := hW2.own.lt
  have hpl : (pack (row m4)).length = 3 := by rw [pack_length, m4_len]
  have C2 := Lib.hid (bytes_any _ _ _ _ _ _ hW2 (by rw [m4_len]; omega))
  go_wp2_with fail
  refine C2.out.mono ?_
  rintro e w3 ⟨v3, rfl, ho3, hB3⟩
  clear C2
  have C3 := Lib.hid (read_any v3 (pack (row m4)) w3 (Sl.of_own ho3) (by omega) (pack_lt _))
  replace hW2 := hW2.below hB3
  have hz23 := hB3.size
  replace hB3 := hB2.trans (hB3.mono hB2.size)
  clear hB2 ho3
  go_wp2_with fail
  refine C3.out.mono ?_
  rintro e w4 ⟨rb, vr, rfl, hrb, hR4, hB4⟩
  clear C3
  replace hW2 := hW2.below hB4
  have hz3 := hB3.size
  have hz4 := hB4.size
  replace hB4 := hB3.trans (hB4.mono hB3.size)
  clear hB3
  have C4 := Lib.hid (isrow_yes 4 (by omega) m4 rb 0 _ vr _ 0 w4 hR4 (rowAt_pack m4 4 rfl m4_room))
  have hrl := hR4.lt
  go_wp2_with fail
  refine C4.out.mono ?_
  rintro e w5 ⟨vl, rfl, hl5, hR5, hT5⟩
  clear C4 hR4 hR5
  obtain ⟨gl, capl, rfl, hgl1, hgl2, hcl1, hcl2⟩ := ownsRow_val hl5 (by omega)
  have hz5 := hT5.size
  have hB5 := hT5.old hB4 hB4.size (by rintro q hq rfl; omega)
  replace hW2 := hW2.turned hT5 (by omega) (by rintro q hq rfl; have := hv2 _ hq; omega)
  clear hT5 hB4
  obtain ⟨w6, hw6⟩ : ∃ w6, w5.alloc (.cells #[.int .i32 0, .int .i32 (-1), .int .i32 1, .int .i32 5] 21) = w6 := ⟨_, rfl⟩
  have hS6 : Sl w6 1 (.slice (some ⟨w5.heap.size, 0, none⟩) 4 4) 4 (i32s m4) := by
    rw [← hw6]; exact Sl.i32 m4 21 4 rfl (by decide)
  have hA6 : Below w5.heap.size w5 w6 := by rw [← hw6]; exact (Below.refl _ _).alloc (Nat.le_refl _) _
  have C5 := Lib.hid (CB.out (some ⟨w5.heap.size, 0, none⟩) 4 w6 hS6)
  replace hW2 := hW2.below hA6
  replace hl5 := ownsRow_below hl5 hA6
  have hB6 := hB5.trans (hA6.mono hB5.size)
  have hz6 := hA6.size
  clear hB5 hS6 hA6 CB
  go_wp2_with fail
  clear hw6
  refine C5.out.mono ?_
  rintro e w7 ⟨rfl, hA7⟩
  clear C5
  replace hW2 := hW2.below hA7
  replace hl5 := ownsRow_below hl5 hA7
  have hB7 := hB6.trans (hA7.mono hB6.size)
  have hz7 := hA7.size
  clear hB6 hA7
  have hV8 := winv_new w7
  obtain ⟨w8, hw8⟩ : ∃ w8, w7.alloc (.cells #[.slice none 0 0, .int .i64 0] 31) = w8 := ⟨_, rfl⟩
  have hA8 : Below w7.heap.size w7 w8 := by rw [← hw8]; exact (Below.refl _ _).alloc (Nat.le_refl _) _
  rw [hw8] at hV8
  replace hW2 := hW2.below hA8
  replace hl5 := ownsRow_below hl5 hA8
  have hB8 := hB7.trans (hA8.mono hB7.size)
  have hz8 := hA8.size
  have hB7s := hB7.size
  clear hB7 hA8
  have hV8lt := hV8.lt
  have C6 := Lib.hid (put_go 6 2 (by omega) (by omega) w7.heap.size 0 w7.heap.size _ [] w8 hV8 (by simp) hz8)
  have HW8 := Lib.hid hw8; clear hw8
  go_wp2_with fail
  rw [HW8.out]
  clear HW8
  refine C6.out.mono ?_
  rintro e w9 ⟨rfl, v9, hV9, hG9⟩
  clear C6 hV8
  rw [List.nil_append] at hV9
  replace hW2 := hW2.go hG9 (by omega) (by simp [Value.ownBlock]) (by rintro q hq; have := hv2 _ hq; exact ⟨by omega, by simp [Value.ownBlock]⟩)
  replace hl5 := hG9.turned.own hl5 (by
    rintro q hq (e | e)
    · simp [Value.ownBlock] at hq; omega
    · simp [Value.ownBlock] at e)
  have hB9 := hG9.turned.old hB8 hB8.size (by
    rintro q hq (e | e)
    · have := hB7s; omega
    · simp [Value.ownBlock] at e)
  have hz9 := hG9.turned.size
  clear hG9 hB8
  have hv9 : ∀ q, v9.ownBlock = some q → q < w9.heap.size := fun q e => (hV9.own.lt q e).2
  have hpl : (pack (code 6 2)).length = 1 := by rw [pack_length, code_length]; decide
  have hcl : (code 6 2).length = 4 := by rw [code_length]; decide
  have C7 := Lib.hid (bytes_any _ _ _ _ _ _ hV9 (by rw [hcl]; omega))
  go_wp2_with fail
  refine C7.out.mono ?_
  rintro e w10 ⟨v10, rfl, ho10, hA10⟩
  clear C7
  have C8 := Lib.hid (read_any v10 (pack (code 6 2)) w10 (Sl.of_own ho10) (by omega) (pack_lt _))
  replace hW2 := hW2.below hA10
  replace hV9 := hV9.below hA10
  replace hl5 := ownsRow_below hl5 hA10
  have hB10 := hB9.trans (hA10.mono hB9.size)
  have hz10 := hA10.size
  clear hB9 hA10 ho10
  go_wp2_with fail
  refine C8.out.mono ?_
  rintro e w11 ⟨sb, vs, rfl, hsb, hR11, hA11⟩
  clear C8
  replace hW2 := hW2.below hA11
  replace hV9 := hV9.below hA11
  replace hl5 := ownsRow_below hl5 hA11
  have hB11 := hB10.trans (hA11.mono hB10.size)
  clear hB10 hA11
  have C9 := Lib.hid (get_yes 6 2 (by omega) (by omega) sb 0 _ vs _ 0 w11 hR11 (here_pack0 _))
  go_wp2_with fail
  refine C9.out.mono ?_
  rintro e w12 ⟨rfl, hR12, hT12⟩
  clear C9 hR11 hR12
  replace hW2 := hW2.turned hT12 (by omega) (by rintro q hq rfl; have := hv2 _ hq; omega)
  replace hV9 := hV9.turned hT12 (by omega) (by rintro q hq rfl; have := hv9 _ hq; omega)
  replace hl5 := hT12.own hl5 (by rintro q hq rfl; simp [Value.ownBlock] at hq; omega)
  have hB12 := hT12.old hB11 hB11.size (by rintro q hq rfl; omega)
  clear hT12 hB11
  have c3 : w12.cell? ⟨gl, 3, none⟩ = some (.int .i32 5) := by rw [hl5.cellAt 3 (by omega)]; rfl
  have c1 : w12.cell? ⟨gl, 1, none⟩ = some (.int .i32 (-1)) := by rw [hl5.cellAt 1 (by omega)]; rfl
  have D1 := len_any _ _ _ _ _ _ hW2
  have D2 := len_any _ _ _ _ _ _ hV9
  rw [m4_len] at D1
  rw [hcl] at D2
  have D3 := fold_go (-3) (by omega) (by omega)
  have D4 := unfold_go 5 (by omega)
  have D5 := size_go 6 2 (by omega) (by omega)
  have D6 := size_go 131071 0 (by omega) (by omega)
  rw [show fold (-3) = 5 by decide] at D3
  rw [show unfold 5 = -3 by decide] at D4
  rw [show size 6 2 = 4 by decide] at D5
  rw [show size 131071 0 = 38 by decide] at D6
  have D1 := Lib.hid D1
  have D2 := Lib.hid D2
  have D3 := Lib.hid D3
  have D4 := Lib.hid D4
  have D5 := Lib.hid D5
  have D6 := Lib.hid D6
  clear hW2 hV9 hl5 hv2 hv9
  go_wp2_with fail
  refine D1.out.mono ?_
  rintro e wx ⟨rfl, rfl⟩
  go_wp2_with fail
  refine D2.out.mono ?_
  rintro e wx ⟨rfl, rfl⟩
  go_wp2_with fail
  refine (D3.out _).mono ?_
  rintro e wx ⟨rfl, rfl⟩
  go_wp2_with fail
  refine (D4.out _).mono ?_
  rintro e wx ⟨rfl, rfl⟩
  go_wp2_with fail
  refine (D5.out _).mono ?_
  rintro e wx ⟨rfl, rfl⟩
  go_wp2_with fail
  refine (D6.out _).mono ?_
  rintro e wx ⟨rfl, rfl⟩
  go_wp2_with fail
  go_ret
  exact ⟨rfl, hB12⟩
end Go.Proofs.Ythcidldpgjnhbaa
