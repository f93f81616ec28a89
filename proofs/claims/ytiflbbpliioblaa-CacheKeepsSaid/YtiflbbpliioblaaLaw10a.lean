/-
  The examples of the law of layer 10.
-/
import Derived.Test.YtiflbbpliioblaaCacheL
set_option linter.unusedVariables false
set_option linter.unusedSimpArgs false
namespace Go.Proofs.Ytiflbbpliioblaa
open Go Go.RowKit Go.Th Go.Th.Crc

def wF10 : List Int := (List.range (32 * 5)).map (fldAt [5, 6, -32768])
theorem wF10_length : wF10.length = 32 * 5 := by simp [wF10]
theorem height_at (base g : Nat) (F : List Int) (W H cell : Nat) (ox oy : Int) (room : Nat) (L : List Nat) (m s : Nat) (x y : Int) (v : Value) (L' : List Nat) (m' s' : Nat) (hv : told F W H x y = v)
    (e1 : (if inF W H x y then useL room L (tileOf W x y) else L) = L') (e2 : (if inF W H x y ∧ tileOf W x y ∈ L then m + 1 else m) = m') (e3 : (if inF W H x y ∧ ¬ tileOf W x y ∈ L then s + 1 else s) = s') (O : MapOk F W H cell ox oy) (hm : m ≤ 1000000) (hs : s ≤ 1000000) (w : World) (J : CacheI w base g F W H cell ox oy room L m s) :
    Calls Try.prog 10 #[.pointer (some ⟨g, 0, none⟩), .int .i64 x, .int .i64 y] w fun e w' => e = .returned v ∧ CacheI w' base g F W H cell ox oy room L' m' s' ∧ Turned (fun k => k = g) w w' := by
  have := height_told base g F W H cell ox oy room L m s x y O hm hs w J
  rw [hv, e1, e2, e3] at this
  exact this
theorem getC_nil {c : Int} (h : GetC [] c) : c = 5 :=
  h.only (.inr ⟨fun W H cell h => by have := h.big; simp at this, .inl ⟨by simp, rfl⟩⟩)

set_option maxRecDepth 20000 in
set_option maxHeartbeats 6400000 in
theorem works10_any (w : World) : Calls Try.prog 6 #[] w fun e w' => e = .returned (.bool true) ∧ Below w.heap.size w w' := by
  obtain ⟨w1, hw1⟩ : ∃ w1, w.alloc (.cells #[.int .i16 5, .int .i16 6, .int .i16 (-32768)] 34) = w1 := ⟨_, rfl⟩
  have hS1 : Sl w1 1 (.slice (some ⟨w.heap.size, 0, none⟩) 3 3) 3 (i16s [5, 6, -32768]) := by rw [← hw1]; exact Sl.i16 [5, 6, -32768] 34 3 rfl (by decide)
  have hB : Below w.heap.size w w1 := by rw [← hw1]; exact (Below.refl _ _).alloc (Nat.le_refl _) _
  have C1 := Lib.hid (made10_any 30 3 3 30 31 0 0 (some ⟨w.heap.size, 0, none⟩) 3 [5, 6, -32768] (by decide) (by decide) (by decide) rfl rfl (by omega) (by intro u hu; simp at hu; rcases hu with rfl | rfl | rfl <;> (constructor <;> decide)) w1 hS1)
  clear hS1
  go_enter Try.func6, Try.ntmps6
  go_wp2_with fail
  clear hw1
  refine C1.out.mono ?_
  rintro e w2 ⟨x, y, v, F, ⟨hx, hy⟩, hFd, rfl, hF, _, _, hl, h16, hof, hA⟩
  obtain rfl : x = 32 := by omega
  obtain rfl : y = 5 := by omega
  obtain rfl : F = wF10 := hFd (by omega)
  rw [show (32 : Nat) * 5 = 160 from rfl] at hof
  obtain ⟨av, cw, rfl, _, _⟩ := ownsRow_slice hof
  have O : MapOk wF10 32 5 31 0 0 := ⟨hF, by decide, wF10_length, h16, ⟨by decide, by decide⟩, ⟨by decide, by decide⟩⟩
  have HO := Lib.hid O
  clear C1 hx hy hFd hl h16 hF O
  replace hB := hB.trans (hA.mono hB.size)
  clear hA
  obtain ⟨w3, hw3⟩ : ∃ w3, w2.alloc (.cells #[.int .i64 32, .int .i64 5, .slice av 160 cw, .int .i64 31, .int .i32 0, .int .i32 0] 28) = w3 := ⟨_, rfl⟩
  have hA : Below w2.heap.size w2 w3 := by rw [← hw3]; exact (Below.refl _ _).alloc (Nat.le_refl _) _
  have KC : Blk w3 w2.heap.size 28 [.int .i64 32, .int .i64 5, .slice av 160 cw, .int .i64 31, .int .i32 0, .int .i32 0] := by rw [← hw3]; exact Blk.new w2 _ _
  replace hof := ownsRow_below hof hA
  replace hB := hB.trans (hA.mono hB.size)
  clear hA
  obtain ⟨gC, hgC⟩ : ∃ g, w2.heap.size = g := ⟨_, rfl⟩
  have HGC := Lib.hid hgC
  rw [hgC] at KC
  clear hgC
  have C2 := Lib.hid (open10_any wF10 32 5 31 0 0 HO.out 4 (by decide) (by decide) 160 rfl av cw w3 (Sl.of_own hof))
  have HW3 := Lib.hid hw3
  clear hw3
  go_upto_region 2 with fail
  rw [HW3.out, HGC.out]
  clear HW3
  have c0 := KC.cell (i := 0) rfl
  have c1 := KC.cell (i := 1) rfl
  have c2 := KC.cell (i := 2) rfl
  have c3 := KC.cell (i := 3) rfl
  have c4 := KC.cell (i := 4) rfl
  have c5 := KC.cell (i := 5) rfl
  go_wp2_with fail
  refine C2.out.mono ?_
  rintro e w4 ⟨g, rfl, J, hA⟩
  have hgw : w.heap.size ≤ g := Nat.le_trans hB.size J.le
  have HGW := Lib.hid hgw
  replace hof := ownsRow_below hof hA
  replace KC := KC.below hA KC.lt
  replace hB := hB.trans (hA.mono hB.size)
  clear C2 hA hgw c0 c1 c2 c3 c4 c5
  have c2 := KC.cell (i := 2) rfl
  have D0 := Lib.hid (height_at _ g wF10 32 5 31 0 0 4 [] 0 0 1 0 (.tuple #[.int .i16 6, .int .i64 0]) [0] 0 1 (by kernel_rfl) (by decide) (by decide) (by decide) HO.out (by omega) (by omega) w4 J)
  have HJ0 := Lib.hid J
  clear J
  go_wp2_with fail
  refine D0.out.mono ?_
  rintro e w5 ⟨rfl, J, hT⟩
  have hgw := HGW.out
  replace KC := HJ0.out.blk hT KC (by decide)
  replace hof := HJ0.out.own hT hof (by decide)
  replace hB := hT.old hB hB.size (by rintro k hk rfl; omega)
  clear D0 HJ0 hT hgw c2
  have D1 := Lib.hid (height_at _ g wF10 32 5 31 0 0 4 [0] 0 1 2 0 (.tuple #[.int .i16 0, .int .i64 8]) [0] 1 1 (by kernel_rfl) (by decide) (by decide) (by decide) HO.out (by omega) (by omega) w5 J)
  have HJ1 := Lib.hid J
  clear J
  go_wp2_with fail
  refine D1.out.mono ?_
  rintro e w6 ⟨rfl, J, hT⟩
  have hgw := HGW.out
  replace KC := HJ1.out.blk hT KC (by decide)
  replace hof := HJ1.out.own hT hof (by decide)
  replace hB := hT.old hB hB.size (by rintro k hk rfl; omega)
  clear D1 HJ1 hT hgw
  have D2 := Lib.hid (height_at _ g wF10 32 5 31 0 0 4 [0] 1 1 32 0 (.tuple #[.int .i16 0, .int .i64 9]) [0] 1 1 (by kernel_rfl) (by decide) (by decide) (by decide) HO.out (by omega) (by omega) w6 J)
  have HJ2 := Lib.hid J
  clear J
  go_wp2_with fail
  refine D2.out.mono ?_
  rintro e w7 ⟨rfl, J, hT⟩
  have hgw := HGW.out
  replace KC := HJ2.out.blk hT KC (by decide)
  replace hof := HJ2.out.own hT hof (by decide)
  replace hB := hT.old hB hB.size (by rintro k hk rfl; omega)
  clear D2 HJ2 hT hgw
  have D3 := Lib.hid (height_at _ g wF10 32 5 31 0 0 4 [0] 1 1 20 0 (.tuple #[.int .i16 (-16384), .int .i64 0]) [1, 0] 1 2 (by kernel_rfl) (by decide) (by decide) (by decide) HO.out (by omega) (by omega) w7 J)
  have HJ3 := Lib.hid J
  clear J
  go_wp2_with fail
  refine D3.out.mono ?_
  rintro e w8 ⟨rfl, J, hT⟩
  have hgw := HGW.out
  replace KC := HJ3.out.blk hT KC (by decide)
  replace hof := HJ3.out.own hT hof (by decide)
  replace hB := hT.old hB hB.size (by rintro k hk rfl; omega)
  clear D3 HJ3 hT hgw
  have D5 := Lib.hid (met10_any _ g wF10 32 5 31 0 0 4 [1, 0] 1 2 w8 J)
  go_wp2_with fail
  refine D5.out.mono ?_
  rintro e w9 ⟨rfl, q9, hq9⟩
  have hT9 : Turned (fun _ => False) w8 w9 := by rw [hq9]; exact (Turned.refl _ w8).drewN _
  have J9 := J.turned hT9 (fun _ _ h => h)
  replace KC := KC.turned hT9 (fun h => h)
  replace hof := hT9.own hof (fun _ _ h => h)
  replace hB := hT9.old hB hB.size (fun _ _ h => h)
  clear hT9
  clear D5 J hq9
  have D6 := Lib.hid (held_any _ g wF10 32 5 31 0 0 4 [1, 0] 1 2 w9 J9)
  have HJ9 := Lib.hid J9
  clear J9
  go_wp2_with fail
  refine D6.out.mono ?_
  rintro e w10 ⟨v10, rfl, ho10, hA⟩
  rw [show ([1, 0] : List Nat).length = 2 from rfl] at ho10
  obtain ⟨g10, c10, rfl, _, _, _, _⟩ := ownsRow_val ho10 (by decide)
  have J10 := HJ9.out.below hA
  replace KC := KC.below hA KC.lt
  replace hof := ownsRow_below hof hA
  replace hB := hB.trans (hA.mono hB.size)
  clear D6 HJ9 hA
  have D7 := Lib.hid (new_any [] 0 rfl (by decide) (by intro x hx; cases hx) 4 (by decide) (by decide) none 0 w10 (Sl.nil _ _))
  have HJ10 := Lib.hid J10
  clear J10
  go_wp2_with fail
  refine D7.out.mono ?_
  rintro e w11 ⟨q11, v11, hq11, hv11, rfl, hA⟩
  obtain rfl : q11 = 5 := getC_nil hq11
  obtain rfl : v11 = none := by
    cases v11 with
    | none => rfl
    | some x => have := hv11.2 rfl; omega
  have J11 := HJ10.out.below hA
  replace KC := KC.below hA KC.lt
  replace hof := ownsRow_below hof hA
  replace ho10 := ownsRow_below ho10 hA
  replace hB := hB.trans (hA.mono hB.size)
  clear D7 HJ10 hA hq11 hv11
  have D8 := Lib.hid (newRoom_go none 0 0 3 (by decide) w11)
  have HJ11 := Lib.hid J11
  clear J11
  go_wp2_with fail
  refine D8.out.mono ?_
  rintro e w12 ⟨rfl, rfl⟩
  clear D8
  have D9 := Lib.hid (chart10_of _ g wF10 32 5 31 0 0 4 [1, 0] 1 2 _ HJ11.out)
  obtain ⟨bz, cz, hz, _, _, _, _⟩ := ownsRow_val hof (by decide)
  cases hz
  have hcz : w11.cell? ⟨bz, 20, none⟩ = some (.int .i16 (-16384)) := ownsRow_cell hof (by rw [i16s_at _ 20 (by rw [wF10_length]; decide)]; rfl)
  have hcl : w11.cell? ⟨g10, 0, none⟩ = some (.int .i64 1) := ownsRow_cell ho10 rfl
  have c2 := KC.cell (i := 2) rfl
  clear KC hof ho10 HJ11 HO HGC HGW
  have fd1 : ∀ wx : World, (Instr.field 28 (cv 32 5 (.slice none 0 0) 31 0 0) 0).run Try.prog wx = .ok (hv 32 5 (.slice none 0 0)) wx := fun wx => by kernel_rfl
  have fd2 : ∀ wx : World, (Instr.field 26 (hv 32 5 (.slice none 0 0)) 0).run Try.prog wx = .ok (.int .i64 32) wx := fun wx => by kernel_rfl
  go_wp2_with fail
  refine D9.out.mono ?_
  rintro e w13 ⟨rfl, hA⟩
  replace hB := hB.trans (hA.mono hB.size)
  clear D9 hA
  go_wp2_with fail
  go_ret
  exact ⟨rfl, hB⟩
end Go.Proofs.Ytiflbbpliioblaa
