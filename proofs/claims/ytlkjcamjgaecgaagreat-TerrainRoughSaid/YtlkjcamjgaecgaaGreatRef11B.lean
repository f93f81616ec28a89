/-
  The reference's four around a place, its code, and the ground without rounding.
-/
import Derived.Test.YtlkjcamjgaecgaaGreatRef11A
set_option linter.unusedVariables false
set_option linter.unusedSimpArgs false
namespace Go.Proofs.YtlkjcamjgaecgaaGreat
open Go Go.RowKit Go.Th Go.Th.Crc

/-- What a call answers, wherever this row of heights lies. -/
abbrev AnsF (F : List Int) (a : Option Addr) (n cap : Nat) (f : Nat) (args : Array Value) (v : Value) : Prop :=
  ∀ w : World, Sl w 1 (.slice a n cap) n (i16s F) → Calls Tryz.prog f args w fun e w' => e = .returned v ∧ Below w.heap.size w w'

set_option maxRecDepth 20000 in
set_option maxHeartbeats 1600000 in
theorem cornerOff_go (W H : Int) (a : Option Addr) (n cap : Nat) (x y i k : Int) (C1 : Ans 14 #[hv W H (.slice a n cap), .int .i64 x, .int .i64 y] (.bool false)) :
    Ans 17 #[hv W H (.slice a n cap), .int .i64 x, .int .i64 y, .int .i64 i, .int .i64 k] (.tuple #[.int .i64 0, .int .i64 9]) := by
  intro w
  obtain ⟨w1, hw1⟩ : ∃ w1, w.alloc (.cells #[.int .i64 W, .int .i64 H, .slice a n cap] 26) = w1 := ⟨_, rfl⟩
  have hB1 : Below w.heap.size w w1 := by rw [← hw1]; exact (Below.refl _ _).alloc (Nat.le_refl _) _
  have K1 : Blk w1 w.heap.size 26 [.int .i64 W, .int .i64 H, .slice a n cap] := by rw [← hw1]; exact Blk.new w _ _
  have c0 := K1.cell (i := 0) rfl
  have c1 := K1.cell (i := 1) rfl
  have c2 := K1.cell (i := 2) rfl
  have HW1 := Lib.hid hw1
  clear hw1
  go_enter Tryz.func17, Tryz.ntmps17
  go_upto_region 1 with fail
  rw [HW1.out]
  go_wp2_with fail
  refine (C1 w1).mono ?_
  rintro z w2 ⟨rfl, hA⟩
  have hB2 := hB1.trans (hA.mono hB1.size)
  clear C1 hA HW1 hB1 c0 c1 c2 K1
  go_wp2_with fail
  go_ret2
  exact ⟨rfl, hB2⟩

set_option maxRecDepth 20000 in
set_option maxHeartbeats 3200000 in
theorem cornerIn_go (F : List Int) (W H : Int) (a : Option Addr) (n cap : Nat) (X Y i k p q u v : Nat) (z c : Int) (hp : (X : Int) / 256 = (p : Int)) (hq : (Y : Int) / 256 = (q : Int)) (hp2 : p ≤ 1000) (hq2 : q ≤ 1000) (hi : i ≤ 1) (hk : k ≤ 1)
    (hu : u = p + if X % 256 = 0 then 0 else i) (hv' : v = q + if Y % 256 = 0 then 0 else k) (hz : wrap64 z = z) (hz2 : IntKind.i64.wrap z = z)
    (C1 : Ans 14 #[hv W H (.slice a n cap), .int .i64 X, .int .i64 Y] (.bool true))
    (C2 : AnsF F a n cap 34 #[hv W H (.slice a n cap), .int .i64 u, .int .i64 v] (.tuple #[.int .i16 z, .int .i64 c])) :
    AnsF F a n cap 17 #[hv W H (.slice a n cap), .int .i64 X, .int .i64 Y, .int .i64 i, .int .i64 k] (.tuple #[.int .i64 z, .int .i64 c]) := by
  intro w hS
  obtain ⟨w1, hw1⟩ : ∃ w1, w.alloc (.cells #[.int .i64 W, .int .i64 H, .slice a n cap] 26) = w1 := ⟨_, rfl⟩
  have hB1 : Below w.heap.size w w1 := by rw [← hw1]; exact (Below.refl _ _).alloc (Nat.le_refl _) _
  have K1 : Blk w1 w.heap.size 26 [.int .i64 W, .int .i64 H, .slice a n cap] := by rw [← hw1]; exact Blk.new w _ _
  have c0 := K1.cell (i := 0) rfl
  have c1 := K1.cell (i := 1) rfl
  have c2 := K1.cell (i := 2) rfl
  have HW1 := Lib.hid hw1
  have HS := Lib.hid hS
  clear hw1 hS
  go_enter Tryz.func17, Tryz.ntmps17
  go_upto_region 1 with fail
  rw [HW1.out]
  go_wp2_with fail
  refine (C1 w1).mono ?_
  rintro e w2 ⟨rfl, hA⟩
  replace K1 := K1.below hA K1.lt
  have hB2 := hB1.trans (hA.mono hB1.size)
  have D2 := C2 w2 (HS.out.below hB2)
  clear C1 C2 hA HW1 hB1 c0 c1 c2
  have c0 := K1.cell (i := 0) rfl
  have c1 := K1.cell (i := 1) rfl
  have c2 := K1.cell (i := 2) rfl
  by_cases hX : X % 256 = 0
  · rw [if_pos hX, Nat.add_zero] at hu
    subst hu
    have hX' : (X : Int) % 256 = 0 := by omega
    by_cases hY : Y % 256 = 0
    · rw [if_pos hY, Nat.add_zero] at hv'
      subst hv'
      have hY' : (Y : Int) % 256 = 0 := by omega
      go_wp2_with fail
      refine D2.mono ?_
      rintro e w3 ⟨rfl, hA⟩
      go_wp2_with fail
      go_ret2
      exact ⟨rfl, hB2.trans (hA.mono hB2.size)⟩
    · rw [if_neg hY] at hv'
      have hY' : ¬ (Y : Int) % 256 = 0 := by omega
      have e1 : (q : Int) + (k : Int) = (v : Int) := by omega
      clear hv'
      go_wp2_with fail
      refine D2.mono ?_
      rintro e w3 ⟨rfl, hA⟩
      go_wp2_with fail
      go_ret2
      exact ⟨rfl, hB2.trans (hA.mono hB2.size)⟩
  · rw [if_neg hX] at hu
    have hX' : ¬ (X : Int) % 256 = 0 := by omega
    have e2 : (p : Int) + (i : Int) = (u : Int) := by omega
    clear hu
    by_cases hY : Y % 256 = 0
    · rw [if_pos hY, Nat.add_zero] at hv'
      subst hv'
      have hY' : (Y : Int) % 256 = 0 := by omega
      go_wp2_with fail
      refine D2.mono ?_
      rintro e w3 ⟨rfl, hA⟩
      go_wp2_with fail
      go_ret2
      exact ⟨rfl, hB2.trans (hA.mono hB2.size)⟩
    · rw [if_neg hY] at hv'
      have hY' : ¬ (Y : Int) % 256 = 0 := by omega
      have e1 : (q : Int) + (k : Int) = (v : Int) := by omega
      clear hv'
      go_wp2_with fail
      refine D2.mono ?_
      rintro e w3 ⟨rfl, hA⟩
      go_wp2_with fail
      go_ret2
      exact ⟨rfl, hB2.trans (hA.mono hB2.size)⟩

/-- A map's sides and heights, as the reference takes them. -/
structure FldOk (F : List Int) (W H n : Nat) : Prop where
  len : F.length = W * H
  n : n = W * H
  W1 : 2 ≤ W ∧ W ≤ 256
  H1 : 2 ≤ H ∧ H ≤ 256
  i16 : ∀ u ∈ F, In16 u
theorem corner_off (W H : Nat) (x y i k : Int) (a : Option Addr) (n cap : Nat) (hW : 1 ≤ W ∧ W ≤ 1000) (hH : 1 ≤ H ∧ H ≤ 1000) (h : ¬ inS W H x y) :
    Ans 17 #[hv W H (.slice a n cap), .int .i64 x, .int .i64 y, .int .i64 i, .int .i64 k] (.tuple #[.int .i64 0, .int .i64 9]) := by
  have C1 := rinside_any W H x y a n cap hW hH
  rw [decide_eq_false h] at C1
  exact cornerOff_go W H a n cap x y i k C1
theorem told_at {F : List Int} {W H n : Nat} (O : FldOk F W H n) (X Y i k : Nat) (h : inS W H X Y) (hi : i ≤ 1) (hk : k ≤ 1) : told F W H (colT X i : Nat) (colT Y k : Nat) = .tuple #[.int .i16 (czT (zT F W X Y i k)), .int .i64 (ccT (zT F W X Y i k))] := by
  have h1 := colT_lt (W := W) (X := X) (i := i) (by have := O.W1; omega) h.2.2.1 hi
  have h2 := colT_lt (W := H) (X := Y) (i := k) (by have := O.H1; omega) h.2.2.2 hk
  unfold told
  rw [if_pos (show inF W H (colT X i : Nat) (colT Y k : Nat) from ⟨by omega, by omega, by omega, by omega⟩), hgt_eq]
  rfl
theorem corner_in {F : List Int} {W H n : Nat} (O : FldOk F W H n) (X Y i k : Nat) (a : Option Addr) (cap : Nat) (h : inS W H X Y) (hi : i ≤ 1) (hk : k ≤ 1) :
    AnsF F a n cap 17 #[hv W H (.slice a n cap), .int .i64 X, .int .i64 Y, .int .i64 i, .int .i64 k] (.tuple #[.int .i64 (czT (zT F W X Y i k)), .int .i64 (ccT (zT F W X Y i k))]) := by
  have hW := O.W1
  have hH := O.H1
  have C1 := rinside_any W H X Y a n cap (by omega) (by omega)
  rw [decide_eq_true h] at C1
  have hr := czT_range (show In16 (zT F W X Y i k) from getD_in16 O.i16 _)
  have C2 : AnsF F a n cap 34 #[hv W H (.slice a n cap), .int .i64 (colT X i : Nat), .int .i64 (colT Y k : Nat)] (.tuple #[.int .i16 (czT (zT F W X Y i k)), .int .i64 (ccT (zT F W X Y i k))]) := by
    intro w hS
    rw [← told_at O X Y i k h hi hk]
    exact ref10_told F W H n _ _ O.len O.n (by omega) (by omega) a cap w hS
  obtain ⟨_, _, h3, h4⟩ := h
  exact cornerIn_go F W H a n cap X Y i k (X / 256) (Y / 256) (colT X i) (colT Y k) _ _ (by omega) (by omega) (by omega) (by omega) hi hk rfl rfl (IntWalk.wrap64_in _ (by omega)) (IntWalk.i64_in _ (by omega)) C1 C2
end Go.Proofs.YtlkjcamjgaecgaaGreat
