/-
  The reference's words on a cache: heights, places, uses.
-/
import Derived.Test.YtiflbbpliioblaaCacheN
import Derived.Test.YtiflbbpliioblaaPackTile
set_option linter.unusedVariables false
set_option linter.unusedSimpArgs false
namespace Go.Proofs.Ytiflbbpliioblaa
open Go Go.RowKit Go.Th Go.Th.Crc

set_option maxRecDepth 20000 in
theorem ref10Off_any (W H : Nat) (x y : Int) (a : Option Addr) (n cap : Nat) (hoff : ¬ (0 ≤ x ∧ 0 ≤ y ∧ x < (W : Int) ∧ y < (H : Int))) (w : World) :
    Calls Try.prog 11 #[hv W H (.slice a n cap), .int .i64 x, .int .i64 y] w fun e w' => e = .returned (.tuple #[.int .i16 0, .int .i64 9]) ∧ Below w.heap.size w w' := by
  by_cases p : x < 0
  · clear hoff
    go_enter Try.func11, Try.ntmps11
    go_wp2_with fail
    go_ret2
    exact ⟨rfl, (Below.refl _ _).alloc (Nat.le_refl _) _⟩
  · by_cases b : y < 0
    · clear hoff
      go_enter Try.func11, Try.ntmps11
      go_wp2_with fail
      go_ret2
      exact ⟨rfl, (Below.refl _ _).alloc (Nat.le_refl _) _⟩
    · by_cases d : (W : Int) ≤ x
      · clear hoff
        go_enter Try.func11, Try.ntmps11
        go_wp2_with fail
        go_ret2
        exact ⟨rfl, (Below.refl _ _).alloc (Nat.le_refl _) _⟩
      · have d' : (H : Int) ≤ y := by omega
        clear hoff
        go_enter Try.func11, Try.ntmps11
        go_wp2_with fail
        go_ret2
        exact ⟨rfl, (Below.refl _ _).alloc (Nat.le_refl _) _⟩

set_option maxRecDepth 20000 in
theorem ref10In_go (W H x y n p q : Nat) (z : Int) (b o cap : Nat) (hx : x < W) (hy : y < H) (hW : W ≤ 256) (hH : H ≤ 256) (hp : (y : Int) * (W : Int) = (p : Int)) (hp2 : p ≤ 100000) (hq : q = p + x) (hqn : q < n) (hmx : n ≤ cap ∧ cap ≤ 9223372036854775807) (w : World) (hb : b < w.heap.size) (hc : w.cell? ⟨b, o + q, none⟩ = some (.int .i16 z)) :
    Calls Try.prog 11 #[hv W H (.slice (some ⟨b, o, none⟩) n cap), .int .i64 x, .int .i64 y] w fun e w' => e = .returned (hgt z) ∧ Below w.heap.size w w' := by
  have hx0 : ¬ ((x : Int) < 0) := by omega
  have hy0 : ¬ ((y : Int) < 0) := by omega
  have hxW : ¬ ((W : Int) ≤ (x : Int)) := by omega
  have hyH : ¬ ((H : Int) ≤ (y : Int)) := by omega
  have hqi : (p : Int) + (x : Int) = (q : Int) := by omega
  clear hq hx hy
  by_cases hv : z = -32768
  · subst hv
    go_enter Try.func11, Try.ntmps11
    go_wp2_with fail
    go_ret2
    exact ⟨rfl, (Below.refl _ _).alloc (Nat.le_refl _) _⟩
  · have hg2 : hgt z = .tuple #[.int .i16 z, .int .i64 0] := by unfold hgt; rw [if_neg hv]
    have HG := Lib.hid hg2
    clear hg2
    go_enter Try.func11, Try.ntmps11
    go_wp2_with fail
    go_ret2
    exact ⟨by rw [HG.out]; rfl, (Below.refl _ _).alloc (Nat.le_refl _) _⟩
theorem ref10In_any (F : List Int) (W H n x y : Nat) (hl : F.length = W * H) (hn : n = W * H) (hx : x < W) (hy : y < H) (hW : W ≤ 256) (hH : H ≤ 256) (a : Option Addr) (cap : Nat) (w : World) (hS : Sl w 1 (.slice a n cap) n (i16s F)) :
    Calls Try.prog 11 #[hv W H (.slice a n cap), .int .i64 x, .int .i64 y] w fun e w' => e = .returned (hgt (F.getD (y * W + x) 0)) ∧ Below w.heap.size w w' := by
  have hfit : y * W + x < W * H := by
    have := Nat.mul_le_mul_right W (Nat.succ_le_of_lt hy)
    rw [Nat.succ_mul, Nat.mul_comm H] at this
    omega
  have hle : y * W ≤ 256 * 256 := Nat.mul_le_mul (by omega) hW
  obtain ⟨b, o, rfl, hb, hc⟩ := cell_i16D hS (y * W + x) (by omega)
  exact ref10In_go W H x y n (y * W) (y * W + x) _ b o cap hx hy hW hH (by simp) (by omega) rfl (by omega) hS.max w hb hc

set_option maxRecDepth 20000 in
theorem ref10Tile_any (W H x y cw q n : Nat) (v : Value) (hv1 : ∃ a n cap, v = .slice a n cap) (hx : x ≤ 1000) (hy : y ≤ 1000) (hcw : cw ≤ 1000) (hq : ((y / 16 : Nat) : Int) * (cw : Int) = (q : Int)) (hq2 : q ≤ 1000000) (hn : n = q + x / 16)
    (CC : Hid (Ans 24 #[.int .i64 W] (.int .i64 cw))) (w : World) :
    Calls Try.prog 13 #[hv W H v, .int .i64 x, .int .i64 y] w fun e w' => e = .returned (.int .i64 n) ∧ Below w.heap.size w w' := by
  obtain ⟨a, k, cap, rfl⟩ := hv1
  have hX : (x : Int) / 16 = ((x / 16 : Nat) : Int) := by omega
  have hY : (y : Int) / 16 = ((y / 16 : Nat) : Int) := by omega
  obtain ⟨X, hXe⟩ : ∃ X, X = x / 16 := ⟨_, rfl⟩
  obtain ⟨Y, hYe⟩ : ∃ Y, Y = y / 16 := ⟨_, rfl⟩
  rw [← hXe] at hX hn
  rw [← hYe] at hY hq
  have HN := Lib.hid hn
  have hXb : X ≤ 1000 := by omega
  clear hXe hYe hn
  have KC := Blk.new w 26 [.int .i64 W, .int .i64 H, .slice a k cap]
  have hB : Below w.heap.size w (w.alloc (.cells #[.int .i64 W, .int .i64 H, .slice a k cap] 26)) := (Below.refl _ _).alloc (Nat.le_refl _) _
  go_enter Try.func13, Try.ntmps13
  go_wp2_with fail
  refine (CC.out _).mono ?_
  rintro e w2 ⟨rfl, hA⟩
  have hB2 := hB.trans (hA.mono hB.size)
  have HB := Lib.hid hB2
  clear CC hA hB hB2 KC
  go_wp2_with fail
  go_ret
  exact ⟨ret_int (by rw [HN.out]; omega), HB.out⟩
end Go.Proofs.Ytiflbbpliioblaa
