/-
  Numbers behind others; what is wrong with a map; two maps: the reference's.
-/
import Derived.Test.YtdknnfineommoaaChartA
import Derived.Test.YtdknnfineommoaaPackTile
set_option linter.unusedVariables false
set_option linter.unusedSimpArgs false
namespace Go.Proofs.Ytdknnfineommoaa
open Go Go.RowKit Go.Th Go.Th.Crc

set_option maxHeartbeats 1600000 in
set_option maxRecDepth 20000 in
theorem ref1Put_any (x n : Nat) (hx : x < 18446744073709551616) (hn : n ≤ 1000000) (w : World) :
    Calls Try.prog 52 #[.int .u64 x, .int .i64 n] w fun e w' => ∃ v, e = .returned v ∧ w'.ownsRow w.heap.size 5 1 v n (u8s (lowB x n)) ∧ Below w.heap.size w w' := by
  go_enter Try.func52, Try.ntmps52
  go_wp2_with fail
  go_loopw [5, 6, 7] (fun v y c wx => ∃ i : Nat, i ≤ n ∧ c = .int .i64 i ∧ y = .int .u64 (x / 256 ^ i : Nat) ∧ wx.ownsRow w.heap.size 5 1 v i (u8s (lowB x i)) ∧ Below w.heap.size w wx) (fun _ _ c _ => n - (intOf c).toNat)
  case atStart => exact ⟨0, Nat.zero_le _, rfl, by simp, World.ownsRow_nil _ _ _ _, Below.refl _ _⟩
  case round =>
    obtain ⟨i, hi, rfl, rfl, ho, hB⟩ := hrel
    have hsz := hB.size
    obtain ⟨y, hy⟩ : ∃ y, y = x / 256 ^ i := ⟨_, rfl⟩
    have hy2 : y < 18446744073709551616 := by rw [hy]; exact Nat.lt_of_le_of_lt (Nat.div_le_self _ _) hx
    rw [← hy]
    by_cases hlt : i < n
    · have h1 : lowB x (i + 1) = lowB x i ++ [y % 256] := by rw [hy]; exact lowB_succ x i
      have h2 : y / 256 = x / 256 ^ (i + 1) := by rw [hy, Nat.pow_succ, Nat.div_div_eq_div_mul]
      have H1 := Lib.hid h1; clear h1
      have H2 := Lib.hid h2; clear h2 hy
      go_wp2_with (at_builtin; refine wpList_app Eu8 rfl (.tmp 14) (.tmp 18) rfl w.heap.size rfl (ho.alloc _) rfl (Sl.one _ _ _) (by intro u hu; simp at hu; subst hu; rfl) (by unfold maxLen; omega) (by omega) (by simp; omega) ?_)
      intro v2 w2 ho2 hg2 _
      have hB2 := (hB.alloc hB.size (.cells #[.int .u8 ((y : Int) % 256)] 5)).grown hg2 (by simp; omega) (fun q hq => (ho.lt q hq).1)
      clear ho hB hg2
      go_wp2
      go_roundw
      case rel =>
        refine ⟨i + 1, by omega, by go_num, ?_, ?_, hB2⟩
        · congr 1; rw [← H2.out]; omega
        · rw [H1.out, u8s_snoc]
          have e : ((y % 256 : Nat) : Int) = (y : Int) % 256 := by simp
          rw [e]
          exact ho2
      case measure => simp [intOf]; omega
    · obtain rfl : i = n := by omega
      go_wp2
      go_ret
      exact ⟨_, rfl, ho, hB⟩

set_option maxRecDepth 20000 in
/-- What a call that appends to its argument leaves. -/
theorem num9_any (B : Nat) (v : Value) (k n m x : Nat) (bs gs : List Nat) (hm : m = k + n) (hg : gs = bs ++ lowB x n) (hx : x < 18446744073709551616) (hn : n ≤ 1000) (hk : k ≤ 1000000000) (w : World) (hB : B ≤ w.heap.size) (ho : w.ownsRow B 5 1 v k (u8s bs)) :
    Calls Try.prog 28 #[v, .int .u64 x, .int .i64 n] w fun e w' => ∃ v', e = .returned v' ∧ w'.ownsRow B 5 1 v' m (u8s gs) ∧ Turned (fun j => v.ownBlock = some j) w w' ∧ (v'.ownBlock = v.ownBlock ∨ ∃ g, v'.ownBlock = some g ∧ w.heap.size ≤ g) := by
  subst hm hg
  have C1 := Lib.hid (ref1Put_any x n hx (by omega) w)
  have e : u8s (bs ++ lowB x n) = u8s bs ++ u8s (lowB x n) := by simp [u8s]
  rw [e]
  obtain ⟨b, hb⟩ : ∃ b, b = v.ownBlock := ⟨_, rfl⟩
  obtain ⟨a, cap, rfl, _, _⟩ := ownsRow_slice ho
  have HO := Lib.hid ho
  rw [← hb]
  clear ho e
  go_enter Try.func28, Try.ntmps28
  go_wp2_with fail
  refine C1.out.mono ?_
  rintro e w2 ⟨v2, rfl, ho2, hB2⟩
  obtain ⟨a2, cap2, rfl, _, _⟩ := ownsRow_slice ho2
  have hsz := hB2.size
  have HO2 := Lib.hid (ownsRow_below HO.out hB2)
  have HS := Lib.hid (Sl.of_own ho2)
  clear C1 ho2 HO
  go_wp2_with (at_builtin; refine wpList_app Eu8 rfl (.tmp 9) (.tmp 12) rfl B rfl HO2.out rfl HS.out (oneCell_u8s _) (by unfold maxLen; omega) (by omega) (by omega) ?_)
  intro v3 w3 ho3 hg3 hw3
  rw [← hb] at hg3 hw3
  obtain ⟨a3, cap3, rfl, _, _⟩ := ownsRow_slice ho3
  have hT := (Turned.below (S := fun j => b = some j) hB2).grown hg3 (fun j hj _ => hj)
  go_wp2_with fail
  go_ret
  exact ⟨_, rfl, ho3, hT, hw3.imp id (fun ⟨g, h1, h2⟩ => ⟨g, h1, by omega⟩)⟩
end Go.Proofs.Ytdknnfineommoaa
