/-
  Numbers in bytes, how many numbers a kind has: the reference's.
-/
import Derived.Test.YtfkncfjdgbgeeaaDoorFrameSpec
import Derived.Test.YtfkncfjdgbgeeaaDoorPackBits
import Derived.Deep.QuietTactic
import Derived.BigQuiet
import Derived.WalkSpells
set_option linter.unusedVariables false
set_option linter.unusedSimpArgs false
namespace Go.Proofs.YtfkncfjdgbgeeaaDoor
open Go Go.RowKit Go.Th Go.Th.Crc

/-- What a call answers in any world, which it leaves as it was. -/
abbrev PAns (f : Nat) (args : Array Value) (v : Value) : Prop := ∀ w : World, Calls Tryd.prog f args w fun e w' => e = .returned v ∧ w = w'

set_option maxHeartbeats 1600000 in
set_option maxRecDepth 20000 in
theorem ref1Put12_any (x n : Nat) (hx : x < 18446744073709551616) (hn : n ≤ 1000000) (w : World) :
    Calls Tryd.prog 24 #[.int .u64 x, .int .i64 n] w fun e w' => ∃ v, e = .returned v ∧ w'.ownsRow w.heap.size 5 1 v n (u8s (lowB x n)) ∧ Below w.heap.size w w' := by
  go_enter Tryd.func24, Tryd.ntmps24
  go_wp2_with fail
  go_loopw [5, 6, 7] (fun v y c wx => ∃ i : Nat, i ≤ n ∧ c = .int .i64 i ∧ y = .int .u64 (x / 256 ^ i : Nat) ∧ wx.ownsRow w.heap.size 5 1 v i (u8s (lowB x i)) ∧ Below w.heap.size w wx) (fun _ _ c _ => n - (intOf c).toNat)
  case atStart => exact ⟨0, Nat.zero_le _, rfl, by simp, World.ownsRow_nil _ _ _ _, Below.refl _ _⟩
  case round =>
    obtain ⟨i, hi, rfl, rfl, ho, hB⟩ := hrel
    have hsz := hB.size
    obtain ⟨y, hy⟩ : ∃ y, y = x / 256 ^ i := ⟨_, rfl⟩
    have hy2 : y < 18446744073709551616 := by rw [hy]; exact Nat.lt_of_le_of_lt (Nat.div_le_self _ _) hx
    rw [← hy]
    by_cases hlt : i < n
    · have h1 : lowB x (i + 1) = lowB x i ++ [y % 256] := by rw [hy]; exact lowB_succ x i
      have h2 : y / 256 = x / 256 ^ (i + 1) := by rw [hy, Nat.pow_succ, Nat.div_div_eq_div_mul]
      have H1 := Lib.hid h1; clear h1
      have H2 := Lib.hid h2; clear h2 hy
      go_wp2_with (at_builtin; refine wpList_app Eu8 rfl (.tmp 14) (.tmp 18) rfl w.heap.size rfl (ho.alloc _) rfl (Sl.one _ _ _) (by intro u hu; simp at hu; subst hu; rfl) (by unfold maxLen; omega) (by omega) (by simp; omega) ?_)
      intro v2 w2 ho2 hg2 _
      have hB2 := (hB.alloc hB.size (.cells #[.int .u8 ((y : Int) % 256)] 5)).grown hg2 (by simp; omega) (fun q hq => (ho.lt q hq).1)
      clear ho hB hg2
      go_wp2
      go_roundw
      case rel =>
        refine ⟨i + 1, by omega, by go_num, ?_, ?_, hB2⟩
        · congr 1; rw [← H2.out]; omega
        · rw [H1.out, u8s_snoc]
          have e : ((y % 256 : Nat) : Int) = (y : Int) % 256 := by simp
          rw [e]
          exact ho2
      case measure => simp [intOf]; omega
    · obtain rfl : i = n := by omega
      go_wp2
      go_ret
      exact ⟨_, rfl, ho, hB⟩

theorem refNumbers12_any (k : Int) : PAns 11 #[.int .i64 k] (.int .i64 (fcnt k)) := by
  intro w
  unfold fcnt
  by_cases h1 : k = 1
  · subst h1
    go_enter Tryd.func11, Tryd.ntmps11
    go_wp2
    go_ret
    exact ⟨rfl, rfl⟩
  by_cases h6 : k = 6
  · subst h6
    go_enter Tryd.func11, Tryd.ntmps11
    go_wp2
    go_ret
    exact ⟨rfl, rfl⟩
  by_cases h2 : k = 2
  · subst h2
    go_enter Tryd.func11, Tryd.ntmps11
    go_wp2
    go_ret
    exact ⟨rfl, rfl⟩
  by_cases h3 : k = 3
  · subst h3
    go_enter Tryd.func11, Tryd.ntmps11
    go_wp2
    go_ret
    exact ⟨rfl, rfl⟩
  by_cases h7 : k = 7
  · subst h7
    go_enter Tryd.func11, Tryd.ntmps11
    go_wp2
    go_ret
    exact ⟨rfl, rfl⟩
  by_cases h4 : k = 4
  · subst h4
    go_enter Tryd.func11, Tryd.ntmps11
    go_wp2
    go_ret
    exact ⟨rfl, rfl⟩
  by_cases h5 : k = 5
  · subst h5
    go_enter Tryd.func11, Tryd.ntmps11
    go_wp2
    go_ret
    exact ⟨rfl, rfl⟩
  rw [if_neg (by omega), if_neg (by omega), if_neg (by omega), if_neg (by omega)]
  have d1 : (k == 1) = false := by simp [h1]
  have d2 : (k == 2) = false := by simp [h2]
  have d3 : (k == 3) = false := by simp [h3]
  have d4 : (k == 4) = false := by simp [h4]
  have d5 : (k == 5) = false := by simp [h5]
  have d6 : (k == 6) = false := by simp [h6]
  have d7 : (k == 7) = false := by simp [h7]
  go_enter Tryd.func11, Tryd.ntmps11
  go_wp2
  go_ret
  exact ⟨rfl, rfl⟩

theorem refSize12_any (k : Int) : PAns 29 #[.int .i64 k] (.int .i64 (12 + 4 * fcnt k)) := by
  intro w
  have hr := fcnt_range k
  have C1 := refNumbers12_any k w
  obtain ⟨q, hq⟩ : ∃ q, q = fcnt k := ⟨_, rfl⟩
  rw [← hq] at hr C1 ⊢
  clear hq
  have C1 := Lib.hid C1
  go_enter Tryd.func29, Tryd.ntmps29
  go_wp2_with fail
  refine C1.out.mono ?_
  rintro e w' ⟨rfl, rfl⟩
  go_wp2_with fail
  go_ret
  exact ⟨rfl, rfl⟩

theorem rdF_cons (bs : List Nat) (i m : Nat) (h : i < bs.length) : rdF bs i (m + 1) = bs[i] + 256 * rdF bs (i + 1) m := by
  unfold rdF
  rw [List.drop_eq_getElem_cons h, List.take_succ_cons]
  rfl

set_option maxRecDepth 20000 in
set_option maxHeartbeats 1600000 in
theorem refGet12_any (vx : Value) (bs : List Nat) (at_ size : Nat) (w : World) (h : Sl w 1 vx bs.length (u8s bs)) (hs1 : 1 ≤ size) (hs8 : size ≤ 7) (hl : bs.length ≤ 1000000000) (hb : ∀ x ∈ bs, x < 256) (hyes : at_ + size ≤ bs.length) :
    Calls Tryd.prog 30 #[vx, .int .i64 at_, .int .i64 size] w fun e w' => e = .returned (.tuple #[.int .u64 (rdF bs at_ size : Nat), .int .i64 0]) ∧ w = w' := by
  obtain ⟨a, cap, rfl, g1, g2, g3, g4, hs5⟩ := id h
  have h1 : ¬ ((at_ : Int) < 0) := by omega
  have h2 : ¬ ((bs.length : Int) < (at_ : Int)) := by omega
  have h3 : ¬ ((size : Int) < 0) := by omega
  have h4 : ¬ ((8 : Int) < size) := by omega
  have h5 : ¬ ((bs.length : Int) - (at_ : Int) < (size : Int)) := by omega
  have HS := Lib.hid hs5; clear hs5
  have HBY := Lib.hid hb; clear hb
  go_enter Tryd.func30, Tryd.ntmps30
  go_wp2_with fail
  go_loop [8, 9] (fun x c => ∃ j : Nat, j ≤ size ∧ c = .int .i64 ((j : Int) - 1) ∧ x = .int .u64 (rdF bs (at_ + j) (size - j) : Nat)) (fun _ c => (intOf c + 1).toNat)
  case atStart => exact ⟨size, Nat.le_refl _, rfl, by simp [rdF, leVal]⟩
  case round =>
    obtain ⟨j, hj, rfl, rfl⟩ := hrel
    rcases Nat.eq_zero_or_pos j with h0 | h0
    · subst h0
      go_wp2_with fail
      go_ret2
      exact ⟨by simp, rfl⟩
    · obtain ⟨i, rfl⟩ : ∃ i, j = i + 1 := ⟨j - 1, by omega⟩
      have hib : at_ + i < bs.length := by omega
      obtain ⟨b, o, rfl, hc⟩ := HS.out (at_ + i) _ (u8s_at bs (at_ + i) hib)
      have hy := HBY.out _ (List.getElem_mem hib)
      have hsn := rdF_cons bs (at_ + i) (size - (i + 1)) hib
      rw [show size - (i + 1) + 1 = size - i by omega] at hsn
      have hv := rdF_lt bs (at_ + i + 1) (size - (i + 1)) HBY.out
      have hv2 : rdF bs (at_ + i + 1) (size - (i + 1)) < 72057594037927936 := Nat.lt_of_lt_of_le hv (Nat.le_trans (Nat.pow_le_pow_right (n := 256) (by decide) (show size - (i + 1) ≤ 7 by omega)) (by decide))
      rw [show at_ + (i + 1) = at_ + i + 1 by omega]
      obtain ⟨x, hx⟩ : ∃ x, x = rdF bs (at_ + i + 1) (size - (i + 1)) := ⟨_, rfl⟩
      obtain ⟨y, hyy⟩ : ∃ y, y = bs[at_ + i] := ⟨_, rfl⟩
      rw [← hx, ← hyy] at hsn
      rw [← hx] at hv2 ⊢
      rw [← hyy] at hc hy
      have HN := Lib.hid hsn
      clear hsn hx hyy hv
      go_wp2_with fail
      go_round
      case rel => exact ⟨i, by omega, by first | (congr 1; done) | (congr 1; omega), by rw [HN.out]; first | (congr 1; done) | (congr 1; omega)⟩
      case measure => simp [intOf]
end Go.Proofs.YtfkncfjdgbgeeaaDoor
