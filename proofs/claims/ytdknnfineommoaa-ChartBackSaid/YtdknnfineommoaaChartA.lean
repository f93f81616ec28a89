/-
  Whether a cell, a field may be so; how many tiles; which place; how many bytes ahead: the code's.
-/
import Derived.Test.YtdknnfineommoaaPackTile
import Derived.Test.YtdknnfineommoaaChartSpec
import Derived.Test.YtdknnfineommoaaAns
import Derived.Deep.QuietTactic
import Derived.BigQuiet
set_option linter.unusedVariables false
set_option linter.unusedSimpArgs false
namespace Go.Proofs.Ytdknnfineommoaa
open Go Go.RowKit Go.Th Go.Th.Crc

/-- A struct and a value that are handed back. -/
theorem res_blk_tmp {P : Program} {fn : Func} {p q : Tmp} {ty : TypeId} (h : fn.results = #[.cell p ty, .tmp q]) {tmps : Array Value} {w : World} {g : Nat} {t : TypeId} {cs : List Value} {d : TypeDesc} {u : Value}
    (hp : tmps.getD p undef = .pointer (some ⟨g, 0, none⟩)) (K : Blk w g t cs) (hu : P.underlying ty = some d) (hd : (match d with | .struct _ | .array _ _ => true | _ => false) = true) (hi : (P.info? ty).map (·.size) = some cs.length) (hq : tmps.getD q undef = u) :
    (results fn tmps).run P w = .ok (.tuple #[.agg cs.toArray, u]) w := by
  have hp' : tmps[p]?.getD undef = .pointer (some ⟨g, 0, none⟩) := by simpa using hp
  have hq' : tmps[q]?.getD undef = u := by simpa using hq
  simp [results, h, hp', hq', asAddr, run_loadVar_row w g t ty cs.toArray (0, 0) d K hu hd (by simpa using hi)]

abbrev cv (W H : Int) (v : Value) (cell ox oy : Int) : Value := .agg #[.int .i64 W, .int .i64 H, v, .int .i64 cell, .int .i32 ox, .int .i32 oy]
abbrev dv (W H : Int) (v : Value) (cell ox oy : Int) (a s : Value) : Value := .agg #[.int .i64 W, .int .i64 H, v, .int .i64 cell, .int .i32 ox, .int .i32 oy, a, s]
def isC (m : Int) : Bool := decide (1 ≤ m ∧ m ≤ 1000)
theorem isC_yes {m : Int} (e : isC m = true) : 1 ≤ m ∧ m ≤ 1000 := by unfold isC at e; exact of_decide_eq_true e
theorem isC_of {m : Int} (e : 1 ≤ m ∧ m ≤ 1000) : isC m = true := by unfold isC; exact decide_eq_true e
theorem isC_not {m : Int} (e : ¬ (1 ≤ m ∧ m ≤ 1000)) : isC m = false := by unfold isC; exact decide_eq_false e

set_option maxRecDepth 20000 in
theorem isCell_go (m : Int) : Pure 32 #[.int .i64 m] (.bool (isC m)) := by
  intro W
  by_cases a : 1 ≤ m
  · by_cases b : m ≤ 1000
    · rw [isC_of ⟨a, b⟩]
      go_enter Try.func32, Try.ntmps32
      go_wp2
      go_ret
      exact ⟨rfl, rfl⟩
    · rw [isC_not (fun e => b e.2)]
      go_enter Try.func32, Try.ntmps32
      go_wp2
      go_ret
      exact ⟨rfl, rfl⟩
  · rw [isC_not (fun e => a e.1)]
    go_enter Try.func32, Try.ntmps32
    go_wp2
    go_ret
    exact ⟨rfl, rfl⟩

set_option maxRecDepth 20000 in
theorem isField9_any (x y : Int) : Ans 35 #[.int .i64 x, .int .i64 y] (.bool (isF x y)) := by
  intro w
  cases hF : isF x y
  · have C1 := Lib.hid (fun wx => check_range x y (.slice none 0 0) hF wx ⟨none, 0, 0, rfl⟩)
    clear hF
    go_enter Try.func35, Try.ntmps35
    go_wp2_with fail
    refine (C1.out _).mono ?_
    rintro e wx ⟨rfl, hB⟩
    go_wp2_with fail
    go_ret
    exact ⟨rfl, hB⟩
  · obtain ⟨h1, h2, h3, h4⟩ := isF_yes hF
    obtain ⟨X, rfl⟩ := Int.eq_ofNat_of_zero_le (show 0 ≤ x by omega)
    obtain ⟨Y, rfl⟩ := Int.eq_ofNat_of_zero_le (show 0 ≤ y by omega)
    have hp : 0 < X * Y := Nat.mul_pos (by omega) (by omega)
    have C1 := Lib.hid (fun wx => check_size X Y 0 (X * Y) none 0 hF rfl (by omega) (by omega) wx)
    clear hF
    go_enter Try.func35, Try.ntmps35
    go_wp2_with fail
    refine (C1.out _).mono ?_
    rintro e wx ⟨rfl, hB⟩
    go_wp2_with fail
    go_ret
    exact ⟨rfl, hB⟩

set_option maxRecDepth 20000 in
theorem count9_any (W H : Nat) (hF : isF W H = true) : Ans 38 #[.int .i64 W, .int .i64 H] (.int .i64 (nT W H : Nat)) := by
  intro w
  obtain ⟨h1, h2, h3, h4⟩ := isF_yes hF
  have C1 := isField9_any W H
  rw [hF] at C1
  have C1 := Lib.hid C1
  have C2 := Lib.hid (count_go W (by omega) (by omega))
  have C3 := Lib.hid (count_go H (by omega) (by omega))
  have l := nT_le (W := W) (H := H) (by omega) (by omega)
  have hm : ((cnt W : Nat) : Int) * ((cnt H : Nat) : Int) = ((nT W H : Nat) : Int) := by unfold nT; simp
  obtain ⟨n, hn⟩ : ∃ n, n = nT W H := ⟨_, rfl⟩
  obtain ⟨cx, hcx⟩ : ∃ c, c = cnt W := ⟨_, rfl⟩
  obtain ⟨cy, hcy⟩ : ∃ c, c = cnt H := ⟨_, rfl⟩
  rw [← hcx, ← hcy, ← hn] at hm
  rw [← hcx] at C2
  rw [← hcy] at C3
  rw [← hn] at l ⊢
  clear hF hn hcx hcy
  go_enter Try.func38, Try.ntmps38
  go_wp2_with fail
  refine (C1.out _).mono ?_
  rintro e w2 ⟨rfl, hB⟩
  clear C1
  go_wp2_with fail
  refine (C2.out _).mono ?_
  rintro e wx ⟨rfl, rfl⟩
  clear C2
  go_wp2_with fail
  refine (C3.out _).mono ?_
  rintro e wx ⟨rfl, rfl⟩
  clear C3
  go_wp2_with fail
  go_ret
  exact ⟨rfl, hB⟩

set_option maxRecDepth 20000 in
theorem head_any (W H : Nat) (hF : isF W H = true) : Ans 20 #[.int .i64 W, .int .i64 H] (.int .i64 (headLen W H : Nat)) := by
  intro w
  obtain ⟨h1, h2, h3, h4⟩ := isF_yes hF
  have C1 := isField9_any W H
  rw [hF] at C1
  have C1 := Lib.hid C1
  have C2 := count9_any W H hF
  have l := nT_le (W := W) (H := H) (by omega) (by omega)
  unfold headLen
  obtain ⟨n, hn⟩ : ∃ n, n = nT W H := ⟨_, rfl⟩
  rw [← hn] at l C2 ⊢
  have C2 := Lib.hid C2
  clear hF hn
  go_enter Try.func20, Try.ntmps20
  go_wp2_with fail
  refine (C1.out _).mono ?_
  rintro e w2 ⟨rfl, hB⟩
  clear C1
  go_wp2_with fail
  refine (C2.out _).mono ?_
  rintro e w3 ⟨rfl, hB3⟩
  clear C2
  go_wp2_with fail
  go_ret
  exact ⟨ret_int (by omega), hB.trans (hB3.mono hB.size)⟩

set_option maxRecDepth 20000 in
theorem place_any (W i : Nat) (h0 : 0 < W) (hW : W ≤ 1000) (hi : i ≤ 1000000) : Ans 41 #[.int .i64 W, .int .i64 i] (pv ((i % cnt W : Nat) : Int) ((i / cnt W : Nat) : Int)) := by
  intro w
  have C2 := count_go W h0 (by omega)
  have hc := cnt_ge W
  have hl := cnt_le W
  obtain ⟨c, hcc⟩ : ∃ c, c = cnt W := ⟨_, rfl⟩
  rw [← hcc] at C2 hc hl ⊢
  have hne : ¬ c = 0 := by omega
  have e1 : (i : Int).tmod (c : Int) = ((i % c : Nat) : Int) := rfl
  have e2 : (i : Int).tdiv (c : Int) = ((i / c : Nat) : Int) := rfl
  have hq : i / c ≤ i := Nat.div_le_self _ _
  have hr : i % c < c := Nat.mod_lt _ (by omega)
  obtain ⟨q, hqq⟩ : ∃ q, q = i / c := ⟨_, rfl⟩
  obtain ⟨r, hrr⟩ : ∃ r, r = i % c := ⟨_, rfl⟩
  rw [← hqq] at e2 hq ⊢
  rw [← hrr] at e1 hr ⊢
  have C2 := Lib.hid C2
  clear hcc hqq hrr
  obtain ⟨w1, hw1⟩ : ∃ w1, w.alloc (.cells #[.int .i64 0, .int .i64 0] 62) = w1 := ⟨_, rfl⟩
  have hB1 : Below w.heap.size w w1 := by rw [← hw1]; exact (Below.refl _ _).alloc (Nat.le_refl _) _
  have KA : Blk w1 w.heap.size 62 [.int .i64 0, .int .i64 0] := by rw [← hw1]; exact Blk.new w _ _
  go_enter Try.func41, Try.ntmps41
  go_wp2_with fail
  clear hw1
  refine (C2.out _).mono ?_
  rintro e w2 ⟨rfl, rfl⟩
  clear C2
  have a0 := KA.cell (i := 0) rfl
  have a1 := KA.cell (i := 1) rfl
  have b0 := KA.free 0
  have b1 := KA.free 1
  have KB := (KA.drew.set 0 (.int .i64 r) (by simp)).set 1 (.int .i64 q) (by simp)
  go_wp2_with fail
  go_region
  all_goals
    go_wp2_with fail
    refine bodyPost_ret (v := pv r q) (res_blk rfl rfl KB Try.underlying62 rfl (by kernel_rfl)) rfl ?_
    exact ⟨rfl, (hB1.drew.setCell (Nat.le_refl _) _).setCell (Nat.le_refl _) _⟩
end Go.Proofs.Ytdknnfineommoaa
