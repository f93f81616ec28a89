/-
  How many numbers a kind has (the table), how many bytes a frame has; what bytes begin with: the code's.
-/
import Derived.Test.YtfkncfjdgbgeeaaDoorFrameSpec
import Derived.Test.YtfkncfjdgbgeeaaDoorPackCrc
import Derived.Test.YtfkncfjdgbgeeaaDoorPackBits
import Derived.Deep.QuietTactic
import Derived.BigQuiet
set_option linter.unusedVariables false
set_option linter.unusedSimpArgs false
namespace Go.Proofs.YtfkncfjdgbgeeaaDoor
open Go Go.RowKit Go.Th Go.Th.Crc

/-- The table of how many numbers each kind has lies as the program lays it. -/
def Cts (w : World) : Prop := ∀ j : Nat, j < 8 → w.cell? ⟨0, j, none⟩ = some (.int .i64 (fcnt j))

theorem Cts.lt {w : World} (C : Cts w) : 0 < w.heap.size := World.block_lt_of_cell? w _ (C 0 (by decide))
theorem Cts.below {w w' : World} (C : Cts w) (h : Below w.heap.size w w') : Cts w' := fun j hj => (h.cell (p := ⟨0, j, none⟩) C.lt).trans (C j hj)
theorem Cts.old {B : Nat} {w w' : World} (C : Cts w) (h : Below B w w') (hB : 0 < B) : Cts w' := fun j hj => (h.cell (p := ⟨0, j, none⟩) hB).trans (C j hj)
theorem Cts.turned {S : Nat → Prop} {w w' : World} (C : Cts w) (h : Turned S w w') (hs : ¬ S 0) : Cts w' := fun j hj => (h.cell (p := ⟨0, j, none⟩) C.lt hs).trans (C j hj)
theorem Cts.drew {w : World} (C : Cts w) : Cts w.drew := C

/-- What a call answers in any world where the table lies. -/
abbrev CAns (f : Nat) (args : Array Value) (v : Value) : Prop := ∀ w : World, Cts w → Calls Tryd.prog f args w fun e w' => e = .returned v ∧ w = w'

set_option maxRecDepth 20000 in
theorem numbers_any (k : Int) : CAns 10 #[.int .i64 k] (.int .i64 (fcnt k)) := by
  intro w C
  by_cases h1 : k < 0
  · have e : fcnt k = -1 := by unfold fcnt; repeat' split <;> omega
    rw [e]
    go_enter Tryd.func10, Tryd.ntmps10
    go_wp2
    go_ret
    exact ⟨rfl, rfl⟩
  · by_cases h2 : 8 ≤ k
    · have e : fcnt k = -1 := by unfold fcnt; repeat' split <;> omega
      rw [e]
      go_enter Tryd.func10, Tryd.ntmps10
      go_wp2
      go_ret
      exact ⟨rfl, rfl⟩
    · obtain ⟨j, rfl⟩ := Int.eq_ofNat_of_zero_le (show 0 ≤ k by omega)
      have c := C j (by omega)
      obtain ⟨q, hq⟩ : ∃ q, q = fcnt (j : Int) := ⟨_, rfl⟩
      rw [← hq] at c ⊢
      clear hq
      go_enter Tryd.func10, Tryd.ntmps10
      go_wp2
      go_ret
      exact ⟨rfl, rfl⟩

/-- How many bytes a frame of a kind has. -/
def fsize (k : Int) : Int := if fcnt k < 0 then -1 else 12 + 4 * fcnt k

set_option maxRecDepth 20000 in
theorem size_any (k : Int) : CAns 14 #[.int .i64 k] (.int .i64 (fsize k)) := by
  intro w C
  have hr := fcnt_range k
  have C1 := numbers_any k w C
  unfold fsize
  obtain ⟨q, hq⟩ : ∃ q, q = fcnt k := ⟨_, rfl⟩
  rw [← hq] at hr C1 ⊢
  clear hq C
  have C1 := Lib.hid C1
  by_cases h : q < 0
  · rw [if_pos h]
    go_enter Tryd.func14, Tryd.ntmps14
    go_wp2_with fail
    refine C1.out.mono ?_
    rintro e w' ⟨rfl, rfl⟩
    go_wp2_with fail
    go_ret
    exact ⟨rfl, rfl⟩
  · rw [if_neg h]
    go_enter Tryd.func14, Tryd.ntmps14
    go_wp2_with fail
    refine C1.out.mono ?_
    rintro e w' ⟨rfl, rfl⟩
    go_wp2_with fail
    go_ret
    exact ⟨ret_int (by omega), rfl⟩

theorem sl_cell {w : World} {a : Option Addr} {n cap : Nat} {xs : List Nat} (h : Sl w 1 (.slice a n cap) n (u8s xs)) (j : Nat) (hj : j < xs.length) :
    ∃ b o, a = some ⟨b, o, none⟩ ∧ w.cell? ⟨b, o + j, none⟩ = some (.int .u8 (xs[j] : Nat)) := by
  obtain ⟨a', c', he, _, _, _, _, h5⟩ := h
  cases he
  exact h5 j _ (u8s_at xs j hj)

theorem fsize_sz (bs : List Nat) (h : 0 ≤ fcnt (kd bs)) : fsize (kd bs) = (sz bs : Nat) := by
  unfold fsize sz fncnt
  rw [if_neg (by omega)]
  omega

set_option maxRecDepth 20000 in
set_option maxHeartbeats 1600000 in
theorem length_any (vx : Value) (bs : List Nat) (hl : bs.length ≤ 1000000000) (hb : ∀ x ∈ bs, x < 256) (w : World) (C : Cts w) (h : Sl w 1 vx bs.length (u8s bs)) :
    Calls Tryd.prog 26 #[vx] w fun e w' => e = .returned (.tuple #[.int .i64 (if lcode bs = 0 then sz bs else 0 : Nat), .int .i64 (lcode bs : Nat)]) ∧ w = w' := by
  obtain ⟨a, cap, rfl⟩ := sl_slice h
  obtain ⟨n, hn⟩ : ∃ n, n = bs.length := ⟨_, rfl⟩
  rw [← hn] at h hl
  have HN := Lib.hid hn
  by_cases h0 : n = 0
  · have e : lcode bs = 5 := by unfold lcode; rw [if_pos (by omega)]
    rw [e, ← hn]
    subst h0
    clear h HN hn hb
    go_enter Tryd.func26, Tryd.ntmps26
    go_wp2
    go_ret2
    exact ⟨rfl, rfl⟩
  obtain ⟨b, o, rfl, c0⟩ := sl_cell h 0 (by omega)
  have g0 : bs.getD 0 0 = bs[0]'(by omega) := by rw [List.getD_eq_getElem?_getD, List.getElem?_eq_getElem (by omega)]; rfl
  have b0 := hb _ (List.getElem_mem (show 0 < bs.length by omega))
  rw [← g0] at c0 b0
  obtain ⟨x, hx⟩ : ∃ x, x = bs.getD 0 0 := ⟨_, rfl⟩
  rw [← hx] at c0 b0
  rw [Nat.add_zero] at c0
  by_cases c1 : x ≠ 126
  · have e : lcode bs = 3 := by unfold lcode; rw [if_neg (by omega), if_pos (by rw [← hx]; exact c1)]
    rw [e, ← hn]
    have d1 : ((x : Int) != 126) = true := by simp; omega
    have d2 : ¬ (x : Int) = 126 := by omega
    clear h HN hn hb hx g0 e
    go_enter Tryd.func26, Tryd.ntmps26
    go_wp2
    go_ret2
    exact ⟨rfl, rfl⟩
  obtain rfl : x = 126 := by omega
  by_cases h1 : n ≤ 1
  · have e : lcode bs = 5 := by unfold lcode; rw [if_neg (by omega), if_neg (by rw [← hx]; exact c1), if_pos (by omega)]
    rw [e, ← hn]
    clear h HN hn hb hx g0 e
    go_enter Tryd.func26, Tryd.ntmps26
    go_wp2
    go_ret2
    exact ⟨rfl, rfl⟩
  obtain ⟨b', o', he, d0⟩ := sl_cell h 1 (by omega)
  cases he
  have g1 : bs.getD 1 0 = bs[1]'(by omega) := by rw [List.getD_eq_getElem?_getD, List.getElem?_eq_getElem (by omega)]; rfl
  have b1 := hb _ (List.getElem_mem (show 1 < bs.length by omega))
  rw [← g1] at d0 b1
  obtain ⟨y, hy⟩ : ∃ y, y = bs.getD 1 0 := ⟨_, rfl⟩
  rw [← hy] at d0 b1
  have hk : kd bs = (y : Int) := by unfold kd; rw [← hy]
  have C1 := size_any (y : Int) w C
  by_cases c2 : fcnt (y : Int) < 0
  · have e : lcode bs = 13 := by unfold lcode; rw [if_neg (by omega), if_neg (by rw [← hx]; exact c1), if_neg (by omega), if_pos (by rw [hk]; exact c2)]
    have e2 : fsize (y : Int) = -1 := by unfold fsize; rw [if_pos c2]
    rw [e2] at C1
    rw [e, ← hn]
    have C1 := Lib.hid C1
    clear h HN hn hb hx g0 e g1 hy hk C c2 e2
    go_enter Tryd.func26, Tryd.ntmps26
    go_wp2_with fail
    refine C1.out.mono ?_
    rintro e w' ⟨rfl, rfl⟩
    go_wp2_with fail
    go_ret2
    exact ⟨rfl, rfl⟩
  have e2 : fsize (y : Int) = (sz bs : Nat) := by rw [← hk]; exact fsize_sz bs (by rw [hk]; omega)
  have hz := sz_le bs
  rw [e2] at C1
  by_cases c3 : n < sz bs
  · have e : lcode bs = 5 := by unfold lcode; rw [if_neg (by omega), if_neg (by rw [← hx]; exact c1), if_neg (by omega), if_neg (by rw [hk]; exact c2), if_pos (by omega)]
    rw [e, ← hn]
    obtain ⟨m, hm⟩ : ∃ m, m = sz bs := ⟨_, rfl⟩
    rw [← hm] at hz C1 c3
    have C1 := Lib.hid C1
    clear h HN hn hb hx g0 e g1 hy hk C c2 e2 hm
    go_enter Tryd.func26, Tryd.ntmps26
    go_wp2_with fail
    refine C1.out.mono ?_
    rintro e w' ⟨rfl, rfl⟩
    go_wp2_with fail
    go_ret2
    exact ⟨rfl, rfl⟩
  · have e : lcode bs = 0 := by unfold lcode; rw [if_neg (by omega), if_neg (by rw [← hx]; exact c1), if_neg (by omega), if_neg (by rw [hk]; exact c2), if_neg (by omega)]
    rw [e, ← hn, if_pos rfl]
    obtain ⟨m, hm⟩ : ∃ m, m = sz bs := ⟨_, rfl⟩
    rw [← hm] at hz C1 c3 ⊢
    have C1 := Lib.hid C1
    clear h HN hn hb hx g0 e g1 hy hk C c2 e2 hm
    go_enter Tryd.func26, Tryd.ntmps26
    go_wp2_with fail
    refine C1.out.mono ?_
    rintro e w' ⟨rfl, rfl⟩
    go_wp2_with fail
    go_ret2
    exact ⟨rfl, rfl⟩

set_option maxRecDepth 20000 in
theorem num12_any (vx : Value) (bs : List Nat) (at_ size : Nat) (h4 : size ≤ 8) (hl : bs.length ≤ 1000000000) (hb : ∀ x ∈ bs, x < 256) (hyes : at_ + size ≤ bs.length) (w : World) (h : Sl w 1 vx bs.length (u8s bs)) :
    Calls Tryd.prog 38 #[vx, .int .i64 at_, .int .i64 size] w fun e w' => e = .returned (.int .u64 (rdF bs at_ size : Nat)) ∧ w = w' := by
  have C1 := bget_yes vx bs at_ size w h (by omega) (by omega) hb hyes
  rw [show leVal ((bs.drop at_).take size) = rdF bs at_ size from rfl] at C1
  obtain ⟨r, hrr⟩ : ∃ r, r = rdF bs at_ size := ⟨_, rfl⟩
  rw [← hrr] at C1 ⊢
  have C1 := Lib.hid C1
  obtain ⟨a, cap, rfl⟩ := sl_slice h
  clear hb hyes h hrr
  go_enter Tryd.func38, Tryd.ntmps38
  go_wp2_with fail
  refine C1.out.mono ?_
  rintro e wx ⟨rfl, rfl⟩
  clear C1
  go_wp2_with fail
  go_ret
  exact ⟨rfl, rfl⟩
end Go.Proofs.YtfkncfjdgbgeeaaDoor
