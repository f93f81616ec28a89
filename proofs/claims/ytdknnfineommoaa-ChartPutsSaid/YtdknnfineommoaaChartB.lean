/-
  Numbers out of bytes; a header read; a part of bytes; the header written; a tile's bytes; the places: the code's.
-/
import Derived.Test.YtdknnfineommoaaChartA
import Derived.Deep.QuietTactic
import Derived.BigQuiet
set_option linter.unusedVariables false
set_option linter.unusedSimpArgs false
namespace Go.Proofs.Ytdknnfineommoaa
open Go Go.RowKit Go.Th Go.Th.Crc

theorem rd_lt (bs : List Nat) (at_ k : Nat) (hb : ∀ x ∈ bs, x < 256) : rd bs at_ k < 256 ^ k := by
  have h := leVal_lt ((bs.drop at_).take k) (fun x hx => hb x (List.mem_of_mem_drop (List.mem_of_mem_take hx)))
  refine Nat.lt_of_lt_of_le h (Nat.pow_le_pow_right (by decide) ?_)
  rw [List.length_take]; exact Nat.min_le_left _ _
theorem rd_lt4 (bs : List Nat) (at_ k : Nat) (hb : ∀ x ∈ bs, x < 256) (h4 : k ≤ 4) : rd bs at_ k < 4294967296 :=
  Nat.lt_of_lt_of_le (rd_lt bs at_ k hb) (Nat.le_trans (Nat.pow_le_pow_right (n := 256) (by decide) h4) (by decide))
theorem rd_lt2 (bs : List Nat) (at_ : Nat) (hb : ∀ x ∈ bs, x < 256) : rd bs at_ 2 < 65536 :=
  Nat.lt_of_lt_of_le (rd_lt bs at_ 2 hb) (by decide)

set_option maxRecDepth 20000 in
theorem num4_any (vx : Value) (bs : List Nat) (at_ size : Nat) (h4 : size ≤ 4) (hl : bs.length ≤ 1000000000) (hb : ∀ x ∈ bs, x < 256) (hyes : at_ + size ≤ bs.length) (w : World) (h : Sl w 1 vx bs.length (u8s bs)) :
    Calls Try.prog 34 #[vx, .int .i64 at_, .int .i64 size] w fun e w' => e = .returned (.int .i64 (rd bs at_ size : Nat)) ∧ w = w' := by
  have C1 := bget_yes vx bs at_ size w h (by omega) (by omega) hb hyes
  have hr := rd_lt4 bs at_ size hb h4
  obtain ⟨r, hrr⟩ : ∃ r, r = rd bs at_ size := ⟨_, rfl⟩
  rw [show leVal ((bs.drop at_).take size) = r from hrr.symm] at C1
  rw [← hrr] at hr ⊢
  have C1 := Lib.hid C1
  obtain ⟨a, cap, rfl⟩ := sl_slice h
  clear hb hyes h hrr
  go_enter Try.func34, Try.ntmps34
  go_wp2_with fail
  refine C1.out.mono ?_
  rintro e wx ⟨rfl, rfl⟩
  clear C1
  go_wp2_with fail
  go_ret
  exact ⟨rfl, rfl⟩

set_option maxRecDepth 20000 in
theorem piece9_any (a : Option Addr) (n cap : Nat) (bs : List Nat) (at_ size : Nat) (hn : n = bs.length) (hl : n ≤ 1000000000) (hyes : at_ + size ≤ n) (w : World) (h : Sl w 1 (.slice a n cap) n (u8s bs)) :
    Calls Try.prog 39 #[.slice a n cap, .int .i64 at_, .int .i64 size] w fun e w' => ∃ a' cap', e = .returned (.slice a' size cap') ∧ Sl w 1 (.slice a' size cap') size (u8s ((bs.drop at_).take size)) ∧ w = w' := by
  obtain ⟨a', cap', hr, hs, _, _⟩ := Sl.cut_mid Eu8 h at_ size hyes (at_ : Int) ((at_ : Int) + (size : Int)) rfl rfl
  have e : u8s ((bs.drop at_).take size) = ((u8s bs).drop at_).take size := by simp [u8s, List.map_take, List.map_drop]
  rw [← e] at hs
  have HS := Lib.hid hs
  have hmx := h.max
  have d3 : ¬ ((n : Int) - (size : Int) < (at_ : Int)) := by omega
  clear hs e h hn
  go_enter Try.func39, Try.ntmps39
  go_wp2_with fail
  go_ret
  exact ⟨a', cap', rfl, HS.out, rfl⟩

set_option maxRecDepth 20000 in
set_option maxHeartbeats 1600000 in
theorem chartOf_any (vx : Value) (bs : List Nat) (hl : bs.length ≤ 1000000000) (hb : ∀ x ∈ bs, x < 256) (hyes : 18 ≤ bs.length) (w : World) (h : Sl w 1 vx bs.length (u8s bs)) :
    Calls Try.prog 33 #[vx] w fun e w' => e = .returned (cv (rd bs 4 2 : Nat) (rd bs 6 2 : Nat) (.slice none 0 0) (rd bs 8 2 : Nat) (IntKind.i32.wrap (rd bs 10 4 : Nat)) (IntKind.i32.wrap (rd bs 14 4 : Nat))) ∧ Below w.heap.size w w' := by
  have CN := fun (at_ size : Nat) (h4 : size ≤ 4) (hy : at_ + size ≤ bs.length) wx hs => num4_any vx bs at_ size h4 hl hb hy wx hs
  have r1 := rd_lt2 bs 4 hb
  have r2 := rd_lt2 bs 6 hb
  have r3 := rd_lt2 bs 8 hb
  have r4 := rd_lt4 bs 10 4 hb (by decide)
  have r5 := rd_lt4 bs 14 4 hb (by decide)
  have hB1 : Below w.heap.size w (w.alloc (.cells #[.int .i64 0, .int .i64 0, .slice none 0 0, .int .i64 0, .int .i32 0, .int .i32 0] 28)) := (Below.refl _ _).alloc (Nat.le_refl _) _
  have KC : Blk (w.alloc (.cells #[.int .i64 0, .int .i64 0, .slice none 0 0, .int .i64 0, .int .i32 0, .int .i32 0] 28)) w.heap.size 28 [.int .i64 0, .int .i64 0, .slice none 0 0, .int .i64 0, .int .i32 0, .int .i32 0] := Blk.new w _ _
  obtain ⟨w1, hw1⟩ : ∃ w1, w.alloc (.cells #[.int .i64 0, .int .i64 0, .slice none 0 0, .int .i64 0, .int .i32 0, .int .i32 0] 28) = w1 := ⟨_, rfl⟩
  rw [hw1] at hB1 KC
  have h1 := h.below hB1
  have C1 := CN 4 2 (by decide) (by omega) w1 h1
  have C2 := CN 6 2 (by decide) (by omega) w1 h1
  have C3 := CN 8 2 (by decide) (by omega) w1 h1
  have C4 := CN 10 4 (by decide) (by omega) w1 h1
  have C5 := CN 14 4 (by decide) (by omega) w1 h1
  obtain ⟨n1, hn1⟩ : ∃ r, r = rd bs 4 2 := ⟨_, rfl⟩
  obtain ⟨n2, hn2⟩ : ∃ r, r = rd bs 6 2 := ⟨_, rfl⟩
  obtain ⟨n3, hn3⟩ : ∃ r, r = rd bs 8 2 := ⟨_, rfl⟩
  obtain ⟨n4, hn4⟩ : ∃ r, r = rd bs 10 4 := ⟨_, rfl⟩
  obtain ⟨n5, hn5⟩ : ∃ r, r = rd bs 14 4 := ⟨_, rfl⟩
  rw [← hn1] at C1 r1 ⊢
  rw [← hn2] at C2 r2 ⊢
  rw [← hn3] at C3 r3 ⊢
  rw [← hn4] at C4 r4 ⊢
  rw [← hn5] at C5 r5 ⊢
  obtain ⟨q4, hq4⟩ : ∃ q, q = IntKind.i32.wrap (n4 : Int) := ⟨_, rfl⟩
  obtain ⟨q5, hq5⟩ : ∃ q, q = IntKind.i32.wrap (n5 : Int) := ⟨_, rfl⟩
  rw [← hq4, ← hq5]
  replace hq4 := hq4.symm
  replace hq5 := hq5.symm
  have C1 := Lib.hid C1
  have C2 := Lib.hid C2
  have C3 := Lib.hid C3
  have C4 := Lib.hid C4
  have C5 := Lib.hid C5
  have KB := (((((KC.set 0 (.int .i64 n1) (by simp)).set 1 (.int .i64 n2) (by simp)).set 2 (.slice none 0 0) (by simp)).set 3 (.int .i64 n3) (by simp)).set 4 (.int .i32 q4) (by simp)).set 5 (.int .i32 q5) (by simp)
  have KBB := Lib.hid KB
  have a0 := KC.cell (i := 0) rfl
  have a1 := KC.cell (i := 1) rfl
  have a2 := KC.cell (i := 2) rfl
  have a3 := KC.cell (i := 3) rfl
  have a4 := KC.cell (i := 4) rfl
  have a5 := KC.cell (i := 5) rfl
  have b0 := KC.free 0
  have b1 := KC.free 1
  have b2 := KC.free 2
  have b3 := KC.free 3
  have b4 := KC.free 4
  have b5 := KC.free 5
  obtain ⟨a, cap, rfl⟩ := sl_slice h
  clear KB CN hb h h1 hn1 hn2 hn3 hn4 hn5
  go_enter Try.func33, Try.ntmps33
  go_wp2_with fail
  clear hw1
  refine C1.out.mono ?_
  rintro e wx ⟨rfl, rfl⟩
  clear C1
  go_wp2_with fail
  refine C2.out.mono ?_
  rintro e wx ⟨rfl, rfl⟩
  clear C2
  go_wp2_with fail
  refine C3.out.mono ?_
  rintro e wx ⟨rfl, rfl⟩
  clear C3
  go_wp2_with fail
  refine C4.out.mono ?_
  rintro e wx ⟨rfl, rfl⟩
  clear C4
  go_wp2_with fail
  refine C5.out.mono ?_
  rintro e wx ⟨rfl, rfl⟩
  clear C5
  go_wp2_with fail
  refine bodyPost_ret (v := cv n1 n2 (.slice none 0 0) n3 q4 q5) (res_blk rfl rfl KBB.out Try.underlying28 rfl (by kernel_rfl)) rfl ?_
  exact ⟨rfl, (((((hB1.setCell (Nat.le_refl _) _).setCell (Nat.le_refl _) _).setCell (Nat.le_refl _) _).setCell (Nat.le_refl _) _).setCell (Nat.le_refl _) _).setCell (Nat.le_refl _) _⟩
end Go.Proofs.Ytdknnfineommoaa
