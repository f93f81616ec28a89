/-
  RiceFolds, RiceCodes: the walks.
-/
import Derived.Test.YthcidldpgjnhbaaRiceU
set_option linter.unusedVariables false
set_option linter.unusedSimpArgs false
namespace Go.Proofs.Ythcidldpgjnhbaa
open Go Go.RowKit Go.Th

set_option maxRecDepth 20000 in
set_option maxHeartbeats 1600000 in
theorem riceFolds_go (x y u : Int) (fx fy n : Nat) (t : Bool) (h1 : Pure 7 #[.int .i32 x] (.int .u32 fx)) (h2 : Pure 8 #[.int .i32 x] (.int .u32 fx)) (h3 : Pure 9 #[.int .u32 fx] (.int .i32 x))
    (h4 : Pure 9 #[.int .u32 n] (.int .i32 u)) (h5 : Pure 7 #[.int .i32 u] (.int .u32 n)) (h6 : Pure 7 #[.int .i32 y] (.int .u32 fy))
    (e1 : ((fx : Int) == (fy : Int)) = t) (e2 : (x == y) = t) (w : World) :
    Calls Try.prog 3 #[.int .i32 x, .int .i32 y, .int .u32 n] w fun e w' => e = .returned (.bool true) ∧ Below w.heap.size w w' := by
  have hxx : (x == x) = true := by simp
  have hff : ((fx : Int) == (fx : Int)) = true := by simp
  have hnn : ((n : Int) == (n : Int)) = true := by simp
  have htt : (t == t) = true := by simp
  have h1 := Lib.hid h1
  have h2 := Lib.hid h2
  have h3 := Lib.hid h3
  have h4 := Lib.hid h4
  have h5 := Lib.hid h5
  have h6 := Lib.hid h6
  have e1 := Lib.hid e1
  have e2 := Lib.hid e2
  go_enter Try.func3, Try.ntmps3
  go_wp2_with fail
  refine (h1.out _).mono ?_
  rintro e wx ⟨rfl, rfl⟩
  go_wp2_with fail
  refine (h2.out _).mono ?_
  rintro e wx ⟨rfl, rfl⟩
  go_wp2_with fail
  refine (h1.out _).mono ?_
  rintro e wx ⟨rfl, rfl⟩
  go_wp2_with fail
  refine (h3.out _).mono ?_
  rintro e wx ⟨rfl, rfl⟩
  go_wp2_with fail
  refine (h4.out _).mono ?_
  rintro e wx ⟨rfl, rfl⟩
  go_wp2_with fail
  refine (h5.out _).mono ?_
  rintro e wx ⟨rfl, rfl⟩
  go_wp2_with fail
  refine (h1.out _).mono ?_
  rintro e wx ⟨rfl, rfl⟩
  go_wp2_with fail
  refine (h6.out _).mono ?_
  rintro e wx ⟨rfl, rfl⟩
  have e1 := e1.out
  have e2 := e2.out
  go_wp2_with fail
  refine (works_any w).mono ?_
  rintro e w1 ⟨rfl, hB⟩
  go_wp2_with fail
  go_ret
  exact ⟨rfl, hB⟩

theorem riceFolds_any (x y : Int) (n : Nat) (hx : In32 x) (hy : In32 y) (hn : n < 4294967296) (w : World) :
    Calls Try.prog 3 #[.int .i32 x, .int .i32 y, .int .u32 n] w fun e w' => e = .returned (.bool true) ∧ Below w.heap.size w w' := by
  have h3 := unfold_go (fold x) (fold_max x hx.1 hx.2)
  rw [unfold_fold] at h3
  have hu := unfold_range n hn
  have h5 := fold_go (unfold n) hu.1 hu.2
  rw [fold_unfold] at h5
  refine riceFolds_go x y (unfold n) (fold x) (fold y) n (x == y) (fold_go x hx.1 hx.2) (refFold_go x hx.1 hx.2) h3 (unfold_go n hn) h5 (fold_go y hy.1 hy.2) ?_ rfl w
  by_cases e : x = y
  · subst e; simp
  · have hne : fold x ≠ fold y := fun h => e (fold_inj x y h)
    have e1 : (x == y) = false := by simpa using e
    rw [e1]; simp; omega

set_option maxRecDepth 20000 in
set_option maxHeartbeats 3200000 in
theorem riceCodes_any (x : Int) (k : Nat) (hx : In32 x) (hk : k < 256) (w : World) :
    Calls Try.prog 4 #[.int .i32 x, .int .u8 k] w fun e w' => e = .returned (.bool true) ∧ Below w.heap.size w w' := by
  obtain ⟨p, hp⟩ : ∃ p, p = k % 17 := ⟨_, rfl⟩
  have hp16 : p ≤ 16 := by omega
  have hkp : (k : Int) % 17 = (p : Int) := by omega
  clear hp
  obtain ⟨w1, hw1⟩ : ∃ w1, w.alloc (.cells #[.int .i32 x] 21) = w1 := ⟨_, rfl⟩
  have hS1 : Sl w1 1 (.slice (some ⟨w.heap.size, 0, none⟩) 1 1) 1 (i32s [x]) := by rw [← hw1]; exact Sl.one _ _ _
  have hB1 : Below w.heap.size w w1 := by rw [← hw1]; exact (Below.refl _ _).alloc (Nat.le_refl _) _
  have C1 := Lib.hid (small_any _ 1 1 [x] rfl (by omega) (by intro y hy; simp at hy; subst hy; exact hx) w1 hS1)
  have hr := sm_room x
  have h32 := rm_32 hr
  have hfr := fold_room (sm x) hr
  have C2 := Lib.hid (refFold_go (sm x) h32.1 h32.2)
  obtain ⟨y, hy⟩ : ∃ y, y = sm x := ⟨_, rfl⟩
  obtain ⟨n, hn⟩ : ∃ n, n = fold (sm x) := ⟨_, rfl⟩
  rw [← hn] at C2 hfr
  rw [← hy] at C2
  have HY := Lib.hid hy
  clear hn hy hr h32 hS1
  have hsl := size_le n p hp16
  obtain ⟨z, hz⟩ : ∃ z, z = size n p := ⟨_, rfl⟩
  have hcl : (code n p).length = z := by rw [code_length, hz]
  have C3 := Lib.hid (size_go n p (by omega) hp16)
  have C4 := Lib.hid (fun wx => refCode_any n p (by omega) hp16 wx)
  rw [← hz] at C3 C4 hsl
  have C5 := Lib.hid (fun pb base v wx h hb => put_go n p (by omega) hp16 pb 0 base v [] wx h (by simp) hb)
  have C6 := Lib.hid (fun pb base vr wx h => get_yes n p hp16 hfr pb 0 base vr (pack (code n p)) 0 wx h (here_pack0 _))
  rw [← hz] at C6
  have hpl : (pack (code n p)).length ≤ 10 := by rw [pack_length, hcl]; omega
  have HCL := Lib.hid hcl
  clear hcl hz hfr
  have hzz : ((z : Int) != (z : Int)) = false := by simp
  have hyy : ((n : Int) == (n : Int)) = true := by simp
  have hz1 := hB1.size
  go_enter Try.func4, Try.ntmps4
  go_wp2_with fail
  clear hw1
  refine C1.out.mono ?_
  rintro e w2 ⟨v2, rfl, ho2, hA2⟩
  clear C1
  obtain ⟨g2, cap2, rfl, hg1, hg2, hc1, hc2⟩ := ownsRow_val ho2 (by omega)
  have c0 : w2.cell? ⟨g2, 0, none⟩ = some (.int .i32 y) := by rw [ho2.cellAt 0 (by omega), HY.out]; rfl
  have hB2 := hB1.trans (hA2.mono hB1.size)
  have hz2 := hA2.size
  clear hB1 hA2 ho2
  go_wp2_with fail
  refine (C2.out _).mono ?_
  rintro e wx ⟨rfl, rfl⟩
  clear C2 c0
  have hV3 := winv_new w2
  have hA3 : Below w2.heap.size w2 (w2.alloc (.cells #[.slice none 0 0, .int .i64 0] 31)) := (Below.refl _ _).alloc (Nat.le_refl _) _
  go_wp2_with fail
  obtain ⟨w3, hw3⟩ : ∃ w3, w2.alloc (.cells #[.slice none 0 0, .int .i64 0] 31) = w3 := ⟨_, rfl⟩
  rw [hw3] at hV3 hA3 ⊢
  clear hw3
  have hB3 := hB2.trans (hA3.mono hB2.size)
  have hz3 := hA3.size
  have hVl := hV3.lt
  have hz2' := hB2.size
  obtain ⟨A, hA⟩ : ∃ A, w2.heap.size = A := ⟨_, rfl⟩
  rw [hA] at hV3 hz3 hVl hz2' hg2 ⊢
  clear hA hA3 hB2 hz2
  refine (C5.out A A _ w3 hV3 hz3).mono ?_
  rintro e w4 ⟨rfl, v4, hV4, hG4⟩
  rw [List.nil_append] at hV4
  have hB4 := hG4.turned.old hB3 hB3.size (by
    rintro q hq (e | e)
    · omega
    · simp [Value.ownBlock] at e)
  have hz4 := hG4.turned.size
  clear C5 hV3 hG4 hB3
  go_wp2_with fail
  refine (C4.out _).mono ?_
  rintro e w5 ⟨v5, rfl, ho5, hA5⟩
  clear C4
  obtain ⟨a5, cap5, rfl, hc51, hc52⟩ := ownsRow_slice ho5
  replace hV4 := hV4.below hA5
  have hB5 := hB4.trans (hA5.mono hB4.size)
  have hz5 := hA5.size
  clear hB4 hA5
  have hv4 : ∀ q, v4.ownBlock = some q → q < w5.heap.size := fun q e => (hV4.own.lt q e).2
  have C7 := Lib.hid (bytes_any _ _ _ _ _ _ hV4 (by rw [HCL.out]; omega))
  go_wp2_with fail
  refine C7.out.mono ?_
  rintro e w6 ⟨v6, rfl, ho6, hA6⟩
  clear C7
  have C8 := Lib.hid (read_any v6 _ w6 (Sl.of_own ho6) (by omega) (pack_lt _))
  replace hV4 := hV4.below hA6
  replace ho5 := ownsRow_below ho5 hA6
  have hB6 := hB5.trans (hA6.mono hB5.size)
  have hz6 := hA6.size
  clear hB5 hA6 ho6
  go_wp2_with fail
  refine C8.out.mono ?_
  rintro e w7 ⟨rb, vr, rfl, hrb, hR7, hA7⟩
  clear C8
  replace hV4 := hV4.below hA7
  replace ho5 := ownsRow_below ho5 hA7
  have hB7 := hB6.trans (hA7.mono hB6.size)
  have hz7 := hA7.size
  clear hB6 hA7
  have C9 := Lib.hid (len_any _ _ _ _ _ _ hV4)
  rw [HCL.out] at C9
  go_wp2_with fail
  refine C9.out.mono ?_
  rintro e wx ⟨rfl, rfl⟩
  clear C9
  go_wp2_with fail
  refine (C3.out _).mono ?_
  rintro e wx ⟨rfl, rfl⟩
  clear C3
  have C10 := Lib.hid (bytes_any _ _ _ _ _ _ hV4 (by rw [HCL.out]; omega))
  go_wp2_with fail
  refine C10.out.mono ?_
  rintro e w8 ⟨v8, rfl, ho8, hA8⟩
  clear C10
  replace hR7 := hR7.below hA8
  replace ho5 := ownsRow_below ho5 hA8
  have hB8 := hB7.trans (hA8.mono hB7.size)
  clear hB7 hA8 hV4
  have C11 := Lib.hid (refBytes_any _ (code n p) w8 (by rw [HCL.out]; exact Sl.of_own ho5) (by rw [HCL.out]; omega))
  go_wp2_with fail
  refine C11.out.mono ?_
  rintro e w9 ⟨v9, rfl, ho9, hA9⟩
  clear C11
  replace hR7 := hR7.below hA9
  replace ho8 := ownsRow_below ho8 hA9
  have hB9 := hB8.trans (hA9.mono hB8.size)
  clear hB8 hA9
  have C12 := Lib.hid (same_any v8 v9 _ _ w9 (Sl.of_own ho8) (Sl.of_own ho9) rfl)
  go_wp2_with fail
  refine C12.out.mono ?_
  rintro e wx ⟨rfl, rfl⟩
  clear C12 ho8 ho9
  go_wp2_with fail
  refine (C6.out rb _ vr w9 hR7).mono ?_
  rintro e w10 ⟨rfl, hR10, hT10⟩
  have hB10 := hT10.old hB9 hB9.size (by rintro q hq rfl; omega)
  clear C6 hR7 hT10 hB9 ho5
  rw [Nat.zero_add] at hR10
  go_wp2_with fail
  refine (at_any rb 0 _ vr _ _ _ w10 hR10).mono ?_
  rintro e wx ⟨rfl, rfl⟩
  go_wp2_with fail
  refine (works_any w10).mono ?_
  rintro e w11 ⟨rfl, hA11⟩
  go_wp2_with fail
  go_ret
  exact ⟨rfl, hB10.trans (hA11.mono hB10.size)⟩
end Go.Proofs.Ythcidldpgjnhbaa
