/-
  Join; the laws' own example.
-/
import Derived.Test.YtjedbffikhmbhaaCrcD
import Derived.Lib.SlBytesConst
namespace Go.Proofs.Ytjedbffikhmbhaa
open Go Go.RowKit Go.Th Go.Th.Crc

theorem join_any (a b : Nat) (n : Int) (w : World) (ha : a < 4294967296) (hb : b < 4294967296) (hn : n ≤ 9223372036854775807) :
    Calls Try.prog 10 #[.int .u32 a, .int .u32 b, .int .i64 n] w fun e w' => e = .returned (.int .u32 ((sk (8 * n.toNat) a ^^^ b : Nat) : Int)) ∧ Below w.heap.size w w' := by
  have hs := sk_lt ha (8 * n.toNat)
  have C := shift_any a n w ha hn
  obtain ⟨X, hX⟩ : ∃ X, X = sk (8 * n.toNat) a := ⟨_, rfl⟩
  rw [← hX] at hs C ⊢
  clear hX
  go_enter Try.func10, Try.ntmps10
  go_wp2_with fail
  refine C.mono ?_
  rintro e w1 ⟨rfl, hB⟩
  go_wp2
  go_ret
  exact ⟨ret_int (u32_xor_nat X b hs hb), hB⟩

theorem ex_put : putB [109, 97, 112] = [109, 97, 112] ++ tail4 (sumB [109, 97, 112]) := rfl
theorem ex_sum9 : sumB [49, 50, 51, 52, 53, 54, 55, 56, 57] = 3421780262 := by decide +kernel
theorem ex_sum0 : sumB [] = 0 := by decide +kernel
theorem ex_join : sk (8 * (4 : Int).toNat) (sumB [49, 50, 51, 52, 53]) ^^^ sumB [54, 55, 56, 57] = 3421780262 := by decide +kernel
theorem ex_shift5 : sk (8 * (0 : Int).toNat) 5 = 5 := rfl
theorem ex_shift0 : sk (8 * (9 : Int).toNat) 0 = 0 := sk_zero _
theorem ex_map : (strOf [109, 97, 112]).toList = [109, 97, 112] := by decide +kernel

set_option maxHeartbeats 3200000 in
theorem works_any (w : World) : Calls Try.prog 7 #[] w fun e w' => e = .returned (.bool true) ∧ Below w.heap.size w w' := by
  have hB0 : Below w.heap.size w (w.alloc (.cells #[.int .u8 109, .int .u8 97, .int .u8 112] 5 (3, 4))) := (Below.refl _ _).alloc (Nat.le_refl _) _
  have hs0 : Sl (w.alloc (.cells #[.int .u8 109, .int .u8 97, .int .u8 112] 5 (3, 4))) 1 (.slice (some ⟨w.heap.size, 0, none⟩) 3 3) 3 (u8s [109, 97, 112]) := Sl.lit (w := w) [109, 97, 112] 5 (3, 4) 3 rfl (by decide)
  have kc := fun (w : World) (C : Array Value) (n c : Nat) => Lib.run_convert_bytes_const (P := Try.prog) w 22 5 C n c Try.underlying22 Try.underlying5
  have b1 : ∀ x ∈ [109, 97, 112], x < 256 := by decide
  go_enter Try.func7, Try.ntmps7
  go_wp2_with fail
  refine (crcPut_any _ [109, 97, 112] _ hs0 (by decide) b1).mono ?_
  rintro e w1 ⟨v1, rfl, ho1, hB1⟩
  have hB := hB0.trans (hB1.mono (by simp))
  clear hB0 hB1
  have s1 := Sl.of_own ho1
  obtain ⟨a1, c1, rfl⟩ := sl_slice s1
  go_wp2_with fail
  have C1 := crcGet_yes _ (putB [109, 97, 112]) w1 (by rw [putB_length]; exact s1) (by rw [putB_length]; decide) (putB_lt _ b1) (by rw [putB_length]; decide) (okB_putB _)
  rw [putB_length, show (putB [109, 97, 112]).take ([109, 97, 112].length + 4 - 4) = [109, 97, 112] from rfl] at C1
  refine C1.mono ?_
  rintro e w2 ⟨v2, rfl, ho2, hB2⟩
  have hB' := hB.trans (hB2.mono hB.size)
  clear C1 hB hB2 ho1 s1
  have s2 := Sl.of_own ho2
  obtain ⟨a2, c2, rfl⟩ := sl_slice s2
  go_wp2_with fail
  have hA3 : Below w2.heap.size w2 (w2.alloc (.cells #[.int .u8 1, .int .u8 2, .int .u8 3] 5)) := (Below.refl _ _).alloc (Nat.le_refl _) _
  have hs3 : Sl (w2.alloc (.cells #[.int .u8 1, .int .u8 2, .int .u8 3] 5)) 1 (.slice (some ⟨w2.heap.size, 0, none⟩) 3 3) 3 (u8s [1, 2, 3]) := Sl.bytes (w := w2) [1, 2, 3] 5 3 rfl (by decide)
  refine (crcGet_short _ [1, 2, 3] _ hs3 (by decide)).mono ?_
  rintro e w3 ⟨rfl, hB3⟩
  have hB23 := hA3.trans (hB3.mono (by simp))
  have hB := hB'.trans (hB23.mono hB'.size)
  have s3 := s2.below hB23
  clear hB' hB23 hA3 hB3 hs3 s2 ho2
  go_wp2_with fail
  have hA4 : Below w3.heap.size w3 (w3.alloc (.cells #[.int .u8 49, .int .u8 50, .int .u8 51, .int .u8 52, .int .u8 53, .int .u8 54, .int .u8 55, .int .u8 56, .int .u8 57] 5 (9, 10))) := (Below.refl _ _).alloc (Nat.le_refl _) _
  have hs4 : Sl (w3.alloc (.cells #[.int .u8 49, .int .u8 50, .int .u8 51, .int .u8 52, .int .u8 53, .int .u8 54, .int .u8 55, .int .u8 56, .int .u8 57] 5 (9, 10))) 1 (.slice (some ⟨w3.heap.size, 0, none⟩) 9 9) 9 (u8s [49, 50, 51, 52, 53, 54, 55, 56, 57]) := Sl.lit (w := w3) [49, 50, 51, 52, 53, 54, 55, 56, 57] 5 (9, 10) 9 rfl (by decide)
  have C2 := crcSum_any _ [49, 50, 51, 52, 53, 54, 55, 56, 57] _ hs4 (by decide) (by decide)
  rw [ex_sum9] at C2
  refine C2.mono ?_
  rintro e w4 ⟨rfl, rfl⟩
  have hB' := hB.trans (hA4.mono hB.size)
  have s4 := s3.below hA4
  clear C2 hB hA4 hs4 s3
  obtain ⟨wx, hwx⟩ : ∃ wx, wx = (w3.alloc (.cells #[.int .u8 49, .int .u8 50, .int .u8 51, .int .u8 52, .int .u8 53, .int .u8 54, .int .u8 55, .int .u8 56, .int .u8 57] 5 (9, 10))) := ⟨_, rfl⟩
  rw [← hwx] at hB' s4 ⊢
  clear hwx
  go_wp2_with fail
  have C3 := crcSum_any _ [] _ (Sl.nil wx 1) (by decide) (by decide)
  rw [ex_sum0] at C3
  refine C3.mono ?_
  rintro e w5 ⟨rfl, rfl⟩
  clear C3
  go_wp2_with fail
  have hA6 : Below wx.heap.size wx (wx.alloc (.cells #[.int .u8 49, .int .u8 50, .int .u8 51, .int .u8 52, .int .u8 53] 5 (5, 6))) := (Below.refl _ _).alloc (Nat.le_refl _) _
  have hs6 : Sl (wx.alloc (.cells #[.int .u8 49, .int .u8 50, .int .u8 51, .int .u8 52, .int .u8 53] 5 (5, 6))) 1 (.slice (some ⟨wx.heap.size, 0, none⟩) 5 5) 5 (u8s [49, 50, 51, 52, 53]) := Sl.lit (w := wx) [49, 50, 51, 52, 53] 5 (5, 6) 5 rfl (by decide)
  refine (crcSum_any _ [49, 50, 51, 52, 53] _ hs6 (by decide) (by decide)).mono ?_
  rintro e w6 ⟨rfl, rfl⟩
  have hB := hB'.trans (hA6.mono hB'.size)
  have s6 := s4.below hA6
  clear hB' hA6 hs6 s4
  obtain ⟨wy, hwy⟩ : ∃ wy, wy = (wx.alloc (.cells #[.int .u8 49, .int .u8 50, .int .u8 51, .int .u8 52, .int .u8 53] 5 (5, 6))) := ⟨_, rfl⟩
  rw [← hwy] at hB s6 ⊢
  clear hwy
  go_wp2_with fail
  have hA7 : Below wy.heap.size wy (wy.alloc (.cells #[.int .u8 54, .int .u8 55, .int .u8 56, .int .u8 57] 5 (4, 5))) := (Below.refl _ _).alloc (Nat.le_refl _) _
  have hs7 : Sl (wy.alloc (.cells #[.int .u8 54, .int .u8 55, .int .u8 56, .int .u8 57] 5 (4, 5))) 1 (.slice (some ⟨wy.heap.size, 0, none⟩) 4 4) 4 (u8s [54, 55, 56, 57]) := Sl.lit (w := wy) [54, 55, 56, 57] 5 (4, 5) 4 rfl (by decide)
  refine (crcSum_any _ [54, 55, 56, 57] _ hs7 (by decide) (by decide)).mono ?_
  rintro e w7 ⟨rfl, rfl⟩
  have hB' := hB.trans (hA7.mono hB.size)
  have s7 := s6.below hA7
  clear hB hA7 hs7 s6
  obtain ⟨wz, hwz⟩ : ∃ wz, wz = (wy.alloc (.cells #[.int .u8 54, .int .u8 55, .int .u8 56, .int .u8 57] 5 (4, 5))) := ⟨_, rfl⟩
  rw [← hwz] at hB' s7 ⊢
  clear hwz
  go_wp2_with fail
  have C4 := join_any (sumB [49, 50, 51, 52, 53]) (sumB [54, 55, 56, 57]) 4 wz (sumB_lt _) (sumB_lt _) (by decide)
  rw [ex_join] at C4
  refine C4.mono ?_
  rintro e w8 ⟨rfl, hB8⟩
  have hB := hB'.trans (hB8.mono hB'.size)
  have s8 := s7.below hB8
  clear hB' hB8 s7 C4
  have e1 : (convert 22 9 (.slice a2 3 c2)).run Try.prog w8 = .ok (.string (strOf [109, 97, 112])) w8 := run_str s8
  have hmap := ex_map
  go_wp2_with fail
  refine (shift_any 5 0 _ (by decide) (by decide)).mono ?_
  rintro e w9 ⟨rfl, hB9⟩
  have hB' := hB.trans (hB9.mono hB.size)
  clear hB hB9 e1 hmap s8
  rw [ex_shift5]
  go_wp2_with fail
  refine (shift_any 0 9 _ (by decide) (by decide)).mono ?_
  rintro e w10 ⟨rfl, hB10⟩
  have hB := hB'.trans (hB10.mono hB'.size)
  clear hB' hB10
  rw [ex_shift0]
  go_wp2_with fail
  go_ret
  exact ⟨rfl, hB⟩
end Go.Proofs.Ytjedbffikhmbhaa
