/-
  CrcBack's walk.
-/
import Derived.Test.YtjedbffikhmbhaaCrcE
namespace Go.Proofs.Ytjedbffikhmbhaa
open Go Go.RowKit Go.Th Go.Th.Crc

theorem crcBack_big (a : Option Addr) (n cap : Nat) (w : World) (hbig : 2000 < n) (hmax : n ≤ 9223372036854775807) :
    Calls Try.prog 5 #[.slice a n cap] w fun e w' => e = .returned (.bool true) ∧ Below w.heap.size w w' := by
  have hb' : (2000 : Int) < (n : Int) := by omega
  go_enter Try.func5, Try.ntmps5
  go_wp2_with (go_at_call 7; refine (works_any _).mono ?_; rintro e w1 ⟨rfl, hB⟩)
  go_ret
  exact ⟨rfl, hB⟩

set_option maxHeartbeats 3200000 in
theorem crcBack_small (a : Option Addr) (cap : Nat) (bs : List Nat) (w : World) (h : Sl w 1 (.slice a bs.length cap) bs.length (u8s bs)) (hb : ∀ x ∈ bs, x < 256) (h2000 : bs.length ≤ 2000)
    (hk : bs.length < 4 ∨ (4 ≤ bs.length ∧ okB bs = false) ∨ (4 ≤ bs.length ∧ okB bs = true)) :
    Calls Try.prog 5 #[.slice a bs.length cap] w fun e w' => e = .returned (.bool true) ∧ Below w.heap.size w w' := by
  have hb' : ¬ ((2000 : Int) < (bs.length : Int)) := by omega
  have HB := Lib.hid hb; clear hb
  have HK := Lib.hid hk; clear hk
  obtain ⟨ps, hps⟩ : ∃ ps, ps = putB bs := ⟨_, rfl⟩
  have hpl : ps.length = bs.length + 4 := by rw [hps, putB_length]
  have HP := Lib.hid hps; clear hps
  have HPL := Lib.hid hpl; clear hpl
  go_enter Try.func5, Try.ntmps5
  go_wp2_with fail
  have C1 := crcPut_any _ bs _ h (by omega) HB.out
  rw [← HP.out] at C1
  refine C1.mono ?_
  rintro e w1 ⟨v1, rfl, ho1, hB1⟩
  clear C1
  have s1 := Sl.of_own ho1
  obtain ⟨a1, c1, rfl⟩ := sl_slice s1
  go_wp2_with fail
  have C2 := crcGet_yes (.slice a1 (bs.length + 4) c1) ps w1 (by rw [HPL.out]; exact s1) (by rw [HPL.out]; omega) (by rw [HP.out]; exact putB_lt bs HB.out) (by rw [HPL.out]; omega) (by rw [HP.out]; exact okB_putB _)
  rw [HPL.out, show bs.length + 4 - 4 = bs.length by omega, show ps.take bs.length = bs by rw [HP.out, putB, List.take_left']; rfl] at C2
  refine C2.mono ?_
  rintro e w2 ⟨v2, rfl, ho2, hB2⟩
  have s12 := s1.below hB2
  have s2 := Sl.of_own ho2
  have hB := hB1.trans (hB2.mono hB1.size)
  clear C2 hB1 hB2 ho1 ho2 s1
  obtain ⟨a2, c2, rfl⟩ := sl_slice s2
  have h02 := h.below hB
  go_wp2_with fail
  have C3 := refPut_any _ bs _ h02 (by omega) HB.out
  rw [← HP.out] at C3
  refine C3.mono ?_
  rintro e w3 ⟨v3, rfl, ho3, hB3⟩
  have s13 := s12.below hB3
  have s23 := s2.below hB3
  have s3 := Sl.of_own ho3
  have hB' := hB.trans (hB3.mono hB.size)
  clear C3 hB hB3 ho3 h02 s12 s2
  obtain ⟨a3, c3, rfl⟩ := sl_slice s3
  go_wp2_with fail
  refine (same_any _ _ ps ps _ (by rw [HPL.out]; exact s13) (by rw [HPL.out]; exact s3) rfl).mono ?_
  rintro e w4 ⟨rfl, rfl⟩
  have h03 := h.below hB'
  go_wp2_with fail
  refine (same_any _ _ bs bs _ s23 h03 rfl).mono ?_
  rintro e w4 ⟨rfl, rfl⟩
  clear s13 s23 s3
  rcases HK.out with hlt | ⟨hge, hno⟩ | ⟨hge, hyes⟩
  · have hn0 : (bs.length : Int) - 4 < 0 := by omega
    have hn4 : ¬ ((4 : Int) ≤ (bs.length : Int)) := by omega
    go_wp2_with fail
    refine (crcGet_short _ bs _ h03 hlt).mono ?_
    rintro e w5 ⟨rfl, hB5⟩
    have hB := hB'.trans (hB5.mono hB'.size)
    clear hB' hB5
    go_wp2_with fail
    refine (works_any _).mono ?_
    rintro e w6 ⟨rfl, hB6⟩
    have hB' := hB.trans (hB6.mono hB.size)
    go_wp2_with fail
    go_ret
    exact ⟨rfl, hB'⟩
  · have hn4 : (4 : Int) ≤ (bs.length : Int) := by omega
    obtain ⟨k, hk⟩ : ∃ k, k = bs.length - 4 := ⟨_, rfl⟩
    have hkk : (bs.length : Int) - 4 = (k : Int) := by omega
    obtain ⟨cut1, s1⟩ := h03.cut_to Eu8 k (by omega)
    rw [← show u8s (bs.take k) = (u8s bs).take k by simp [u8s]] at s1
    have hne : putB (bs.take k) ≠ bs := by
      have := okB_put bs
      rw [hno, ← hk] at this
      intro e
      rw [e] at this
      simp at this
      omega
    have lt : (bs.take k).length = k := by simp; omega
    have hkl : k ≤ 2000 := by omega
    have LT := Lib.hid lt; clear lt
    have HNE := Lib.hid hne; clear hne
    have HNO := Lib.hid hno; clear hno
    clear hk
    go_wp2_with fail
    refine (crcGet_no _ bs _ h03 (by omega) HB.out hge HNO.out).mono ?_
    rintro e w5 ⟨rfl, hB5⟩
    have hB := hB'.trans (hB5.mono hB'.size)
    have s15 := s1.below hB5
    have h05 := h03.below hB5
    clear hB' hB5 s1 h03
    go_wp2_with fail
    have C5 := refPut_any (.slice a k cap) (bs.take k) w5 (by rw [LT.out]; exact s15) (by rw [LT.out]; omega) (mem_take HB.out k)
    rw [LT.out] at C5
    refine C5.mono ?_
    rintro e w6 ⟨v6, rfl, ho6, hB6⟩
    have hB' := hB.trans (hB6.mono hB.size)
    have h06 := h05.below hB6
    have s6 := Sl.of_own ho6
    clear hB hB6 h05 s15 C5 ho6
    obtain ⟨a6, c6, rfl⟩ := sl_slice s6
    go_wp2_with fail
    refine (same_no _ _ (putB (bs.take k)) bs _ (by rw [putB_length, LT.out]; exact s6) h06 (putB_lt _ (mem_take HB.out k)) HB.out HNE.out).mono ?_
    rintro e w7 ⟨rfl, rfl⟩
    go_wp2_with fail
    refine (works_any _).mono ?_
    rintro e w8 ⟨rfl, hB8⟩
    have hB := hB'.trans (hB8.mono hB'.size)
    go_wp2_with fail
    go_ret
    exact ⟨rfl, hB⟩
  · have hn4 : (4 : Int) ≤ (bs.length : Int) := by omega
    obtain ⟨k, hk⟩ : ∃ k, k = bs.length - 4 := ⟨_, rfl⟩
    have hkk : (bs.length : Int) - 4 = (k : Int) := by omega
    obtain ⟨cut1, s1⟩ := h03.cut_to Eu8 k (by omega)
    rw [← show u8s (bs.take k) = (u8s bs).take k by simp [u8s]] at s1
    have hne : putB (bs.take k) = bs := by
      have := okB_put bs
      rw [hyes, ← hk] at this
      have := this.symm
      simp at this
      exact this.2
    have lt : (bs.take k).length = k := by simp; omega
    have hkl : k ≤ 2000 := by omega
    have LT := Lib.hid lt; clear lt
    have HNE := Lib.hid hne; clear hne
    have C4 := crcGet_yes _ bs _ h03 (by omega) HB.out hge hyes
    rw [← hk] at C4
    have HYES := Lib.hid hyes; clear hyes
    clear hk
    go_wp2_with fail
    refine C4.mono ?_
    rintro e w5 ⟨v5, rfl, ho5, hB5⟩
    have hB := hB'.trans (hB5.mono hB'.size)
    have s15 := s1.below hB5
    have h05 := h03.below hB5
    have s5 := Sl.of_own ho5
    clear hB' hB5 s1 h03 C4 ho5
    obtain ⟨a5, c5, rfl⟩ := sl_slice s5
    go_wp2_with fail
    have C5 := refPut_any (.slice a k cap) (bs.take k) w5 (by rw [LT.out]; exact s15) (by rw [LT.out]; omega) (mem_take HB.out k)
    rw [LT.out] at C5
    refine C5.mono ?_
    rintro e w6 ⟨v6, rfl, ho6, hB6⟩
    have hB' := hB.trans (hB6.mono hB.size)
    have h06 := h05.below hB6
    have s56 := s5.below hB6
    have s16 := s15.below hB6
    have s6 := Sl.of_own ho6
    clear hB hB6 h05 s15 s5 C5 ho6
    obtain ⟨a6, c6, rfl⟩ := sl_slice s6
    go_wp2_with fail
    refine (same_any _ _ (putB (bs.take k)) bs _ (by rw [putB_length, LT.out]; exact s6) h06 HNE.out).mono ?_
    rintro e w7 ⟨rfl, rfl⟩
    go_wp2_with fail
    refine (same_any _ _ (bs.take k) (bs.take k) _ (by rw [LT.out]; exact s56) (by rw [LT.out]; exact s16) rfl).mono ?_
    rintro e w7 ⟨rfl, rfl⟩
    go_wp2_with fail
    refine (works_any _).mono ?_
    rintro e w8 ⟨rfl, hB8⟩
    have hB := hB'.trans (hB8.mono hB'.size)
    go_wp2_with fail
    go_ret
    exact ⟨rfl, hB⟩

theorem crcBack_any (a : Option Addr) (n cap : Nat) (bs : List Nat) (w : World) (h : Sl w 1 (.slice a n cap) n (u8s bs)) (hn : n = bs.length) (hb : ∀ x ∈ bs, x < 256) (hmax : n ≤ 9223372036854775807) :
    Calls Try.prog 5 #[.slice a n cap] w fun e w' => e = .returned (.bool true) ∧ Below w.heap.size w w' := by
  by_cases hbig : 2000 < n
  · exact crcBack_big a n cap w hbig hmax
  · subst hn
    refine crcBack_small a cap bs w h hb (by omega) ?_
    by_cases h4 : bs.length < 4
    · exact .inl h4
    · cases ho : okB bs
      · exact .inr (.inl ⟨by omega, rfl⟩)
      · exact .inr (.inr ⟨by omega, rfl⟩)
end Go.Proofs.Ytjedbffikhmbhaa
