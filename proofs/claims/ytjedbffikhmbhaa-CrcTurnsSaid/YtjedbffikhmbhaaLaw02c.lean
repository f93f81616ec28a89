/-
  CrcTurns' walk.
-/
import Derived.Test.YtjedbffikhmbhaaCrcE
namespace Go.Proofs.Ytjedbffikhmbhaa
open Go Go.RowKit Go.Th Go.Th.Crc

theorem crcTurns_big (a : Option Addr) (n cap p m : Nat) (w : World) (hbig : 2000 < n) (hmax : n ≤ 9223372036854775807) :
    Calls Try.prog 6 #[.slice a n cap, .int .u16 p, .int .u32 m] w fun e w' => e = .returned (.bool true) ∧ Below w.heap.size w w' := by
  have hb' : (2000 : Int) < (n : Int) := by omega
  go_enter Try.func6, Try.ntmps6
  go_wp2_with (go_at_call 7; refine (works_any _).mono ?_; rintro e w1 ⟨rfl, hB⟩)
  go_ret
  exact ⟨rfl, hB⟩

theorem crcTurns_zero (a : Option Addr) (n cap p : Nat) (w : World) (hbig : ¬ 2000 < n) (hmax : n ≤ 9223372036854775807) :
    Calls Try.prog 6 #[.slice a n cap, .int .u16 p, .int .u32 0] w fun e w' => e = .returned (.bool true) ∧ Below w.heap.size w w' := by
  have hb' : ¬ ((2000 : Int) < (n : Int)) := by omega
  go_enter Try.func6, Try.ntmps6
  go_wp2_with (go_at_call 7; refine (works_any _).mono ?_; rintro e w1 ⟨rfl, hB⟩)
  go_ret
  exact ⟨rfl, hB⟩

set_option maxHeartbeats 3200000 in
theorem crcTurns_small (a : Option Addr) (cap : Nat) (bs : List Nat) (p m : Nat) (w : World) (h : Sl w 1 (.slice a bs.length cap) bs.length (u8s bs)) (hb : ∀ x ∈ bs, x < 256) (h2000 : bs.length ≤ 2000)
    (hp : p < 65536) (hm : m < 4294967296) (hm0 : m ≠ 0) :
    Calls Try.prog 6 #[.slice a bs.length cap, .int .u16 p, .int .u32 m] w fun e w' => e = .returned (.bool true) ∧ Below w.heap.size w w' := by
  have hb' : ¬ ((2000 : Int) < (bs.length : Int)) := by omega
  have hd0 : ((m : Int) == 0) = false := by rw [Bool.eq_false_iff]; intro e; rw [beq_iff_eq] at e; omega
  have HB := Lib.hid hb; clear hb
  have HM0 := Lib.hid hm0; clear hm0
  obtain ⟨L, hL⟩ : ∃ L, L = bs.length + 4 := ⟨_, rfl⟩
  have C1 := crcPut_any _ bs _ h (by omega) HB.out
  rw [← hL] at C1
  have hL4 : 4 ≤ L := by omega
  have hL2 : L ≤ 2004 := by omega
  have hpl : (putB bs).length = L := by rw [putB_length, hL]
  have hreg := putB_reg bs HB.out
  have hplt := putB_lt bs HB.out
  obtain ⟨ps, hps⟩ : ∃ ps, ps = putB bs := ⟨_, rfl⟩
  rw [← hps] at C1 hpl hreg hplt
  have HPL := Lib.hid hpl; clear hpl hps hL
  have HREG := Lib.hid hreg; clear hreg
  have HPLT := Lib.hid hplt; clear hplt
  go_enter Try.func6, Try.ntmps6
  go_wp2_with fail
  refine C1.mono ?_
  rintro e w1 ⟨v1, rfl, ho1, hB1⟩
  clear C1
  obtain ⟨g, c1, rfl, hg1, hg2, hg3, hg4⟩ := ownsRow_val ho1 (by omega)
  unfold maxLen at hg4
  have hq0 : ¬ ((L : Int) < 4) := by omega
  obtain ⟨n, hn⟩ : ∃ n, n = p % (8 * L - 31) := ⟨_, rfl⟩
  have hn' : (p : Int) % (8 * (L : Int) - 31) = (n : Int) := by
    rw [hn, show (8 * (L : Int) - 31) = ((8 * L - 31 : Nat) : Int) by omega]; simp
  have hnl : n + 32 ≤ 8 * L := by
    have := Nat.mod_lt p (show 0 < 8 * L - 31 by omega)
    omega
  clear hn
  go_wp2
  go_loopw [9] (fun c wx => ∃ (k : Nat) (s : List Nat), k ≤ 32 ∧ c = .int .i64 k ∧ wx.ownsRow w.heap.size 5 1 (.slice (some ⟨g, 0, none⟩) L c1) L (u8s s) ∧ Hid (s.length = L) ∧ Hid (∀ x ∈ s, x < 256) ∧
    Hid (regOf s 4294967295 = sk 32 4294967295 ^^^ sk (8 * L - n) (m % 2 ^ k)) ∧ Below w.heap.size w wx) (fun c _ => 32 - (intOf c).toNat)
  case atStart => exact ⟨0, ps, by omega, rfl, ho1, HPL, HPLT, by show _ = _; rw [HREG.out]; simp [Nat.mod_one, sk_zero], hB1⟩
  case round =>
    clear ho1 hB1
    obtain ⟨k, s, hk, rfl, ho, HL, HS, HR, hB⟩ := hrel
    by_cases hlt : k < 32
    · by_cases hbit : m / 2 ^ k % 2 = 1
      · have hd : (bits BinOp.and IntKind.u32 ((m : Int) / 2 ^ k) 1 == 1) = true := by
          rw [beq_iff_eq, show (m : Int) / 2 ^ k = ((m / 2 ^ k : Nat) : Int) by simp, and1 _ (Nat.lt_of_le_of_lt (Nat.div_le_self _ _) hm), hbit]; rfl
        obtain ⟨q, hq⟩ : ∃ q, q = (n + k) / 8 := ⟨_, rfl⟩
        obtain ⟨r, hr⟩ : ∃ r, r = (n + k) % 8 := ⟨_, rfl⟩
        have hqL : q < L := by omega
        have hr8 : r < 8 := by omega
        have hql : q < s.length := by rw [HL.out]; exact hqL
        have hst := turn_step L n k m s HL.out hnl hlt HR.out hbit (by rw [← hq]; exact hql)
        simp only [← hq, ← hr] at hst
        have hq' : ((n : Int) + (k : Int)) / 8 = (q : Int) := by omega
        have hr' : ((n : Int) + (k : Int)) % 8 = (r : Int) := by omega
        have hc := ownsRow_cell ho (u8s_at s q hql)
        have hf := ownsRow_free ho q
        have hx := HS.out s[q] (List.getElem_mem _)
        obtain ⟨x, hxe⟩ : ∃ x, x = s[q] := ⟨_, rfl⟩
        rw [← hxe] at hst hc hx
        have h2 : 2 ^ r < 256 := Nat.pow_lt_pow_right (a := 2) (by decide) hr8
        have hx2 : x ^^^ 2 ^ r < 256 := Nat.xor_lt_two_pow (n := 8) hx h2
        have hset := ownsRow_set ho q hqL (.int .u8 (x ^^^ 2 ^ r : Nat))
        rw [show (u8s s).set q (.int .u8 (x ^^^ 2 ^ r : Nat)) = u8s (s.set q (x ^^^ 2 ^ r)) by simp [u8s, List.map_set]] at hset
        have hbs : bits BinOp.xor IntKind.u8 (x : Int) ((2 ^ r : Nat) : Int) = ((x ^^^ 2 ^ r : Nat) : Int) := u8_xor_nat x (2 ^ r) hx h2
        have hl2 : Hid ((s.set q (x ^^^ 2 ^ r)).length = L) := by show _ = _; rw [List.length_set]; exact HL.out
        have hs2 : Hid (∀ y ∈ s.set q (x ^^^ 2 ^ r), y < 256) := by
          show ∀ y ∈ s.set q (x ^^^ 2 ^ r), y < 256
          intro y hy
          rcases List.mem_or_eq_of_mem_set hy with h | h
          · exact HS.out y h
          · rw [h]; exact hx2
        have H2 : Hid ((2 : Int) ^ r % 256 = ((2 ^ r : Nat) : Int)) := by
          show _ = _
          rw [show (2 : Int) ^ r = ((2 ^ r : Nat) : Int) from (Int.natCast_pow 2 r).symm]; generalize 2 ^ r = y at *; omega
        have HST := Lib.hid hst
        have HBS := Lib.hid hbs
        have HSET := Lib.hid hset
        clear hst hbs hset hxe hx2 h2 HR hbit hq hr
        go_wp2
        go_roundw
        case rel => exact ⟨k + 1, _, by omega, by go_num, by rw [H2.out, HBS.out]; exact HSET.out, hl2, hs2, HST, hB.setCell hg1 _⟩
        case measure => simp [intOf]; omega
      · have hd : (bits BinOp.and IntKind.u32 ((m : Int) / 2 ^ k) 1 == 1) = false := by
          rw [Bool.eq_false_iff]
          intro e
          rw [beq_iff_eq, show (m : Int) / 2 ^ k = ((m / 2 ^ k : Nat) : Int) by simp, and1 _ (Nat.lt_of_le_of_lt (Nat.div_le_self _ _) hm)] at e
          omega
        have HR2 := Lib.hid (turn_same L n k m s HR.out hbit)
        clear hbit HR
        go_wp2
        go_roundw
        case rel => exact ⟨k + 1, s, by omega, by go_num, ho, HL, HS, HR2, hB⟩
        case measure => simp [intOf]; omega
    · have HR2 : Hid (regOf s 4294967295 = sk 32 4294967295 ^^^ sk (8 * L - n) (m % 2 ^ 32)) := by
        have := HR.out
        rw [show k = 32 by omega] at this
        exact this
      have HO := Lib.hid (turn_told L n m s HS.out hm HM0.out HR2.out)
      have hs := Sl.of_own ho
      go_wp2_with fail
      refine (crcGet_no _ s _ (by rw [HL.out]; exact hs) (by rw [HL.out]; omega) HS.out (by rw [HL.out]; exact hL4) HO.out).mono ?_
      rintro e w5 ⟨rfl, hB5⟩
      have hB' := hB.trans (hB5.mono hB.size)
      clear hB hB5
      go_wp2_with fail
      refine (works_any _).mono ?_
      rintro e w6 ⟨rfl, hB6⟩
      have hB := hB'.trans (hB6.mono hB'.size)
      go_wp2_with fail
      go_ret
      exact ⟨rfl, hB⟩

theorem crcTurns_any (a : Option Addr) (n cap : Nat) (bs : List Nat) (p m : Nat) (w : World) (h : Sl w 1 (.slice a n cap) n (u8s bs)) (hn : n = bs.length) (hb : ∀ x ∈ bs, x < 256) (hmax : n ≤ 9223372036854775807) (hp : p < 65536) (hm : m < 4294967296) :
    Calls Try.prog 6 #[.slice a n cap, .int .u16 p, .int .u32 m] w fun e w' => e = .returned (.bool true) ∧ Below w.heap.size w w' := by
  by_cases hbig : 2000 < n
  · exact crcTurns_big a n cap p m w hbig hmax
  · by_cases hm0 : m = 0
    · subst hm0
      exact crcTurns_zero a n cap p w hbig hmax
    · subst hn
      exact crcTurns_small a cap bs p m w h hb (by omega) hp hm hm0
end Go.Proofs.Ytjedbffikhmbhaa
