/-
  Sums, byte by byte: the code's, and the reference's.
-/
import Derived.Test.YtjedbffikhmbhaaBytes
import Derived.Test.YtjedbffikhmbhaaCrcSpec
import Derived.Outline
namespace Go.Proofs.Ytjedbffikhmbhaa
open Go.RowKit Go.Th Go.Th.Crc

theorem and1 (r : Nat) (h : r < 4294967296) : bits BinOp.and IntKind.u32 (r : Int) 1 = ((r % 2 : Nat) : Int) := by
  have := u32_and_nat r 1 h (by decide)
  rw [Nat.and_one_is_mod] at this
  exact this
theorem xor32 (a b : Nat) (ha : a < 4294967296) (hb : b < 4294967296) (x y : Int) (hx : x = (a : Nat)) (hy : y = (b : Nat)) : bits BinOp.xor IntKind.u32 x y = ((a ^^^ b : Nat) : Int) := by
  rw [hx, hy]; exact u32_xor_nat a b ha hb
theorem step_val (r : Nat) (h : r < 4294967296) : bits BinOp.xor IntKind.u32 ((r : Int) / 2) (3988292384 * bits BinOp.and IntKind.u32 (r : Int) 1 % 4294967296) = ((s1 r : Nat) : Int) := by
  rw [and1 r h]
  unfold s1
  refine xor32 _ _ (by omega) (by split <;> decide) _ _ (by omega) ?_
  have h2 : r % 2 = 0 ∨ r % 2 = 1 := by omega
  rcases h2 with h2 | h2 <;> rw [h2] <;> rfl
theorem not_val (r : Nat) (h : r < 4294967296) : bits BinOp.xor IntKind.u32 IntKind.u32.max (r : Int) = ((4294967295 - r : Nat) : Int) := by
  rw [not32 r h, Nat.xor_comm]
  exact u32_xor_nat 4294967295 r (by decide) h
theorem parity (m x k : Nat) : (!((m : Int) % 2 == 1) == (((x : Int) / 2 ^ k).tmod 2 == 1)) = ((m % 2 == 1) != (x / 2 ^ k % 2 == 1)) := by
  have e1 : ((m : Int) % 2 == 1) = (m % 2 == 1) := by rw [Bool.eq_iff_iff]; simp only [beq_iff_eq]; omega
  have e0 : (x : Int) / 2 ^ k = ((x / 2 ^ k : Nat) : Int) := by simp
  have e2 : (((x : Int) / 2 ^ k).tmod 2 == 1) = (x / 2 ^ k % 2 == 1) := by
    rw [e0]; generalize x / 2 ^ k = y; rw [Int.tmod_eq_emod_of_nonneg (by omega), Bool.eq_iff_iff]; simp only [beq_iff_eq]; omega
  rw [e1, e2]
  cases (m % 2 == 1) <;> cases (x / 2 ^ k % 2 == 1) <;> rfl
theorem sk_succ (i x : Nat) : sk (i + 1) x = s1 (sk i x) := sk_add i 1 x

theorem step_any (x : Nat) (hx : x < 4294967296) (w : World) :
    Calls Try.prog 16 #[.int .u32 x] w fun e w' => e = .returned (.int .u32 (sk 8 x : Nat)) ∧ w = w' := by
  go_enter Try.func16, Try.ntmps16
  go_wp2
  go_loop [0, 3] (fun r c => ∃ i : Nat, i ≤ 8 ∧ c = .int .i64 i ∧ r = .int .u32 (sk i x : Nat)) (fun _ c => 8 - (intOf c).toNat)
  case atStart => exact ⟨0, by omega, rfl, rfl⟩
  case round =>
    obtain ⟨i, hi, rfl, rfl⟩ := hrel
    have hl := sk_lt hx i
    obtain ⟨r, hr⟩ : ∃ r, r = sk i x := ⟨_, rfl⟩
    rw [← hr] at hl ⊢
    have HR := Lib.hid hr; clear hr
    by_cases hlt : i < 8
    · go_wp2
      go_round
      case rel => exact ⟨i + 1, by omega, by go_num, by rw [sk_succ, ← HR.out, step_val r hl]⟩
      case measure => simp [intOf]; omega
    · obtain rfl : i = 8 := by omega
      go_wp2
      go_ret
      exact ⟨ret_int (by rw [HR.out]), rfl⟩

theorem take_succ_nat (bs : List Nat) (i : Nat) (h : i < bs.length) : bs.take (i + 1) = bs.take i ++ [bs[i]] := by
  rw [List.take_add_one, List.getElem?_eq_getElem h]; rfl
theorem regOf_take (bs : List Nat) (i : Nat) (h : i < bs.length) (r : Nat) : regOf (bs.take (i + 1)) r = sk 8 (regOf (bs.take i) r ^^^ bs[i]) := by
  rw [take_succ_nat bs i h, regOf_snoc]
theorem u8s_at (bs : List Nat) (i : Nat) (h : i < bs.length) : (u8s bs)[i]? = some (.int .u8 (bs[i] : Nat)) := by simp [u8s, h]
theorem mem_take {bs : List Nat} (h : ∀ x ∈ bs, x < 256) (i : Nat) : ∀ x ∈ bs.take i, x < 256 := fun x hx => h x (List.mem_of_mem_take hx)

theorem crcSum_any (vx : Value) (bs : List Nat) (w : World) (h : Sl w 1 vx bs.length (u8s bs)) (hl : bs.length ≤ 140737488355328) (hb : ∀ x ∈ bs, x < 256) :
    Calls Try.prog 8 #[vx] w fun e w' => e = .returned (.int .u32 (sumB bs : Nat)) ∧ w = w' := by
  obtain ⟨a, cap, rfl, h1, h2, h3, h4, h5⟩ := h
  have H5 := Lib.hid h5; clear h5
  have HB := Lib.hid hb; clear hb
  go_enter Try.func8, Try.ntmps8
  go_wp2
  go_loop [3, 8] (fun r c => ∃ i : Nat, i ≤ bs.length ∧ c = .int .i64 i ∧ r = .int .u32 (regOf (bs.take i) 4294967295 : Nat)) (fun _ c => bs.length - (intOf c).toNat)
  case atStart => exact ⟨0, by omega, rfl, rfl⟩
  case round =>
    obtain ⟨i, hi, rfl, rfl⟩ := hrel
    have hl := regOf_lt _ (mem_take HB.out i) 4294967295 (by decide)
    obtain ⟨r, hr⟩ : ∃ r, r = regOf (bs.take i) 4294967295 := ⟨_, rfl⟩
    rw [← hr] at hl ⊢
    have HR := Lib.hid hr; clear hr
    by_cases hlt : i < bs.length
    · obtain ⟨b, o, rfl, hc⟩ := H5.out i _ (u8s_at bs i hlt)
      have hx := HB.out bs[i] (List.getElem_mem _)
      have HS := Lib.hid (regOf_take bs i hlt 4294967295)
      rw [← HR.out] at HS
      obtain ⟨x, hxe⟩ : ∃ x, x = bs[i] := ⟨_, rfl⟩
      rw [← hxe] at hx hc HS
      clear hxe HR
      have hxr : r ^^^ x < 4294967296 := Nat.xor_lt_two_pow (n := 32) hl (by omega)
      go_wp2_with fail
      rw [u32_xor_nat r x hl (by omega)]
      refine (step_any (r ^^^ x) hxr _).mono ?_
      rintro e w1 ⟨rfl, rfl⟩
      go_wp2
      go_round
      case rel => exact ⟨i + 1, by omega, by go_num, by rw [HS.out]⟩
      case measure => simp [intOf]; omega
    · obtain rfl : i = bs.length := by omega
      have HL := Lib.hid (regOf_lt bs HB.out 4294967295 (by decide))
      go_wp2
      go_ret
      exact ⟨ret_int (by rw [HR.out, List.take_length]; unfold sumB; exact not_val _ HL.out), rfl⟩

set_option maxHeartbeats 800000 in
theorem refSum_any (vx : Value) (bs : List Nat) (w : World) (h : Sl w 1 vx bs.length (u8s bs)) (hl : bs.length ≤ 140737488355328) (hb : ∀ x ∈ bs, x < 256) :
    Calls Try.prog 9 #[vx] w fun e w' => e = .returned (.int .u32 (sumB bs : Nat)) ∧ w = w' := by
  obtain ⟨a, cap, rfl, h1, h2, h3, h4, h5⟩ := h
  have H5 := Lib.hid h5; clear h5
  have HB := Lib.hid hb; clear hb
  go_enter Try.func9, Try.ntmps9
  go_wp2
  go_loop [3, 4] (fun r c => ∃ i : Nat, i ≤ bs.length ∧ c = .int .i64 i ∧ r = .int .u32 (regOf (bs.take i) 4294967295 : Nat)) (fun _ c => bs.length - (intOf c).toNat)
  case atStart => exact ⟨0, by omega, rfl, rfl⟩
  case round =>
    obtain ⟨i, hi, rfl, rfl⟩ := hrel
    have hl := regOf_lt _ (mem_take HB.out i) 4294967295 (by decide)
    obtain ⟨r0, hr⟩ : ∃ r, r = regOf (bs.take i) 4294967295 := ⟨_, rfl⟩
    rw [← hr] at hl ⊢
    have HR := Lib.hid hr; clear hr
    by_cases hlt : i < bs.length
    · obtain ⟨b, o, rfl, hc⟩ := H5.out i _ (u8s_at bs i hlt)
      have hx := HB.out bs[i] (List.getElem_mem _)
      have HS := Lib.hid (regOf_take bs i hlt 4294967295)
      rw [← HR.out] at HS
      obtain ⟨x, hxe⟩ : ∃ x, x = bs[i] := ⟨_, rfl⟩
      rw [← hxe] at hx hc HS
      clear hxe HR
      go_wp2
      go_loop [3, 5, 6] (fun r c y => ∃ k m : Nat, k ≤ 8 ∧ c = .int .i64 k ∧ r = .int .u32 (m : Nat) ∧ m < 4294967296 ∧ Hid (sk (8 - k) (m ^^^ x / 2 ^ k) = sk 8 (r0 ^^^ x))) (fun _ c _ => 8 - (intOf c).toNat)
      case atStart => exact ⟨0, r0, by omega, rfl, rfl, hl, by show _ = _; simp⟩
      case round =>
        obtain ⟨k, m, hk, rfl, rfl, hm, HI⟩ := hrel
        by_cases hlk : k < 8
        · have hst := rbit_step r0 m x k hlk HI.out
          have hlr := rbit_lt (x / 2 ^ k) hm
          have HT := Lib.hid hst; clear hst
          have hp := parity m x k
          unfold rbit at HT hlr
          cases hc2 : ((m % 2 == 1) != (x / 2 ^ k % 2 == 1))
          · rw [hc2] at hp
            rw [hc2, if_neg (by decide), Nat.xor_zero] at HT hlr
            go_wp2
            go_round
            case rel => exact ⟨k + 1, m / 2, by omega, by go_num, by go_num, hlr, HT⟩
            case measure => simp [intOf]; omega
          · rw [hc2] at hp
            rw [hc2, if_pos rfl] at HT hlr
            go_wp2
            go_round
            case rel => exact ⟨k + 1, _, by omega, by go_num, congrArg _ (xor32 (m / 2) 3988292384 (by omega) (by decide) _ _ (by omega) rfl), hlr, HT⟩
            case measure => simp [intOf]; omega
        · obtain rfl : k = 8 := by omega
          have HE := Lib.hid (rbit_end r0 m x hx HI.out)
          go_wp2
          go_round
          case rel => exact ⟨i + 1, by omega, by go_num, by rw [HS.out, HE.out]⟩
          case measure => simp [intOf]; omega
    · obtain rfl : i = bs.length := by omega
      have HL := Lib.hid (regOf_lt bs HB.out 4294967295 (by decide))
      go_wp2
      go_ret
      exact ⟨ret_int (by rw [HR.out, List.take_length]; unfold sumB; have := HL.out; omega), rfl⟩

theorem tail4_take (s : Nat) : tail4 s = (List.range 4).map fun i => s / 256 ^ i % 256 := rfl
/-- The first bytes of a number. -/
def lowB (s n : Nat) : List Nat := (List.range n).map fun i => s / 256 ^ i % 256
theorem lowB_succ (s n : Nat) : lowB s (n + 1) = lowB s n ++ [s / 256 ^ n % 256] := by simp [lowB, List.range_succ]
theorem u8s_snoc (p : List Nat) (b : Nat) : u8s (p ++ [b]) = u8s p ++ [.int .u8 b] := by simp [u8s]

set_option maxHeartbeats 800000 in
theorem refPut_any (vx : Value) (bs : List Nat) (w : World) (h : Sl w 1 vx bs.length (u8s bs)) (hl : bs.length ≤ 70368744177664) (hb : ∀ x ∈ bs, x < 256) :
    Calls Try.prog 15 #[vx] w fun e w' => ∃ v, e = .returned v ∧ w'.ownsRow w.heap.size 5 1 v (bs.length + 4) (u8s (putB bs)) ∧ Below w.heap.size w w' := by
  obtain ⟨a, cap, rfl, _⟩ := id h
  have HB := Lib.hid hb; clear hb
  go_enter Try.func15, Try.ntmps15
  go_wp2_with fail
  refine (refSum_any _ bs _ h (by omega) HB.out).mono ?_
  rintro e w1 ⟨rfl, rfl⟩
  have hs := sumB_lt bs
  obtain ⟨s, hse⟩ : ∃ s, s = sumB bs := ⟨_, rfl⟩
  rw [← hse] at hs ⊢
  have HE := Lib.hid hse; clear hse
  go_wp2_with (at_builtin; refine wpList_app Eu8 rfl (.tmp 8) (.tmp 9) rfl w.heap.size rfl (World.ownsRow_nil _ _ _ _) rfl h (oneCell_u8s _) (by unfold maxLen; omega) (by omega) (Nat.le_refl _) ?_)
  intro v' w' hown' hgrow _
  have hB1 : Below w.heap.size w w' := (Below.refl _ _).grown hgrow (Nat.le_refl _) (fun k hk => by simp [Value.ownBlock] at hk)
  clear hgrow
  go_wp2
  go_loopw [3, 4, 5] (fun y v c wx => ∃ i : Nat, i ≤ 4 ∧ c = .int .i64 i ∧ y = .int .u32 (s / 256 ^ i : Nat) ∧ wx.ownsRow w.heap.size 5 1 v (bs.length + i) (u8s (bs ++ lowB s i)) ∧ Below w.heap.size w wx) (fun _ _ c _ => 4 - (intOf c).toNat)
  case atStart => exact ⟨0, by omega, rfl, by simp, by simpa [lowB] using hown', hB1⟩
  case round =>
    clear hown' hB1
    obtain ⟨i, hi, rfl, rfl, ho, hB⟩ := hrel
    have hsz := hB.size
    obtain ⟨y, hy⟩ : ∃ y, y = s / 256 ^ i := ⟨_, rfl⟩
    have hy2 : y < 4294967296 := by rw [hy]; exact Nat.lt_of_le_of_lt (Nat.div_le_self _ _) hs
    rw [← hy]
    by_cases hlt : i < 4
    · have h1 : lowB s (i + 1) = lowB s i ++ [y % 256] := by rw [hy]; exact lowB_succ s i
      have h2 : y / 256 = s / 256 ^ (i + 1) := by rw [hy, Nat.pow_succ, Nat.div_div_eq_div_mul]
      have H1 := Lib.hid h1; clear h1
      have H2 := Lib.hid h2; clear h2 hy
      go_wp2_with (at_builtin; refine wpList_app Eu8 rfl (.tmp 15) (.tmp 19) rfl w.heap.size rfl (ho.alloc _) rfl (Sl.one _ _ _) (oneCell_u8 _) (by unfold maxLen; omega) (by omega) (by simp; omega) ?_)
      intro v2 w2 ho2 hg2 _
      have hB2 := (hB.alloc hB.size (.cells #[.int .u8 ((y : Int) % 256)] 5)).grown hg2 (by simp; omega) (fun q hq => (ho.lt q hq).1)
      clear ho hB hg2
      go_wp2
      go_roundw
      case rel =>
        refine ⟨i + 1, by omega, by go_num, ?_, ?_, hB2⟩
        · congr 1; rw [← H2.out]; omega
        · rw [H1.out, ← List.append_assoc, u8s_snoc]
          have e : ((y % 256 : Nat) : Int) = (y : Int) % 256 := by simp
          rw [e]
          exact ho2
      case measure => simp [intOf]; omega
    · obtain rfl : i = 4 := by omega
      go_wp2
      go_ret
      exact ⟨_, rfl, by rw [putB, ← HE.out]; exact ho, hB⟩
end Go.Proofs.Ytjedbffikhmbhaa
