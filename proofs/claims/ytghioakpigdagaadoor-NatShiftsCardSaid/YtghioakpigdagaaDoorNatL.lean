/-
  Parts in a row of the call's own: lowered by a number times another row: the code's.
-/
import Derived.Test.YtghioakpigdagaaDoorNatK
import Derived.Laws.BitsAllLaws
import Derived.Laws.Bits64b
set_option linter.unusedVariables false
set_option linter.unusedSimpArgs false
namespace Go.Proofs.YtghioakpigdagaaDoor
open Go Go.RowKit Go.Th Go.Th.Dig

theorem brw_nat (o x : Nat) (ho : o < 4294967296) (hx : x < 4294967296) : (((4294967295 ^^^ o) &&& x) ||| ((4294967295 ^^^ (o ^^^ x)) &&& tkn 4294967296 o x)) / 2147483648 = brw o x := by
  have ht : tkn 4294967296 o x < 4294967296 := tkn_lt (by decide)
  have he := tkn_eq ho hx
  have e : ∀ n : Nat, n / 2147483648 = n >>> 31 := fun n => (Nat.shiftRight_eq_div_pow n 31).symm
  have b : ∀ n : Nat, n < 4294967296 → (n >>> 31 = 0 ∧ n < 2147483648) ∨ (n >>> 31 = 1 ∧ 2147483648 ≤ n) := fun n hn => by
    rw [← e]; omega
  rw [e, Nat.shiftRight_or_distrib, Nat.shiftRight_and_distrib, Nat.shiftRight_and_distrib, Nat.shiftRight_xor_distrib, Nat.shiftRight_xor_distrib, Nat.shiftRight_xor_distrib]
  rw [show 4294967295 >>> 31 = 1 by decide]
  generalize tkn 4294967296 o x = t at *
  unfold brw at he ⊢
  rcases b o ho with ⟨e1, h1⟩ | ⟨e1, h1⟩ <;> rcases b x hx with ⟨e2, h2⟩ | ⟨e2, h2⟩ <;> rcases b t ht with ⟨e3, h3⟩ | ⟨e3, h3⟩ <;> rw [e1, e2, e3] <;> split at he <;> first | rfl | (exfalso; omega) | (split <;> first | rfl | (exfalso; omega))
theorem tkn_int (o x : Nat) (ho : o < 4294967296) (hx : x < 4294967296) : ((o : Int) - (x : Int)) % 4294967296 = (tkn 4294967296 o x : Nat) := by
  unfold tkn; omega
theorem brw_int (o x : Nat) (ho : o < 4294967296) (hx : x < 4294967296) :
    bits .or .u32 (bits .and .u32 (bits .xor .u32 IntKind.u32.max o) x) (bits .and .u32 (bits .xor .u32 IntKind.u32.max (bits .xor .u32 o x)) (((o : Int) - (x : Int)) % 4294967296)) / 2147483648 = (brw o x : Nat) := by
  have hm : IntKind.u32.max = ((4294967295 : Nat) : Int) := by decide
  have ht : tkn 4294967296 o x < 4294967296 := tkn_lt (by decide)
  have k1 : 4294967295 ^^^ o < 2 ^ 32 := Nat.xor_lt_two_pow (by decide) ho
  have k2 : o ^^^ x < 2 ^ 32 := Nat.xor_lt_two_pow ho hx
  have k3 : 4294967295 ^^^ (o ^^^ x) < 2 ^ 32 := Nat.xor_lt_two_pow (by decide) k2
  have k4 : (4294967295 ^^^ o) &&& x < 2 ^ 32 := Nat.and_lt_two_pow _ hx
  have k5 : (4294967295 ^^^ (o ^^^ x)) &&& tkn 4294967296 o x < 2 ^ 32 := Nat.and_lt_two_pow _ ht
  rw [tkn_int o x ho hx, hm, u32_xor_nat _ _ (by decide) ho, u32_xor_nat _ _ ho hx, u32_xor_nat _ _ (by decide) k2, u32_and_nat _ _ k1 hx, u32_and_nat _ _ k3 ht, u32_or_nat _ _ k4 k5]
  have := brw_nat o x ho hx
  omega
theorem brw_le (o x : Nat) : brw o x ≤ 1 := by unfold brw; split <;> omega

set_option maxRecDepth 20000 in
theorem sub32_any (o x : Nat) (ho : o < 4294967296) (hx : x < 4294967296) (w : World) :
    Calls Tryd.prog 59 #[.int .u32 o, .int .u32 x, .int .u32 0] w fun e w' => e = .returned (.tuple #[.int .u32 (tkn 4294967296 o x : Nat), .int .u32 (brw o x : Nat)]) ∧ w = w' := by
  have e1 := Lib.hid (tkn_int o x ho hx)
  have e2 := Lib.hid (brw_int o x ho hx)
  go_enter Tryd.func59, Tryd.ntmps59
  go_wp2_with fail
  go_ret2
  refine ⟨?_, rfl⟩
  rw [← e1.out, ← e2.out]
  rfl

set_option maxRecDepth 20000 in
theorem take_any (g o n cap i x : Nat) (W : List Nat) (cs : List Value) (w : World) (hK : Blk w g 38 (over cs o (u32s W))) (ho : o + n ≤ cs.length) (hW : W.length = n) (hd : ∀ d ∈ W, d < 4294967296) (hi : i < n) (hn : n ≤ 1000000) (hx : x < 4294967296) :
    Calls Tryd.prog 51 #[.slice (some ⟨g, o, none⟩) n cap, .int .i64 i, .int .u32 x] w fun e w' => e = .returned (.int .u64 (brw (W.getD i 0) x : Nat)) ∧ Blk w' g 38 (over cs o (u32s (W.set i (tkn 4294967296 (W.getD i 0) x)))) ∧ Turned (fun k => k = g) w w' := by
  have hc := hK.cell (win_at (by omega) (by omega : i < W.length))
  have hf := hK.free (o + i)
  have hb := getD_mem (by decide : 0 < 4294967296) hd i
  have C := Lib.hid (sub32_any (W.getD i 0) x hb hx)
  have K7 := hK.set (o + i) (.int .u32 ((tkn 4294967296 (W.getD i 0) x : Nat) : Int)) (by rw [win_len (by omega)]; omega)
  rw [win_set (by omega) (by omega)] at K7
  have T7 := (Turned.refl (fun k => k = g) w).setCell (a := ⟨g, o + i, none⟩) (.inl rfl) (.int .u32 ((tkn 4294967296 (W.getD i 0) x : Nat) : Int))
  have hbl := brw_le (W.getD i 0) x
  have htl : tkn 4294967296 (W.getD i 0) x < 4294967296 := tkn_lt (by decide)
  obtain ⟨t, et⟩ : ∃ t, t = tkn 4294967296 (W.getD i 0) x := ⟨_, rfl⟩
  obtain ⟨b, eb⟩ : ∃ b, b = brw (W.getD i 0) x := ⟨_, rfl⟩
  obtain ⟨d, ed⟩ : ∃ d, d = W.getD i 0 := ⟨_, rfl⟩
  rw [← et] at K7 T7 htl
  rw [← eb] at hbl
  have C : Hid (∀ wx, Calls Tryd.prog 59 #[.int .u32 (d : Int), .int .u32 x, .int .u32 0] wx fun e w' => e = .returned (.tuple #[.int .u32 (t : Int), .int .u32 (b : Int)]) ∧ wx = w') := Lib.hid (by rw [ed, et, eb]; exact C.out)
  rw [← ed] at hc hb
  rw [← et, ← eb]
  have HK7 := Lib.hid K7
  have HT7 := Lib.hid T7
  clear et eb ed K7 T7 hK
  go_enter Tryd.func51, Tryd.ntmps51
  go_wp2_with fail
  refine (C.out _).mono ?_
  rintro e w1 ⟨rfl, rfl⟩
  go_wp2_with fail
  go_ret
  exact ⟨rfl, HK7.out, HT7.out⟩

set_option maxRecDepth 20000 in
set_option maxHeartbeats 3200000 in
theorem lower_go (g o n cap : Nat) (b : Option Addr) (m capb x : Nat) (W L : List Nat) (cs : List Value) (w : World) (hK : Blk w g 38 (over cs o (u32s W))) (ho : o + n ≤ cs.length) (hW : W.length = n) (hd : ∀ d ∈ W, d < 4294967296)
    (hL : Sl w 1 (.slice b m capb) m (u32s L)) (hap : 0 < m → ∀ q, b = some q → q.block ≠ g) (hm : m ≤ n) (hn : n ≤ 1000000) (hx : x < 4294967296) (hl : ∀ d ∈ L, d < 4294967296) :
    Calls Tryd.prog 38 #[.slice (some ⟨g, o, none⟩) n cap, .slice b m capb, .int .u32 x] w fun e w' => ∃ c O, e = .returned (.bool (decide (c ≠ 0))) ∧ Blk w' g 38 (over cs o (u32s O)) ∧ O.length = n ∧ (∀ d ∈ O, d < 4294967296) ∧
      val 4294967296 O + x * val 4294967296 L = val 4294967296 W + 4294967296 ^ n * c ∧ Turned (fun k => k = g) w w' := by
  have lx := u32_len hL
  have HL := Lib.hid hL
  have HD := Lib.hid (getD_u32 hl)
  have HAP := Lib.hid (fun wr (hT : Turned (fun k => k = g) w wr) => sl_turned hL hT hap)
  have HW := Lib.hid hW
  have LX := Lib.hid lx
  have HC0 : Hid (Bor 4294967296 (x * val 4294967296 (L.take 0)) W 0 0 W) := Lib.hid (Bor.start hd)
  have HTK : Hid (∀ k, k < m → x * val 4294967296 (L.take (k + 1)) = x * val 4294967296 (L.take k) + 4294967296 ^ k * (x * L.getD k 0)) := Lib.hid (fun k hk => by
    rw [take_val (by omega), Nat.mul_add, Nat.mul_left_comm])
  have HTA := Lib.hid (fun O i y wr hK (hO : O.length = n) hdg hi hy => take_any g o n cap i y O cs wr hK ho hO hdg hi hn hy)
  have hT0 := Turned.refl (fun k => k = g) w
  clear hL hap hd hl lx
  go_enter Tryd.func38, Tryd.ntmps38
  go_wp2_with fail
  go_loopw [7, 13] (fun c i wr => ∃ (k r : Nat) (O : List Nat), k ≤ m ∧ r < 4294967296 ∧ c = .int .u64 r ∧ i = .int .i64 k ∧ Hid (Bor 4294967296 (x * val 4294967296 (L.take k)) W k r O) ∧ Blk wr g 38 (over cs o (u32s O)) ∧ Turned (fun k => k = g) w wr) (fun _ i _ => m - (intOf i).toNat)
  case atStart => exact ⟨0, 0, W, Nat.zero_le _, by omega, rfl, rfl, HC0, hK, hT0⟩
  case round =>
    clear hK HC0 hT0
    obtain ⟨k, r, O, hk, hr, rfl, rfl, HI, hK, hT⟩ := hrel
    by_cases hlt : k < m
    · have hol : O.length = n := by rw [HI.out.len, HW.out]
      obtain ⟨b1, o1, rfl, hb1, hc1⟩ := cell_u32 (HAP.out wr hT) k (by rw [LX.out]; exact hlt)
      have hu := HD.out k
      have hst := HI.out.step (p := x * L.getD k 0) (by decide) (by rw [HW.out]; omega)
      rw [← HTK.out k hlt] at hst
      obtain ⟨u, eu⟩ : ∃ u, u = L.getD k 0 := ⟨_, rfl⟩
      rw [← eu] at hc1 hu hst
      have hq := mul_small hx hu
      obtain ⟨q, eq⟩ : ∃ q, q = x * u := ⟨_, rfl⟩
      rw [← eq] at hq hst
      have e1 : IntKind.u64.wrap ((x : Int) * (u : Int)) = (q : Int) := by
        rw [← Int.natCast_mul, ← eq]; exact u64_in _ (by omega)
      obtain ⟨T, eT⟩ : ∃ T, T = r + q := ⟨_, rfl⟩
      have e2 : IntKind.u64.wrap ((r : Int) + (q : Int)) = (T : Int) := by
        rw [← Int.natCast_add, ← eT]; exact u64_in _ (by omega)
      rw [← eT] at hst
      have hTA := HTA.out O k (T % 4294967296) wr hK hol HI.out.dig (by omega) (by omega)
      have hbl := brw_le (O.getD k 0) (T % 4294967296)
      have hbw : brw (O.getD k 0) (T % 4294967296) = 1 → 0 < T % 4294967296 := by unfold brw; split <;> omega
      obtain ⟨bw, eb⟩ : ∃ bw, bw = brw (O.getD k 0) (T % 4294967296) := ⟨_, rfl⟩
      rw [← eb] at hst hTA hbl hbw
      have HTB := Lib.hid (show T / 4294967296 + bw < 4294967296 by omega)
      have e3 : IntKind.u64.wrap ((T : Int) / 4294967296 + (bw : Int)) = ((T / 4294967296 + bw : Nat) : Int) := by
        rw [← u64_in (T / 4294967296 + bw) (by omega)]; rfl
      have HST := Lib.hid hst
      have HTA1 : Hid (Calls Tryd.prog 51 #[.slice (some ⟨g, o, none⟩) n cap, .int .i64 k, .int .u32 ((T : Int) % 4294967296)] wr fun e w' => e = .returned (.int .u64 (bw : Int)) ∧ Blk w' g 38 (over cs o (u32s (O.set k (tkn 4294967296 (O.getD k 0) (T % 4294967296))))) ∧ Turned (fun k => k = g) wr w') := Lib.hid hTA
      clear eu eq eT hst HI hK hTA hq hbw eb
      go_wp2_with fail
      refine HTA1.out.mono ?_
      rintro e w1 ⟨rfl, hK1, hT1⟩
      have hT2 := hT.trans hT1 (fun _ _ h => h)
      clear HTA1 hT hT1
      go_wp2_with fail
      go_roundw
      case rel => exact ⟨k + 1, T / 4294967296 + bw, _, by omega, HTB.out, by first | rfl | go_num, by go_num, HST, hK1, hT2⟩
      case measure => simp [intOf]; omega
    · obtain rfl : k = m := by omega
      have HI2 : Hid (Bor 4294967296 (x * val 4294967296 L) W k r O) := Lib.hid (by
        have := HI.out
        rwa [List.take_of_length_le (by rw [LX.out]; exact Nat.le_refl _)] at this)
      clear HI HTK HD HAP HL
      go_wp2_with fail
      go_loopw [7, 10] (fun c i wr => ∃ (j r : Nat) (O : List Nat), k ≤ j ∧ j ≤ n ∧ r < 4294967296 ∧ c = .int .u64 r ∧ i = .int .i64 j ∧ Hid (Bor 4294967296 (x * val 4294967296 L) W j r O) ∧ Blk wr g 38 (over cs o (u32s O)) ∧ Turned (fun k => k = g) w wr) (fun _ i _ => n - (intOf i).toNat)
      case atStart => exact ⟨k, r, O, Nat.le_refl _, hm, hr, rfl, rfl, HI2, hK, hT⟩
      case round =>
        clear hK hT HI2 hr
        obtain ⟨j, r, O, hkj, hj, hr, rfl, rfl, HI, hK, hT⟩ := hrel
        have hol : O.length = n := by rw [HI.out.len, HW.out]
        by_cases hr0 : r = 0
        · have hd0 : ((r : Int) != 0) = false := by simp [hr0]
          have ht := HI.out.total (by rw [HW.out]; exact hj) (.inl hr0)
          rw [HW.out] at ht
          have HTT := Lib.hid ht
          have HDG := Lib.hid HI.out.dig
          have HR0 := Lib.hid hr0
          clear HI ht hr0
          go_wp2_with fail
          go_ret
          exact ⟨r, O, ret_bool (by simp [HR0.out]), hK, hol, HDG.out, HTT.out, hT⟩
        · have hd0 : ((r : Int) != 0) = true := by simp; omega
          by_cases hjn : j < n
          · have hst := HI.out.step (p := 0) (by decide) (by rw [HW.out]; omega)
            rw [Nat.mul_zero, Nat.add_zero, Nat.add_zero r, Nat.div_eq_of_lt hr, Nat.mod_eq_of_lt hr, Nat.zero_add] at hst
            have hTA := HTA.out O j r wr hK hol HI.out.dig (by omega) hr
            have hbl := brw_le (O.getD j 0) r
            obtain ⟨bw, eb⟩ : ∃ bw, bw = brw (O.getD j 0) r := ⟨_, rfl⟩
            rw [← eb] at hst hTA hbl
            have hrm : (r : Int) % 4294967296 = (r : Int) := by omega
            have HST := Lib.hid hst
            have HTA1 := Lib.hid hTA
            clear hst HI hK hTA eb
            go_wp2_with fail
            refine HTA1.out.mono ?_
            rintro e w1 ⟨rfl, hK1, hT1⟩
            have hT2 := hT.trans hT1 (fun _ _ h => h)
            clear HTA1 hT hT1
            go_wp2_with fail
            go_roundw
            case rel => exact ⟨j + 1, bw, _, by omega, by omega, by omega, by first | rfl | go_num, by go_num, HST, hK1, hT2⟩
            case measure => simp [intOf]; omega
          · obtain rfl : j = n := by omega
            have ht := HI.out.total (by rw [HW.out]; exact hj) (.inr HW.out.symm)
            rw [HW.out] at ht
            have HTT := Lib.hid ht
            have HDG := Lib.hid HI.out.dig
            clear HI ht
            go_wp2_with fail
            go_ret
            exact ⟨r, O, ret_bool (by simp [hr0]), hK, hol, HDG.out, HTT.out, hT⟩
end Go.Proofs.YtghioakpigdagaaDoor
