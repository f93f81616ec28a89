/-
  Parts in a row of the call's own: moved up: the code's.
-/
import Derived.Test.YtghioakpigdagaaDoorNatL
set_option linter.unusedVariables false
set_option linter.unusedSimpArgs false
namespace Go.Proofs.YtghioakpigdagaaDoor
open Go Go.RowKit Go.Th Go.Th.Dig

theorem shl_small {u s : Nat} (hu : u < 4294967296) (hs : s < 32) : u * 2 ^ s < 9223372036854775808 := by
  have h : 2 ^ s ≤ 2 ^ 31 := Nat.pow_le_pow_right (by decide) (by omega)
  have := Nat.mul_le_mul (by omega : u ≤ 4294967295) h
  omega
theorem or_low {r s : Nat} (h : r < 2 ^ s) (u : Nat) : r ||| u * 2 ^ s = r + u * 2 ^ s := by
  rw [Nat.or_comm, ← Nat.shiftLeft_eq, ← Nat.shiftLeft_add_eq_or_of_lt h, Nat.add_comm]

set_option maxRecDepth 20000 in
set_option maxHeartbeats 3200000 in
theorem climb_go (g o n cap s : Nat) (W : List Nat) (cs : List Value) (w : World) (hK : Blk w g 38 (over cs o (u32s W))) (ho : o + n ≤ cs.length) (hW : W.length = n) (hd : ∀ d ∈ W, d < 4294967296) (hn : n ≤ 1000000) (hs : s < 32) :
    Calls Tryd.prog 44 #[.slice (some ⟨g, o, none⟩) n cap, .int .i64 s] w fun e w' => ∃ c O, e = .returned (.tuple #[]) ∧ Blk w' g 38 (over cs o (u32s O)) ∧ O.length = n ∧ (∀ d ∈ O, d < 4294967296) ∧
      Cli 4294967296 (2 ^ s) W n c O ∧ Turned (fun k => k = g) w w' := by
  have HW := Lib.hid hW
  have HD := Lib.hid (getD_mem (by decide : 0 < 4294967296) hd)
  have HC0 : Hid (Cli 4294967296 (2 ^ s) W 0 0 W) := Lib.hid (Cli.start (Nat.two_pow_pos s) hd)
  have hT0 := Turned.refl (fun k => k = g) w
  clear hd
  go_enter Tryd.func44, Tryd.ntmps44
  go_wp2_with fail
  go_loopw [4, 9] (fun c i wr => ∃ (k r : Nat) (O : List Nat), k ≤ n ∧ c = .int .u64 r ∧ i = .int .i64 k ∧ Hid (Cli 4294967296 (2 ^ s) W k r O) ∧ Blk wr g 38 (over cs o (u32s O)) ∧ Turned (fun k => k = g) w wr) (fun _ i _ => n - (intOf i).toNat)
  case atStart => exact ⟨0, 0, W, Nat.zero_le _, rfl, rfl, HC0, hK, hT0⟩
  case round =>
    clear hK HC0 hT0
    obtain ⟨k, r, O, hk, rfl, rfl, HI, hK, hT⟩ := hrel
    by_cases hlt : k < n
    · have hol : O.length = n := by rw [HI.out.len, HW.out]
      have hc0 := hK.cell (win_at (by omega) (by omega : k < O.length))
      have hf0 := hK.free (o + k)
      rw [getD_drop HI.out.rest] at hc0
      have hu := HD.out k
      have hst := HI.out.step (by decide) (by rw [HW.out]; omega)
      have hcar := HI.out.car
      obtain ⟨u, eu⟩ : ∃ u, u = W.getD k 0 := ⟨_, rfl⟩
      rw [← eu] at hc0 hu hst
      have hv := shl_small hu hs
      have hor := or_low hcar u
      obtain ⟨v, ev⟩ : ∃ v, v = u * 2 ^ s := ⟨_, rfl⟩
      rw [← ev] at hst hv hor
      have e0 : IntKind.u64.wrap (u : Int) = (u : Int) := u64_in _ (by omega)
      have e1 : IntKind.u64.wrap ((u : Int) * 2 ^ s) = (v : Int) := by
        rw [show ((u : Int) * 2 ^ s) = ((u * 2 ^ s : Nat) : Int) by simp, ← ev]; exact u64_in _ (by omega)
      have hr2 : r < 2147483648 := Nat.lt_of_lt_of_le hcar (Nat.pow_le_pow_right (by decide) (by omega : s ≤ 31))
      obtain ⟨T, eT⟩ : ∃ T, T = r + v := ⟨_, rfl⟩
      have e2 : bits .or .u64 (r : Int) (v : Int) = (T : Int) := by rw [bits_or_u64_nat r v (by omega) (by omega), hor, ← eT]
      rw [← eT] at hst
      have HST := Lib.hid hst
      have HS := Lib.hid (win_mod (o := o) (R := O) (cs := cs) (by omega) (by omega : k < O.length) T)
      have K7 := hK.set (o + k) (.int .u32 ((T : Int) % 4294967296)) (by rw [win_len (by omega)]; omega)
      rw [HS.out] at K7
      have T7 := hT.setCell (a := ⟨g, o + k, none⟩) (.inl rfl) (.int .u32 ((T : Int) % 4294967296))
      have HK7 := Lib.hid K7
      have HT7 := Lib.hid T7
      clear eu ev eT hst HI K7 T7 HS hK hT hcar hor hv hr2
      go_wp2_with fail
      go_roundw
      case rel => exact ⟨k + 1, T / 4294967296, _, by omega, by go_num, by go_num, HST, HK7.out, HT7.out⟩
      case measure => simp [intOf]; omega
    · obtain rfl : k = n := by omega
      go_wp2_with fail
      go_end0
      exact ⟨r, O, rfl, hK, by rw [HI.out.len, HW.out], HI.out.dig, HI.out, hT⟩
end Go.Proofs.YtghioakpigdagaaDoor
